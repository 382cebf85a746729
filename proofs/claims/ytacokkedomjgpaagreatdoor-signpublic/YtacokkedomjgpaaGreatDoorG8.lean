/- SG8, Sg4, Sg5, Sg3, SG9, N13, N14, N16, N17, N18, N20, Rol: laid together. -/
import Derived.Great.BuildSlice
import Derived.Test.YtacokkedomjgpaaGreatDoorG4
import Derived.Test.YtacokkedomjgpaaGreatDoorG5
import Derived.Test.YtacokkedomjgpaaGreatDoorG7
import Derived.Test.YtacokkedomjgpaaGreatDoorG3
import Derived.Test.YtacokkedomjgpaaGreatDoorG2
import Derived.Test.YtacokkedomjgpaaGreatDoorG1
namespace Go.Proofs.YtacokkedomjgpaaGreatDoor
open Go.RowKit
def Sl (w : World) (xs : List Value) (L : List Pt) : Prop := xs.length = L.length ∧ ∀ i (h : i < L.length), ∃ a cap, xs[i]? = some (.slice a L[i].1 cap) ∧ Bs w a L[i].1 L[i].2 ∧ L[i].1 ≤ cap ∧ ∀ x, a = some x → x.block < w.heap.size
theorem Sl.later {w w' : World} {xs : List Value} {L : List Pt} (h : Sl w xs L) (hb : Below w.heap.size w w') : Sl w' xs L := ⟨h.1, fun i hi => by
  obtain ⟨a, cap, e, h1, h2, h3⟩ := h.2 i hi
  exact ⟨a, cap, e, h1.later hb, h2, fun x e => Nat.lt_of_lt_of_le (h3 x e) hb.size⟩⟩
theorem Sl.app {w : World} {xs ys : List Value} {L M : List Pt} (h : Sl w xs L) (k : Sl w ys M) : Sl w (xs ++ ys) (L ++ M) := by
  refine ⟨by rw [List.length_append, List.length_append, h.1, k.1], fun i hi => ?_⟩
  rw [List.length_append] at hi
  rcases Nat.lt_or_ge i L.length with hl | hl
  · obtain ⟨a, cap, e, r⟩ := h.2 i hl
    rw [List.getElem_append_left hl]
    exact ⟨a, cap, by rw [List.getElem?_append_left (by rw [h.1]; exact hl)]; exact e, r⟩
  · obtain ⟨a, cap, e, r⟩ := k.2 (i - L.length) (by omega)
    rw [List.getElem_append_right hl]
    exact ⟨a, cap, by rw [List.getElem?_append_right (by rw [h.1]; exact hl), h.1]; exact e, r⟩
theorem Sl.one {w : World} {xs : List Value} {L : List Pt} (h : Sl w xs L) : ∀ u ∈ xs, u.oneCell' = true := by
  intro u hu
  obtain ⟨i, hi, e⟩ := List.mem_iff_getElem.1 hu
  obtain ⟨a, cap, e2, -⟩ := h.2 i (by rw [← h.1]; exact hi)
  rw [List.getElem?_eq_getElem hi, e] at e2
  cases e2; rfl
theorem ps_vals {w : World} {pa : Option Addr} {L : List Pt} (h : PsAt w pa L) : ∃ xs, Sl w xs L ∧ RowAt w pa xs := by
  rcases Nat.eq_zero_or_pos L.length with h0 | h0
  · exact ⟨[], ⟨h0.symm, fun i hi => by omega⟩, fun h => by simp at h⟩
  · obtain ⟨b, off, rfl, hc⟩ := h h0
    have hx : ∀ i, ((List.range L.length).map fun i => (w.cell? ⟨b, off + i, none⟩).getD undef)[i]? = if i < L.length then some ((w.cell? ⟨b, off + i, none⟩).getD undef) else none := by
      intro i
      rw [List.getElem?_map]
      split
      · next h => rw [List.getElem?_range h]; rfl
      · next h => rw [List.getElem?_eq_none (by simpa using h)]; rfl
    refine ⟨(List.range L.length).map fun i => (w.cell? ⟨b, off + i, none⟩).getD undef, ⟨by simp, fun i hi => ?_⟩, fun _ => ⟨b, off, rfl, fun i v hv => ?_⟩⟩
    · obtain ⟨a, cap, e, r⟩ := hc i hi
      exact ⟨a, cap, by rw [hx, if_pos hi, e]; rfl, r⟩
    · rw [hx] at hv
      split at hv
      · next h => obtain ⟨a, cap, e, r⟩ := hc i h; rw [e] at hv ⊢; exact hv
      · cases hv
theorem ps_of {w : World} {pa : Option Addr} {L : List Pt} {xs : List Value} (h : Sl w xs L) (hr : RowAt w pa xs) : PsAt w pa L := fun h0 => by
  obtain ⟨b, off, e, hc⟩ := hr (by rw [h.1]; exact h0)
  refine ⟨b, off, e, fun i hi => ?_⟩
  obtain ⟨a, cap, e2, r⟩ := h.2 i hi
  exact ⟨a, cap, hc i _ e2, r⟩
theorem concat_p {w : World} {pa qa : Option Addr} {pc qc g : Nat} {L M : List Pt} (hP : PsAt w pa L) (hQ : PsAt w qa M) (h0 : 0 < L.length) (hn : L.length + M.length ≤ 1000)
    (h3 : w.heap[g]? = some (.cells #[.slice pa L.length pc, .slice qa M.length qc] 41 (0, 0))) :
    Calls Tryz.prog 42 #[.slice (some ⟨g, 0, none⟩) 2 2] w fun e w' => ∃ r cap, e = .returned (.slice (some ⟨r, 0, none⟩) (L ++ M).length cap) ∧ PsAt w' (some ⟨r, 0, none⟩) (L ++ M) ∧ Below w.heap.size w w' := by
  obtain ⟨xs, s1, r1⟩ := ps_vals hP
  obtain ⟨ys, s2, r2⟩ := ps_vals hQ
  have hf : [xs, ys].flatten = xs ++ ys := by simp
  have hl : [xs, ys].flatten.length = L.length + M.length := by rw [hf, List.length_append, s1.1, s2.1]
  refine (concat_s (some ⟨g, 0, none⟩) 2 [xs, ys] w (fun _ => ⟨g, 0, rfl, fun i hi => ?_⟩) 2 rfl (by omega) (by rw [hl]; omega) (by rw [hl]; omega) (fun l hx => ?_)).mono ?_
  · have : i = 0 ∨ i = 1 := by simp at hi; omega
    rcases this with rfl | rfl
    · refine ⟨pa, pc, ?_, r1⟩
      rw [cell_of_row _ _ _ _ _ _ h3]
      show _ = some (Value.slice _ xs.length pc)
      rw [s1.1]; rfl
    · refine ⟨qa, qc, ?_, r2⟩
      rw [cell_of_row _ _ _ _ _ _ h3]
      show _ = some (Value.slice _ ys.length qc)
      rw [s2.1]; rfl
  · rcases List.mem_cons.1 hx with rfl | hx
    · exact s1.one
    · rcases List.mem_cons.1 hx with rfl | hx
      · exact s2.one
      · cases hx
  · rintro e w' ⟨v, rfl, ho, hb⟩
    rw [hf] at ho
    have hll : (xs ++ ys).length = (L ++ M).length := by rw [List.length_append, List.length_append, s1.1, s2.1]
    have hlm : (L ++ M).length = L.length + M.length := List.length_append
    rw [hll] at ho
    rcases ho.2 with ⟨_, e⟩ | ⟨r, cap, cur, rfl, hr, hh, hc, _, _, ht⟩
    · omega
    · refine ⟨r, cap, rfl, ps_of ((s1.app s2).later hb) (fun _ => ⟨r, 0, rfl, fun i v hi => ?_⟩), hb⟩
      have := ho.cells (g := r) rfl i v hi
      rwa [Addr.add_lit] at this
theorem go_grow2 {W : Wd} {s : List SV} {m : List Blk} {β : Nat → Nat} {a : Act} {w : World} {Q : Exit → Act → World → Prop} (h : St W s m β a w) (cc : Array Value) (t0 : TypeId) (s' : List SV) {a' : Act} {w' : World} (q : Nat) (hq : w.heap.size ≤ q) (hr : w'.heap[q]? = some (.cells cc t0 (0, 0))) (hb : Below w.heap.size w w')
    (hk : ∀ β a w, St W s' (m ++ [(cc, t0)]) β a w → Q .normal a w) (ha : a' = { tmps := (s'.map (den (bup β m.length q))).toArray, defers := [] }) (hl : liveB s' (m.length + 1) = true := by kernel_rfl) : Q .normal a' w' := by
  obtain ⟨h1, -⟩ := h.o0.grown hq hr hb
  refine hk (bup β m.length q) a' w' ⟨ha, h1.bel, h1.row, h1.old, h1.inj, live_of (by rw [List.length_append]; exact hl), h1.pin⟩
end Go.Proofs.YtacokkedomjgpaaGreatDoor

namespace Go.Proofs.YtacokkedomjgpaaGreatDoor
open Go.RowKit
def clmp (F : Nat → Nat) : Nat → Nat := (updN (updN (updN F 0 ((F 0) / 8 * 8)) 31 (((updN F 0 ((F 0) / 8 * 8)) 31) % 128)) 31 (((updN (updN F 0 ((F 0) / 8 * 8)) 31 (((updN F 0 ((F 0) / 8 * 8)) 31) % 128)) 31) % 64 + 64))
theorem cl_0 {F : Nat → Nat} (hF : ∀ i, F i < 256) : F 0 < 256 := hF 0
theorem cl_1 {F : Nat → Nat} (hF : ∀ i, F i < 256) : updN F 0 (F 0 / 8 * 8) 31 < 256 := hF 31
theorem cl_2 (F : Nat → Nat) : updN (updN F 0 (F 0 / 8 * 8)) 31 (updN F 0 (F 0 / 8 * 8) 31 % 128) 31 < 128 := by
  unfold updN; rw [if_pos rfl]; omega
theorem clmp_lt {F : Nat → Nat} (hF : ∀ i, F i < 256) (i : Nat) : clmp F i < 256 := by
  have h0 := hF 0
  unfold clmp updN
  split
  · omega
  · split
    · omega
    · exact hF i
set_option maxHeartbeats 4000000 in
theorem open_q {f F : Nat → Nat} (hF : ∀ i, F i < 256) (W0 : World) (cL0 : ∀ (w : World) (g q : Nat), Below W0.heap.size W0 w → w.heap[g]? = some (.cells (ck f) 23 (0, 0)) → w.heap[q]? = some (.cells #[.slice (some ⟨g, 0, none⟩) 32 32] 31 (0, 0)) → Calls Tryz.prog 25 #[.slice (some ⟨q, 0, none⟩) 1 1] w fun e w' => e = .returned (.agg (cw F)) ∧ Below w.heap.size w w') :
    Calls Tryz.prog 9 #[.agg (ck f)] W0 fun e w' => e = .returned (.tuple #[.agg (ck (clmp F)), .agg (ck (hi32 F))]) ∧ Below W0.heap.size W0 w' := by
  refine s_in Tryz.func9 Tryz.ntmps9 rfl [.inl (.agg (ck f))] ?_
  intro β a h
  refine sym_seq ?_
  refine St.rg h [(1, .inr (0, pt 0)), (2, .inr (1, pt 0)), (3, .inr (2, pt 0))] [(ck f, 23), (ck (fun _ => 0), 23), (ck (fun _ => 0), 23)] [] [eN 0, eN 1, eN 2] ?_ ?_
  · exact oc (k_bx 0 (.agg (ck f)) (bxK (b := f)) rfl rfl) <|
    oc (k_al 1 alK rfl rfl) <|
    oc (k_al 2 alK rfl rfl) <|
    ok_nil
  clear h; intro β a w h
  refine sym_then ?_
  refine sym_seq ?_
  replace h := St.cs h (s' := [.inl (.agg (ck f)), .inr (0, pt 0), .inr (1, pt 0), .inr (2, pt 0), uu, uu, uu, uu, uu, uu, uu, uu, uu, uu, uu, uu, uu, uu, uu, uu, uu, uu, uu, uu, uu]) (m' := [(ck f, 23), (ck (fun _ => 0), 23), (ck (fun _ => 0), 23)]) (by kernel_rfl) (by kernel_rfl)
  obtain ⟨W1f, q1f, βf, hk1f, hr1f, h⟩ := St.fixed h 0 (c := ck f) (t := 23)
  replace h := St.cs h (s' := [.inl (.agg (ck f)), .inl (.pointer (some ⟨q1f, 0, none⟩)), .inr (0, pt 0), .inr (1, pt 0), uu, uu, uu, uu, uu, uu, uu, uu, uu, uu, uu, uu, uu, uu, uu, uu, uu, uu, uu, uu, uu]) (m' := [(ck (fun _ => 0), 23), (ck (fun _ => 0), 23)]) (by kernel_rfl) (by kernel_rfl)
  replace h := h.o0
  refine St.rg h [(5, .inl (.slice (some ⟨q1f, 0, none⟩) 32 32)), (6, .inr (2, sl 0 1 1)), (7, .inl (.agg (cw F))), (8, .inl (.tuple #[.agg (ck F), .agg (ck (hi32 F))])), (4, .inl (.tuple #[.agg (ck F), .agg (ck (hi32 F))])), (9, .inl (.agg (ck F))), (10, .inl (.agg (ck (hi32 F))))] [(#[.slice (some ⟨q1f, 0, none⟩) 32 32], 31)] [(0, ck F), (1, ck (hi32 F))] [nn, eN 2, eR 2, nn, nn, nn, nn, eS 0, eS 1] ?_ ?_
  · exact oc (k_sp (.pointer (some ⟨q1f, 0, none⟩)) (.slice (some ⟨q1f, 0, none⟩) 32 32) none none rfl rfl (fun w => sl_key w q1f)) <|
    oc (k_bs #[(0, .slice (some ⟨q1f, 0, none⟩) 32 32)] 2 (c := #[.slice (some ⟨q1f, 0, none⟩) 32 32]) (t0 := 31) (fun w => by kernel_rfl) rfl rfl) <|
    oc (k_cb 25 (fun q => #[.slice (some ⟨q, 0, none⟩) 1 1]) (.agg (cw F)) 2 6 (fun w q hk hq => cL0 w q1f q (KW.below (hk1f _ hk)) (hr1f _ hk) hq) rfl rfl (by simp) (fm := sl 0 1 1)) <|
    oc (k_ca 16 #[.agg (cw F)] (.tuple #[.agg (ck F), .agg (ck (hi32 F))]) (fun w => halves_d F w) rfl rfl) <|
    oc (k_mv (.inl rfl) rfl) <|
    oc (k_ex (.tuple #[.agg (ck F), .agg (ck (hi32 F))]) (.agg (ck F)) rfl rfl) <|
    oc (k_ex (.tuple #[.agg (ck F), .agg (ck (hi32 F))]) (.agg (ck (hi32 F))) rfl rfl) <|
    oc (k_st 0 0 (.agg (ck F)) (c := ck (fun _ => 0)) (n := ck F) (stK (F := F) (c := ck (fun _ => 0)) 23 (ck_size _)) rfl rfl) <|
    oc (k_st 1 0 (.agg (ck (hi32 F))) (c := ck (fun _ => 0)) (n := ck (hi32 F)) (stK (F := (hi32 F)) (c := ck (fun _ => 0)) 23 (ck_size _)) rfl rfl) <|
    ok_nil
  clear h; intro β a w h
  refine sym_then ?_
  refine sym_seq ?_
  refine St.rg h [(11, .inr (0, pt 0)), (12, .inl (.int .u8 ((F 0) : Nat))), (13, .inl (.int .u8 (((F 0) / 8 * 8) : Nat))), (14, .inr (0, pt 0))] [] [(0, ck (updN F 0 ((F 0) / 8 * 8)))] [nn, eR 0, nn, nn, eS 0] ?_ ?_
  · exact oc (k_ia 0 0 0 (.int .i64 (0 : Nat)) (ixK (i := 0) (by omega)) rfl rfl) <|
    oc (k_ld 0 0 (.int .u8 ((F 0) : Nat)) (c := ck F) (ld_k (F := F) (i := 0) (t0 := 23) (by omega)) rfl rfl) <|
    oc (k_bi (.int .u8 ((F 0) : Nat)) (.int .u8 (7 : Nat)) (.int .u8 (((F 0) / 8 * 8) : Nat)) (an7 (m := (F 0)) (cl_0 hF)) rfl rfl) <|
    oc (k_ia 0 0 0 (.int .i64 (0 : Nat)) (ixK (i := 0) (by omega)) rfl rfl) <|
    oc (k_st 0 0 (.int .u8 (((F 0) / 8 * 8) : Nat)) (c := ck F) (n := ck (updN F 0 ((F 0) / 8 * 8))) (st_k (F := F) (i := 0) (v := ((F 0) / 8 * 8)) (t0 := 23) (by omega)) rfl rfl) <|
    ok_nil
  clear h; intro β a w h
  refine sym_then ?_
  refine sym_seq ?_
  refine St.rg h [(15, .inr (0, pt 31)), (16, .inl (.int .u8 (((updN F 0 ((F 0) / 8 * 8)) 31) : Nat))), (17, .inl (.int .u8 ((((updN F 0 ((F 0) / 8 * 8)) 31) % 128) : Nat))), (18, .inr (0, pt 31))] [] [(0, ck (updN (updN F 0 ((F 0) / 8 * 8)) 31 (((updN F 0 ((F 0) / 8 * 8)) 31) % 128)))] [nn, eR 0, nn, nn, eS 0] ?_ ?_
  · exact oc (k_ia 0 0 31 (.int .i64 (31 : Nat)) (ixK (i := 31) (by omega)) rfl rfl) <|
    oc (k_ld 0 31 (.int .u8 (((updN F 0 ((F 0) / 8 * 8)) 31) : Nat)) (c := ck (updN F 0 ((F 0) / 8 * 8))) (ld_k (F := (updN F 0 ((F 0) / 8 * 8))) (i := 31) (t0 := 23) (by omega)) rfl rfl) <|
    oc (k_bi (.int .u8 (((updN F 0 ((F 0) / 8 * 8)) 31) : Nat)) (.int .u8 (128 : Nat)) (.int .u8 ((((updN F 0 ((F 0) / 8 * 8)) 31) % 128) : Nat)) (an128 (m := ((updN F 0 ((F 0) / 8 * 8)) 31)) (cl_1 hF)) rfl rfl) <|
    oc (k_ia 0 0 31 (.int .i64 (31 : Nat)) (ixK (i := 31) (by omega)) rfl rfl) <|
    oc (k_st 0 31 (.int .u8 ((((updN F 0 ((F 0) / 8 * 8)) 31) % 128) : Nat)) (c := ck (updN F 0 ((F 0) / 8 * 8))) (n := ck (updN (updN F 0 ((F 0) / 8 * 8)) 31 (((updN F 0 ((F 0) / 8 * 8)) 31) % 128))) (st_k (F := (updN F 0 ((F 0) / 8 * 8))) (i := 31) (v := (((updN F 0 ((F 0) / 8 * 8)) 31) % 128)) (t0 := 23) (by omega)) rfl rfl) <|
    ok_nil
  clear h; intro β a w h
  refine sym_then ?_
  refine sym_seq ?_
  refine St.rg h [(19, .inr (0, pt 31)), (20, .inl (.int .u8 ((((updN (updN F 0 ((F 0) / 8 * 8)) 31 (((updN F 0 ((F 0) / 8 * 8)) 31) % 128)) 31) : Nat) : Int))), (21, .inl (.int .u8 (((((updN (updN F 0 ((F 0) / 8 * 8)) 31 (((updN F 0 ((F 0) / 8 * 8)) 31) % 128)) 31) % 64 + 64) : Nat) : Int))), (22, .inr (0, pt 31))] [] [(0, ck (updN (updN (updN F 0 ((F 0) / 8 * 8)) 31 (((updN F 0 ((F 0) / 8 * 8)) 31) % 128)) 31 (((updN (updN F 0 ((F 0) / 8 * 8)) 31 (((updN F 0 ((F 0) / 8 * 8)) 31) % 128)) 31) % 64 + 64)))] [nn, eR 0, nn, nn, eS 0] ?_ ?_
  · exact oc (k_ia 0 0 31 (.int .i64 (31 : Nat)) (ixK (i := 31) (by omega)) rfl rfl) <|
    oc (k_ld 0 31 (.int .u8 ((((updN (updN F 0 ((F 0) / 8 * 8)) 31 (((updN F 0 ((F 0) / 8 * 8)) 31) % 128)) 31) : Nat) : Int)) (c := ck (updN (updN F 0 ((F 0) / 8 * 8)) 31 (((updN F 0 ((F 0) / 8 * 8)) 31) % 128))) (ld_k (F := (updN (updN F 0 ((F 0) / 8 * 8)) 31 (((updN F 0 ((F 0) / 8 * 8)) 31) % 128))) (i := 31) (t0 := 23) (by omega)) rfl rfl) <|
    oc (k_bi (.int .u8 ((((updN (updN F 0 ((F 0) / 8 * 8)) 31 (((updN F 0 ((F 0) / 8 * 8)) 31) % 128)) 31) : Nat) : Int)) (.int .u8 (64 : Nat)) (.int .u8 (((((updN (updN F 0 ((F 0) / 8 * 8)) 31 (((updN F 0 ((F 0) / 8 * 8)) 31) % 128)) 31) % 64 + 64) : Nat) : Int)) (or64 (m := ((updN (updN F 0 ((F 0) / 8 * 8)) 31 (((updN F 0 ((F 0) / 8 * 8)) 31) % 128)) 31)) (cl_2 F)) rfl rfl) <|
    oc (k_ia 0 0 31 (.int .i64 (31 : Nat)) (ixK (i := 31) (by omega)) rfl rfl) <|
    oc (k_st 0 31 (.int .u8 (((((updN (updN F 0 ((F 0) / 8 * 8)) 31 (((updN F 0 ((F 0) / 8 * 8)) 31) % 128)) 31) % 64 + 64) : Nat) : Int)) (c := ck (updN (updN F 0 ((F 0) / 8 * 8)) 31 (((updN F 0 ((F 0) / 8 * 8)) 31) % 128))) (n := ck (updN (updN (updN F 0 ((F 0) / 8 * 8)) 31 (((updN F 0 ((F 0) / 8 * 8)) 31) % 128)) 31 (((updN (updN F 0 ((F 0) / 8 * 8)) 31 (((updN F 0 ((F 0) / 8 * 8)) 31) % 128)) 31) % 64 + 64))) (st_k (F := (updN (updN F 0 ((F 0) / 8 * 8)) 31 (((updN F 0 ((F 0) / 8 * 8)) 31) % 128))) (i := 31) (v := (((updN (updN F 0 ((F 0) / 8 * 8)) 31 (((updN F 0 ((F 0) / 8 * 8)) 31) % 128)) 31) % 64 + 64)) (t0 := 23) (by omega)) rfl rfl) <|
    ok_nil
  clear h; intro β a w h
  refine sym_then ?_
  refine sym_seq ?_
  refine St.rg h [(23, .inl (.agg (ck (updN (updN (updN F 0 ((F 0) / 8 * 8)) 31 (((updN F 0 ((F 0) / 8 * 8)) 31) % 128)) 31 (((updN (updN F 0 ((F 0) / 8 * 8)) 31 (((updN F 0 ((F 0) / 8 * 8)) 31) % 128)) 31) % 64 + 64))))), (24, .inl (.agg (ck (hi32 F))))] [] [(0, ck (updN (updN (updN F 0 ((F 0) / 8 * 8)) 31 (((updN F 0 ((F 0) / 8 * 8)) 31) % 128)) 31 (((updN (updN F 0 ((F 0) / 8 * 8)) 31 (((updN F 0 ((F 0) / 8 * 8)) 31) % 128)) 31) % 64 + 64))), (1, ck (hi32 F))] [eR 0, eR 1, eS 0, eS 1] ?_ ?_
  · exact oc (k_ld 0 0 (.agg (ck (updN (updN (updN F 0 ((F 0) / 8 * 8)) 31 (((updN F 0 ((F 0) / 8 * 8)) 31) % 128)) 31 (((updN (updN F 0 ((F 0) / 8 * 8)) 31 (((updN F 0 ((F 0) / 8 * 8)) 31) % 128)) 31) % 64 + 64)))) (c := ck (updN (updN (updN F 0 ((F 0) / 8 * 8)) 31 (((updN F 0 ((F 0) / 8 * 8)) 31) % 128)) 31 (((updN (updN F 0 ((F 0) / 8 * 8)) 31 (((updN F 0 ((F 0) / 8 * 8)) 31) % 128)) 31) % 64 + 64))) (ldK (b := (updN (updN (updN F 0 ((F 0) / 8 * 8)) 31 (((updN F 0 ((F 0) / 8 * 8)) 31) % 128)) 31 (((updN (updN F 0 ((F 0) / 8 * 8)) 31 (((updN F 0 ((F 0) / 8 * 8)) 31) % 128)) 31) % 64 + 64))) 23) rfl rfl) <|
    oc (k_ld 1 0 (.agg (ck (hi32 F))) (c := ck (hi32 F)) (ldK (b := (hi32 F)) 23) rfl rfl) <|
    oc (k_st 0 0 (.agg (ck (updN (updN (updN F 0 ((F 0) / 8 * 8)) 31 (((updN F 0 ((F 0) / 8 * 8)) 31) % 128)) 31 (((updN (updN F 0 ((F 0) / 8 * 8)) 31 (((updN F 0 ((F 0) / 8 * 8)) 31) % 128)) 31) % 64 + 64)))) (c := ck (updN (updN (updN F 0 ((F 0) / 8 * 8)) 31 (((updN F 0 ((F 0) / 8 * 8)) 31) % 128)) 31 (((updN (updN F 0 ((F 0) / 8 * 8)) 31 (((updN F 0 ((F 0) / 8 * 8)) 31) % 128)) 31) % 64 + 64))) (n := ck (updN (updN (updN F 0 ((F 0) / 8 * 8)) 31 (((updN F 0 ((F 0) / 8 * 8)) 31) % 128)) 31 (((updN (updN F 0 ((F 0) / 8 * 8)) 31 (((updN F 0 ((F 0) / 8 * 8)) 31) % 128)) 31) % 64 + 64))) (stK (F := (updN (updN (updN F 0 ((F 0) / 8 * 8)) 31 (((updN F 0 ((F 0) / 8 * 8)) 31) % 128)) 31 (((updN (updN F 0 ((F 0) / 8 * 8)) 31 (((updN F 0 ((F 0) / 8 * 8)) 31) % 128)) 31) % 64 + 64))) (c := ck (updN (updN (updN F 0 ((F 0) / 8 * 8)) 31 (((updN F 0 ((F 0) / 8 * 8)) 31) % 128)) 31 (((updN (updN F 0 ((F 0) / 8 * 8)) 31 (((updN F 0 ((F 0) / 8 * 8)) 31) % 128)) 31) % 64 + 64))) 23 (ck_size _)) rfl rfl) <|
    oc (k_st 1 0 (.agg (ck (hi32 F))) (c := ck (hi32 F)) (n := ck (hi32 F)) (stK (F := (hi32 F)) (c := ck (hi32 F)) 23 (ck_size _)) rfl rfl) <|
    ok_nil
  clear h; intro β a w h
  refine sym_then ?_
  refine wp_ret ?_
  exact s_rrW (b := 0) (t0 := 23) (c := ck (updN (updN (updN F 0 ((F 0) / 8 * 8)) 31 (((updN F 0 ((F 0) / 8 * 8)) 31) % 128)) 31 (((updN (updN F 0 ((F 0) / 8 * 8)) 31 (((updN F 0 ((F 0) / 8 * 8)) 31) % 128)) 31) % 64 + 64))) (b' := 1) (t0' := 23) (c' := ck (hi32 F)) h Tryz.results9 Tryz.underlying23 Tryz.underlying23 (fun hb => ⟨rfl, KW.below (hk1f _ hb)⟩) (by rw [ck_size]; kernel_rfl) (by rw [ck_size]; kernel_rfl)
end Go.Proofs.YtacokkedomjgpaaGreatDoor

namespace Go.Proofs.YtacokkedomjgpaaGreatDoor
open Go.RowKit
theorem sl_wide (w : World) (q : Nat) : (Instr.sliceAt 29 (.pointer (some ⟨q, 0, none⟩)) none none none).run Tryz.prog w = .ok (.slice (some ⟨q, 0, none⟩) 64 64) w := by kernel_rfl
theorem cw_sz (F : Nat → Nat) : (Tryz.prog.info? 29).map (·.size) = some (cw F).size := by unfold cw; rw [ab_size]; kernel_rfl
theorem bs_wide {w : World} {q : Nat} {f : Nat → Nat} {t : TypeId} {fr : Nat × Nat} (hf : ∀ i, f i < 256) (h : w.heap[q]? = some (.cells (cw f) t fr)) : Bs w (some ⟨q, 0, none⟩) 64 f :=
  ⟨hf, fun _ => ⟨q, 0, rfl, fun i hi => by
    rw [cell_of_row _ _ _ _ _ _ h, Nat.zero_add]; unfold cw ab; exact arr_get 64 (fun i => .int .u8 (f i : Nat)) i hi⟩⟩
set_option maxHeartbeats 4000000 in
set_option maxRecDepth 100000 in
theorem residue_q {F : Nat → Nat} {pa qa : Option Addr} {pc qc ln mn kn : Nat} (hF : ∀ i, F i < 256) (W0 : World)
    (cat0 : ∀ (w : World) (g : Nat), Below W0.heap.size W0 w → w.heap[g]? = some (.cells #[.slice qa mn qc, .slice pa ln pc] 41 (0, 0)) → Calls Tryz.prog 42 #[.slice (some ⟨g, 0, none⟩) 2 2] w fun e w' => ∃ r cap, e = .returned (.slice (some ⟨r, 0, none⟩) kn cap) ∧ Hid (Calls Tryz.prog 25 #[.slice (some ⟨r, 0, none⟩) kn cap] w' fun e w'' => e = .returned (.agg (cw F)) ∧ Below w'.heap.size w' w'') ∧ Below w.heap.size w w') :
    Calls Tryz.prog 18 #[.slice pa ln pc, .slice qa mn qc] W0 fun e w' => e = .returned (.agg (ck (kq (nB F 64 % oL)))) ∧ Below W0.heap.size W0 w' := by
  refine s_in Tryz.func18 Tryz.ntmps18 rfl [.inl (.slice pa ln pc), .inl (.slice qa mn qc)] ?_
  intro β a h
  refine sym_seq ?_
  refine St.rg h [(4, .inr (0, pt 0))] [(ck (fun _ => 0), 23)] [] [eN 0] ?_ ?_
  · exact oc (k_al 0 alK rfl rfl) <|
    ok_nil
  clear h; intro β a w h
  refine sym_then ?_
  refine sym_seq ?_
  replace h := St.cs h (s' := [.inl (.slice pa ln pc), .inl (.slice qa mn qc), uu, uu, .inr (0, pt 0), uu, uu, uu, uu, uu, uu, uu, uu, uu, uu, uu, uu, uu, uu]) (m' := [(ck (fun _ => 0), 23)]) (by kernel_rfl) (by kernel_rfl)
  obtain rfl : a = { tmps := #[.slice pa ln pc, .slice qa mn qc, undef, undef, fv (pt 0) (β 0), undef, undef, undef, undef, undef, undef, undef, undef, undef, undef, undef, undef, undef, undef], defers := [] } := h.tm
  have hb0 := KW.below h.bel
  have hal : Below w.heap.size w (w.alloc (.cells #[.slice qa mn qc, .slice pa ln pc] 41)) := (Below.refl _ _).alloc (Nat.le_refl _) _
  have hcat := cat0 _ _ (hb0.trans (hal.mono hb0.size)) (MapKept.heap_alloc w _).1
  have hH := hide1 h
  clear h
  refine reg_gen fun QQ hQQ => ?_
  go_wp2_with fail
  refine hcat.mono ?_
  rintro e w2 ⟨r, cap, rfl, hlg, hb2⟩
  have hb02 := (hb0.trans (hal.mono hb0.size)).trans (hb2.mono (hb0.trans (hal.mono hb0.size)).size)
  have hlong := hlg.out
  clear hcat
  go_wp2_with fail
  refine hlong.mono ?_
  rintro e w3 ⟨rfl, hb3⟩
  have hbw : Below w.heap.size w w3 := (hal.trans (hb2.mono hal.size)).trans (hb3.mono (hal.trans (hb2.mono hal.size)).size)
  have hr3 := (MapKept.heap_alloc w3 (.cells (ab 64 fun _ => 0) 29)).1
  have hz3 : ∀ w : World, (zeroValue 29).run Tryz.prog w = .ok (.agg (ab 64 fun _ => 0)) w := fun w => by kernel_rfl
  have hw5 := wrt_row (c' := cw F) hr3
  have hb5 : Below w.heap.size w ((w3.alloc (.cells (ab 64 fun _ => 0) 29)).setRow w3.heap.size (cw F)) := below_wrt (hbw.trans ((((Below.refl _ _).alloc (Nat.le_refl _) _)).mono hbw.size)) hw5 hbw.size (by have := hbw.size; simp; omega)
  have hr5 := hw5.row
  clear hlong hb2 hb3
  go_wp2_with (refine wpList_store_row rfl 29 (.tmp 5) (.tmp 12) rfl w3.heap.size (cw F) (ab 64 fun _ => 0) 29 rfl rfl (cw_sz F) hr3 (by rw [ab_size]; exact (ab_size _ _).symm) (ab_one _ _) rfl ?_)
  refine hQQ.out _ _ ?_
  clear hQQ QQ
  refine go_grow2 hH.out (cw F) 29 [.inl (.slice pa ln pc), .inl (.slice qa mn qc), uu, uu, .inr (0, pt 0), .inr (1, pt 0), uu, uu, .inl (.slice qa mn qc), .inl (.slice pa ln pc), .inl (.slice (some ⟨w.heap.size, 0, none⟩) 2 2), .inl (.slice (some ⟨r, 0, none⟩) kn cap), .inl (.agg (cw F)), uu, uu, uu, uu, uu, uu] w3.heap.size hbw.size hr5 hb5 ?_ (by kernel_rfl)
  clear hH hb0 hal hb02 hbw hr3 hz3 hw5 hb5 hr5; intro β a w h; replace h := h.o0
  refine sym_then ?_
  refine sym_seq ?_
  refine St.rg h [(14, .inr (1, sl 0 64 64)), (15, .inl (.tuple #[.agg (ck (kq (nB F 64 % oL))), .bool true])), (13, .inl (.tuple #[.agg (ck (kq (nB F 64 % oL))), .bool true])), (16, .inl (.agg (ck (kq (nB F 64 % oL))))), (17, .inl (.bool true)), (6, .inr (2, pt 0)), (7, .inl (.bool true))] [(ck (fun _ => 0), 23)] [(2, ck (kq (nB F 64 % oL)))] [nn, eR 1, nn, nn, nn, eN 2, eS 2] ?_ ?_
  · exact oc (k_sl 1 64 rfl rfl sl_wide) <|
    oc (k_cb 41 (fun q => #[.slice (some ⟨q, 0, none⟩) 64 64]) (.tuple #[.agg (ck (kq (nB F 64 % oL))), .bool true]) 1 14 (fun w q _ hq => residue_L (by omega) w (bs_wide hF hq)) rfl rfl (by simp) (fm := sl 0 64 64) (t0 := 29)) <|
    oc (k_mv (.inl rfl) rfl) <|
    oc (k_ex (.tuple #[.agg (ck (kq (nB F 64 % oL))), .bool true]) (.agg (ck (kq (nB F 64 % oL)))) rfl rfl) <|
    oc (k_ex (.tuple #[.agg (ck (kq (nB F 64 % oL))), .bool true]) (.bool true) rfl rfl) <|
    oc (k_al 2 alK rfl rfl) <|
    oc (k_st 2 0 (.agg (ck (kq (nB F 64 % oL)))) (c := ck (fun _ => 0)) (n := ck (kq (nB F 64 % oL))) (stK (F := (kq (nB F 64 % oL))) (c := ck (fun _ => 0)) 23 (ck_size _)) rfl rfl) <|
    oz (k_mv (.inr rfl) rfl) <|
    ok_nil
  clear h; intro β a w h
  refine sym_then ?_
  refine sym_seq ?_
  refine St.rg h [(18, .inl (.agg (ck (kq (nB F 64 % oL)))))] [] [(0, ck (kq (nB F 64 % oL)))] [eR 2, eS 0] ?_ ?_
  · exact oc (k_ld 2 0 (.agg (ck (kq (nB F 64 % oL)))) (c := ck (kq (nB F 64 % oL))) (ldK (b := (kq (nB F 64 % oL))) 23) rfl rfl) <|
    oc (k_st 0 0 (.agg (ck (kq (nB F 64 % oL)))) (c := ck (fun _ => 0)) (n := ck (kq (nB F 64 % oL))) (stK (F := (kq (nB F 64 % oL))) (c := ck (fun _ => 0)) 23 (ck_size _)) rfl rfl) <|
    ok_nil
  clear h; intro β a w h
  refine sym_then ?_
  refine wp_ret ?_
  exact s_rc (b := 0) (t0 := 23) (c := ck (kq (nB F 64 % oL))) h Tryz.results18 Tryz.underlying23 (fun hb => ⟨rfl, hb⟩) (by rw [ck_size]; kernel_rfl)
end Go.Proofs.YtacokkedomjgpaaGreatDoor

namespace Go.Proofs.YtacokkedomjgpaaGreatDoor
open Go.RowKit
set_option maxHeartbeats 4000000 in
theorem generator_d {f : Nat → Nat} (hf : ∀ i, f i < 256) (W0 : World) : Calls Tryz.prog 10 #[.agg (ck f)] W0 fun e w' => e = .returned (.agg (ck (kp (mt (nbv f 32) gG)))) ∧ Below W0.heap.size W0 w' := by
  refine s_in Tryz.func10 Tryz.ntmps10 rfl [.inl (.agg (ck f))] ?_
  intro β a h
  refine sym_seq ?_
  refine St.rg h [(1, .inr (0, pt 0)), (2, .inr (1, pt 0))] [(ck f, 23), (ck (fun _ => 0), 23)] [] [eN 0, eN 1] ?_ ?_
  · exact oc (k_bx 0 (.agg (ck f)) (bxK (b := f)) rfl rfl) <|
    oc (k_al 1 alK rfl rfl) <|
    ok_nil
  clear h; intro β a w h
  refine sym_then ?_
  refine sym_seq ?_
  refine St.rg h [(3, .inl (.agg (pvt gG))), (4, .inl (.agg (ck f))), (5, .inl (.agg (pvt (mt (nbv f 32) gG)))), (6, .inl (.agg (ck (kp (mt (nbv f 32) gG)))))] [] [(1, ck (kp (mt (nbv f 32) gG)))] [nn, eR 0, nn, nn, eS 1] ?_ ?_
  · exact oc (k_ca 19 #[] (.agg (pvt gG)) gen_pv rfl rfl) <|
    oc (k_ld 0 0 (.agg (ck f)) (c := ck f) (ldK (b := f) 23) rfl rfl) <|
    oc (k_ca 20 #[.agg (pvt gG), .agg (ck f)] (.agg (pvt (mt (nbv f 32) gG))) (fun w => many_pv gG_oc hf w) rfl rfl) <|
    oc (k_ca 22 #[.agg (pvt (mt (nbv f 32) gG))] (.agg (ck (kp (mt (nbv f 32) gG)))) (fun w => key_pv _ w) rfl rfl) <|
    oc (k_st 1 0 (.agg (ck (kp (mt (nbv f 32) gG)))) (c := ck (fun _ => 0)) (n := ck (kp (mt (nbv f 32) gG))) (stK (F := (kp (mt (nbv f 32) gG))) (c := ck (fun _ => 0)) 23 (ck_size _)) rfl rfl) <|
    ok_nil
  clear h; intro β a w h
  refine sym_then ?_
  refine wp_ret ?_
  exact s_rc (b := 1) (t0 := 23) (c := ck (kp (mt (nbv f 32) gG))) h Tryz.results10 Tryz.underlying23 (fun hb => ⟨rfl, hb⟩) (by rw [ck_size]; kernel_rfl)
end Go.Proofs.YtacokkedomjgpaaGreatDoor

namespace Go.Proofs.YtacokkedomjgpaaGreatDoor.Lo
def lg (n : Nat) (f : Nat → Nat) : Nat → Nat := outF (fun _ => 0) (bkH (bgF 8) (padF f n) (nP n)) 8
theorem padF_cong {f g : Nat → Nat} {n : Nat} (h : ∀ i, i < n → f i = g i) : padF f n = padF g n := by
  funext i
  unfold padF
  by_cases hi : i < n
  · rw [if_pos hi, if_pos hi, h i hi]
  · rw [if_neg hi, if_neg hi]
theorem lg_cong {f g : Nat → Nat} {n : Nat} (h : ∀ i, i < n → f i = g i) : lg n f = lg n g := by unfold lg; rw [padF_cong h]
theorem outF_lt {F H : Nat → Nat} (h : ∀ i, F i < 256) : ∀ k i, outF F H k i < 256
  | 0, i => h i
  | k + 1, i => ptF_lt (outF_lt h k) 8 i
theorem lg_lt (n : Nat) (f : Nat → Nat) (i : Nat) : lg n f i < 256 := outF_lt (fun _ => by decide) 8 i
end Go.Proofs.YtacokkedomjgpaaGreatDoor.Lo
namespace Go.Proofs.YtacokkedomjgpaaGreatDoor
open Go.RowKit Lo
theorem long_lg {L : List Pt} {pa : Option Addr} {pc : Nat} {W0 : World} (hg : Gl W0) (hP : PsAt W0 pa L) (hL : ∀ x ∈ L, ∀ i, x.2 i < 256) (hlen : lenS L ≤ 1099511627776) (hn : L.length ≤ 1000000) :
    Calls Tryz.prog 25 #[.slice pa L.length pc] W0 fun e w' => e = .returned (.agg (cw (lg (lenS L) (joinF L)))) ∧ Below W0.heap.size W0 w' := by
  have := long_d (pc := pc) hg hP hL hlen hn
  rw [longP_bk] at this
  exact this
theorem join_1 (n : Nat) (f : Nat → Nat) : lg (lenS [(n, f)]) (joinF [(n, f)]) = lg n f := by
  have e : lenS [(n, f)] = n := by simp [lenS]
  rw [e]
  exact lg_cong fun i hi => by
    show (if i < n then f i else 0) = f i
    rw [if_pos hi]
theorem open_d {f : Nat → Nat} {W0 : World} (hg : Gl W0) (hf : ∀ i, f i < 256) : Calls Tryz.prog 9 #[.agg (ck f)] W0 fun e w' => e = .returned (.tuple #[.agg (ck (clmp (lg 32 f))), .agg (ck (hi32 (lg 32 f)))]) ∧ Below W0.heap.size W0 w' := by
  refine open_q (lg_lt 32 f) W0 fun w g q hb h1 h2 => ?_
  have := long_lg (L := [(32, f)]) (pc := 1) (gl_b hg hb) (ps_1 (x := (32, f)) h2 (bs_key hf h1) (Nat.le_refl _) (fun p e => by cases e; exact (Array.getElem?_eq_some_iff.1 h1).1)) (fun x hx i => by
    rcases List.mem_cons.1 hx with rfl | hx
    · exact hf i
    · cases hx) (by simp [lenS]) (by simp)
  rw [join_1] at this
  exact this
theorem PsAt.later {w w' : World} {pa : Option Addr} {L : List Pt} (h : PsAt w pa L) (hb : Below w.heap.size w w') : PsAt w' pa L := by
  obtain ⟨xs, h1, h2⟩ := ps_vals h
  exact ps_of (h1.later hb) (h2.later hb)
def rsd (L : List Pt) : Nat := nB (lg (lenS L) (joinF L)) 64 % oL
theorem residue_d {L M : List Pt} {pa qa : Option Addr} {pc qc : Nat} {W0 : World} (hg : Gl W0) (hP : PsAt W0 pa L) (hQ : PsAt W0 qa M) (h0 : 0 < M.length) (hL : ∀ x ∈ L, ∀ i, x.2 i < 256) (hM : ∀ x ∈ M, ∀ i, x.2 i < 256) (hlen : lenS (M ++ L) ≤ 1099511627776) (hn : M.length + L.length ≤ 1000) :
    Calls Tryz.prog 18 #[.slice pa L.length pc, .slice qa M.length qc] W0 fun e w' => e = .returned (.agg (ck (kq (rsd (M ++ L))))) ∧ Below W0.heap.size W0 w' := by
  refine residue_q (kn := (M ++ L).length) (lg_lt _ _) W0 fun w g hb h1 => ?_
  refine (concat_p (hQ.later hb) (hP.later hb) h0 hn h1).mono ?_
  rintro e w' ⟨r, cap, rfl, hps, hb2⟩
  refine ⟨r, cap, rfl, hide1 ?_, hb2⟩
  exact long_lg (gl_b (gl_b hg hb) hb2) hps (fun x hx => by
    rcases List.mem_append.1 hx with hx | hx
    · exact hM x hx
    · exact hL x hx) hlen (by rw [List.length_append]; omega)
end Go.Proofs.YtacokkedomjgpaaGreatDoor

namespace Go.Proofs.YtacokkedomjgpaaGreatDoor.Lo
open Go.RowKit

theorem add_or {x y : Nat} (hx : x < B64) (hy : y < B64) (h : x &&& y = 0) : x + y = x ||| y := by
  have hx' : x < 2 ^ 65 := Nat.lt_trans hx (by decide)
  have hy' : y < 2 ^ 65 := Nat.lt_trans hy (by decide)
  have hb := BitVec.add_eq_or_of_and_eq_zero (BitVec.ofNat 65 x) (BitVec.ofNat 65 y) (by
    apply BitVec.eq_of_toNat_eq
    rw [BitVec.toNat_and, BitVec.toNat_ofNat, BitVec.toNat_ofNat, Nat.mod_eq_of_lt hx', Nat.mod_eq_of_lt hy', h]; rfl)
  have ht := congrArg BitVec.toNat hb
  rw [BitVec.toNat_add, BitVec.toNat_or, BitVec.toNat_ofNat, BitVec.toNat_ofNat, Nat.mod_eq_of_lt hx', Nat.mod_eq_of_lt hy', Nat.mod_eq_of_lt (by unfold B64 at *; omega)] at ht
  exact ht
theorem mul_mod_p (x k : Nat) (hk : k ≤ 64) : x * 2 ^ k % B64 = x % 2 ^ (64 - k) * 2 ^ k := by
  have h : B64 = 2 ^ (64 - k) * 2 ^ k := by rw [← Nat.pow_add, show 64 - k + k = 64 by omega]; rfl
  rw [h, Nat.mul_mod_mul_right]
theorem tu_add {x n : Nat} (hx : x < B64) (hn : n ≤ 64) : x / 2 ^ n + x * 2 ^ (64 - n) % B64 = tu x n := by
  have h1 : x / 2 ^ n < 2 ^ (64 - n) := by
    rw [Nat.div_lt_iff_lt_mul (Nat.two_pow_pos n), ← Nat.pow_add, show 64 - n + n = 64 by omega]; exact hx
  unfold tu
  rw [mul_mod_p x (64 - n) (by omega), Nat.or_comm, shl_or h1, Nat.add_comm]
theorem byte_add {x c : Nat} (hc : c < 256) : x * 256 % B64 + c = x * 2 ^ 8 % B64 ||| c := by
  rw [show x * 256 = x * 2 ^ 8 from rfl, mul_mod_p x 8 (by omega), shl_or hc]
theorem bit_M (i : Nat) : Nat.testBit 18446744073709551615 i = decide (i < 64) := Nat.testBit_two_pow_sub_one 64 i
theorem not_sub {e : Nat} (he : e < B64) : 18446744073709551615 - e = 18446744073709551615 ^^^ e := by
  apply Nat.eq_of_testBit_eq
  intro i
  have h := Nat.testBit_two_pow_sub_succ (n := 64) (x := e) he i
  rw [show 18446744073709551615 - e = 2 ^ 64 - (e + 1) by omega, h, Nat.testBit_xor, bit_M]
  by_cases hi : i < 64
  · simp [hi]
  · rw [Nat.testBit_lt_two_pow (Nat.lt_of_lt_of_le he (Nat.pow_le_pow_right (n := 2) (by decide) (by omega : 64 ≤ i)))]
    simp [hi]
theorem ch_add {e f g : Nat} (he : e < B64) (hf : f < B64) (hg : g < B64) : ((e &&& f) + ((18446744073709551615 - e) &&& g)) % B64 = (e &&& f) ||| ((18446744073709551615 ^^^ e) &&& g) := by
  rw [not_sub he]
  have h1 : e &&& f < B64 := and_lt hf
  have h2 : (18446744073709551615 ^^^ e) &&& g < B64 := and_lt hg
  rw [add_or h1 h2 ?_, Nat.mod_eq_of_lt (or_lt h1 h2)]
  apply Nat.eq_of_testBit_eq
  intro i
  rw [Nat.testBit_and, Nat.testBit_and, Nat.testBit_and, Nat.testBit_xor, bit_M, Nat.zero_testBit]
  by_cases hi : i < 64
  · simp [hi]; cases e.testBit i <;> simp
  · rw [Nat.testBit_lt_two_pow (Nat.lt_of_lt_of_le he (Nat.pow_le_pow_right (n := 2) (by decide) (by omega : 64 ≤ i)))]
    simp
end Go.Proofs.YtacokkedomjgpaaGreatDoor.Lo

namespace Go.Proofs.YtacokkedomjgpaaGreatDoor.Lo
open Go.RowKit

theorem wide_r {x n : Nat} (hx : x < B64) (hn : n ≤ 64) (W0 : World) : Calls Tryz.prog 64 #[.int .u64 (x : Nat), .int .u64 (n : Nat)] W0 fun e w' => e = .returned (.int .u64 (tu x n : Nat)) ∧ w' = W0 := by
  have h1 := tu_add hx hn
  have h2 := tu_lt (n := n) hx
  go_enter Tryz.func64, Tryz.ntmps64
  go_wp2
  go_ret
  refine ⟨?_, rfl⟩
  have e : IntKind.u64.wrap ((x : Int) / 2 ^ n + IntKind.u64.wrap ((x : Int) * 2 ^ (64 - n))) = ((tu x n : Nat) : Int) := by
    have h3 : (x / 2 ^ n + x * 2 ^ (64 - n) % B64) % B64 = tu x n := by rw [h1]; exact Nat.mod_eq_of_lt h2
    rw [w64, w64, ← h3]
    push_cast [B64_i]
    rfl
  rw [← e]
  rfl
end Go.Proofs.YtacokkedomjgpaaGreatDoor.Lo

namespace Go.Proofs.YtacokkedomjgpaaGreatDoor.Lo
open Go.RowKit Go.Maps

def tF (n j i : Nat) : Nat := if j ≤ i then cntF n i else 0
theorem tF_z (n : Nat) : ab 16 (updN (fun _ => 0) 15 (n % 32 * 8)) = ab 16 (tF n 15) := arr_congr fun i hi => by
  rw [← cnt_last]
  unfold updN tF
  by_cases h : i = 15
  · subst h; rw [if_pos rfl, if_pos (by omega)]
  · rw [if_neg h, if_neg (by omega)]
theorem tF_s (n : Nat) {m : Nat} (hm : m < 15) : ab 16 (updN (tF n (m + 1)) m (cntF n m)) = ab 16 (tF n m) := arr_congr fun i hi => by
  unfold updN tF
  by_cases h : i = m
  · subst h; rw [if_pos rfl, if_pos (by omega)]
  · rw [if_neg h]
    by_cases h1 : m + 1 ≤ i
    · rw [if_pos h1, if_pos (by omega)]
    · rw [if_neg h1, if_neg (by omega)]
theorem tF_e (n : Nat) : ab 16 (tF n 0) = ab 16 (cntF n) := arr_congr fun i hi => by unfold tF; rw [if_pos (by omega)]
set_option maxHeartbeats 4000000 in
set_option maxRecDepth 100000 in
theorem padded_r {a : Option Addr} {len cap : Nat} {f : Nat → Nat} {W0 : World} (hb : Bs W0 a len f) (hlen : len ≤ 1099511627776) :
    Calls Tryz.prog 63 #[.slice a len cap, .int .i64 128, .int .i64 16] W0 fun e w' => ∃ c q len' cap', e = .returned (.slice (some ⟨q, 0, none⟩) len' cap') ∧ W0.heap.size ≤ q ∧ w'.heap[q]? = some (.cells c 5 (0, 0)) ∧ Below W0.heap.size W0 w' ∧ len' = 128 * nP len ∧ ∀ i, i < 128 * nP len → c[i]? = some (.int .u8 (padF f len i : Nat)) := by
  have hz : zN len < 128 := Nat.mod_lt _ (by decide)
  have he := nP_e len
  have hP1 : bvs len f = bvs len (padF f len) := bvs_cong fun i hi => by unfold padF; rw [if_pos hi]
  have hP2 : bvs len (padF f len) ++ bvs 1 (fun _ => 128) = bvs (len + 1) (padF f len) := bvs_app fun i hi => by unfold padF; rw [if_neg (by omega), if_pos (by omega)]
  have hP3 : ∀ k, k < zN len → bvs (len + 1 + k) (padF f len) ++ bvs 1 (fun _ => 0) = bvs (len + 1 + k + 1) (padF f len) := fun k hk => bvs_app fun i hi => by unfold padF; rw [if_neg (by omega), if_neg (by omega), if_pos (by omega)]
  have hP4 : bvs (len + 1 + zN len) (padF f len) ++ bvs 16 (cntF len) = bvs (len + 1 + zN len + 16) (padF f len) := bvs_app fun i hi => by unfold padF; rw [if_neg (by omega), if_neg (by omega), if_neg (by omega), show len + 1 + zN len + i - (len + 1 + zN len) = i by omega]
  have hPl : ∀ i, padF f len i < 256 := padF_lt hb.1 len
  have hst : (W0.alloc (.cells #[] 5)).ownsRow W0.heap.size 5 1 (.slice (some ⟨W0.heap.size, 0, none⟩) 0 0) 0 [] := ⟨rfl, .inr ⟨W0.heap.size, 0, #[], rfl, Nat.le_refl _, (MapKept.heap_alloc W0 _).1, Nat.le_refl _, by decide, rfl, rfl⟩⟩
  have hb0 : Below W0.heap.size W0 (W0.alloc (.cells #[] 5)) := (Below.refl _ W0).alloc (Nat.le_refl _) _
  have hb1 := hb.later hb0
  obtain ⟨PF, hPF⟩ : ∃ PF, Hid (PF = padF f len) := ⟨_, hide1 rfl⟩
  rw [← hPF.out] at hP1 hP2 hP3 hP4 hPl ⊢
  obtain ⟨Z, hZ⟩ : ∃ Z, Hid (Z = zN len) := ⟨_, hide1 rfl⟩
  obtain ⟨M, hM⟩ : ∃ M, Hid (M = 128 * nP len) := ⟨_, hide1 rfl⟩
  rw [← hZ.out] at hz he hP3 hP4
  rw [← hM.out] at he ⊢
  have hm128 : M % 128 = 0 := by rw [hM.out]; omega
  go_enter Tryz.func63, Tryz.ntmps63
  go_wp2_with (at_builtin; first
    | (refine wpList_append_f rfl (.tmp 11) (.tmp 12) rfl W0.heap.size _ 0 [] rfl hst a len cap f rfl hb1 (by omega) hb0.size ?_
       intro v1 w1 ho1 hg1 _
       rw [List.nil_append, Nat.zero_add, hP1] at ho1
       have hw1 := below_app hb0 hb0.size hst hg1
       clear hg1 hst hb0 hb1
       have hs1 := hw1.size)
    | (refine wpList_append_f rfl (.tmp 13) (.tmp 14) rfl W0.heap.size _ len (bvs len PF) rfl (ho1.alloc _) _ 1 1 (fun _ => 128) rfl (bs_one _ 128 (by decide)) (by omega) (by simp; omega) ?_
       intro v2 w2 ho2 hg2 _
       have hw2 := below_app (hw1.alloc hs1 _) (by simp; omega) (ho1.alloc _) hg2
       rw [hP2] at ho2
       clear hg2 ho1 hw1 hs1))
  go_loopw [7] (fun v wr => ∃ k : Nat, k ≤ Z ∧ wr.ownsRow W0.heap.size 5 1 v (len + 1 + k) (bvs (len + 1 + k) PF) ∧ Below W0.heap.size W0 wr) (fun v _ => M - slN v)
  case atStart => exact ⟨0, Nat.zero_le _, ho2, hw2⟩
  case round =>
    clear ho2 hw2
    obtain ⟨k, hk, ho, hw⟩ := hrel
    obtain ⟨L, hL⟩ : ∃ L, Hid (L = len + 1 + k) := ⟨_, hide1 rfl⟩
    rw [← hL.out] at ho
    obtain ⟨av, cv, rfl, -, -⟩ := bs_own ho hPl
    have hs := hw.size
    have hL1 : L ≤ 1099511627776 + 129 := by rw [hL.out]; omega
    by_cases hlt : k < Z
    · have hX := hide1 (hP3 k hlt)
      have hne : ((L : Int) + 16) % 128 ≠ 0 := by have := hL.out; omega
      go_wp2_with (at_builtin; refine wpList_append_f rfl (.tmp 23) (.tmp 24) rfl W0.heap.size _ L (bvs L PF) rfl (ho.alloc _) _ 1 1 (fun _ => 0) rfl (bs_one _ 0 (by decide)) (by omega) (by simp; omega) ?_; intro v' w' ho' hg' _; have hw' := below_app (hw.alloc hs _) (by simp; omega) (ho.alloc _) hg')
      go_roundw
      case rel => exact ⟨k + 1, by omega, by rw [hL.out, hX.out] at ho'; exact ho', hw'⟩
      case measure => rw [own_slN ho']; show M - (L + 1) < M - L; have := hL.out; omega
    · obtain rfl : k = Z := by omega
      have hLM : L + 16 = M := by rw [hL.out]; exact he
      have heq : ((L : Int) + 16) % 128 = 0 := by omega
      clear hP1 hP2 hP3
      have hmk : (Instr.makeSlice 31 (.int .i64 16) (.int .i64 16)).run Tryz.prog wr = .ok (.slice (some ⟨wr.heap.size, 0, none⟩) 16 16) (wr.alloc (.cells (ab 16 fun _ => 0) 5)) := by
        have h := run_make_row' (P := Tryz.prog) 31 5 (.int .u8 0) 1 Tryz.underlying31 info_u8 rfl .i64 .i64 16 (by omega) (by omega) wr
        rw [show madeCells #[.int .u8 0] 16 = ab 16 (fun _ => 0) by kernel_rfl] at h
        exact h
      have hr0 : (wr.alloc (.cells (ab 16 fun _ => 0) 5)).heap[wr.heap.size]? = some (.cells (ab 16 fun _ => 0) 5 (0, 0)) := (MapKept.heap_alloc wr _).1
      have ho1 := ho.alloc (.cells (ab 16 fun _ => 0) 5)
      have hw1 := hw.alloc hs (.cells (ab 16 fun _ => 0) 5)
      have hg1 : (wr.alloc (.cells (ab 16 fun _ => 0) 5)).heap.size = wr.heap.size + 1 := by simp
      have hav := ho.lt
      generalize wr.alloc (.cells (ab 16 fun _ => 0) 5) = w3 at *
      generalize hg : wr.heap.size = g at *
      have c15 : w3.cell? ⟨g, 15, none⟩ = some (.int .u8 0) := by rw [cell_of_row _ _ _ _ _ _ hr0]; exact arr_get _ _ _ (by omega)
      have f15 := froz_dg hr0 15
      go_wp2_with fail
      have hW := wrt_cell hr0 15 (.int .u8 (len % 32 * 8 : Nat))
      rw [ab_set, tF_z] at hW
      have hW : Wrt w3 (w3.setCell ⟨g, 15, none⟩ (.int .u8 ((len : Int) % 32 * 8))) g (ab 16 (tF len 15)) 5 := hW
      clear c15 f15 hmk hr0
      go_loopw [9, 10] (fun x i wr => ∃ j : Nat, j ≤ 15 ∧ x = .int .i64 (len / 32 / 256 ^ (15 - j) : Nat) ∧ i = .int .i64 ((j : Int) - 1) ∧ Wrt w3 wr g (ab 16 (tF len j)) 5) (fun _ i _ => (intOf i + 1).toNat)
      case atStart => exact ⟨15, by omega, by show _ = Value.int _ ((len / 32 / 1 : Nat) : Int); rw [Nat.div_one]; rfl, rfl, hW⟩
      case round =>
        clear hW
        obtain ⟨j, hj, rfl, rfl, hW⟩ := hrel
        rcases j with _ | m
        · rw [tF_e] at hW
          have ho3 := own_wrt ho1 hW (fun q hq => by have := hav q hq; omega)
          have hbs : Bs wr (some ⟨g, 0, none⟩) 16 (cntF len) := by
            have h := bs_ab (n := 16) (off := 0) (cnt_lt len) hW.row (by omega)
            simpa using h
          have hw3 : Below W0.heap.size W0 wr := below_wrt hw1 hW (by omega) (by omega)
          rw [← hL.out, hLM] at hP4
          rw [show (((0 : Nat) : Int) - 1) = -1 by rfl] at *
          clear hW ho1 hw1 ho hw
          have hs3 := hw3.size
          go_wp2_with (at_builtin; refine wpList_append_f rfl (.tmp 54) (.tmp 55) rfl W0.heap.size _ L (bvs L PF) rfl ho3 _ 16 16 (cntF len) rfl hbs (by omega) hs3 ?_; intro v' w' ho' hg' _; have hw' := below_app hw3 hs3 ho3 hg'; rw [hP4, hLM] at ho'; rcases ho'.2 with ⟨_, h0⟩ | ⟨q, c', cur, rfl, hbq, hgq, hnc, hcm, hcs, hty⟩)
          · exfalso; omega
          go_ret
          refine ⟨cur, q, M, c', rfl, hbq, hgq, hw', rfl, fun i hi => ?_⟩
          have h1 := ho'.cellAt i (by omega)
          rw [bvs_get PF hi] at h1
          rw [← h1, cell_of_row _ _ _ _ _ _ hgq]
        · have hX1 : len / 32 / 256 ^ (15 - (m + 1)) % 256 = cntF len m := by rw [cnt_ref len (by omega), show 15 - (m + 1) = 14 - m by omega]
          have hX2 := hide1 (show len / 32 / 256 ^ (15 - (m + 1)) / 256 = len / 32 / 256 ^ (15 - m) by rw [show 15 - m = 15 - (m + 1) + 1 by omega, Nat.pow_succ, Nat.div_div_eq_div_mul (len / 32)])
          have hX3 : len / 32 / 256 ^ (15 - (m + 1)) ≤ 1099511627776 := Nat.le_trans (Nat.div_le_self _ _) (by omega)
          rw [show (((m + 1 : Nat) : Int) - 1) = (m : Int) by omega] at *
          generalize len / 32 / 256 ^ (15 - (m + 1)) = X at *
          have hX1 := hide1 hX1
          have c1 : wr.cell? ⟨g, m, none⟩ = some (.int .u8 (tF len (m + 1) m : Nat)) := by rw [cell_of_row _ _ _ _ _ _ hW.row]; exact arr_get _ _ _ (by omega)
          have f1 := froz_dg hW.row m
          have hN := hW.trans (wrt_cell hW.row m (.int .u8 (X % 256 : Nat)))
          rw [ab_set, hX1.out, tF_s len (by omega), ← hX1.out] at hN
          have hN : Wrt w3 (wr.setCell ⟨g, m, none⟩ (.int .u8 ((X : Int) % 256))) g (ab 16 (tF len m)) 5 := hN
          have hN := hide1 hN
          go_wp2_with fail
          go_roundw
          case rel => exact ⟨m, by omega, by rw [← hX2.out]; rfl, rfl, hN.out⟩
          case measure => simp [intOf]
end Go.Proofs.YtacokkedomjgpaaGreatDoor.Lo

namespace Go.Proofs.YtacokkedomjgpaaGreatDoor
open Go.RowKit Go.Maps

theorem sq_row : au 8 sq = #[.int .u64 7640891576956012808, .int .u64 13503953896175478587, .int .u64 4354685564936845355, .int .u64 11912009170470909681, .int .u64 5840696475078001361, .int .u64 11170449401992604703, .int .u64 2270897969802886507, .int .u64 6620516959819538809] := by kernel_rfl
set_option maxRecDepth 100000 in
theorem roots_r (W0 : World) : Calls Tryz.prog 61 #[] W0 fun e w' => e = .returned (.slice (some ⟨W0.heap.size, 0, none⟩) 8 8) ∧ w'.heap[W0.heap.size]? = some (.cells (au 8 sq) 42 (0, 0)) ∧ Below W0.heap.size W0 w' := by
  rw [sq_row]
  go_enter Tryz.func61, Tryz.ntmps61
  go_wp2
  go_ret
  exact ⟨rfl, (MapKept.heap_alloc W0 _).1, (Below.refl _ W0).alloc (Nat.le_refl _) _⟩
end Go.Proofs.YtacokkedomjgpaaGreatDoor

namespace Go.Proofs.YtacokkedomjgpaaGreatDoor
open Go.RowKit Go.Maps

theorem cu_row : ((cuL.map Int.ofNat).map (Value.int .u64)).toArray = au 80 cu := by kernel_rfl
set_option maxHeartbeats 1000000 in
set_option maxRecDepth 100000 in
theorem table_r (W0 : World) : Calls Tryz.prog 62 #[] W0 fun e w' => e = .returned (.slice (some ⟨W0.heap.size, 0, none⟩) 80 80) ∧ w'.heap[W0.heap.size]? = some (.cells (au 80 cu) 42 (0, 0)) ∧ Below W0.heap.size W0 w' := by
  obtain ⟨T, hT⟩ : ∃ T, Hid (T = au 80 cu) := ⟨_, hide1 rfl⟩
  rw [← hT.out]
  go_enter Tryz.func62, Tryz.ntmps62
  go_wp2_with (refine wpList_buildFlat rfl 100 42 80 _ rfl .u64 (cuL.map Int.ofNat) Tryz.underlying100 (by kernel_rfl) (by kernel_rfl) (by kernel_rfl) (by omega) (by omega) (by kernel_rfl) ?_; rw [cu_row, ← hT.out])
  go_ret
  exact ⟨rfl, (MapKept.heap_alloc W0 _).1, (Below.refl _ W0).alloc (Nat.le_refl _) _⟩
end Go.Proofs.YtacokkedomjgpaaGreatDoor

namespace Go.Proofs.YtacokkedomjgpaaGreatDoor.Lo
open Go.RowKit

theorem bkH_lt {H f : Nat → Nat} (hH : ∀ i, H i < B64) : ∀ k i, bkH H f k i < B64
  | 0, i => hH i
  | k + 1, i => mixH_lt (bkH_lt hH k) i
def rT (p : Nat → Nat) (t : Nat) : Nat → Nat := if t ≤ 16 then r16 p t else r80 p (t - 16)
theorem rT_lo {p : Nat → Nat} {t : Nat} (h : t ≤ 16) : rT p t = r16 p t := if_pos h
theorem rT_hi (p : Nat → Nat) (k : Nat) : rT p (16 + k) = r80 p k := by
  unfold rT
  rcases k with _ | k
  · rw [if_pos (by omega)]; rfl
  · rw [if_neg (by omega), show 16 + (k + 1) - 16 = k + 1 by omega]
theorem rT_s (p : Nat → Nat) {t : Nat} (h : 16 ≤ t) : rT p (t + 1) = updN (rT p t) t ((((loW (rT p t (t - 2)) 19 61 6 + rT p t (t - 7)) % B64 + loW (rT p t (t - 15)) 1 8 7) % B64 + rT p t (t - 16)) % B64) := by
  obtain ⟨n, rfl⟩ : ∃ n, t = 16 + n := ⟨t - 16, by omega⟩
  rw [show 16 + n + 1 = 16 + (n + 1) by omega, rT_hi, rT_hi]
  rfl
theorem rT_lt {p : Nat → Nat} (hp : ∀ i, p i < 256) (t i : Nat) : rT p t i < B64 := by
  unfold rT
  split
  · exact r16_lt hp _ _
  · exact r80_lt hp _ _
def pk (F : Nat → Nat) (k i : Nat) : Nat := F (128 * k + i)
section
variable {x u : Operand}
theorem mul_w {m n : Nat} (w : World) : (do eqGuard .mul 42 x u (.int .u64 (m : Nat)) (.int .u64 (n : Nat)); binOp .mul 42 (.int .u64 (m : Nat)) (.int .u64 (n : Nat))).run Tryz.prog w = .ok (.int .u64 (m * n % B64 : Nat)) w := by
  simp [eqGuard, binOp, go_sem, w64, B64_i]
theorem sb_m {n : Nat} (hn : n < B64) (w : World) : (do eqGuard .sub 42 x u (.int .u64 (18446744073709551615 : Nat)) (.int .u64 (n : Nat)); binOp .sub 42 (.int .u64 (18446744073709551615 : Nat)) (.int .u64 (n : Nat))).run Tryz.prog w = .ok (.int .u64 (18446744073709551615 - n : Nat)) w := by
  have h : IntKind.u64.wrap (18446744073709551615 - (n : Int)) = ((18446744073709551615 - n : Nat) : Int) := by
    rw [w64]; unfold B64 at hn; omega
  simp [eqGuard, binOp, go_sem, h]
theorem sr_wu {m r : Nat} (hr : r ≤ 64) (w : World) : (do eqGuard .shr 42 x u (.int .u64 (m : Nat)) (.int .u64 (r : Nat)); binOp .shr 42 (.int .u64 (m : Nat)) (.int .u64 (r : Nat))).run Tryz.prog w = .ok (.int .u64 (m / 2 ^ r : Nat)) w := by
  simp [eqGuard, binOp, go_sem]
end
theorem cv_iu {n : Nat} (h : n < 1000) (w : World) : (convert 3 64 (.int .i64 (n : Nat))).run Tryz.prog w = .ok (.int .u64 (n : Nat)) w := by
  have h1 : IntKind.u64.wrap (n : Int) = ((n : Nat) : Int) := by rw [w64]; omega
  simp [convert, go_sem, h1]
theorem al8 (w : World) : (Instr.alloc 93 true (.tuple #[])).run Tryz.prog w = .ok (.pointer (some ⟨w.heap.size, 0, none⟩)) (w.alloc (.cells (au 8 fun _ => 0) 93)) := by
  have e : (zeroValue 93).run Tryz.prog w = .ok (.agg (au 8 fun _ => 0)) w := by kernel_rfl
  simp only [Instr.alloc, Sem.run_bind, e, Result.andThen_ok]
  rfl
theorem alW (w : World) : (Instr.alloc 103 true (.tuple #[])).run Tryz.prog w = .ok (.pointer (some ⟨w.heap.size, 0, none⟩)) (w.alloc (.cells (au 80 fun _ => 0) 103)) := by
  have e : (zeroValue 103).run Tryz.prog w = .ok (.agg (au 80 fun _ => 0)) w := by kernel_rfl
  simp only [Instr.alloc, Sem.run_bind, e, Result.andThen_ok]
  rfl
theorem alS (w : World) : (Instr.alloc 29 true (.tuple #[])).run Tryz.prog w = .ok (.pointer (some ⟨w.heap.size, 0, none⟩)) (w.alloc (.cells (ab 64 fun _ => 0) 29)) := by
  have e : (zeroValue 29).run Tryz.prog w = .ok (.agg (ab 64 fun _ => 0)) w := by kernel_rfl
  simp only [Instr.alloc, Sem.run_bind, e, Result.andThen_ok]
  rfl
theorem ld8a {F : Nat → Nat} (t0 : TypeId) (w : World) (q : Nat) (h : w.heap[q]? = some (.cells (au 8 F) t0 (0, 0))) : (Instr.loadAt 93 (.pointer (some ⟨q, 0, none⟩))).run Tryz.prog w = .ok (.agg (au 8 F)) w :=
  ld_row (c := au 8 F) Tryz.underlying93 rfl (by rw [au_size]; kernel_rfl) w q h
theorem st8a {F : Nat → Nat} {c : Array Value} (t0 : TypeId) (hc : c.size = 8) (w : World) (q : Nat) (h : w.heap[q]? = some (.cells c t0 (0, 0))) : (Instr.storeAt 93 (.pointer (some ⟨q, 0, none⟩)) (.agg (au 8 F))).run Tryz.prog w = .ok () (w.setRow q (au 8 F)) :=
  st_row (n := au 8 F) (by rw [au_size]; kernel_rfl) (by rw [hc, au_size]) (au_one _ _) w q h
theorem ldS {F : Nat → Nat} (t0 : TypeId) (w : World) (q : Nat) (h : w.heap[q]? = some (.cells (ab 64 F) t0 (0, 0))) : (Instr.loadAt 29 (.pointer (some ⟨q, 0, none⟩))).run Tryz.prog w = .ok (.agg (ab 64 F)) w :=
  ld_row (c := ab 64 F) Tryz.underlying29 rfl (by rw [ab_size]; kernel_rfl) w q h
theorem stS {F : Nat → Nat} {c : Array Value} (t0 : TypeId) (hc : c.size = 64) (w : World) (q : Nat) (h : w.heap[q]? = some (.cells c t0 (0, 0))) : (Instr.storeAt 29 (.pointer (some ⟨q, 0, none⟩)) (.agg (ab 64 F))).run Tryz.prog w = .ok () (w.setRow q (ab 64 F)) :=
  st_row (n := ab 64 F) (by rw [ab_size]; kernel_rfl) (by rw [hc, ab_size]) (ab_one _ _) w q h
theorem ix8h {i : Nat} (hi : i < 8) (w : World) (q : Nat) : (Instr.indexAt 93 (.pointer (some ⟨q, 0, none⟩)) (.int .i64 (i : Nat))).run Tryz.prog w = .ok (.pointer (some ⟨q, i, none⟩)) w := by
  simp [Instr.indexAt, go_sem, hi, addr_add]
theorem ixW {i : Nat} (hi : i < 80) (w : World) (q : Nat) : (Instr.indexAt 103 (.pointer (some ⟨q, 0, none⟩)) (.int .i64 (i : Nat))).run Tryz.prog w = .ok (.pointer (some ⟨q, i, none⟩)) w := by
  simp [Instr.indexAt, go_sem, hi, addr_add]
theorem ixS {i : Nat} (hi : i < 64) (w : World) (q : Nat) : (Instr.indexAt 29 (.pointer (some ⟨q, 0, none⟩)) (.int .i64 (i : Nat))).run Tryz.prog w = .ok (.pointer (some ⟨q, i, none⟩)) w := by
  simp [Instr.indexAt, go_sem, hi, addr_add]
theorem ix_pq {off n c i : Nat} (hi : i < n) (w : World) (q : Nat) : (Instr.indexAt 100 (fv (sl off n c) q) (.int .i64 (i : Nat))).run Tryz.prog w = .ok (.pointer (some ⟨q, off + i, none⟩)) w := by
  simp [fv, Instr.indexAt, go_sem, hi]
theorem ld_pb {c : Array Value} {M k off i : Nat} {F : Nat → Nat} {t0 : TypeId} (hc : ∀ i, i < M → c[i]? = some (.int .u8 (F i : Nat))) (hi : off = 128 * k + i) (hM : off < M) (w : World) (q : Nat) (h : w.heap[q]? = some (.cells c t0 (0, 0))) : (Instr.loadAt 5 (.pointer (some ⟨q, off, none⟩))).run Tryz.prog w = .ok (.int .u8 (pk F k i : Nat)) w := by
  have h1 : w.cell? ⟨q, off, none⟩ = some (.int .u8 (pk F k i : Nat)) := by
    rw [cell_of_row _ _ _ _ _ _ h]
    show c[off]? = _
    rw [hc off hM, hi]; rfl
  simp [Instr.loadAt, Instr.sureAddr, go_sem, h1]
theorem wide_k {x n : Nat} (hx : x < B64) (hn : n ≤ 64) (w : World) : Calls Tryz.prog 64 #[.int .u64 (x : Nat), .int .u64 (n : Nat)] w fun e w' => e = .returned (.int .u64 (tu x n : Nat)) ∧ Below w.heap.size w w' :=
  (wide_r hx hn w).mono fun e w' h => ⟨h.1, by rw [h.2]; exact Below.refl _ _⟩
theorem roots_k (w : World) : Calls Tryz.prog 61 #[] w fun e w' => ∃ q, e = .returned (fv (sl 0 8 8) q) ∧ w.heap.size ≤ q ∧ w'.heap[q]? = some (.cells (au 8 sq) 42 (0, 0)) ∧ Below w.heap.size w w' :=
  (roots_r w).mono fun _ _ h => ⟨_, h.1, Nat.le_refl _, h.2.1, h.2.2⟩
theorem table_k (w : World) : Calls Tryz.prog 62 #[] w fun e w' => ∃ q, e = .returned (fv (sl 0 80 80) q) ∧ w.heap.size ≤ q ∧ w'.heap[q]? = some (.cells (au 80 cu) 42 (0, 0)) ∧ Below w.heap.size w w' :=
  (table_r w).mono fun _ _ h => ⟨_, h.1, Nat.le_refl _, h.2.1, h.2.2⟩
theorem um_lt (n : Nat) : 18446744073709551615 - n < B64 := by unfold B64; omega
/-! Turns of what blocks hold. -/
theorem bw_s {p F : Nat → Nat} {t j : Nat} (hp : ∀ i, p i < 256) : au 80 (updN (bwF p F t j) t ((bwF p F t j t * 256 % B64 + p (t * 8 + j)) % B64)) = au 80 (bwF p F t (j + 1)) := by
  have h1 := byte_add (x := bwF p F t j t) (hp (t * 8 + j))
  have h2 : bwF p F t j t * 2 ^ 8 % B64 ||| p (t * 8 + j) < B64 := or_lt (mod_B _) (b256 (hp _))
  rw [h1, Nat.mod_eq_of_lt h2]
  rfl
theorem rT_z (p : Nat → Nat) {t : Nat} (h : t < 16) : au 80 (rT p t) = au 80 (bwF p (r16 p t) t 0) := by rw [rT_lo (by omega)]; rfl
theorem rT_e (p : Nat → Nat) {t : Nat} (h : t < 16) : au 80 (bwF p (r16 p t) t 8) = au 80 (rT p (t + 1)) := by rw [rT_lo (by omega)]; rfl
theorem rT_n (p : Nat → Nat) {t : Nat} (h : 16 ≤ t) : au 80 (updN (rT p t) t ((((((tu (rT p t (t - 2)) 19 ^^^ tu (rT p t (t - 2)) 61) ^^^ rT p t (t - 2) / 2 ^ 6) + rT p t (t - 7)) % B64 + ((tu (rT p t (t - 15)) 1 ^^^ tu (rT p t (t - 15)) 8) ^^^ rT p t (t - 15) / 2 ^ 7)) % B64 + rT p t (t - 16)) % B64)) = au 80 (rT p (t + 1)) := by
  rw [rT_s p h]; rfl
theorem rT_0 (p : Nat → Nat) : au 80 (fun _ => 0) = au 80 (rT p 0) := by rw [rT_lo (by omega)]; rfl
def g8 (a b c d e f g h i : Nat) : Nat := match i with
  | 0 => a
  | 1 => b
  | 2 => c
  | 3 => d
  | 4 => e
  | 5 => f
  | 6 => g
  | _ => h
theorem vS_n {H R : Nat → Nat} (hH : ∀ i, H i < B64) (t : Nat) (one two : Nat) (h1 : one = (((((vS H R t 7 + ((tu (vS H R t 4) 14 ^^^ tu (vS H R t 4) 18) ^^^ tu (vS H R t 4) 41)) % B64 + ((vS H R t 4 &&& vS H R t 5) + ((18446744073709551615 - vS H R t 4) &&& vS H R t 6)) % B64) % B64 + cu t) % B64 + R t) % B64))
    (h2 : two = ((((tu (vS H R t 0) 28 ^^^ tu (vS H R t 0) 34) ^^^ tu (vS H R t 0) 39) + (((vS H R t 0 &&& vS H R t 1) ||| (vS H R t 0 &&& vS H R t 2)) ||| (vS H R t 1 &&& vS H R t 2))) % B64)) :
    au 8 (g8 ((one + two) % B64) (vS H R t 0) (vS H R t 1) (vS H R t 2) ((vS H R t 3 + one) % B64) (vS H R t 4) (vS H R t 5) (vS H R t 6)) = au 8 (vS H R (t + 1)) := by
  rw [ch_add (vS_lt hH t 4) (vS_lt hH t 5) (vS_lt hH t 6)] at h1
  have hc0 : cu t = cu t / 2 ^ 0 := by rw [Nat.pow_zero, Nat.div_one]
  rw [hc0] at h1
  have e0 := vS_s0 H R t
  have e4 := vS_s4 H R t
  refine arr_congr fun i hi => ?_
  have h : i = 0 ∨ i = 1 ∨ i = 2 ∨ i = 3 ∨ i = 4 ∨ i = 5 ∨ i = 6 ∨ i = 7 := by omega
  have hw : ∀ m n : Nat, m = n → Value.int .u64 (m : Nat) = Value.int .u64 (n : Nat) := fun m n h => by rw [h]
  rcases h with rfl | rfl | rfl | rfl | rfl | rfl | rfl | rfl
  · refine hw _ _ ?_
    rw [← e0, h1, h2]; rfl
  · exact hw _ _ (vS_s1 H R t)
  · exact hw _ _ (vS_s2 H R t)
  · exact hw _ _ (vS_s3 H R t)
  · refine hw _ _ ?_
    rw [← e4, h1]; rfl
  · exact hw _ _ (vS_s5 H R t)
  · exact hw _ _ (vS_s6 H R t)
  · exact hw _ _ (vS_s7 H R t)
theorem bk_n (F : Nat → Nat) (k : Nat) : au 8 (hF (bkH (bgF 8) F k) (vS (bkH (bgF 8) F k) (rT (pk F k) 80) 80) 8) = au 8 (bkH (bgF 8) F (k + 1)) := by
  rw [show rT (pk F k) 80 = r80 (pk F k) 64 from rT_hi _ 64]; rfl
def oF (H : Nat → Nat) (k i : Nat) : Nat := if i < k then H (i / 8) / 256 ^ (7 - i % 8) % 256 else 0
theorem oF_0 (H : Nat → Nat) : ab 64 (fun _ => 0) = ab 64 (oF H 0) := arr_congr fun i _ => by unfold oF; rw [if_neg (by omega)]
theorem oF_n (H : Nat → Nat) (k : Nat) : ab 64 (updN (oF H k) k (H (k / 8) / 2 ^ (8 * (7 - k % 8)) % 256)) = ab 64 (oF H (k + 1)) := arr_congr fun i _ => by
  have e : 2 ^ (8 * (7 - k % 8)) = 256 ^ (7 - k % 8) := by rw [Nat.pow_mul]
  rw [e]
  unfold updN oF
  by_cases h : i = k
  · subst h; rw [if_pos rfl, if_pos (by omega)]
  · rw [if_neg h]
    by_cases h1 : i < k
    · rw [if_pos h1, if_pos (by omega)]
    · rw [if_neg h1, if_neg (by omega)]
theorem oF_e (H : Nat → Nat) : ab 64 (oF H 64) = ab 64 (outF (fun _ => 0) H 8) := arr_congr fun i hi => by
  unfold oF
  rw [if_pos hi, outF_e 8 i (by omega)]
theorem st_abS {N i v : Nat} {F : Nat → Nat} {t0 : TypeId} (hi : i < N) (w : World) (q : Nat) (h : w.heap[q]? = some (.cells (ab N F) t0 (0, 0))) : (Instr.storeAt 5 (.pointer (some ⟨q, i, none⟩)) (.int .u8 (v : Nat))).run Tryz.prog w = .ok () (w.setRow q (ab N (updN F i v))) := st_ab hi w q h
end Go.Proofs.YtacokkedomjgpaaGreatDoor.Lo

namespace Go.Proofs.YtacokkedomjgpaaGreatDoor.Lo
open Go.RowKit
theorem ld_au0 {t0 : TypeId} {n i : Nat} {F : Nat → Nat} (hi : i < n) (w : World) (q : Nat) (h : w.heap[q]? = some (.cells (au n F) t0 (0, 0))) : (Instr.loadAt 42 (.pointer (some ⟨q, 0 + i, none⟩))).run Tryz.prog w = .ok (.int .u64 (F i : Nat)) w := by
  rw [Nat.zero_add]; exact ld_au hi w q h
set_option maxHeartbeats 16000000 in
set_option maxRecDepth 100000 in
theorem refLong_r {aa : Option Addr} {len cap : Nat} {f : Nat → Nat} {W0 : World} (hb : Bs W0 aa len f) (hlen : len ≤ 1099511627776) : Calls Tryz.prog 27 #[.slice aa len cap] W0 fun e w' => e = .returned (.agg (ab 64 (oF (bkH (bgF 8) (padF f len) (nP len)) 64))) ∧ Below W0.heap.size W0 w' := by
  refine s_in Tryz.func27 Tryz.ntmps27 rfl [.inl (.slice aa len cap)] ?_
  intro β a h
  refine sym_seq ?_
  refine St.rg h [(2, .inr (0, pt 0))] [(ab 64 (fun _ => 0), 29)] [] [eN 0] ?_ ?_
  · exact oc (k_al 0 alS rfl rfl) <|
    ok_nil
  clear h; intro β a w h
  refine sym_then ?_
  refine sym_seq ?_
  refine St.rg h [(3, .inr (1, pt 0))] [(au 8 (fun _ => 0), 93)] [] [eN 1] ?_ ?_
  · exact oc (k_al 1 al8 rfl rfl) <|
    ok_nil
  clear h; intro β a w h
  refine sym_then ?_
  refine sym_seq ?_
  refine St.rg h [(23, .inr (2, sl 0 8 8)), (4, .inr (2, sl 0 8 8))] [(au 8 sq, 42)] [] [eN 2] ?_ ?_
  · exact oc (k_cn 61 #[] 2 (sl 0 8 8) (fun w _ => roots_k w) rfl rfl) <|
    oz (k_mp 2 (sl 0 8 8) (.inr rfl) rfl) <|
    ok_nil
  clear h; intro β a w h
  refine sym_then ?_
  refine sym_seq ?_
  refine St.rg h [(24, .inr (3, sl 0 80 80)), (5, .inr (3, sl 0 80 80))] [(au 80 cu, 42)] [] [eN 3] ?_ ?_
  · exact oc (k_cn 62 #[] 3 (sl 0 80 80) (fun w _ => table_k w) rfl rfl) <|
    oz (k_mp 3 (sl 0 80 80) (.inr rfl) rfl) <|
    ok_nil
  clear h; intro β a w h
  refine sym_then ?_
  refine sym_seq ?_
  refine sym_seq ?_
  refine St.r0 h [(6, .inl (.int .i64 (0 : Nat)))] [] ?_ ?_
  · exact oz (k_mv (.inr rfl) rfl) <|
    ok_nil
  clear h; intro β a w h
  refine sym_then ?_
  refine blk_in ?_
  replace h := St.sm h 1 (au 8 (bgF 0)) (c := au 8 (fun _ => 0)) (t := 93) rfl
  obtain ⟨x, h⟩ := St.jn (n := 222) h [0, 2, 3, 4, 5, 6] [.inl (.slice aa len cap), .inr (0, pt 0), .inr (1, pt 0), .inr (2, sl 0 8 8), .inr (3, sl 0 80 80), .inl (.int .i64 (0 : Nat))] [(ab 64 (fun _ => 0), 29), (au 8 (bgF 0), 93), (au 8 sq, 42), (au 80 cu, 42)] (by kernel_rfl) (by kernel_rfl) (by kernel_rfl)
  refine loop_up 8 (fun i0 a w => ∃ (x : Nat → SV) (β : Nat → Nat), St (wd W0) (ov (jk 222 x) ([0, 2, 3, 4, 5, 6].zip [.inl (.slice aa len cap), .inr (0, pt 0), .inr (1, pt 0), .inr (2, sl 0 8 8), .inr (3, sl 0 80 80), .inl (.int .i64 (i0 : Nat))])) [(ab 64 (fun _ => 0), 29), (au 8 (bgF i0), 93), (au 8 sq, 42), (au 80 cu, 42)] β a w) ⟨x, _, h⟩ ?_
  clear h; rintro i0 a w hki0 ⟨x, β, h⟩
  rcases Nat.lt_or_ge i0 8 with hlti0 | hgei0
  · refine sym_seq ?_
    refine sym_seq ?_
    refine St.r0 h [(25, .inl (.int .i64 (i0 : Nat))), (26, .inl (.bool true))] [] ?_ ?_
    · exact oz (k_mv (.inl rfl) rfl) <|
      oz (k_bi (.int .i64 (i0 : Nat)) (.int .i64 (8 : Nat)) (.bool true) (lt_i (m := ((i0 : Nat) : Int)) (n := ((8 : Nat) : Int)) (decide_eq_true (by omega))) rfl rfl) <|
      ok_nil
    clear h; intro β a w h
    refine sym_then ?_
    refine s_ct h ?_
    refine wp_skip ?_
    refine sym_then ?_
    refine sym_seq ?_
    refine blk_in ?_
    refine St.rg h [(29, .inl (.int .i64 (i0 : Nat))), (30, .inr (2, sl 0 8 8)), (31, .inl (.int .i64 (i0 : Nat))), (32, .inr (2, pt (0 + i0))), (33, .inl (.int .u64 ((sq i0) : Nat))), (34, .inr (1, pt i0))] [] [(1, au 8 (updN (bgF i0) i0 (sq i0)))] [nn, nn, nn, nn, eR 2, nn, eS 1] ?_ ?_
    · exact oc (k_mv (.inl rfl) rfl) <|
      oc (k_mp 2 (sl 0 8 8) (.inl rfl) rfl) <|
      oc (k_mv (.inl rfl) rfl) <|
      oc (k_ib 2 ((0 + i0)) (sl 0 8 8) (.int .i64 (i0 : Nat)) (ix_pq (i := i0) (by omega)) rfl rfl) <|
      oc (k_ld 2 ((0 + i0)) (.int .u64 ((sq i0) : Nat)) (c := au 8 sq) (ld_au0 (n := 8) (F := sq) (i := i0) (t0 := 42) (by omega)) rfl rfl) <|
      oc (k_ia 1 0 i0 (.int .i64 (i0 : Nat)) (ix8h (i := i0) (by omega)) rfl rfl) <|
      oc (k_st 1 i0 (.int .u64 ((sq i0) : Nat)) (c := au 8 (bgF i0)) (n := au 8 (updN (bgF i0) i0 (sq i0))) (st_au (n := 8) (F := (bgF i0)) (i := i0) (v := (sq i0)) (t0 := 93) (by omega)) rfl rfl) <|
      ok_nil
    clear h; intro β a w h
    refine blk_norm ?_
    refine sym_then ?_
    refine St.r0 h [(27, .inl (.int .i64 (i0 : Nat))), (28, .inl (.int .i64 ((i0 + 1) : Nat))), (6, .inl (.int .i64 ((i0 + 1) : Nat)))] [eO] ?_ ?_
    · exact oc (k_m0 rfl rfl) <|
      oz (k_bi (.int .i64 (i0 : Nat)) (.int .i64 (1 : Nat)) (.int .i64 ((i0 + 1) : Nat)) (ad_i (m := i0) (n := 1) (by omega)) rfl rfl) <|
      oz (k_mv (.inr rfl) rfl) <|
      ok_nil
    clear h; intro β a w h
    replace h := St.sm h 1 (au 8 (bgF (i0 + 1))) (c := au 8 (updN (bgF i0) i0 (sq i0))) (t := 93) (by show _ = au 8 (updN (bgF i0) i0 (sq i0 / 2 ^ 0)); rw [Nat.pow_zero, Nat.div_one])
    obtain ⟨x, h⟩ := St.jn (n := 222) h [0, 2, 3, 4, 5, 6] [.inl (.slice aa len cap), .inr (0, pt 0), .inr (1, pt 0), .inr (2, sl 0 8 8), .inr (3, sl 0 80 80), .inl (.int .i64 ((i0 + 1) : Nat))] [(ab 64 (fun _ => 0), 29), (au 8 (bgF (i0 + 1)), 93), (au 8 sq, 42), (au 80 cu, 42)] (by kernel_rfl) (by kernel_rfl) (by kernel_rfl)
    exact ⟨hlti0, x, _, h⟩
  · obtain rfl : 8 = i0 := by omega
    refine sym_seq ?_
    refine sym_seq ?_
    refine St.r0 h [(25, .inl (.int .i64 (8 : Nat))), (26, .inl (.bool false))] [] ?_ ?_
    · exact oz (k_mv (.inl rfl) rfl) <|
      oz (k_bi (.int .i64 (8 : Nat)) (.int .i64 (8 : Nat)) (.bool false) (lt_i (m := ((8 : Nat) : Int)) (n := ((8 : Nat) : Int)) (decide_eq_false (by omega))) rfl rfl) <|
      ok_nil
    clear h; intro β a w h
    refine sym_then ?_
    refine s_cf h ?_
    refine wp_exit ?_
    refine then_exit ?_
    refine then_exit ?_
    refine blk_exit ?_
    refine sym_then ?_
    refine sym_seq ?_
    refine reg_c3 h (.slice aa len cap) 5 (fun c l _ => l = 128 * nP len ∧ ∀ i, i < 128 * nP len → c[i]? = some (.int .u8 (padF f len i : Nat))) (padded_r (cap := cap) (hb.later h.bel.below) hlen) ?_ rfl rfl rfl rfl rfl rfl rfl rfl rfl (hxs := fun a' e => by simp only [List.map_toArray, List.map_cons, List.map_nil, e]; rfl)
    clear h; rintro c M pc β a w ⟨hM, hc⟩ h
    have hPF := padF_lt hb.1 len
    have hMl : M ≤ 1099511628288 := by have := nP_e len; have : zN len < 128 := Nat.mod_lt _ (by decide); omega
    rw [← hM] at hc
    generalize padF f len = PF at *; generalize nP len = NP at *
    refine sym_then ?_
    refine sym_seq ?_
    refine sym_seq ?_
    refine St.r0 h [(8, .inl (.int .i64 (0 : Nat)))] [] ?_ ?_
    · exact oz (k_mv (.inr rfl) rfl) <|
      ok_nil
    clear h; intro β a w h
    refine sym_then ?_
    refine blk_in ?_
    replace h := St.sm h 1 (au 8 (bkH (bgF 8) PF 0)) (c := au 8 (bgF 8)) (t := 93) rfl
    replace h := St.ss h 8 (.int .i64 ((128 * 0) : Nat)) (v := .int .i64 (0 : Nat)) rfl
    obtain ⟨x, h⟩ := St.jn (n := 222) h [0, 2, 3, 4, 5, 6, 7, 8] [.inl (.slice aa len cap), .inr (0, pt 0), .inr (1, pt 0), .inr (2, sl 0 8 8), .inr (3, sl 0 80 80), .inl (.int .i64 (8 : Nat)), .inr (4, sl 0 M pc), .inl (.int .i64 ((128 * 0) : Nat))] [(ab 64 (fun _ => 0), 29), (au 8 (bkH (bgF 8) PF 0), 93), (au 8 sq, 42), (au 80 cu, 42), (c, 5)] (by kernel_rfl) (by kernel_rfl) (by kernel_rfl)
    refine loop_up NP (fun k a w => ∃ (x : Nat → SV) (β : Nat → Nat), St (wd W0) (ov (jk 222 x) ([0, 2, 3, 4, 5, 6, 7, 8].zip [.inl (.slice aa len cap), .inr (0, pt 0), .inr (1, pt 0), .inr (2, sl 0 8 8), .inr (3, sl 0 80 80), .inl (.int .i64 (8 : Nat)), .inr (4, sl 0 M pc), .inl (.int .i64 ((128 * k) : Nat))])) [(ab 64 (fun _ => 0), 29), (au 8 (bkH (bgF 8) PF k), 93), (au 8 sq, 42), (au 80 cu, 42), (c, 5)] β a w) ⟨x, _, h⟩ ?_
    clear h; rintro k a w hkk ⟨x, β, h⟩
    have hH : ∀ i, bkH (bgF 8) PF k i < B64 := bkH_lt bgF_lt k
    have hp : ∀ i, pk PF k i < 256 := fun i => hPF _
    rcases Nat.lt_or_ge k NP with hltk | hgek
    · refine sym_seq ?_
      refine sym_seq ?_
      refine St.r0 h [(37, .inl (.int .i64 ((128 * k) : Nat))), (38, .inr (4, sl 0 M pc)), (39, .inl (.int .i64 (M : Nat))), (40, .inl (.bool true))] [] ?_ ?_
      · exact oz (k_mv (.inl rfl) rfl) <|
        oz (k_mp 4 (sl 0 M pc) (.inl rfl) rfl) <|
        oz (k_lb 4 0 M pc rfl rfl (fun w ad => len_b _ w)) <|
        oz (k_bi (.int .i64 ((128 * k) : Nat)) (.int .i64 (M : Nat)) (.bool true) (lt_i (m := (((128 * k) : Nat) : Int)) (n := ((M : Nat) : Int)) (decide_eq_true (by omega))) rfl rfl) <|
        ok_nil
      clear h; intro β a w h
      refine sym_then ?_
      refine s_ct h ?_
      refine wp_skip ?_
      refine sym_then ?_
      refine sym_seq ?_
      refine blk_in ?_
      refine sym_seq ?_
      refine St.rg h [(9, .inr (5, pt 0))] [(au 80 (fun _ => 0), 103)] [] [eN 5] ?_ ?_
      · exact oc (k_al 5 alW rfl rfl) <|
        ok_nil
      clear h; intro β a w h
      refine sym_then ?_
      refine sym_seq ?_
      refine sym_seq ?_
      refine St.r0 h [(10, .inl (.int .i64 (0 : Nat)))] [] ?_ ?_
      · exact oz (k_mv (.inr rfl) rfl) <|
        ok_nil
      clear h; intro β a w h
      refine sym_then ?_
      refine blk_in ?_
      replace h := St.sm h 5 (au 80 (rT (pk PF k) 0)) (c := au 80 (fun _ => 0)) (t := 103) (rT_0 _)
      obtain ⟨x, h⟩ := St.jn (n := 222) h [0, 2, 3, 4, 5, 6, 7, 8, 9, 10] [.inl (.slice aa len cap), .inr (0, pt 0), .inr (1, pt 0), .inr (2, sl 0 8 8), .inr (3, sl 0 80 80), .inl (.int .i64 (8 : Nat)), .inr (4, sl 0 M pc), .inl (.int .i64 ((128 * k) : Nat)), .inr (5, pt 0), .inl (.int .i64 (0 : Nat))] [(ab 64 (fun _ => 0), 29), (au 8 (bkH (bgF 8) PF k), 93), (au 8 sq, 42), (au 80 cu, 42), (c, 5), (au 80 (rT (pk PF k) 0), 103)] (by kernel_rfl) (by kernel_rfl) (by kernel_rfl)
      refine loop_up 80 (fun t a w => ∃ (x : Nat → SV) (β : Nat → Nat), St (wd W0) (ov (jk 222 x) ([0, 2, 3, 4, 5, 6, 7, 8, 9, 10].zip [.inl (.slice aa len cap), .inr (0, pt 0), .inr (1, pt 0), .inr (2, sl 0 8 8), .inr (3, sl 0 80 80), .inl (.int .i64 (8 : Nat)), .inr (4, sl 0 M pc), .inl (.int .i64 ((128 * k) : Nat)), .inr (5, pt 0), .inl (.int .i64 (t : Nat))])) [(ab 64 (fun _ => 0), 29), (au 8 (bkH (bgF 8) PF k), 93), (au 8 sq, 42), (au 80 cu, 42), (c, 5), (au 80 (rT (pk PF k) t), 103)] β a w) ⟨x, _, h⟩ ?_
      clear h; rintro t a w hkt ⟨x, β, h⟩
      rcases Nat.lt_or_ge t 80 with hltt | hget
      · rcases Nat.lt_or_ge t 16 with h16 | h16
        · refine sym_seq ?_
          refine sym_seq ?_
          refine St.r0 h [(43, .inl (.int .i64 (t : Nat))), (44, .inl (.bool true))] [] ?_ ?_
          · exact oz (k_mv (.inl rfl) rfl) <|
            oz (k_bi (.int .i64 (t : Nat)) (.int .i64 (80 : Nat)) (.bool true) (lt_i (m := ((t : Nat) : Int)) (n := ((80 : Nat) : Int)) (decide_eq_true (by omega))) rfl rfl) <|
            ok_nil
          clear h; intro β a w h
          refine sym_then ?_
          refine s_ct h ?_
          refine wp_skip ?_
          refine sym_then ?_
          refine sym_seq ?_
          refine blk_in ?_
          refine sym_seq ?_
          refine sym_seq ?_
          refine St.r0 h [(47, .inl (.int .i64 (t : Nat))), (48, .inl (.bool true))] [] ?_ ?_
          · exact oz (k_mv (.inl rfl) rfl) <|
            oz (k_bi (.int .i64 (t : Nat)) (.int .i64 (16 : Nat)) (.bool true) (lt_i (m := ((t : Nat) : Int)) (n := ((16 : Nat) : Int)) (decide_eq_true (by omega))) rfl rfl) <|
            ok_nil
          clear h; intro β a w h
          refine sym_then ?_
          refine s_ct h ?_
          refine sym_seq ?_
          refine sym_seq ?_
          refine St.r0 h [(11, .inl (.int .i64 (0 : Nat)))] [] ?_ ?_
          · exact oz (k_mv (.inr rfl) rfl) <|
            ok_nil
          clear h; intro β a w h
          refine sym_then ?_
          refine blk_in ?_
          replace h := St.sm h 5 (au 80 (bwF (pk PF k) (r16 (pk PF k) t) t 0)) (c := au 80 (rT (pk PF k) t)) (t := 103) (rT_z _ h16)
          obtain ⟨x, h⟩ := St.jn (n := 222) h [0, 2, 3, 4, 5, 6, 7, 8, 9, 10, 11] [.inl (.slice aa len cap), .inr (0, pt 0), .inr (1, pt 0), .inr (2, sl 0 8 8), .inr (3, sl 0 80 80), .inl (.int .i64 (8 : Nat)), .inr (4, sl 0 M pc), .inl (.int .i64 ((128 * k) : Nat)), .inr (5, pt 0), .inl (.int .i64 (t : Nat)), .inl (.int .i64 (0 : Nat))] [(ab 64 (fun _ => 0), 29), (au 8 (bkH (bgF 8) PF k), 93), (au 8 sq, 42), (au 80 cu, 42), (c, 5), (au 80 (bwF (pk PF k) (r16 (pk PF k) t) t 0), 103)] (by kernel_rfl) (by kernel_rfl) (by kernel_rfl)
          refine loop_up 8 (fun j a w => ∃ (x : Nat → SV) (β : Nat → Nat), St (wd W0) (ov (jk 222 x) ([0, 2, 3, 4, 5, 6, 7, 8, 9, 10, 11].zip [.inl (.slice aa len cap), .inr (0, pt 0), .inr (1, pt 0), .inr (2, sl 0 8 8), .inr (3, sl 0 80 80), .inl (.int .i64 (8 : Nat)), .inr (4, sl 0 M pc), .inl (.int .i64 ((128 * k) : Nat)), .inr (5, pt 0), .inl (.int .i64 (t : Nat)), .inl (.int .i64 (j : Nat))])) [(ab 64 (fun _ => 0), 29), (au 8 (bkH (bgF 8) PF k), 93), (au 8 sq, 42), (au 80 cu, 42), (c, 5), (au 80 (bwF (pk PF k) (r16 (pk PF k) t) t j), 103)] β a w) ⟨x, _, h⟩ ?_
          clear h; rintro j a w hkj ⟨x, β, h⟩
          rcases Nat.lt_or_ge j 8 with hltj | hgej
          · refine sym_seq ?_
            refine sym_seq ?_
            refine St.r0 h [(49, .inl (.int .i64 (j : Nat))), (50, .inl (.bool true))] [] ?_ ?_
            · exact oz (k_mv (.inl rfl) rfl) <|
              oz (k_bi (.int .i64 (j : Nat)) (.int .i64 (8 : Nat)) (.bool true) (lt_i (m := ((j : Nat) : Int)) (n := ((8 : Nat) : Int)) (decide_eq_true (by omega))) rfl rfl) <|
              ok_nil
            clear h; intro β a w h
            refine sym_then ?_
            refine s_ct h ?_
            refine wp_skip ?_
            refine sym_then ?_
            refine sym_seq ?_
            refine blk_in ?_
            refine St.rg h [(53, .inl (.int .i64 (t : Nat))), (54, .inl (.int .i64 (t : Nat))), (55, .inr (5, pt t)), (56, .inl (.int .u64 ((bwF (pk PF k) (r16 (pk PF k) t) t j t) : Nat))), (57, .inl (.int .u64 (((bwF (pk PF k) (r16 (pk PF k) t) t j t) * 256 % B64) : Nat))), (58, .inr (4, sl 0 M pc)), (59, .inl (.int .i64 ((128 * k) : Nat))), (60, .inl (.int .i64 (t : Nat))), (61, .inl (.int .i64 ((8 * t) : Nat))), (62, .inl (.int .i64 (((128 * k) + (8 * t)) : Nat))), (63, .inl (.int .i64 (j : Nat))), (64, .inl (.int .i64 ((((128 * k) + (8 * t)) + j) : Nat))), (65, .inr (4, pt (0 + (((128 * k) + (8 * t)) + j)))), (66, .inl (.int .u8 ((pk PF k (t * 8 + j)) : Nat))), (67, .inl (.int .u64 ((pk PF k (t * 8 + j)) : Nat))), (68, .inl (.int .u64 ((((((bwF (pk PF k) (r16 (pk PF k) t) t j t) * 256 % B64) + (pk PF k (t * 8 + j))) % B64) : Nat) : Int))), (69, .inr (5, pt t))] [] [(5, au 80 (updN (bwF (pk PF k) (r16 (pk PF k) t) t j) t ((((bwF (pk PF k) (r16 (pk PF k) t) t j t) * 256 % B64) + (pk PF k (t * 8 + j))) % B64)))] [nn, nn, nn, eR 5, nn, nn, nn, nn, nn, nn, nn, nn, nn, eR 4, nn, nn, nn, eS 5] ?_ ?_
            · exact oc (k_mv (.inl rfl) rfl) <|
              oc (k_mv (.inl rfl) rfl) <|
              oc (k_ia 5 0 t (.int .i64 (t : Nat)) (ixW (i := t) (by omega)) rfl rfl) <|
              oc (k_ld 5 t (.int .u64 ((bwF (pk PF k) (r16 (pk PF k) t) t j t) : Nat)) (c := au 80 (bwF (pk PF k) (r16 (pk PF k) t) t j)) (ld_au (n := 80) (F := (bwF (pk PF k) (r16 (pk PF k) t) t j)) (i := t) (t0 := 103) (by omega)) rfl rfl) <|
              oc (k_bi (.int .u64 ((bwF (pk PF k) (r16 (pk PF k) t) t j t) : Nat)) (.int .u64 (256 : Nat)) (.int .u64 (((bwF (pk PF k) (r16 (pk PF k) t) t j t) * 256 % B64) : Nat)) (mul_w (m := (bwF (pk PF k) (r16 (pk PF k) t) t j t)) (n := 256)) rfl rfl) <|
              oc (k_mp 4 (sl 0 M pc) (.inl rfl) rfl) <|
              oc (k_mv (.inl rfl) rfl) <|
              oc (k_mv (.inl rfl) rfl) <|
              oc (k_bi (.int .i64 (8 : Nat)) (.int .i64 (t : Nat)) (.int .i64 ((8 * t) : Nat)) (mu_i (m := 8) (n := t) (by omega)) rfl rfl) <|
              oc (k_bi (.int .i64 ((128 * k) : Nat)) (.int .i64 ((8 * t) : Nat)) (.int .i64 (((128 * k) + (8 * t)) : Nat)) (ad_i (m := (128 * k)) (n := (8 * t)) (by omega)) rfl rfl) <|
              oc (k_mv (.inl rfl) rfl) <|
              oc (k_bi (.int .i64 (((128 * k) + (8 * t)) : Nat)) (.int .i64 (j : Nat)) (.int .i64 ((((128 * k) + (8 * t)) + j) : Nat)) (ad_i (m := ((128 * k) + (8 * t))) (n := j) (by omega)) rfl rfl) <|
              oc (k_ib 4 ((0 + (((128 * k) + (8 * t)) + j))) (sl 0 M pc) (.int .i64 ((((128 * k) + (8 * t)) + j) : Nat)) (ix_pc (i := (((128 * k) + (8 * t)) + j)) (by omega)) rfl rfl) <|
              oc (k_ld 4 ((0 + (((128 * k) + (8 * t)) + j))) (.int .u8 ((pk PF k (t * 8 + j)) : Nat)) (c := c) (ld_pb (k := k) (i := t * 8 + j) (F := PF) (M := M) (t0 := 5) hc (by omega) (by omega)) rfl rfl) <|
              oc (k_co (.int .u8 ((pk PF k (t * 8 + j)) : Nat)) (.int .u64 ((pk PF k (t * 8 + j)) : Nat)) (cv_bw (n := (pk PF k (t * 8 + j))) (hp _)) rfl rfl) <|
              oc (k_bi (.int .u64 (((bwF (pk PF k) (r16 (pk PF k) t) t j t) * 256 % B64) : Nat)) (.int .u64 ((pk PF k (t * 8 + j)) : Nat)) (.int .u64 ((((((bwF (pk PF k) (r16 (pk PF k) t) t j t) * 256 % B64) + (pk PF k (t * 8 + j))) % B64) : Nat) : Int)) (ad_w (m := ((bwF (pk PF k) (r16 (pk PF k) t) t j t) * 256 % B64)) (n := (pk PF k (t * 8 + j)))) rfl rfl) <|
              oc (k_ia 5 0 t (.int .i64 (t : Nat)) (ixW (i := t) (by omega)) rfl rfl) <|
              oc (k_st 5 t (.int .u64 ((((((bwF (pk PF k) (r16 (pk PF k) t) t j t) * 256 % B64) + (pk PF k (t * 8 + j))) % B64) : Nat) : Int)) (c := au 80 (bwF (pk PF k) (r16 (pk PF k) t) t j)) (n := au 80 (updN (bwF (pk PF k) (r16 (pk PF k) t) t j) t ((((bwF (pk PF k) (r16 (pk PF k) t) t j t) * 256 % B64) + (pk PF k (t * 8 + j))) % B64))) (st_au (n := 80) (F := (bwF (pk PF k) (r16 (pk PF k) t) t j)) (i := t) (v := ((((bwF (pk PF k) (r16 (pk PF k) t) t j t) * 256 % B64) + (pk PF k (t * 8 + j))) % B64)) (t0 := 103) (by omega)) rfl rfl) <|
              ok_nil
            clear h; intro β a w h
            refine blk_norm ?_
            refine sym_then ?_
            refine St.r0 h [(51, .inl (.int .i64 (j : Nat))), (52, .inl (.int .i64 ((j + 1) : Nat))), (11, .inl (.int .i64 ((j + 1) : Nat)))] [eO] ?_ ?_
            · exact oc (k_m0 rfl rfl) <|
              oz (k_bi (.int .i64 (j : Nat)) (.int .i64 (1 : Nat)) (.int .i64 ((j + 1) : Nat)) (ad_i (m := j) (n := 1) (by omega)) rfl rfl) <|
              oz (k_mv (.inr rfl) rfl) <|
              ok_nil
            clear h; intro β a w h
            replace h := St.sm h 5 (au 80 (bwF (pk PF k) (r16 (pk PF k) t) t (j + 1))) (c := au 80 (updN (bwF (pk PF k) (r16 (pk PF k) t) t j) t ((((bwF (pk PF k) (r16 (pk PF k) t) t j t) * 256 % B64) + (pk PF k (t * 8 + j))) % B64))) (t := 103) (bw_s hp)
            obtain ⟨x, h⟩ := St.jn (n := 222) h [0, 2, 3, 4, 5, 6, 7, 8, 9, 10, 11] [.inl (.slice aa len cap), .inr (0, pt 0), .inr (1, pt 0), .inr (2, sl 0 8 8), .inr (3, sl 0 80 80), .inl (.int .i64 (8 : Nat)), .inr (4, sl 0 M pc), .inl (.int .i64 ((128 * k) : Nat)), .inr (5, pt 0), .inl (.int .i64 (t : Nat)), .inl (.int .i64 ((j + 1) : Nat))] [(ab 64 (fun _ => 0), 29), (au 8 (bkH (bgF 8) PF k), 93), (au 8 sq, 42), (au 80 cu, 42), (c, 5), (au 80 (bwF (pk PF k) (r16 (pk PF k) t) t (j + 1)), 103)] (by kernel_rfl) (by kernel_rfl) (by kernel_rfl)
            exact ⟨hltj, x, _, h⟩
          · obtain rfl : 8 = j := by omega
            refine sym_seq ?_
            refine sym_seq ?_
            refine St.r0 h [(49, .inl (.int .i64 (8 : Nat))), (50, .inl (.bool false))] [] ?_ ?_
            · exact oz (k_mv (.inl rfl) rfl) <|
              oz (k_bi (.int .i64 (8 : Nat)) (.int .i64 (8 : Nat)) (.bool false) (lt_i (m := ((8 : Nat) : Int)) (n := ((8 : Nat) : Int)) (decide_eq_false (by omega))) rfl rfl) <|
              ok_nil
            clear h; intro β a w h
            refine sym_then ?_
            refine s_cf h ?_
            refine wp_exit ?_
            refine then_exit ?_
            refine then_exit ?_
            refine blk_exit ?_
            refine sym_then ?_
            refine wp_exit ?_
            refine then_exit ?_
            refine blk_exit ?_
            refine sym_then ?_
            refine St.r0 h [(45, .inl (.int .i64 (t : Nat))), (46, .inl (.int .i64 ((t + 1) : Nat))), (10, .inl (.int .i64 ((t + 1) : Nat)))] [eO] ?_ ?_
            · exact oc (k_m0 rfl rfl) <|
              oz (k_bi (.int .i64 (t : Nat)) (.int .i64 (1 : Nat)) (.int .i64 ((t + 1) : Nat)) (ad_i (m := t) (n := 1) (by omega)) rfl rfl) <|
              oz (k_mv (.inr rfl) rfl) <|
              ok_nil
            clear h; intro β a w h
            replace h := St.sm h 5 (au 80 (rT (pk PF k) (t + 1))) (c := au 80 (bwF (pk PF k) (r16 (pk PF k) t) t 8)) (t := 103) (rT_e _ h16)
            obtain ⟨x, h⟩ := St.jn (n := 222) h [0, 2, 3, 4, 5, 6, 7, 8, 9, 10] [.inl (.slice aa len cap), .inr (0, pt 0), .inr (1, pt 0), .inr (2, sl 0 8 8), .inr (3, sl 0 80 80), .inl (.int .i64 (8 : Nat)), .inr (4, sl 0 M pc), .inl (.int .i64 ((128 * k) : Nat)), .inr (5, pt 0), .inl (.int .i64 ((t + 1) : Nat))] [(ab 64 (fun _ => 0), 29), (au 8 (bkH (bgF 8) PF k), 93), (au 8 sq, 42), (au 80 cu, 42), (c, 5), (au 80 (rT (pk PF k) (t + 1)), 103)] (by kernel_rfl) (by kernel_rfl) (by kernel_rfl)
            exact ⟨hltt, x, _, h⟩
        · refine sym_seq ?_
          refine sym_seq ?_
          refine St.r0 h [(43, .inl (.int .i64 (t : Nat))), (44, .inl (.bool true))] [] ?_ ?_
          · exact oz (k_mv (.inl rfl) rfl) <|
            oz (k_bi (.int .i64 (t : Nat)) (.int .i64 (80 : Nat)) (.bool true) (lt_i (m := ((t : Nat) : Int)) (n := ((80 : Nat) : Int)) (decide_eq_true (by omega))) rfl rfl) <|
            ok_nil
          clear h; intro β a w h
          refine sym_then ?_
          refine s_ct h ?_
          refine wp_skip ?_
          refine sym_then ?_
          refine sym_seq ?_
          refine blk_in ?_
          refine sym_seq ?_
          refine sym_seq ?_
          refine St.r0 h [(47, .inl (.int .i64 (t : Nat))), (48, .inl (.bool false))] [] ?_ ?_
          · exact oz (k_mv (.inl rfl) rfl) <|
            oz (k_bi (.int .i64 (t : Nat)) (.int .i64 (16 : Nat)) (.bool false) (lt_i (m := ((t : Nat) : Int)) (n := ((16 : Nat) : Int)) (decide_eq_false (by omega))) rfl rfl) <|
            ok_nil
          clear h; intro β a w h
          refine sym_then ?_
          refine s_cf h ?_
          refine wp_skip ?_
          refine sym_then ?_
          refine sym_seq ?_
          refine St.r0 h [(70, .inl (.int .i64 (t : Nat))), (71, .inl (.int .i64 ((t - 2) : Nat))), (72, .inr (5, pt (t - 2))), (73, .inl (.int .u64 ((rT (pk PF k) t (t - 2)) : Nat))), (12, .inl (.int .u64 ((rT (pk PF k) t (t - 2)) : Nat)))] [nn, nn, nn, eR 5] ?_ ?_
          · exact oc (k_mv (.inl rfl) rfl) <|
            oc (k_bi (.int .i64 (t : Nat)) (.int .i64 (2 : Nat)) (.int .i64 ((t - 2) : Nat)) (sb_zn (m := ((t : Nat) : Int)) (n := ((2 : Nat) : Int)) (k := (t - 2)) (by omega) (by omega)) rfl rfl) <|
            oc (k_ia 5 0 ((t - 2)) (.int .i64 ((t - 2) : Nat)) (ixW (i := (t - 2)) (by omega)) rfl rfl) <|
            oc (k_ld 5 ((t - 2)) (.int .u64 ((rT (pk PF k) t (t - 2)) : Nat)) (c := au 80 (rT (pk PF k) t)) (ld_au (n := 80) (F := (rT (pk PF k) t)) (i := (t - 2)) (t0 := 103) (by omega)) rfl rfl) <|
            oz (k_mv (.inr rfl) rfl) <|
            ok_nil
          clear h; intro β a w h
          refine sym_then ?_
          refine sym_seq ?_
          refine St.r0 h [(74, .inl (.int .i64 (t : Nat))), (75, .inl (.int .i64 ((t - 15) : Nat))), (76, .inr (5, pt (t - 15))), (77, .inl (.int .u64 ((rT (pk PF k) t (t - 15)) : Nat))), (13, .inl (.int .u64 ((rT (pk PF k) t (t - 15)) : Nat)))] [nn, nn, nn, eR 5] ?_ ?_
          · exact oc (k_mv (.inl rfl) rfl) <|
            oc (k_bi (.int .i64 (t : Nat)) (.int .i64 (15 : Nat)) (.int .i64 ((t - 15) : Nat)) (sb_zn (m := ((t : Nat) : Int)) (n := ((15 : Nat) : Int)) (k := (t - 15)) (by omega) (by omega)) rfl rfl) <|
            oc (k_ia 5 0 ((t - 15)) (.int .i64 ((t - 15) : Nat)) (ixW (i := (t - 15)) (by omega)) rfl rfl) <|
            oc (k_ld 5 ((t - 15)) (.int .u64 ((rT (pk PF k) t (t - 15)) : Nat)) (c := au 80 (rT (pk PF k) t)) (ld_au (n := 80) (F := (rT (pk PF k) t)) (i := (t - 15)) (t0 := 103) (by omega)) rfl rfl) <|
            oz (k_mv (.inr rfl) rfl) <|
            ok_nil
          clear h; intro β a w h
          refine sym_then ?_
          refine St.rg h [(78, .inl (.int .i64 (t : Nat))), (79, .inl (.int .u64 ((rT (pk PF k) t (t - 2)) : Nat))), (80, .inl (.int .u64 ((tu (rT (pk PF k) t (t - 2)) 19) : Nat))), (81, .inl (.int .u64 ((rT (pk PF k) t (t - 2)) : Nat))), (82, .inl (.int .u64 ((tu (rT (pk PF k) t (t - 2)) 61) : Nat))), (83, .inl (.int .u64 (((tu (rT (pk PF k) t (t - 2)) 19) ^^^ (tu (rT (pk PF k) t (t - 2)) 61)) : Nat))), (84, .inl (.int .u64 ((rT (pk PF k) t (t - 2)) : Nat))), (85, .inl (.int .u64 (((rT (pk PF k) t (t - 2)) / 2 ^ 6) : Nat))), (86, .inl (.int .u64 ((((tu (rT (pk PF k) t (t - 2)) 19) ^^^ (tu (rT (pk PF k) t (t - 2)) 61)) ^^^ ((rT (pk PF k) t (t - 2)) / 2 ^ 6)) : Nat))), (87, .inl (.int .i64 (t : Nat))), (88, .inl (.int .i64 ((t - 7) : Nat))), (89, .inr (5, pt (t - 7))), (90, .inl (.int .u64 ((rT (pk PF k) t (t - 7)) : Nat))), (91, .inl (.int .u64 (((((((tu (rT (pk PF k) t (t - 2)) 19) ^^^ (tu (rT (pk PF k) t (t - 2)) 61)) ^^^ ((rT (pk PF k) t (t - 2)) / 2 ^ 6)) + (rT (pk PF k) t (t - 7))) % B64) : Nat) : Int))), (92, .inl (.int .u64 ((rT (pk PF k) t (t - 15)) : Nat))), (93, .inl (.int .u64 ((tu (rT (pk PF k) t (t - 15)) 1) : Nat))), (94, .inl (.int .u64 ((rT (pk PF k) t (t - 15)) : Nat))), (95, .inl (.int .u64 ((tu (rT (pk PF k) t (t - 15)) 8) : Nat))), (96, .inl (.int .u64 (((tu (rT (pk PF k) t (t - 15)) 1) ^^^ (tu (rT (pk PF k) t (t - 15)) 8)) : Nat))), (97, .inl (.int .u64 ((rT (pk PF k) t (t - 15)) : Nat))), (98, .inl (.int .u64 (((rT (pk PF k) t (t - 15)) / 2 ^ 7) : Nat))), (99, .inl (.int .u64 ((((tu (rT (pk PF k) t (t - 15)) 1) ^^^ (tu (rT (pk PF k) t (t - 15)) 8)) ^^^ ((rT (pk PF k) t (t - 15)) / 2 ^ 7)) : Nat))), (100, .inl (.int .u64 (((((((((tu (rT (pk PF k) t (t - 2)) 19) ^^^ (tu (rT (pk PF k) t (t - 2)) 61)) ^^^ ((rT (pk PF k) t (t - 2)) / 2 ^ 6)) + (rT (pk PF k) t (t - 7))) % B64) + (((tu (rT (pk PF k) t (t - 15)) 1) ^^^ (tu (rT (pk PF k) t (t - 15)) 8)) ^^^ ((rT (pk PF k) t (t - 15)) / 2 ^ 7))) % B64) : Nat) : Int))), (101, .inl (.int .i64 (t : Nat))), (102, .inl (.int .i64 ((t - 16) : Nat))), (103, .inr (5, pt (t - 16))), (104, .inl (.int .u64 ((rT (pk PF k) t (t - 16)) : Nat))), (105, .inl (.int .u64 (((((((((((tu (rT (pk PF k) t (t - 2)) 19) ^^^ (tu (rT (pk PF k) t (t - 2)) 61)) ^^^ ((rT (pk PF k) t (t - 2)) / 2 ^ 6)) + (rT (pk PF k) t (t - 7))) % B64) + (((tu (rT (pk PF k) t (t - 15)) 1) ^^^ (tu (rT (pk PF k) t (t - 15)) 8)) ^^^ ((rT (pk PF k) t (t - 15)) / 2 ^ 7))) % B64) + (rT (pk PF k) t (t - 16))) % B64) : Nat) : Int))), (106, .inr (5, pt t))] [] [(5, au 80 (updN (rT (pk PF k) t) t (((((((((tu (rT (pk PF k) t (t - 2)) 19) ^^^ (tu (rT (pk PF k) t (t - 2)) 61)) ^^^ ((rT (pk PF k) t (t - 2)) / 2 ^ 6)) + (rT (pk PF k) t (t - 7))) % B64) + (((tu (rT (pk PF k) t (t - 15)) 1) ^^^ (tu (rT (pk PF k) t (t - 15)) 8)) ^^^ ((rT (pk PF k) t (t - 15)) / 2 ^ 7))) % B64) + (rT (pk PF k) t (t - 16))) % B64)))] [nn, nn, nn, nn, nn, nn, nn, nn, nn, nn, nn, nn, eR 5, nn, nn, nn, nn, nn, nn, nn, nn, nn, nn, nn, nn, nn, eR 5, nn, nn, eS 5] ?_ ?_
          · exact oc (k_mv (.inl rfl) rfl) <|
            oc (k_mv (.inl rfl) rfl) <|
            oc (k_ca 64 #[.int .u64 ((rT (pk PF k) t (t - 2)) : Nat), .int .u64 (19 : Nat)] (.int .u64 ((tu (rT (pk PF k) t (t - 2)) 19) : Nat)) (wide_k (rT_lt hp _ _) (by decide)) rfl rfl) <|
            oc (k_mv (.inl rfl) rfl) <|
            oc (k_ca 64 #[.int .u64 ((rT (pk PF k) t (t - 2)) : Nat), .int .u64 (61 : Nat)] (.int .u64 ((tu (rT (pk PF k) t (t - 2)) 61) : Nat)) (wide_k (rT_lt hp _ _) (by decide)) rfl rfl) <|
            oc (k_bi (.int .u64 ((tu (rT (pk PF k) t (t - 2)) 19) : Nat)) (.int .u64 ((tu (rT (pk PF k) t (t - 2)) 61) : Nat)) (.int .u64 (((tu (rT (pk PF k) t (t - 2)) 19) ^^^ (tu (rT (pk PF k) t (t - 2)) 61)) : Nat)) (xor_w (m := (tu (rT (pk PF k) t (t - 2)) 19)) (n := (tu (rT (pk PF k) t (t - 2)) 61)) (tu_lt (rT_lt hp _ _)) (tu_lt (rT_lt hp _ _))) rfl rfl) <|
            oc (k_mv (.inl rfl) rfl) <|
            oc (k_bi (.int .u64 ((rT (pk PF k) t (t - 2)) : Nat)) (.int .u64 (6 : Nat)) (.int .u64 (((rT (pk PF k) t (t - 2)) / 2 ^ 6) : Nat)) (sr_wu (m := (rT (pk PF k) t (t - 2))) (r := 6) (by omega)) rfl rfl) <|
            oc (k_bi (.int .u64 (((tu (rT (pk PF k) t (t - 2)) 19) ^^^ (tu (rT (pk PF k) t (t - 2)) 61)) : Nat)) (.int .u64 (((rT (pk PF k) t (t - 2)) / 2 ^ 6) : Nat)) (.int .u64 ((((tu (rT (pk PF k) t (t - 2)) 19) ^^^ (tu (rT (pk PF k) t (t - 2)) 61)) ^^^ ((rT (pk PF k) t (t - 2)) / 2 ^ 6)) : Nat)) (xor_w (m := ((tu (rT (pk PF k) t (t - 2)) 19) ^^^ (tu (rT (pk PF k) t (t - 2)) 61))) (n := ((rT (pk PF k) t (t - 2)) / 2 ^ 6)) (xor_lt (tu_lt (rT_lt hp _ _)) (tu_lt (rT_lt hp _ _))) (div_lt (rT_lt hp _ _))) rfl rfl) <|
            oc (k_mv (.inl rfl) rfl) <|
            oc (k_bi (.int .i64 (t : Nat)) (.int .i64 (7 : Nat)) (.int .i64 ((t - 7) : Nat)) (sb_zn (m := ((t : Nat) : Int)) (n := ((7 : Nat) : Int)) (k := (t - 7)) (by omega) (by omega)) rfl rfl) <|
            oc (k_ia 5 0 ((t - 7)) (.int .i64 ((t - 7) : Nat)) (ixW (i := (t - 7)) (by omega)) rfl rfl) <|
            oc (k_ld 5 ((t - 7)) (.int .u64 ((rT (pk PF k) t (t - 7)) : Nat)) (c := au 80 (rT (pk PF k) t)) (ld_au (n := 80) (F := (rT (pk PF k) t)) (i := (t - 7)) (t0 := 103) (by omega)) rfl rfl) <|
            oc (k_bi (.int .u64 ((((tu (rT (pk PF k) t (t - 2)) 19) ^^^ (tu (rT (pk PF k) t (t - 2)) 61)) ^^^ ((rT (pk PF k) t (t - 2)) / 2 ^ 6)) : Nat)) (.int .u64 ((rT (pk PF k) t (t - 7)) : Nat)) (.int .u64 (((((((tu (rT (pk PF k) t (t - 2)) 19) ^^^ (tu (rT (pk PF k) t (t - 2)) 61)) ^^^ ((rT (pk PF k) t (t - 2)) / 2 ^ 6)) + (rT (pk PF k) t (t - 7))) % B64) : Nat) : Int)) (ad_w (m := (((tu (rT (pk PF k) t (t - 2)) 19) ^^^ (tu (rT (pk PF k) t (t - 2)) 61)) ^^^ ((rT (pk PF k) t (t - 2)) / 2 ^ 6))) (n := (rT (pk PF k) t (t - 7)))) rfl rfl) <|
            oc (k_mv (.inl rfl) rfl) <|
            oc (k_ca 64 #[.int .u64 ((rT (pk PF k) t (t - 15)) : Nat), .int .u64 (1 : Nat)] (.int .u64 ((tu (rT (pk PF k) t (t - 15)) 1) : Nat)) (wide_k (rT_lt hp _ _) (by decide)) rfl rfl) <|
            oc (k_mv (.inl rfl) rfl) <|
            oc (k_ca 64 #[.int .u64 ((rT (pk PF k) t (t - 15)) : Nat), .int .u64 (8 : Nat)] (.int .u64 ((tu (rT (pk PF k) t (t - 15)) 8) : Nat)) (wide_k (rT_lt hp _ _) (by decide)) rfl rfl) <|
            oc (k_bi (.int .u64 ((tu (rT (pk PF k) t (t - 15)) 1) : Nat)) (.int .u64 ((tu (rT (pk PF k) t (t - 15)) 8) : Nat)) (.int .u64 (((tu (rT (pk PF k) t (t - 15)) 1) ^^^ (tu (rT (pk PF k) t (t - 15)) 8)) : Nat)) (xor_w (m := (tu (rT (pk PF k) t (t - 15)) 1)) (n := (tu (rT (pk PF k) t (t - 15)) 8)) (tu_lt (rT_lt hp _ _)) (tu_lt (rT_lt hp _ _))) rfl rfl) <|
            oc (k_mv (.inl rfl) rfl) <|
            oc (k_bi (.int .u64 ((rT (pk PF k) t (t - 15)) : Nat)) (.int .u64 (7 : Nat)) (.int .u64 (((rT (pk PF k) t (t - 15)) / 2 ^ 7) : Nat)) (sr_wu (m := (rT (pk PF k) t (t - 15))) (r := 7) (by omega)) rfl rfl) <|
            oc (k_bi (.int .u64 (((tu (rT (pk PF k) t (t - 15)) 1) ^^^ (tu (rT (pk PF k) t (t - 15)) 8)) : Nat)) (.int .u64 (((rT (pk PF k) t (t - 15)) / 2 ^ 7) : Nat)) (.int .u64 ((((tu (rT (pk PF k) t (t - 15)) 1) ^^^ (tu (rT (pk PF k) t (t - 15)) 8)) ^^^ ((rT (pk PF k) t (t - 15)) / 2 ^ 7)) : Nat)) (xor_w (m := ((tu (rT (pk PF k) t (t - 15)) 1) ^^^ (tu (rT (pk PF k) t (t - 15)) 8))) (n := ((rT (pk PF k) t (t - 15)) / 2 ^ 7)) (xor_lt (tu_lt (rT_lt hp _ _)) (tu_lt (rT_lt hp _ _))) (div_lt (rT_lt hp _ _))) rfl rfl) <|
            oc (k_bi (.int .u64 (((((((tu (rT (pk PF k) t (t - 2)) 19) ^^^ (tu (rT (pk PF k) t (t - 2)) 61)) ^^^ ((rT (pk PF k) t (t - 2)) / 2 ^ 6)) + (rT (pk PF k) t (t - 7))) % B64) : Nat) : Int)) (.int .u64 ((((tu (rT (pk PF k) t (t - 15)) 1) ^^^ (tu (rT (pk PF k) t (t - 15)) 8)) ^^^ ((rT (pk PF k) t (t - 15)) / 2 ^ 7)) : Nat)) (.int .u64 (((((((((tu (rT (pk PF k) t (t - 2)) 19) ^^^ (tu (rT (pk PF k) t (t - 2)) 61)) ^^^ ((rT (pk PF k) t (t - 2)) / 2 ^ 6)) + (rT (pk PF k) t (t - 7))) % B64) + (((tu (rT (pk PF k) t (t - 15)) 1) ^^^ (tu (rT (pk PF k) t (t - 15)) 8)) ^^^ ((rT (pk PF k) t (t - 15)) / 2 ^ 7))) % B64) : Nat) : Int)) (ad_w (m := (((((tu (rT (pk PF k) t (t - 2)) 19) ^^^ (tu (rT (pk PF k) t (t - 2)) 61)) ^^^ ((rT (pk PF k) t (t - 2)) / 2 ^ 6)) + (rT (pk PF k) t (t - 7))) % B64)) (n := (((tu (rT (pk PF k) t (t - 15)) 1) ^^^ (tu (rT (pk PF k) t (t - 15)) 8)) ^^^ ((rT (pk PF k) t (t - 15)) / 2 ^ 7)))) rfl rfl) <|
            oc (k_mv (.inl rfl) rfl) <|
            oc (k_bi (.int .i64 (t : Nat)) (.int .i64 (16 : Nat)) (.int .i64 ((t - 16) : Nat)) (sb_zn (m := ((t : Nat) : Int)) (n := ((16 : Nat) : Int)) (k := (t - 16)) (by omega) (by omega)) rfl rfl) <|
            oc (k_ia 5 0 ((t - 16)) (.int .i64 ((t - 16) : Nat)) (ixW (i := (t - 16)) (by omega)) rfl rfl) <|
            oc (k_ld 5 ((t - 16)) (.int .u64 ((rT (pk PF k) t (t - 16)) : Nat)) (c := au 80 (rT (pk PF k) t)) (ld_au (n := 80) (F := (rT (pk PF k) t)) (i := (t - 16)) (t0 := 103) (by omega)) rfl rfl) <|
            oc (k_bi (.int .u64 (((((((((tu (rT (pk PF k) t (t - 2)) 19) ^^^ (tu (rT (pk PF k) t (t - 2)) 61)) ^^^ ((rT (pk PF k) t (t - 2)) / 2 ^ 6)) + (rT (pk PF k) t (t - 7))) % B64) + (((tu (rT (pk PF k) t (t - 15)) 1) ^^^ (tu (rT (pk PF k) t (t - 15)) 8)) ^^^ ((rT (pk PF k) t (t - 15)) / 2 ^ 7))) % B64) : Nat) : Int)) (.int .u64 ((rT (pk PF k) t (t - 16)) : Nat)) (.int .u64 (((((((((((tu (rT (pk PF k) t (t - 2)) 19) ^^^ (tu (rT (pk PF k) t (t - 2)) 61)) ^^^ ((rT (pk PF k) t (t - 2)) / 2 ^ 6)) + (rT (pk PF k) t (t - 7))) % B64) + (((tu (rT (pk PF k) t (t - 15)) 1) ^^^ (tu (rT (pk PF k) t (t - 15)) 8)) ^^^ ((rT (pk PF k) t (t - 15)) / 2 ^ 7))) % B64) + (rT (pk PF k) t (t - 16))) % B64) : Nat) : Int)) (ad_w (m := (((((((tu (rT (pk PF k) t (t - 2)) 19) ^^^ (tu (rT (pk PF k) t (t - 2)) 61)) ^^^ ((rT (pk PF k) t (t - 2)) / 2 ^ 6)) + (rT (pk PF k) t (t - 7))) % B64) + (((tu (rT (pk PF k) t (t - 15)) 1) ^^^ (tu (rT (pk PF k) t (t - 15)) 8)) ^^^ ((rT (pk PF k) t (t - 15)) / 2 ^ 7))) % B64)) (n := (rT (pk PF k) t (t - 16)))) rfl rfl) <|
            oc (k_ia 5 0 t (.int .i64 (t : Nat)) (ixW (i := t) (by omega)) rfl rfl) <|
            oc (k_st 5 t (.int .u64 (((((((((((tu (rT (pk PF k) t (t - 2)) 19) ^^^ (tu (rT (pk PF k) t (t - 2)) 61)) ^^^ ((rT (pk PF k) t (t - 2)) / 2 ^ 6)) + (rT (pk PF k) t (t - 7))) % B64) + (((tu (rT (pk PF k) t (t - 15)) 1) ^^^ (tu (rT (pk PF k) t (t - 15)) 8)) ^^^ ((rT (pk PF k) t (t - 15)) / 2 ^ 7))) % B64) + (rT (pk PF k) t (t - 16))) % B64) : Nat) : Int)) (c := au 80 (rT (pk PF k) t)) (n := au 80 (updN (rT (pk PF k) t) t (((((((((tu (rT (pk PF k) t (t - 2)) 19) ^^^ (tu (rT (pk PF k) t (t - 2)) 61)) ^^^ ((rT (pk PF k) t (t - 2)) / 2 ^ 6)) + (rT (pk PF k) t (t - 7))) % B64) + (((tu (rT (pk PF k) t (t - 15)) 1) ^^^ (tu (rT (pk PF k) t (t - 15)) 8)) ^^^ ((rT (pk PF k) t (t - 15)) / 2 ^ 7))) % B64) + (rT (pk PF k) t (t - 16))) % B64))) (st_au (n := 80) (F := (rT (pk PF k) t)) (i := t) (v := (((((((((tu (rT (pk PF k) t (t - 2)) 19) ^^^ (tu (rT (pk PF k) t (t - 2)) 61)) ^^^ ((rT (pk PF k) t (t - 2)) / 2 ^ 6)) + (rT (pk PF k) t (t - 7))) % B64) + (((tu (rT (pk PF k) t (t - 15)) 1) ^^^ (tu (rT (pk PF k) t (t - 15)) 8)) ^^^ ((rT (pk PF k) t (t - 15)) / 2 ^ 7))) % B64) + (rT (pk PF k) t (t - 16))) % B64)) (t0 := 103) (by omega)) rfl rfl) <|
            ok_nil
          clear h; intro β a w h
          refine blk_norm ?_
          refine sym_then ?_
          refine St.r0 h [(45, .inl (.int .i64 (t : Nat))), (46, .inl (.int .i64 ((t + 1) : Nat))), (10, .inl (.int .i64 ((t + 1) : Nat)))] [eO] ?_ ?_
          · exact oc (k_m0 rfl rfl) <|
            oz (k_bi (.int .i64 (t : Nat)) (.int .i64 (1 : Nat)) (.int .i64 ((t + 1) : Nat)) (ad_i (m := t) (n := 1) (by omega)) rfl rfl) <|
            oz (k_mv (.inr rfl) rfl) <|
            ok_nil
          clear h; intro β a w h
          replace h := St.sm h 5 (au 80 (rT (pk PF k) (t + 1))) (c := au 80 (updN (rT (pk PF k) t) t (((((((((tu (rT (pk PF k) t (t - 2)) 19) ^^^ (tu (rT (pk PF k) t (t - 2)) 61)) ^^^ ((rT (pk PF k) t (t - 2)) / 2 ^ 6)) + (rT (pk PF k) t (t - 7))) % B64) + (((tu (rT (pk PF k) t (t - 15)) 1) ^^^ (tu (rT (pk PF k) t (t - 15)) 8)) ^^^ ((rT (pk PF k) t (t - 15)) / 2 ^ 7))) % B64) + (rT (pk PF k) t (t - 16))) % B64))) (t := 103) (rT_n _ h16)
          obtain ⟨x, h⟩ := St.jn (n := 222) h [0, 2, 3, 4, 5, 6, 7, 8, 9, 10] [.inl (.slice aa len cap), .inr (0, pt 0), .inr (1, pt 0), .inr (2, sl 0 8 8), .inr (3, sl 0 80 80), .inl (.int .i64 (8 : Nat)), .inr (4, sl 0 M pc), .inl (.int .i64 ((128 * k) : Nat)), .inr (5, pt 0), .inl (.int .i64 ((t + 1) : Nat))] [(ab 64 (fun _ => 0), 29), (au 8 (bkH (bgF 8) PF k), 93), (au 8 sq, 42), (au 80 cu, 42), (c, 5), (au 80 (rT (pk PF k) (t + 1)), 103)] (by kernel_rfl) (by kernel_rfl) (by kernel_rfl)
          exact ⟨hltt, x, _, h⟩
      · obtain rfl : 80 = t := by omega
        refine sym_seq ?_
        refine sym_seq ?_
        refine St.r0 h [(43, .inl (.int .i64 (80 : Nat))), (44, .inl (.bool false))] [] ?_ ?_
        · exact oz (k_mv (.inl rfl) rfl) <|
          oz (k_bi (.int .i64 (80 : Nat)) (.int .i64 (80 : Nat)) (.bool false) (lt_i (m := ((80 : Nat) : Int)) (n := ((80 : Nat) : Int)) (decide_eq_false (by omega))) rfl rfl) <|
          ok_nil
        clear h; intro β a w h
        refine sym_then ?_
        refine s_cf h ?_
        refine wp_exit ?_
        refine then_exit ?_
        refine then_exit ?_
        refine blk_exit ?_
        refine sym_then ?_
        refine sym_seq ?_
        refine St.rg h [(107, .inl (.agg (au 8 (bkH (bgF 8) PF k)))), (14, .inr (6, pt 0))] [(au 8 (fun _ => 0), 93)] [(6, au 8 (bkH (bgF 8) PF k))] [eR 1, eN 6, eS 6] ?_ ?_
        · exact oc (k_ld 1 0 (.agg (au 8 (bkH (bgF 8) PF k))) (c := au 8 (bkH (bgF 8) PF k)) (ld8a (F := (bkH (bgF 8) PF k)) 93) rfl rfl) <|
          oc (k_al 6 al8 rfl rfl) <|
          oc (k_st 6 0 (.agg (au 8 (bkH (bgF 8) PF k))) (c := au 8 (fun _ => 0)) (n := au 8 (bkH (bgF 8) PF k)) (st8a (F := (bkH (bgF 8) PF k)) (c := au 8 (fun _ => 0)) 93 (au_size _ _)) rfl rfl) <|
          ok_nil
        clear h; intro β a w h
        refine sym_then ?_
        refine sym_seq ?_
        refine sym_seq ?_
        refine St.r0 h [(15, .inl (.int .i64 (0 : Nat)))] [] ?_ ?_
        · exact oz (k_mv (.inr rfl) rfl) <|
          ok_nil
        clear h; intro β a w h
        refine sym_then ?_
        refine blk_in ?_
        replace h := St.sm h 6 (au 8 (vS (bkH (bgF 8) PF k) (rT (pk PF k) 80) 0)) (c := au 8 (bkH (bgF 8) PF k)) (t := 93) rfl
        obtain ⟨x, h⟩ := St.jn (n := 222) h [0, 2, 3, 4, 5, 6, 7, 8, 9, 10, 14, 15] [.inl (.slice aa len cap), .inr (0, pt 0), .inr (1, pt 0), .inr (2, sl 0 8 8), .inr (3, sl 0 80 80), .inl (.int .i64 (8 : Nat)), .inr (4, sl 0 M pc), .inl (.int .i64 ((128 * k) : Nat)), .inr (5, pt 0), .inl (.int .i64 (80 : Nat)), .inr (6, pt 0), .inl (.int .i64 (0 : Nat))] [(ab 64 (fun _ => 0), 29), (au 8 (bkH (bgF 8) PF k), 93), (au 8 sq, 42), (au 80 cu, 42), (c, 5), (au 80 (rT (pk PF k) 80), 103), (au 8 (vS (bkH (bgF 8) PF k) (rT (pk PF k) 80) 0), 93)] (by kernel_rfl) (by kernel_rfl) (by kernel_rfl)
        refine loop_up 80 (fun r a w => ∃ (x : Nat → SV) (β : Nat → Nat), St (wd W0) (ov (jk 222 x) ([0, 2, 3, 4, 5, 6, 7, 8, 9, 10, 14, 15].zip [.inl (.slice aa len cap), .inr (0, pt 0), .inr (1, pt 0), .inr (2, sl 0 8 8), .inr (3, sl 0 80 80), .inl (.int .i64 (8 : Nat)), .inr (4, sl 0 M pc), .inl (.int .i64 ((128 * k) : Nat)), .inr (5, pt 0), .inl (.int .i64 (80 : Nat)), .inr (6, pt 0), .inl (.int .i64 (r : Nat))])) [(ab 64 (fun _ => 0), 29), (au 8 (bkH (bgF 8) PF k), 93), (au 8 sq, 42), (au 80 cu, 42), (c, 5), (au 80 (rT (pk PF k) 80), 103), (au 8 (vS (bkH (bgF 8) PF k) (rT (pk PF k) 80) r), 93)] β a w) ⟨x, _, h⟩ ?_
        clear h; rintro r a w hkr ⟨x, β, h⟩
        rcases Nat.lt_or_ge r 80 with hltr | hger
        · refine sym_seq ?_
          refine sym_seq ?_
          refine St.r0 h [(108, .inl (.int .i64 (r : Nat))), (109, .inl (.bool true))] [] ?_ ?_
          · exact oz (k_mv (.inl rfl) rfl) <|
            oz (k_bi (.int .i64 (r : Nat)) (.int .i64 (80 : Nat)) (.bool true) (lt_i (m := ((r : Nat) : Int)) (n := ((80 : Nat) : Int)) (decide_eq_true (by omega))) rfl rfl) <|
            ok_nil
          clear h; intro β a w h
          refine sym_then ?_
          refine s_ct h ?_
          refine wp_skip ?_
          refine sym_then ?_
          refine sym_seq ?_
          refine blk_in ?_
          refine sym_seq ?_
          refine St.r0 h [(112, .inr (6, pt 4)), (113, .inl (.int .u64 ((vS (bkH (bgF 8) PF k) (rT (pk PF k) 80) r 4) : Nat))), (16, .inl (.int .u64 ((vS (bkH (bgF 8) PF k) (rT (pk PF k) 80) r 4) : Nat)))] [nn, eR 6] ?_ ?_
          · exact oc (k_ia 6 0 4 (.int .i64 (4 : Nat)) (ix8h (i := 4) (by omega)) rfl rfl) <|
            oc (k_ld 6 4 (.int .u64 ((vS (bkH (bgF 8) PF k) (rT (pk PF k) 80) r 4) : Nat)) (c := au 8 (vS (bkH (bgF 8) PF k) (rT (pk PF k) 80) r)) (ld_au (n := 8) (F := (vS (bkH (bgF 8) PF k) (rT (pk PF k) 80) r)) (i := 4) (t0 := 93) (by omega)) rfl rfl) <|
            oz (k_mv (.inr rfl) rfl) <|
            ok_nil
          clear h; intro β a w h
          refine sym_then ?_
          refine sym_seq ?_
          refine St.r0 h [(114, .inr (6, pt 0)), (115, .inl (.int .u64 ((vS (bkH (bgF 8) PF k) (rT (pk PF k) 80) r 0) : Nat))), (17, .inl (.int .u64 ((vS (bkH (bgF 8) PF k) (rT (pk PF k) 80) r 0) : Nat)))] [nn, eR 6] ?_ ?_
          · exact oc (k_ia 6 0 0 (.int .i64 (0 : Nat)) (ix8h (i := 0) (by omega)) rfl rfl) <|
            oc (k_ld 6 0 (.int .u64 ((vS (bkH (bgF 8) PF k) (rT (pk PF k) 80) r 0) : Nat)) (c := au 8 (vS (bkH (bgF 8) PF k) (rT (pk PF k) 80) r)) (ld_au (n := 8) (F := (vS (bkH (bgF 8) PF k) (rT (pk PF k) 80) r)) (i := 0) (t0 := 93) (by omega)) rfl rfl) <|
            oz (k_mv (.inr rfl) rfl) <|
            ok_nil
          clear h; intro β a w h
          refine sym_then ?_
          refine sym_seq ?_
          refine St.r0 h [(116, .inr (6, pt 7)), (117, .inl (.int .u64 ((vS (bkH (bgF 8) PF k) (rT (pk PF k) 80) r 7) : Nat))), (118, .inl (.int .u64 ((vS (bkH (bgF 8) PF k) (rT (pk PF k) 80) r 4) : Nat))), (119, .inl (.int .u64 ((tu (vS (bkH (bgF 8) PF k) (rT (pk PF k) 80) r 4) 14) : Nat))), (120, .inl (.int .u64 ((vS (bkH (bgF 8) PF k) (rT (pk PF k) 80) r 4) : Nat))), (121, .inl (.int .u64 ((tu (vS (bkH (bgF 8) PF k) (rT (pk PF k) 80) r 4) 18) : Nat))), (122, .inl (.int .u64 (((tu (vS (bkH (bgF 8) PF k) (rT (pk PF k) 80) r 4) 14) ^^^ (tu (vS (bkH (bgF 8) PF k) (rT (pk PF k) 80) r 4) 18)) : Nat))), (123, .inl (.int .u64 ((vS (bkH (bgF 8) PF k) (rT (pk PF k) 80) r 4) : Nat))), (124, .inl (.int .u64 ((tu (vS (bkH (bgF 8) PF k) (rT (pk PF k) 80) r 4) 41) : Nat))), (125, .inl (.int .u64 (((((tu (vS (bkH (bgF 8) PF k) (rT (pk PF k) 80) r 4) 14) ^^^ (tu (vS (bkH (bgF 8) PF k) (rT (pk PF k) 80) r 4) 18)) ^^^ (tu (vS (bkH (bgF 8) PF k) (rT (pk PF k) 80) r 4) 41)) : Nat) : Int))), (126, .inl (.int .u64 (((((vS (bkH (bgF 8) PF k) (rT (pk PF k) 80) r 7) + (((tu (vS (bkH (bgF 8) PF k) (rT (pk PF k) 80) r 4) 14) ^^^ (tu (vS (bkH (bgF 8) PF k) (rT (pk PF k) 80) r 4) 18)) ^^^ (tu (vS (bkH (bgF 8) PF k) (rT (pk PF k) 80) r 4) 41))) % B64) : Nat) : Int))), (127, .inl (.int .u64 ((vS (bkH (bgF 8) PF k) (rT (pk PF k) 80) r 4) : Nat))), (128, .inr (6, pt 5)), (129, .inl (.int .u64 ((vS (bkH (bgF 8) PF k) (rT (pk PF k) 80) r 5) : Nat))), (130, .inl (.int .u64 (((vS (bkH (bgF 8) PF k) (rT (pk PF k) 80) r 4) &&& (vS (bkH (bgF 8) PF k) (rT (pk PF k) 80) r 5)) : Nat))), (131, .inl (.int .u64 ((vS (bkH (bgF 8) PF k) (rT (pk PF k) 80) r 4) : Nat))), (132, .inl (.int .u64 ((18446744073709551615 - (vS (bkH (bgF 8) PF k) (rT (pk PF k) 80) r 4)) : Nat))), (133, .inr (6, pt 6)), (134, .inl (.int .u64 ((vS (bkH (bgF 8) PF k) (rT (pk PF k) 80) r 6) : Nat))), (135, .inl (.int .u64 (((18446744073709551615 - (vS (bkH (bgF 8) PF k) (rT (pk PF k) 80) r 4)) &&& (vS (bkH (bgF 8) PF k) (rT (pk PF k) 80) r 6)) : Nat))), (136, .inl (.int .u64 ((((((vS (bkH (bgF 8) PF k) (rT (pk PF k) 80) r 4) &&& (vS (bkH (bgF 8) PF k) (rT (pk PF k) 80) r 5)) + ((18446744073709551615 - (vS (bkH (bgF 8) PF k) (rT (pk PF k) 80) r 4)) &&& (vS (bkH (bgF 8) PF k) (rT (pk PF k) 80) r 6))) % B64) : Nat) : Int))), (137, .inl (.int .u64 (((((((vS (bkH (bgF 8) PF k) (rT (pk PF k) 80) r 7) + (((tu (vS (bkH (bgF 8) PF k) (rT (pk PF k) 80) r 4) 14) ^^^ (tu (vS (bkH (bgF 8) PF k) (rT (pk PF k) 80) r 4) 18)) ^^^ (tu (vS (bkH (bgF 8) PF k) (rT (pk PF k) 80) r 4) 41))) % B64) + ((((vS (bkH (bgF 8) PF k) (rT (pk PF k) 80) r 4) &&& (vS (bkH (bgF 8) PF k) (rT (pk PF k) 80) r 5)) + ((18446744073709551615 - (vS (bkH (bgF 8) PF k) (rT (pk PF k) 80) r 4)) &&& (vS (bkH (bgF 8) PF k) (rT (pk PF k) 80) r 6))) % B64)) % B64) : Nat) : Int))), (138, .inr (3, sl 0 80 80)), (139, .inl (.int .i64 (r : Nat))), (140, .inr (3, pt (0 + r))), (141, .inl (.int .u64 ((cu r) : Nat))), (142, .inl (.int .u64 (((((((((vS (bkH (bgF 8) PF k) (rT (pk PF k) 80) r 7) + (((tu (vS (bkH (bgF 8) PF k) (rT (pk PF k) 80) r 4) 14) ^^^ (tu (vS (bkH (bgF 8) PF k) (rT (pk PF k) 80) r 4) 18)) ^^^ (tu (vS (bkH (bgF 8) PF k) (rT (pk PF k) 80) r 4) 41))) % B64) + ((((vS (bkH (bgF 8) PF k) (rT (pk PF k) 80) r 4) &&& (vS (bkH (bgF 8) PF k) (rT (pk PF k) 80) r 5)) + ((18446744073709551615 - (vS (bkH (bgF 8) PF k) (rT (pk PF k) 80) r 4)) &&& (vS (bkH (bgF 8) PF k) (rT (pk PF k) 80) r 6))) % B64)) % B64) + (cu r)) % B64) : Nat) : Int))), (143, .inl (.int .i64 (r : Nat))), (144, .inr (5, pt r)), (145, .inl (.int .u64 ((rT (pk PF k) 80 r) : Nat))), (146, .inl (.int .u64 (((((((((((vS (bkH (bgF 8) PF k) (rT (pk PF k) 80) r 7) + (((tu (vS (bkH (bgF 8) PF k) (rT (pk PF k) 80) r 4) 14) ^^^ (tu (vS (bkH (bgF 8) PF k) (rT (pk PF k) 80) r 4) 18)) ^^^ (tu (vS (bkH (bgF 8) PF k) (rT (pk PF k) 80) r 4) 41))) % B64) + ((((vS (bkH (bgF 8) PF k) (rT (pk PF k) 80) r 4) &&& (vS (bkH (bgF 8) PF k) (rT (pk PF k) 80) r 5)) + ((18446744073709551615 - (vS (bkH (bgF 8) PF k) (rT (pk PF k) 80) r 4)) &&& (vS (bkH (bgF 8) PF k) (rT (pk PF k) 80) r 6))) % B64)) % B64) + (cu r)) % B64) + (rT (pk PF k) 80 r)) % B64) : Nat) : Int))), (18, .inl (.int .u64 (((((((((((vS (bkH (bgF 8) PF k) (rT (pk PF k) 80) r 7) + (((tu (vS (bkH (bgF 8) PF k) (rT (pk PF k) 80) r 4) 14) ^^^ (tu (vS (bkH (bgF 8) PF k) (rT (pk PF k) 80) r 4) 18)) ^^^ (tu (vS (bkH (bgF 8) PF k) (rT (pk PF k) 80) r 4) 41))) % B64) + ((((vS (bkH (bgF 8) PF k) (rT (pk PF k) 80) r 4) &&& (vS (bkH (bgF 8) PF k) (rT (pk PF k) 80) r 5)) + ((18446744073709551615 - (vS (bkH (bgF 8) PF k) (rT (pk PF k) 80) r 4)) &&& (vS (bkH (bgF 8) PF k) (rT (pk PF k) 80) r 6))) % B64)) % B64) + (cu r)) % B64) + (rT (pk PF k) 80 r)) % B64) : Nat) : Int)))] [nn, eR 6, nn, nn, nn, nn, nn, nn, nn, nn, nn, nn, nn, eR 6, nn, nn, nn, nn, eR 6, nn, nn, nn, nn, nn, nn, eR 3, nn, nn, nn, eR 5] ?_ ?_
          · exact oc (k_ia 6 0 7 (.int .i64 (7 : Nat)) (ix8h (i := 7) (by omega)) rfl rfl) <|
            oc (k_ld 6 7 (.int .u64 ((vS (bkH (bgF 8) PF k) (rT (pk PF k) 80) r 7) : Nat)) (c := au 8 (vS (bkH (bgF 8) PF k) (rT (pk PF k) 80) r)) (ld_au (n := 8) (F := (vS (bkH (bgF 8) PF k) (rT (pk PF k) 80) r)) (i := 7) (t0 := 93) (by omega)) rfl rfl) <|
            oc (k_mv (.inl rfl) rfl) <|
            oc (k_ca 64 #[.int .u64 ((vS (bkH (bgF 8) PF k) (rT (pk PF k) 80) r 4) : Nat), .int .u64 (14 : Nat)] (.int .u64 ((tu (vS (bkH (bgF 8) PF k) (rT (pk PF k) 80) r 4) 14) : Nat)) (wide_k (vS_lt hH _ _) (by decide)) rfl rfl) <|
            oc (k_mv (.inl rfl) rfl) <|
            oc (k_ca 64 #[.int .u64 ((vS (bkH (bgF 8) PF k) (rT (pk PF k) 80) r 4) : Nat), .int .u64 (18 : Nat)] (.int .u64 ((tu (vS (bkH (bgF 8) PF k) (rT (pk PF k) 80) r 4) 18) : Nat)) (wide_k (vS_lt hH _ _) (by decide)) rfl rfl) <|
            oc (k_bi (.int .u64 ((tu (vS (bkH (bgF 8) PF k) (rT (pk PF k) 80) r 4) 14) : Nat)) (.int .u64 ((tu (vS (bkH (bgF 8) PF k) (rT (pk PF k) 80) r 4) 18) : Nat)) (.int .u64 (((tu (vS (bkH (bgF 8) PF k) (rT (pk PF k) 80) r 4) 14) ^^^ (tu (vS (bkH (bgF 8) PF k) (rT (pk PF k) 80) r 4) 18)) : Nat)) (xor_w (m := (tu (vS (bkH (bgF 8) PF k) (rT (pk PF k) 80) r 4) 14)) (n := (tu (vS (bkH (bgF 8) PF k) (rT (pk PF k) 80) r 4) 18)) (tu_lt (vS_lt hH _ _)) (tu_lt (vS_lt hH _ _))) rfl rfl) <|
            oc (k_mv (.inl rfl) rfl) <|
            oc (k_ca 64 #[.int .u64 ((vS (bkH (bgF 8) PF k) (rT (pk PF k) 80) r 4) : Nat), .int .u64 (41 : Nat)] (.int .u64 ((tu (vS (bkH (bgF 8) PF k) (rT (pk PF k) 80) r 4) 41) : Nat)) (wide_k (vS_lt hH _ _) (by decide)) rfl rfl) <|
            oc (k_bi (.int .u64 (((tu (vS (bkH (bgF 8) PF k) (rT (pk PF k) 80) r 4) 14) ^^^ (tu (vS (bkH (bgF 8) PF k) (rT (pk PF k) 80) r 4) 18)) : Nat)) (.int .u64 ((tu (vS (bkH (bgF 8) PF k) (rT (pk PF k) 80) r 4) 41) : Nat)) (.int .u64 (((((tu (vS (bkH (bgF 8) PF k) (rT (pk PF k) 80) r 4) 14) ^^^ (tu (vS (bkH (bgF 8) PF k) (rT (pk PF k) 80) r 4) 18)) ^^^ (tu (vS (bkH (bgF 8) PF k) (rT (pk PF k) 80) r 4) 41)) : Nat) : Int)) (xor_w (m := ((tu (vS (bkH (bgF 8) PF k) (rT (pk PF k) 80) r 4) 14) ^^^ (tu (vS (bkH (bgF 8) PF k) (rT (pk PF k) 80) r 4) 18))) (n := (tu (vS (bkH (bgF 8) PF k) (rT (pk PF k) 80) r 4) 41)) (xor_lt (tu_lt (vS_lt hH _ _)) (tu_lt (vS_lt hH _ _))) (tu_lt (vS_lt hH _ _))) rfl rfl) <|
            oc (k_bi (.int .u64 ((vS (bkH (bgF 8) PF k) (rT (pk PF k) 80) r 7) : Nat)) (.int .u64 (((((tu (vS (bkH (bgF 8) PF k) (rT (pk PF k) 80) r 4) 14) ^^^ (tu (vS (bkH (bgF 8) PF k) (rT (pk PF k) 80) r 4) 18)) ^^^ (tu (vS (bkH (bgF 8) PF k) (rT (pk PF k) 80) r 4) 41)) : Nat) : Int)) (.int .u64 (((((vS (bkH (bgF 8) PF k) (rT (pk PF k) 80) r 7) + (((tu (vS (bkH (bgF 8) PF k) (rT (pk PF k) 80) r 4) 14) ^^^ (tu (vS (bkH (bgF 8) PF k) (rT (pk PF k) 80) r 4) 18)) ^^^ (tu (vS (bkH (bgF 8) PF k) (rT (pk PF k) 80) r 4) 41))) % B64) : Nat) : Int)) (ad_w (m := (vS (bkH (bgF 8) PF k) (rT (pk PF k) 80) r 7)) (n := (((tu (vS (bkH (bgF 8) PF k) (rT (pk PF k) 80) r 4) 14) ^^^ (tu (vS (bkH (bgF 8) PF k) (rT (pk PF k) 80) r 4) 18)) ^^^ (tu (vS (bkH (bgF 8) PF k) (rT (pk PF k) 80) r 4) 41)))) rfl rfl) <|
            oc (k_mv (.inl rfl) rfl) <|
            oc (k_ia 6 0 5 (.int .i64 (5 : Nat)) (ix8h (i := 5) (by omega)) rfl rfl) <|
            oc (k_ld 6 5 (.int .u64 ((vS (bkH (bgF 8) PF k) (rT (pk PF k) 80) r 5) : Nat)) (c := au 8 (vS (bkH (bgF 8) PF k) (rT (pk PF k) 80) r)) (ld_au (n := 8) (F := (vS (bkH (bgF 8) PF k) (rT (pk PF k) 80) r)) (i := 5) (t0 := 93) (by omega)) rfl rfl) <|
            oc (k_bi (.int .u64 ((vS (bkH (bgF 8) PF k) (rT (pk PF k) 80) r 4) : Nat)) (.int .u64 ((vS (bkH (bgF 8) PF k) (rT (pk PF k) 80) r 5) : Nat)) (.int .u64 (((vS (bkH (bgF 8) PF k) (rT (pk PF k) 80) r 4) &&& (vS (bkH (bgF 8) PF k) (rT (pk PF k) 80) r 5)) : Nat)) (and_w (m := (vS (bkH (bgF 8) PF k) (rT (pk PF k) 80) r 4)) (n := (vS (bkH (bgF 8) PF k) (rT (pk PF k) 80) r 5)) (vS_lt hH _ _) (vS_lt hH _ _)) rfl rfl) <|
            oc (k_mv (.inl rfl) rfl) <|
            oc (k_bi (.int .u64 (18446744073709551615 : Nat)) (.int .u64 ((vS (bkH (bgF 8) PF k) (rT (pk PF k) 80) r 4) : Nat)) (.int .u64 ((18446744073709551615 - (vS (bkH (bgF 8) PF k) (rT (pk PF k) 80) r 4)) : Nat)) (sb_m (n := (vS (bkH (bgF 8) PF k) (rT (pk PF k) 80) r 4)) (vS_lt hH _ _)) rfl rfl) <|
            oc (k_ia 6 0 6 (.int .i64 (6 : Nat)) (ix8h (i := 6) (by omega)) rfl rfl) <|
            oc (k_ld 6 6 (.int .u64 ((vS (bkH (bgF 8) PF k) (rT (pk PF k) 80) r 6) : Nat)) (c := au 8 (vS (bkH (bgF 8) PF k) (rT (pk PF k) 80) r)) (ld_au (n := 8) (F := (vS (bkH (bgF 8) PF k) (rT (pk PF k) 80) r)) (i := 6) (t0 := 93) (by omega)) rfl rfl) <|
            oc (k_bi (.int .u64 ((18446744073709551615 - (vS (bkH (bgF 8) PF k) (rT (pk PF k) 80) r 4)) : Nat)) (.int .u64 ((vS (bkH (bgF 8) PF k) (rT (pk PF k) 80) r 6) : Nat)) (.int .u64 (((18446744073709551615 - (vS (bkH (bgF 8) PF k) (rT (pk PF k) 80) r 4)) &&& (vS (bkH (bgF 8) PF k) (rT (pk PF k) 80) r 6)) : Nat)) (and_w (m := (18446744073709551615 - (vS (bkH (bgF 8) PF k) (rT (pk PF k) 80) r 4))) (n := (vS (bkH (bgF 8) PF k) (rT (pk PF k) 80) r 6)) (um_lt _) (vS_lt hH _ _)) rfl rfl) <|
            oc (k_bi (.int .u64 (((vS (bkH (bgF 8) PF k) (rT (pk PF k) 80) r 4) &&& (vS (bkH (bgF 8) PF k) (rT (pk PF k) 80) r 5)) : Nat)) (.int .u64 (((18446744073709551615 - (vS (bkH (bgF 8) PF k) (rT (pk PF k) 80) r 4)) &&& (vS (bkH (bgF 8) PF k) (rT (pk PF k) 80) r 6)) : Nat)) (.int .u64 ((((((vS (bkH (bgF 8) PF k) (rT (pk PF k) 80) r 4) &&& (vS (bkH (bgF 8) PF k) (rT (pk PF k) 80) r 5)) + ((18446744073709551615 - (vS (bkH (bgF 8) PF k) (rT (pk PF k) 80) r 4)) &&& (vS (bkH (bgF 8) PF k) (rT (pk PF k) 80) r 6))) % B64) : Nat) : Int)) (ad_w (m := ((vS (bkH (bgF 8) PF k) (rT (pk PF k) 80) r 4) &&& (vS (bkH (bgF 8) PF k) (rT (pk PF k) 80) r 5))) (n := ((18446744073709551615 - (vS (bkH (bgF 8) PF k) (rT (pk PF k) 80) r 4)) &&& (vS (bkH (bgF 8) PF k) (rT (pk PF k) 80) r 6)))) rfl rfl) <|
            oc (k_bi (.int .u64 (((((vS (bkH (bgF 8) PF k) (rT (pk PF k) 80) r 7) + (((tu (vS (bkH (bgF 8) PF k) (rT (pk PF k) 80) r 4) 14) ^^^ (tu (vS (bkH (bgF 8) PF k) (rT (pk PF k) 80) r 4) 18)) ^^^ (tu (vS (bkH (bgF 8) PF k) (rT (pk PF k) 80) r 4) 41))) % B64) : Nat) : Int)) (.int .u64 ((((((vS (bkH (bgF 8) PF k) (rT (pk PF k) 80) r 4) &&& (vS (bkH (bgF 8) PF k) (rT (pk PF k) 80) r 5)) + ((18446744073709551615 - (vS (bkH (bgF 8) PF k) (rT (pk PF k) 80) r 4)) &&& (vS (bkH (bgF 8) PF k) (rT (pk PF k) 80) r 6))) % B64) : Nat) : Int)) (.int .u64 (((((((vS (bkH (bgF 8) PF k) (rT (pk PF k) 80) r 7) + (((tu (vS (bkH (bgF 8) PF k) (rT (pk PF k) 80) r 4) 14) ^^^ (tu (vS (bkH (bgF 8) PF k) (rT (pk PF k) 80) r 4) 18)) ^^^ (tu (vS (bkH (bgF 8) PF k) (rT (pk PF k) 80) r 4) 41))) % B64) + ((((vS (bkH (bgF 8) PF k) (rT (pk PF k) 80) r 4) &&& (vS (bkH (bgF 8) PF k) (rT (pk PF k) 80) r 5)) + ((18446744073709551615 - (vS (bkH (bgF 8) PF k) (rT (pk PF k) 80) r 4)) &&& (vS (bkH (bgF 8) PF k) (rT (pk PF k) 80) r 6))) % B64)) % B64) : Nat) : Int)) (ad_w (m := (((vS (bkH (bgF 8) PF k) (rT (pk PF k) 80) r 7) + (((tu (vS (bkH (bgF 8) PF k) (rT (pk PF k) 80) r 4) 14) ^^^ (tu (vS (bkH (bgF 8) PF k) (rT (pk PF k) 80) r 4) 18)) ^^^ (tu (vS (bkH (bgF 8) PF k) (rT (pk PF k) 80) r 4) 41))) % B64)) (n := ((((vS (bkH (bgF 8) PF k) (rT (pk PF k) 80) r 4) &&& (vS (bkH (bgF 8) PF k) (rT (pk PF k) 80) r 5)) + ((18446744073709551615 - (vS (bkH (bgF 8) PF k) (rT (pk PF k) 80) r 4)) &&& (vS (bkH (bgF 8) PF k) (rT (pk PF k) 80) r 6))) % B64))) rfl rfl) <|
            oc (k_mp 3 (sl 0 80 80) (.inl rfl) rfl) <|
            oc (k_mv (.inl rfl) rfl) <|
            oc (k_ib 3 ((0 + r)) (sl 0 80 80) (.int .i64 (r : Nat)) (ix_pq (i := r) (by omega)) rfl rfl) <|
            oc (k_ld 3 ((0 + r)) (.int .u64 ((cu r) : Nat)) (c := au 80 cu) (ld_au0 (n := 80) (F := cu) (i := r) (t0 := 42) (by omega)) rfl rfl) <|
            oc (k_bi (.int .u64 (((((((vS (bkH (bgF 8) PF k) (rT (pk PF k) 80) r 7) + (((tu (vS (bkH (bgF 8) PF k) (rT (pk PF k) 80) r 4) 14) ^^^ (tu (vS (bkH (bgF 8) PF k) (rT (pk PF k) 80) r 4) 18)) ^^^ (tu (vS (bkH (bgF 8) PF k) (rT (pk PF k) 80) r 4) 41))) % B64) + ((((vS (bkH (bgF 8) PF k) (rT (pk PF k) 80) r 4) &&& (vS (bkH (bgF 8) PF k) (rT (pk PF k) 80) r 5)) + ((18446744073709551615 - (vS (bkH (bgF 8) PF k) (rT (pk PF k) 80) r 4)) &&& (vS (bkH (bgF 8) PF k) (rT (pk PF k) 80) r 6))) % B64)) % B64) : Nat) : Int)) (.int .u64 ((cu r) : Nat)) (.int .u64 (((((((((vS (bkH (bgF 8) PF k) (rT (pk PF k) 80) r 7) + (((tu (vS (bkH (bgF 8) PF k) (rT (pk PF k) 80) r 4) 14) ^^^ (tu (vS (bkH (bgF 8) PF k) (rT (pk PF k) 80) r 4) 18)) ^^^ (tu (vS (bkH (bgF 8) PF k) (rT (pk PF k) 80) r 4) 41))) % B64) + ((((vS (bkH (bgF 8) PF k) (rT (pk PF k) 80) r 4) &&& (vS (bkH (bgF 8) PF k) (rT (pk PF k) 80) r 5)) + ((18446744073709551615 - (vS (bkH (bgF 8) PF k) (rT (pk PF k) 80) r 4)) &&& (vS (bkH (bgF 8) PF k) (rT (pk PF k) 80) r 6))) % B64)) % B64) + (cu r)) % B64) : Nat) : Int)) (ad_w (m := (((((vS (bkH (bgF 8) PF k) (rT (pk PF k) 80) r 7) + (((tu (vS (bkH (bgF 8) PF k) (rT (pk PF k) 80) r 4) 14) ^^^ (tu (vS (bkH (bgF 8) PF k) (rT (pk PF k) 80) r 4) 18)) ^^^ (tu (vS (bkH (bgF 8) PF k) (rT (pk PF k) 80) r 4) 41))) % B64) + ((((vS (bkH (bgF 8) PF k) (rT (pk PF k) 80) r 4) &&& (vS (bkH (bgF 8) PF k) (rT (pk PF k) 80) r 5)) + ((18446744073709551615 - (vS (bkH (bgF 8) PF k) (rT (pk PF k) 80) r 4)) &&& (vS (bkH (bgF 8) PF k) (rT (pk PF k) 80) r 6))) % B64)) % B64)) (n := (cu r))) rfl rfl) <|
            oc (k_mv (.inl rfl) rfl) <|
            oc (k_ia 5 0 r (.int .i64 (r : Nat)) (ixW (i := r) (by omega)) rfl rfl) <|
            oc (k_ld 5 r (.int .u64 ((rT (pk PF k) 80 r) : Nat)) (c := au 80 (rT (pk PF k) 80)) (ld_au (n := 80) (F := (rT (pk PF k) 80)) (i := r) (t0 := 103) (by omega)) rfl rfl) <|
            oz (k_bi (.int .u64 (((((((((vS (bkH (bgF 8) PF k) (rT (pk PF k) 80) r 7) + (((tu (vS (bkH (bgF 8) PF k) (rT (pk PF k) 80) r 4) 14) ^^^ (tu (vS (bkH (bgF 8) PF k) (rT (pk PF k) 80) r 4) 18)) ^^^ (tu (vS (bkH (bgF 8) PF k) (rT (pk PF k) 80) r 4) 41))) % B64) + ((((vS (bkH (bgF 8) PF k) (rT (pk PF k) 80) r 4) &&& (vS (bkH (bgF 8) PF k) (rT (pk PF k) 80) r 5)) + ((18446744073709551615 - (vS (bkH (bgF 8) PF k) (rT (pk PF k) 80) r 4)) &&& (vS (bkH (bgF 8) PF k) (rT (pk PF k) 80) r 6))) % B64)) % B64) + (cu r)) % B64) : Nat) : Int)) (.int .u64 ((rT (pk PF k) 80 r) : Nat)) (.int .u64 (((((((((((vS (bkH (bgF 8) PF k) (rT (pk PF k) 80) r 7) + (((tu (vS (bkH (bgF 8) PF k) (rT (pk PF k) 80) r 4) 14) ^^^ (tu (vS (bkH (bgF 8) PF k) (rT (pk PF k) 80) r 4) 18)) ^^^ (tu (vS (bkH (bgF 8) PF k) (rT (pk PF k) 80) r 4) 41))) % B64) + ((((vS (bkH (bgF 8) PF k) (rT (pk PF k) 80) r 4) &&& (vS (bkH (bgF 8) PF k) (rT (pk PF k) 80) r 5)) + ((18446744073709551615 - (vS (bkH (bgF 8) PF k) (rT (pk PF k) 80) r 4)) &&& (vS (bkH (bgF 8) PF k) (rT (pk PF k) 80) r 6))) % B64)) % B64) + (cu r)) % B64) + (rT (pk PF k) 80 r)) % B64) : Nat) : Int)) (ad_w (m := (((((((vS (bkH (bgF 8) PF k) (rT (pk PF k) 80) r 7) + (((tu (vS (bkH (bgF 8) PF k) (rT (pk PF k) 80) r 4) 14) ^^^ (tu (vS (bkH (bgF 8) PF k) (rT (pk PF k) 80) r 4) 18)) ^^^ (tu (vS (bkH (bgF 8) PF k) (rT (pk PF k) 80) r 4) 41))) % B64) + ((((vS (bkH (bgF 8) PF k) (rT (pk PF k) 80) r 4) &&& (vS (bkH (bgF 8) PF k) (rT (pk PF k) 80) r 5)) + ((18446744073709551615 - (vS (bkH (bgF 8) PF k) (rT (pk PF k) 80) r 4)) &&& (vS (bkH (bgF 8) PF k) (rT (pk PF k) 80) r 6))) % B64)) % B64) + (cu r)) % B64)) (n := (rT (pk PF k) 80 r))) rfl rfl) <|
            oz (k_mv (.inr rfl) rfl) <|
            ok_nil
          clear h; intro β a w h
          refine sym_then ?_
          refine sym_seq ?_
          refine St.r0 h [(147, .inl (.int .u64 ((vS (bkH (bgF 8) PF k) (rT (pk PF k) 80) r 0) : Nat))), (148, .inl (.int .u64 ((tu (vS (bkH (bgF 8) PF k) (rT (pk PF k) 80) r 0) 28) : Nat))), (149, .inl (.int .u64 ((vS (bkH (bgF 8) PF k) (rT (pk PF k) 80) r 0) : Nat))), (150, .inl (.int .u64 ((tu (vS (bkH (bgF 8) PF k) (rT (pk PF k) 80) r 0) 34) : Nat))), (151, .inl (.int .u64 (((tu (vS (bkH (bgF 8) PF k) (rT (pk PF k) 80) r 0) 28) ^^^ (tu (vS (bkH (bgF 8) PF k) (rT (pk PF k) 80) r 0) 34)) : Nat))), (152, .inl (.int .u64 ((vS (bkH (bgF 8) PF k) (rT (pk PF k) 80) r 0) : Nat))), (153, .inl (.int .u64 ((tu (vS (bkH (bgF 8) PF k) (rT (pk PF k) 80) r 0) 39) : Nat))), (154, .inl (.int .u64 (((((tu (vS (bkH (bgF 8) PF k) (rT (pk PF k) 80) r 0) 28) ^^^ (tu (vS (bkH (bgF 8) PF k) (rT (pk PF k) 80) r 0) 34)) ^^^ (tu (vS (bkH (bgF 8) PF k) (rT (pk PF k) 80) r 0) 39)) : Nat) : Int))), (155, .inl (.int .u64 ((vS (bkH (bgF 8) PF k) (rT (pk PF k) 80) r 0) : Nat))), (156, .inr (6, pt 1)), (157, .inl (.int .u64 ((vS (bkH (bgF 8) PF k) (rT (pk PF k) 80) r 1) : Nat))), (158, .inl (.int .u64 (((vS (bkH (bgF 8) PF k) (rT (pk PF k) 80) r 0) &&& (vS (bkH (bgF 8) PF k) (rT (pk PF k) 80) r 1)) : Nat))), (159, .inl (.int .u64 ((vS (bkH (bgF 8) PF k) (rT (pk PF k) 80) r 0) : Nat))), (160, .inr (6, pt 2)), (161, .inl (.int .u64 ((vS (bkH (bgF 8) PF k) (rT (pk PF k) 80) r 2) : Nat))), (162, .inl (.int .u64 (((vS (bkH (bgF 8) PF k) (rT (pk PF k) 80) r 0) &&& (vS (bkH (bgF 8) PF k) (rT (pk PF k) 80) r 2)) : Nat))), (163, .inl (.int .u64 ((((vS (bkH (bgF 8) PF k) (rT (pk PF k) 80) r 0) &&& (vS (bkH (bgF 8) PF k) (rT (pk PF k) 80) r 1)) ||| ((vS (bkH (bgF 8) PF k) (rT (pk PF k) 80) r 0) &&& (vS (bkH (bgF 8) PF k) (rT (pk PF k) 80) r 2))) : Nat))), (164, .inr (6, pt 1)), (165, .inl (.int .u64 ((vS (bkH (bgF 8) PF k) (rT (pk PF k) 80) r 1) : Nat))), (166, .inr (6, pt 2)), (167, .inl (.int .u64 ((vS (bkH (bgF 8) PF k) (rT (pk PF k) 80) r 2) : Nat))), (168, .inl (.int .u64 (((vS (bkH (bgF 8) PF k) (rT (pk PF k) 80) r 1) &&& (vS (bkH (bgF 8) PF k) (rT (pk PF k) 80) r 2)) : Nat))), (169, .inl (.int .u64 ((((((vS (bkH (bgF 8) PF k) (rT (pk PF k) 80) r 0) &&& (vS (bkH (bgF 8) PF k) (rT (pk PF k) 80) r 1)) ||| ((vS (bkH (bgF 8) PF k) (rT (pk PF k) 80) r 0) &&& (vS (bkH (bgF 8) PF k) (rT (pk PF k) 80) r 2))) ||| ((vS (bkH (bgF 8) PF k) (rT (pk PF k) 80) r 1) &&& (vS (bkH (bgF 8) PF k) (rT (pk PF k) 80) r 2))) : Nat) : Int))), (170, .inl (.int .u64 (((((((tu (vS (bkH (bgF 8) PF k) (rT (pk PF k) 80) r 0) 28) ^^^ (tu (vS (bkH (bgF 8) PF k) (rT (pk PF k) 80) r 0) 34)) ^^^ (tu (vS (bkH (bgF 8) PF k) (rT (pk PF k) 80) r 0) 39)) + ((((vS (bkH (bgF 8) PF k) (rT (pk PF k) 80) r 0) &&& (vS (bkH (bgF 8) PF k) (rT (pk PF k) 80) r 1)) ||| ((vS (bkH (bgF 8) PF k) (rT (pk PF k) 80) r 0) &&& (vS (bkH (bgF 8) PF k) (rT (pk PF k) 80) r 2))) ||| ((vS (bkH (bgF 8) PF k) (rT (pk PF k) 80) r 1) &&& (vS (bkH (bgF 8) PF k) (rT (pk PF k) 80) r 2)))) % B64) : Nat) : Int))), (19, .inl (.int .u64 (((((((tu (vS (bkH (bgF 8) PF k) (rT (pk PF k) 80) r 0) 28) ^^^ (tu (vS (bkH (bgF 8) PF k) (rT (pk PF k) 80) r 0) 34)) ^^^ (tu (vS (bkH (bgF 8) PF k) (rT (pk PF k) 80) r 0) 39)) + ((((vS (bkH (bgF 8) PF k) (rT (pk PF k) 80) r 0) &&& (vS (bkH (bgF 8) PF k) (rT (pk PF k) 80) r 1)) ||| ((vS (bkH (bgF 8) PF k) (rT (pk PF k) 80) r 0) &&& (vS (bkH (bgF 8) PF k) (rT (pk PF k) 80) r 2))) ||| ((vS (bkH (bgF 8) PF k) (rT (pk PF k) 80) r 1) &&& (vS (bkH (bgF 8) PF k) (rT (pk PF k) 80) r 2)))) % B64) : Nat) : Int)))] [nn, nn, nn, nn, nn, nn, nn, nn, nn, nn, eR 6, nn, nn, nn, eR 6, nn, nn, nn, eR 6, nn, eR 6] ?_ ?_
          · exact oc (k_mv (.inl rfl) rfl) <|
            oc (k_ca 64 #[.int .u64 ((vS (bkH (bgF 8) PF k) (rT (pk PF k) 80) r 0) : Nat), .int .u64 (28 : Nat)] (.int .u64 ((tu (vS (bkH (bgF 8) PF k) (rT (pk PF k) 80) r 0) 28) : Nat)) (wide_k (vS_lt hH _ _) (by decide)) rfl rfl) <|
            oc (k_mv (.inl rfl) rfl) <|
            oc (k_ca 64 #[.int .u64 ((vS (bkH (bgF 8) PF k) (rT (pk PF k) 80) r 0) : Nat), .int .u64 (34 : Nat)] (.int .u64 ((tu (vS (bkH (bgF 8) PF k) (rT (pk PF k) 80) r 0) 34) : Nat)) (wide_k (vS_lt hH _ _) (by decide)) rfl rfl) <|
            oc (k_bi (.int .u64 ((tu (vS (bkH (bgF 8) PF k) (rT (pk PF k) 80) r 0) 28) : Nat)) (.int .u64 ((tu (vS (bkH (bgF 8) PF k) (rT (pk PF k) 80) r 0) 34) : Nat)) (.int .u64 (((tu (vS (bkH (bgF 8) PF k) (rT (pk PF k) 80) r 0) 28) ^^^ (tu (vS (bkH (bgF 8) PF k) (rT (pk PF k) 80) r 0) 34)) : Nat)) (xor_w (m := (tu (vS (bkH (bgF 8) PF k) (rT (pk PF k) 80) r 0) 28)) (n := (tu (vS (bkH (bgF 8) PF k) (rT (pk PF k) 80) r 0) 34)) (tu_lt (vS_lt hH _ _)) (tu_lt (vS_lt hH _ _))) rfl rfl) <|
            oc (k_mv (.inl rfl) rfl) <|
            oc (k_ca 64 #[.int .u64 ((vS (bkH (bgF 8) PF k) (rT (pk PF k) 80) r 0) : Nat), .int .u64 (39 : Nat)] (.int .u64 ((tu (vS (bkH (bgF 8) PF k) (rT (pk PF k) 80) r 0) 39) : Nat)) (wide_k (vS_lt hH _ _) (by decide)) rfl rfl) <|
            oc (k_bi (.int .u64 (((tu (vS (bkH (bgF 8) PF k) (rT (pk PF k) 80) r 0) 28) ^^^ (tu (vS (bkH (bgF 8) PF k) (rT (pk PF k) 80) r 0) 34)) : Nat)) (.int .u64 ((tu (vS (bkH (bgF 8) PF k) (rT (pk PF k) 80) r 0) 39) : Nat)) (.int .u64 (((((tu (vS (bkH (bgF 8) PF k) (rT (pk PF k) 80) r 0) 28) ^^^ (tu (vS (bkH (bgF 8) PF k) (rT (pk PF k) 80) r 0) 34)) ^^^ (tu (vS (bkH (bgF 8) PF k) (rT (pk PF k) 80) r 0) 39)) : Nat) : Int)) (xor_w (m := ((tu (vS (bkH (bgF 8) PF k) (rT (pk PF k) 80) r 0) 28) ^^^ (tu (vS (bkH (bgF 8) PF k) (rT (pk PF k) 80) r 0) 34))) (n := (tu (vS (bkH (bgF 8) PF k) (rT (pk PF k) 80) r 0) 39)) (xor_lt (tu_lt (vS_lt hH _ _)) (tu_lt (vS_lt hH _ _))) (tu_lt (vS_lt hH _ _))) rfl rfl) <|
            oc (k_mv (.inl rfl) rfl) <|
            oc (k_ia 6 0 1 (.int .i64 (1 : Nat)) (ix8h (i := 1) (by omega)) rfl rfl) <|
            oc (k_ld 6 1 (.int .u64 ((vS (bkH (bgF 8) PF k) (rT (pk PF k) 80) r 1) : Nat)) (c := au 8 (vS (bkH (bgF 8) PF k) (rT (pk PF k) 80) r)) (ld_au (n := 8) (F := (vS (bkH (bgF 8) PF k) (rT (pk PF k) 80) r)) (i := 1) (t0 := 93) (by omega)) rfl rfl) <|
            oc (k_bi (.int .u64 ((vS (bkH (bgF 8) PF k) (rT (pk PF k) 80) r 0) : Nat)) (.int .u64 ((vS (bkH (bgF 8) PF k) (rT (pk PF k) 80) r 1) : Nat)) (.int .u64 (((vS (bkH (bgF 8) PF k) (rT (pk PF k) 80) r 0) &&& (vS (bkH (bgF 8) PF k) (rT (pk PF k) 80) r 1)) : Nat)) (and_w (m := (vS (bkH (bgF 8) PF k) (rT (pk PF k) 80) r 0)) (n := (vS (bkH (bgF 8) PF k) (rT (pk PF k) 80) r 1)) (vS_lt hH _ _) (vS_lt hH _ _)) rfl rfl) <|
            oc (k_mv (.inl rfl) rfl) <|
            oc (k_ia 6 0 2 (.int .i64 (2 : Nat)) (ix8h (i := 2) (by omega)) rfl rfl) <|
            oc (k_ld 6 2 (.int .u64 ((vS (bkH (bgF 8) PF k) (rT (pk PF k) 80) r 2) : Nat)) (c := au 8 (vS (bkH (bgF 8) PF k) (rT (pk PF k) 80) r)) (ld_au (n := 8) (F := (vS (bkH (bgF 8) PF k) (rT (pk PF k) 80) r)) (i := 2) (t0 := 93) (by omega)) rfl rfl) <|
            oc (k_bi (.int .u64 ((vS (bkH (bgF 8) PF k) (rT (pk PF k) 80) r 0) : Nat)) (.int .u64 ((vS (bkH (bgF 8) PF k) (rT (pk PF k) 80) r 2) : Nat)) (.int .u64 (((vS (bkH (bgF 8) PF k) (rT (pk PF k) 80) r 0) &&& (vS (bkH (bgF 8) PF k) (rT (pk PF k) 80) r 2)) : Nat)) (and_w (m := (vS (bkH (bgF 8) PF k) (rT (pk PF k) 80) r 0)) (n := (vS (bkH (bgF 8) PF k) (rT (pk PF k) 80) r 2)) (vS_lt hH _ _) (vS_lt hH _ _)) rfl rfl) <|
            oc (k_bi (.int .u64 (((vS (bkH (bgF 8) PF k) (rT (pk PF k) 80) r 0) &&& (vS (bkH (bgF 8) PF k) (rT (pk PF k) 80) r 1)) : Nat)) (.int .u64 (((vS (bkH (bgF 8) PF k) (rT (pk PF k) 80) r 0) &&& (vS (bkH (bgF 8) PF k) (rT (pk PF k) 80) r 2)) : Nat)) (.int .u64 ((((vS (bkH (bgF 8) PF k) (rT (pk PF k) 80) r 0) &&& (vS (bkH (bgF 8) PF k) (rT (pk PF k) 80) r 1)) ||| ((vS (bkH (bgF 8) PF k) (rT (pk PF k) 80) r 0) &&& (vS (bkH (bgF 8) PF k) (rT (pk PF k) 80) r 2))) : Nat)) (or_w (m := ((vS (bkH (bgF 8) PF k) (rT (pk PF k) 80) r 0) &&& (vS (bkH (bgF 8) PF k) (rT (pk PF k) 80) r 1))) (n := ((vS (bkH (bgF 8) PF k) (rT (pk PF k) 80) r 0) &&& (vS (bkH (bgF 8) PF k) (rT (pk PF k) 80) r 2))) (and_lt (vS_lt hH _ _)) (and_lt (vS_lt hH _ _))) rfl rfl) <|
            oc (k_ia 6 0 1 (.int .i64 (1 : Nat)) (ix8h (i := 1) (by omega)) rfl rfl) <|
            oc (k_ld 6 1 (.int .u64 ((vS (bkH (bgF 8) PF k) (rT (pk PF k) 80) r 1) : Nat)) (c := au 8 (vS (bkH (bgF 8) PF k) (rT (pk PF k) 80) r)) (ld_au (n := 8) (F := (vS (bkH (bgF 8) PF k) (rT (pk PF k) 80) r)) (i := 1) (t0 := 93) (by omega)) rfl rfl) <|
            oc (k_ia 6 0 2 (.int .i64 (2 : Nat)) (ix8h (i := 2) (by omega)) rfl rfl) <|
            oc (k_ld 6 2 (.int .u64 ((vS (bkH (bgF 8) PF k) (rT (pk PF k) 80) r 2) : Nat)) (c := au 8 (vS (bkH (bgF 8) PF k) (rT (pk PF k) 80) r)) (ld_au (n := 8) (F := (vS (bkH (bgF 8) PF k) (rT (pk PF k) 80) r)) (i := 2) (t0 := 93) (by omega)) rfl rfl) <|
            oz (k_bi (.int .u64 ((vS (bkH (bgF 8) PF k) (rT (pk PF k) 80) r 1) : Nat)) (.int .u64 ((vS (bkH (bgF 8) PF k) (rT (pk PF k) 80) r 2) : Nat)) (.int .u64 (((vS (bkH (bgF 8) PF k) (rT (pk PF k) 80) r 1) &&& (vS (bkH (bgF 8) PF k) (rT (pk PF k) 80) r 2)) : Nat)) (and_w (m := (vS (bkH (bgF 8) PF k) (rT (pk PF k) 80) r 1)) (n := (vS (bkH (bgF 8) PF k) (rT (pk PF k) 80) r 2)) (vS_lt hH _ _) (vS_lt hH _ _)) rfl rfl) <|
            oz (k_bi (.int .u64 ((((vS (bkH (bgF 8) PF k) (rT (pk PF k) 80) r 0) &&& (vS (bkH (bgF 8) PF k) (rT (pk PF k) 80) r 1)) ||| ((vS (bkH (bgF 8) PF k) (rT (pk PF k) 80) r 0) &&& (vS (bkH (bgF 8) PF k) (rT (pk PF k) 80) r 2))) : Nat)) (.int .u64 (((vS (bkH (bgF 8) PF k) (rT (pk PF k) 80) r 1) &&& (vS (bkH (bgF 8) PF k) (rT (pk PF k) 80) r 2)) : Nat)) (.int .u64 ((((((vS (bkH (bgF 8) PF k) (rT (pk PF k) 80) r 0) &&& (vS (bkH (bgF 8) PF k) (rT (pk PF k) 80) r 1)) ||| ((vS (bkH (bgF 8) PF k) (rT (pk PF k) 80) r 0) &&& (vS (bkH (bgF 8) PF k) (rT (pk PF k) 80) r 2))) ||| ((vS (bkH (bgF 8) PF k) (rT (pk PF k) 80) r 1) &&& (vS (bkH (bgF 8) PF k) (rT (pk PF k) 80) r 2))) : Nat) : Int)) (or_w (m := (((vS (bkH (bgF 8) PF k) (rT (pk PF k) 80) r 0) &&& (vS (bkH (bgF 8) PF k) (rT (pk PF k) 80) r 1)) ||| ((vS (bkH (bgF 8) PF k) (rT (pk PF k) 80) r 0) &&& (vS (bkH (bgF 8) PF k) (rT (pk PF k) 80) r 2)))) (n := ((vS (bkH (bgF 8) PF k) (rT (pk PF k) 80) r 1) &&& (vS (bkH (bgF 8) PF k) (rT (pk PF k) 80) r 2))) (or_lt (and_lt (vS_lt hH _ _)) (and_lt (vS_lt hH _ _))) (and_lt (vS_lt hH _ _))) rfl rfl) <|
            oz (k_bi (.int .u64 (((((tu (vS (bkH (bgF 8) PF k) (rT (pk PF k) 80) r 0) 28) ^^^ (tu (vS (bkH (bgF 8) PF k) (rT (pk PF k) 80) r 0) 34)) ^^^ (tu (vS (bkH (bgF 8) PF k) (rT (pk PF k) 80) r 0) 39)) : Nat) : Int)) (.int .u64 ((((((vS (bkH (bgF 8) PF k) (rT (pk PF k) 80) r 0) &&& (vS (bkH (bgF 8) PF k) (rT (pk PF k) 80) r 1)) ||| ((vS (bkH (bgF 8) PF k) (rT (pk PF k) 80) r 0) &&& (vS (bkH (bgF 8) PF k) (rT (pk PF k) 80) r 2))) ||| ((vS (bkH (bgF 8) PF k) (rT (pk PF k) 80) r 1) &&& (vS (bkH (bgF 8) PF k) (rT (pk PF k) 80) r 2))) : Nat) : Int)) (.int .u64 (((((((tu (vS (bkH (bgF 8) PF k) (rT (pk PF k) 80) r 0) 28) ^^^ (tu (vS (bkH (bgF 8) PF k) (rT (pk PF k) 80) r 0) 34)) ^^^ (tu (vS (bkH (bgF 8) PF k) (rT (pk PF k) 80) r 0) 39)) + ((((vS (bkH (bgF 8) PF k) (rT (pk PF k) 80) r 0) &&& (vS (bkH (bgF 8) PF k) (rT (pk PF k) 80) r 1)) ||| ((vS (bkH (bgF 8) PF k) (rT (pk PF k) 80) r 0) &&& (vS (bkH (bgF 8) PF k) (rT (pk PF k) 80) r 2))) ||| ((vS (bkH (bgF 8) PF k) (rT (pk PF k) 80) r 1) &&& (vS (bkH (bgF 8) PF k) (rT (pk PF k) 80) r 2)))) % B64) : Nat) : Int)) (ad_w (m := (((tu (vS (bkH (bgF 8) PF k) (rT (pk PF k) 80) r 0) 28) ^^^ (tu (vS (bkH (bgF 8) PF k) (rT (pk PF k) 80) r 0) 34)) ^^^ (tu (vS (bkH (bgF 8) PF k) (rT (pk PF k) 80) r 0) 39))) (n := ((((vS (bkH (bgF 8) PF k) (rT (pk PF k) 80) r 0) &&& (vS (bkH (bgF 8) PF k) (rT (pk PF k) 80) r 1)) ||| ((vS (bkH (bgF 8) PF k) (rT (pk PF k) 80) r 0) &&& (vS (bkH (bgF 8) PF k) (rT (pk PF k) 80) r 2))) ||| ((vS (bkH (bgF 8) PF k) (rT (pk PF k) 80) r 1) &&& (vS (bkH (bgF 8) PF k) (rT (pk PF k) 80) r 2))))) rfl rfl) <|
            oz (k_mv (.inr rfl) rfl) <|
            ok_nil
          clear h; intro β a w h
          refine sym_then ?_
          refine St.rg h [(171, .inl (.int .u64 (((((((((((vS (bkH (bgF 8) PF k) (rT (pk PF k) 80) r 7) + (((tu (vS (bkH (bgF 8) PF k) (rT (pk PF k) 80) r 4) 14) ^^^ (tu (vS (bkH (bgF 8) PF k) (rT (pk PF k) 80) r 4) 18)) ^^^ (tu (vS (bkH (bgF 8) PF k) (rT (pk PF k) 80) r 4) 41))) % B64) + ((((vS (bkH (bgF 8) PF k) (rT (pk PF k) 80) r 4) &&& (vS (bkH (bgF 8) PF k) (rT (pk PF k) 80) r 5)) + ((18446744073709551615 - (vS (bkH (bgF 8) PF k) (rT (pk PF k) 80) r 4)) &&& (vS (bkH (bgF 8) PF k) (rT (pk PF k) 80) r 6))) % B64)) % B64) + (cu r)) % B64) + (rT (pk PF k) 80 r)) % B64) : Nat) : Int))), (172, .inl (.int .u64 (((((((tu (vS (bkH (bgF 8) PF k) (rT (pk PF k) 80) r 0) 28) ^^^ (tu (vS (bkH (bgF 8) PF k) (rT (pk PF k) 80) r 0) 34)) ^^^ (tu (vS (bkH (bgF 8) PF k) (rT (pk PF k) 80) r 0) 39)) + ((((vS (bkH (bgF 8) PF k) (rT (pk PF k) 80) r 0) &&& (vS (bkH (bgF 8) PF k) (rT (pk PF k) 80) r 1)) ||| ((vS (bkH (bgF 8) PF k) (rT (pk PF k) 80) r 0) &&& (vS (bkH (bgF 8) PF k) (rT (pk PF k) 80) r 2))) ||| ((vS (bkH (bgF 8) PF k) (rT (pk PF k) 80) r 1) &&& (vS (bkH (bgF 8) PF k) (rT (pk PF k) 80) r 2)))) % B64) : Nat) : Int))), (173, .inl (.int .u64 (((((((((((((vS (bkH (bgF 8) PF k) (rT (pk PF k) 80) r 7) + (((tu (vS (bkH (bgF 8) PF k) (rT (pk PF k) 80) r 4) 14) ^^^ (tu (vS (bkH (bgF 8) PF k) (rT (pk PF k) 80) r 4) 18)) ^^^ (tu (vS (bkH (bgF 8) PF k) (rT (pk PF k) 80) r 4) 41))) % B64) + ((((vS (bkH (bgF 8) PF k) (rT (pk PF k) 80) r 4) &&& (vS (bkH (bgF 8) PF k) (rT (pk PF k) 80) r 5)) + ((18446744073709551615 - (vS (bkH (bgF 8) PF k) (rT (pk PF k) 80) r 4)) &&& (vS (bkH (bgF 8) PF k) (rT (pk PF k) 80) r 6))) % B64)) % B64) + (cu r)) % B64) + (rT (pk PF k) 80 r)) % B64) + (((((tu (vS (bkH (bgF 8) PF k) (rT (pk PF k) 80) r 0) 28) ^^^ (tu (vS (bkH (bgF 8) PF k) (rT (pk PF k) 80) r 0) 34)) ^^^ (tu (vS (bkH (bgF 8) PF k) (rT (pk PF k) 80) r 0) 39)) + ((((vS (bkH (bgF 8) PF k) (rT (pk PF k) 80) r 0) &&& (vS (bkH (bgF 8) PF k) (rT (pk PF k) 80) r 1)) ||| ((vS (bkH (bgF 8) PF k) (rT (pk PF k) 80) r 0) &&& (vS (bkH (bgF 8) PF k) (rT (pk PF k) 80) r 2))) ||| ((vS (bkH (bgF 8) PF k) (rT (pk PF k) 80) r 1) &&& (vS (bkH (bgF 8) PF k) (rT (pk PF k) 80) r 2)))) % B64)) % B64) : Nat) : Int))), (174, .inr (6, pt 0)), (175, .inl (.int .u64 ((vS (bkH (bgF 8) PF k) (rT (pk PF k) 80) r 0) : Nat))), (176, .inr (6, pt 1)), (177, .inl (.int .u64 ((vS (bkH (bgF 8) PF k) (rT (pk PF k) 80) r 1) : Nat))), (178, .inr (6, pt 2)), (179, .inl (.int .u64 ((vS (bkH (bgF 8) PF k) (rT (pk PF k) 80) r 2) : Nat))), (180, .inr (6, pt 3)), (181, .inl (.int .u64 ((vS (bkH (bgF 8) PF k) (rT (pk PF k) 80) r 3) : Nat))), (182, .inl (.int .u64 (((((((((((vS (bkH (bgF 8) PF k) (rT (pk PF k) 80) r 7) + (((tu (vS (bkH (bgF 8) PF k) (rT (pk PF k) 80) r 4) 14) ^^^ (tu (vS (bkH (bgF 8) PF k) (rT (pk PF k) 80) r 4) 18)) ^^^ (tu (vS (bkH (bgF 8) PF k) (rT (pk PF k) 80) r 4) 41))) % B64) + ((((vS (bkH (bgF 8) PF k) (rT (pk PF k) 80) r 4) &&& (vS (bkH (bgF 8) PF k) (rT (pk PF k) 80) r 5)) + ((18446744073709551615 - (vS (bkH (bgF 8) PF k) (rT (pk PF k) 80) r 4)) &&& (vS (bkH (bgF 8) PF k) (rT (pk PF k) 80) r 6))) % B64)) % B64) + (cu r)) % B64) + (rT (pk PF k) 80 r)) % B64) : Nat) : Int))), (183, .inl (.int .u64 (((((vS (bkH (bgF 8) PF k) (rT (pk PF k) 80) r 3) + (((((((((vS (bkH (bgF 8) PF k) (rT (pk PF k) 80) r 7) + (((tu (vS (bkH (bgF 8) PF k) (rT (pk PF k) 80) r 4) 14) ^^^ (tu (vS (bkH (bgF 8) PF k) (rT (pk PF k) 80) r 4) 18)) ^^^ (tu (vS (bkH (bgF 8) PF k) (rT (pk PF k) 80) r 4) 41))) % B64) + ((((vS (bkH (bgF 8) PF k) (rT (pk PF k) 80) r 4) &&& (vS (bkH (bgF 8) PF k) (rT (pk PF k) 80) r 5)) + ((18446744073709551615 - (vS (bkH (bgF 8) PF k) (rT (pk PF k) 80) r 4)) &&& (vS (bkH (bgF 8) PF k) (rT (pk PF k) 80) r 6))) % B64)) % B64) + (cu r)) % B64) + (rT (pk PF k) 80 r)) % B64)) % B64) : Nat) : Int))), (184, .inr (6, pt 4)), (185, .inl (.int .u64 ((vS (bkH (bgF 8) PF k) (rT (pk PF k) 80) r 4) : Nat))), (186, .inr (6, pt 5)), (187, .inl (.int .u64 ((vS (bkH (bgF 8) PF k) (rT (pk PF k) 80) r 5) : Nat))), (188, .inr (6, pt 6)), (189, .inl (.int .u64 ((vS (bkH (bgF 8) PF k) (rT (pk PF k) 80) r 6) : Nat))), (190, .inl (.agg (au 8 (g8 (((((((((((vS (bkH (bgF 8) PF k) (rT (pk PF k) 80) r 7) + (((tu (vS (bkH (bgF 8) PF k) (rT (pk PF k) 80) r 4) 14) ^^^ (tu (vS (bkH (bgF 8) PF k) (rT (pk PF k) 80) r 4) 18)) ^^^ (tu (vS (bkH (bgF 8) PF k) (rT (pk PF k) 80) r 4) 41))) % B64) + ((((vS (bkH (bgF 8) PF k) (rT (pk PF k) 80) r 4) &&& (vS (bkH (bgF 8) PF k) (rT (pk PF k) 80) r 5)) + ((18446744073709551615 - (vS (bkH (bgF 8) PF k) (rT (pk PF k) 80) r 4)) &&& (vS (bkH (bgF 8) PF k) (rT (pk PF k) 80) r 6))) % B64)) % B64) + (cu r)) % B64) + (rT (pk PF k) 80 r)) % B64) + (((((tu (vS (bkH (bgF 8) PF k) (rT (pk PF k) 80) r 0) 28) ^^^ (tu (vS (bkH (bgF 8) PF k) (rT (pk PF k) 80) r 0) 34)) ^^^ (tu (vS (bkH (bgF 8) PF k) (rT (pk PF k) 80) r 0) 39)) + ((((vS (bkH (bgF 8) PF k) (rT (pk PF k) 80) r 0) &&& (vS (bkH (bgF 8) PF k) (rT (pk PF k) 80) r 1)) ||| ((vS (bkH (bgF 8) PF k) (rT (pk PF k) 80) r 0) &&& (vS (bkH (bgF 8) PF k) (rT (pk PF k) 80) r 2))) ||| ((vS (bkH (bgF 8) PF k) (rT (pk PF k) 80) r 1) &&& (vS (bkH (bgF 8) PF k) (rT (pk PF k) 80) r 2)))) % B64)) % B64) (vS (bkH (bgF 8) PF k) (rT (pk PF k) 80) r 0) (vS (bkH (bgF 8) PF k) (rT (pk PF k) 80) r 1) (vS (bkH (bgF 8) PF k) (rT (pk PF k) 80) r 2) (((vS (bkH (bgF 8) PF k) (rT (pk PF k) 80) r 3) + (((((((((vS (bkH (bgF 8) PF k) (rT (pk PF k) 80) r 7) + (((tu (vS (bkH (bgF 8) PF k) (rT (pk PF k) 80) r 4) 14) ^^^ (tu (vS (bkH (bgF 8) PF k) (rT (pk PF k) 80) r 4) 18)) ^^^ (tu (vS (bkH (bgF 8) PF k) (rT (pk PF k) 80) r 4) 41))) % B64) + ((((vS (bkH (bgF 8) PF k) (rT (pk PF k) 80) r 4) &&& (vS (bkH (bgF 8) PF k) (rT (pk PF k) 80) r 5)) + ((18446744073709551615 - (vS (bkH (bgF 8) PF k) (rT (pk PF k) 80) r 4)) &&& (vS (bkH (bgF 8) PF k) (rT (pk PF k) 80) r 6))) % B64)) % B64) + (cu r)) % B64) + (rT (pk PF k) 80 r)) % B64)) % B64) (vS (bkH (bgF 8) PF k) (rT (pk PF k) 80) r 4) (vS (bkH (bgF 8) PF k) (rT (pk PF k) 80) r 5) (vS (bkH (bgF 8) PF k) (rT (pk PF k) 80) r 6)))))] [] [(6, au 8 (g8 (((((((((((vS (bkH (bgF 8) PF k) (rT (pk PF k) 80) r 7) + (((tu (vS (bkH (bgF 8) PF k) (rT (pk PF k) 80) r 4) 14) ^^^ (tu (vS (bkH (bgF 8) PF k) (rT (pk PF k) 80) r 4) 18)) ^^^ (tu (vS (bkH (bgF 8) PF k) (rT (pk PF k) 80) r 4) 41))) % B64) + ((((vS (bkH (bgF 8) PF k) (rT (pk PF k) 80) r 4) &&& (vS (bkH (bgF 8) PF k) (rT (pk PF k) 80) r 5)) + ((18446744073709551615 - (vS (bkH (bgF 8) PF k) (rT (pk PF k) 80) r 4)) &&& (vS (bkH (bgF 8) PF k) (rT (pk PF k) 80) r 6))) % B64)) % B64) + (cu r)) % B64) + (rT (pk PF k) 80 r)) % B64) + (((((tu (vS (bkH (bgF 8) PF k) (rT (pk PF k) 80) r 0) 28) ^^^ (tu (vS (bkH (bgF 8) PF k) (rT (pk PF k) 80) r 0) 34)) ^^^ (tu (vS (bkH (bgF 8) PF k) (rT (pk PF k) 80) r 0) 39)) + ((((vS (bkH (bgF 8) PF k) (rT (pk PF k) 80) r 0) &&& (vS (bkH (bgF 8) PF k) (rT (pk PF k) 80) r 1)) ||| ((vS (bkH (bgF 8) PF k) (rT (pk PF k) 80) r 0) &&& (vS (bkH (bgF 8) PF k) (rT (pk PF k) 80) r 2))) ||| ((vS (bkH (bgF 8) PF k) (rT (pk PF k) 80) r 1) &&& (vS (bkH (bgF 8) PF k) (rT (pk PF k) 80) r 2)))) % B64)) % B64) (vS (bkH (bgF 8) PF k) (rT (pk PF k) 80) r 0) (vS (bkH (bgF 8) PF k) (rT (pk PF k) 80) r 1) (vS (bkH (bgF 8) PF k) (rT (pk PF k) 80) r 2) (((vS (bkH (bgF 8) PF k) (rT (pk PF k) 80) r 3) + (((((((((vS (bkH (bgF 8) PF k) (rT (pk PF k) 80) r 7) + (((tu (vS (bkH (bgF 8) PF k) (rT (pk PF k) 80) r 4) 14) ^^^ (tu (vS (bkH (bgF 8) PF k) (rT (pk PF k) 80) r 4) 18)) ^^^ (tu (vS (bkH (bgF 8) PF k) (rT (pk PF k) 80) r 4) 41))) % B64) + ((((vS (bkH (bgF 8) PF k) (rT (pk PF k) 80) r 4) &&& (vS (bkH (bgF 8) PF k) (rT (pk PF k) 80) r 5)) + ((18446744073709551615 - (vS (bkH (bgF 8) PF k) (rT (pk PF k) 80) r 4)) &&& (vS (bkH (bgF 8) PF k) (rT (pk PF k) 80) r 6))) % B64)) % B64) + (cu r)) % B64) + (rT (pk PF k) 80 r)) % B64)) % B64) (vS (bkH (bgF 8) PF k) (rT (pk PF k) 80) r 4) (vS (bkH (bgF 8) PF k) (rT (pk PF k) 80) r 5) (vS (bkH (bgF 8) PF k) (rT (pk PF k) 80) r 6)))] [nn, nn, nn, nn, eR 6, nn, eR 6, nn, eR 6, nn, eR 6, nn, nn, nn, eR 6, nn, eR 6, nn, eR 6, nn, eS 6] ?_ ?_
          · exact oc (k_mv (.inl rfl) rfl) <|
            oc (k_mv (.inl rfl) rfl) <|
            oc (k_bi (.int .u64 (((((((((((vS (bkH (bgF 8) PF k) (rT (pk PF k) 80) r 7) + (((tu (vS (bkH (bgF 8) PF k) (rT (pk PF k) 80) r 4) 14) ^^^ (tu (vS (bkH (bgF 8) PF k) (rT (pk PF k) 80) r 4) 18)) ^^^ (tu (vS (bkH (bgF 8) PF k) (rT (pk PF k) 80) r 4) 41))) % B64) + ((((vS (bkH (bgF 8) PF k) (rT (pk PF k) 80) r 4) &&& (vS (bkH (bgF 8) PF k) (rT (pk PF k) 80) r 5)) + ((18446744073709551615 - (vS (bkH (bgF 8) PF k) (rT (pk PF k) 80) r 4)) &&& (vS (bkH (bgF 8) PF k) (rT (pk PF k) 80) r 6))) % B64)) % B64) + (cu r)) % B64) + (rT (pk PF k) 80 r)) % B64) : Nat) : Int)) (.int .u64 (((((((tu (vS (bkH (bgF 8) PF k) (rT (pk PF k) 80) r 0) 28) ^^^ (tu (vS (bkH (bgF 8) PF k) (rT (pk PF k) 80) r 0) 34)) ^^^ (tu (vS (bkH (bgF 8) PF k) (rT (pk PF k) 80) r 0) 39)) + ((((vS (bkH (bgF 8) PF k) (rT (pk PF k) 80) r 0) &&& (vS (bkH (bgF 8) PF k) (rT (pk PF k) 80) r 1)) ||| ((vS (bkH (bgF 8) PF k) (rT (pk PF k) 80) r 0) &&& (vS (bkH (bgF 8) PF k) (rT (pk PF k) 80) r 2))) ||| ((vS (bkH (bgF 8) PF k) (rT (pk PF k) 80) r 1) &&& (vS (bkH (bgF 8) PF k) (rT (pk PF k) 80) r 2)))) % B64) : Nat) : Int)) (.int .u64 (((((((((((((vS (bkH (bgF 8) PF k) (rT (pk PF k) 80) r 7) + (((tu (vS (bkH (bgF 8) PF k) (rT (pk PF k) 80) r 4) 14) ^^^ (tu (vS (bkH (bgF 8) PF k) (rT (pk PF k) 80) r 4) 18)) ^^^ (tu (vS (bkH (bgF 8) PF k) (rT (pk PF k) 80) r 4) 41))) % B64) + ((((vS (bkH (bgF 8) PF k) (rT (pk PF k) 80) r 4) &&& (vS (bkH (bgF 8) PF k) (rT (pk PF k) 80) r 5)) + ((18446744073709551615 - (vS (bkH (bgF 8) PF k) (rT (pk PF k) 80) r 4)) &&& (vS (bkH (bgF 8) PF k) (rT (pk PF k) 80) r 6))) % B64)) % B64) + (cu r)) % B64) + (rT (pk PF k) 80 r)) % B64) + (((((tu (vS (bkH (bgF 8) PF k) (rT (pk PF k) 80) r 0) 28) ^^^ (tu (vS (bkH (bgF 8) PF k) (rT (pk PF k) 80) r 0) 34)) ^^^ (tu (vS (bkH (bgF 8) PF k) (rT (pk PF k) 80) r 0) 39)) + ((((vS (bkH (bgF 8) PF k) (rT (pk PF k) 80) r 0) &&& (vS (bkH (bgF 8) PF k) (rT (pk PF k) 80) r 1)) ||| ((vS (bkH (bgF 8) PF k) (rT (pk PF k) 80) r 0) &&& (vS (bkH (bgF 8) PF k) (rT (pk PF k) 80) r 2))) ||| ((vS (bkH (bgF 8) PF k) (rT (pk PF k) 80) r 1) &&& (vS (bkH (bgF 8) PF k) (rT (pk PF k) 80) r 2)))) % B64)) % B64) : Nat) : Int)) (ad_w (m := (((((((((vS (bkH (bgF 8) PF k) (rT (pk PF k) 80) r 7) + (((tu (vS (bkH (bgF 8) PF k) (rT (pk PF k) 80) r 4) 14) ^^^ (tu (vS (bkH (bgF 8) PF k) (rT (pk PF k) 80) r 4) 18)) ^^^ (tu (vS (bkH (bgF 8) PF k) (rT (pk PF k) 80) r 4) 41))) % B64) + ((((vS (bkH (bgF 8) PF k) (rT (pk PF k) 80) r 4) &&& (vS (bkH (bgF 8) PF k) (rT (pk PF k) 80) r 5)) + ((18446744073709551615 - (vS (bkH (bgF 8) PF k) (rT (pk PF k) 80) r 4)) &&& (vS (bkH (bgF 8) PF k) (rT (pk PF k) 80) r 6))) % B64)) % B64) + (cu r)) % B64) + (rT (pk PF k) 80 r)) % B64)) (n := (((((tu (vS (bkH (bgF 8) PF k) (rT (pk PF k) 80) r 0) 28) ^^^ (tu (vS (bkH (bgF 8) PF k) (rT (pk PF k) 80) r 0) 34)) ^^^ (tu (vS (bkH (bgF 8) PF k) (rT (pk PF k) 80) r 0) 39)) + ((((vS (bkH (bgF 8) PF k) (rT (pk PF k) 80) r 0) &&& (vS (bkH (bgF 8) PF k) (rT (pk PF k) 80) r 1)) ||| ((vS (bkH (bgF 8) PF k) (rT (pk PF k) 80) r 0) &&& (vS (bkH (bgF 8) PF k) (rT (pk PF k) 80) r 2))) ||| ((vS (bkH (bgF 8) PF k) (rT (pk PF k) 80) r 1) &&& (vS (bkH (bgF 8) PF k) (rT (pk PF k) 80) r 2)))) % B64))) rfl rfl) <|
            oc (k_ia 6 0 0 (.int .i64 (0 : Nat)) (ix8h (i := 0) (by omega)) rfl rfl) <|
            oc (k_ld 6 0 (.int .u64 ((vS (bkH (bgF 8) PF k) (rT (pk PF k) 80) r 0) : Nat)) (c := au 8 (vS (bkH (bgF 8) PF k) (rT (pk PF k) 80) r)) (ld_au (n := 8) (F := (vS (bkH (bgF 8) PF k) (rT (pk PF k) 80) r)) (i := 0) (t0 := 93) (by omega)) rfl rfl) <|
            oc (k_ia 6 0 1 (.int .i64 (1 : Nat)) (ix8h (i := 1) (by omega)) rfl rfl) <|
            oc (k_ld 6 1 (.int .u64 ((vS (bkH (bgF 8) PF k) (rT (pk PF k) 80) r 1) : Nat)) (c := au 8 (vS (bkH (bgF 8) PF k) (rT (pk PF k) 80) r)) (ld_au (n := 8) (F := (vS (bkH (bgF 8) PF k) (rT (pk PF k) 80) r)) (i := 1) (t0 := 93) (by omega)) rfl rfl) <|
            oc (k_ia 6 0 2 (.int .i64 (2 : Nat)) (ix8h (i := 2) (by omega)) rfl rfl) <|
            oc (k_ld 6 2 (.int .u64 ((vS (bkH (bgF 8) PF k) (rT (pk PF k) 80) r 2) : Nat)) (c := au 8 (vS (bkH (bgF 8) PF k) (rT (pk PF k) 80) r)) (ld_au (n := 8) (F := (vS (bkH (bgF 8) PF k) (rT (pk PF k) 80) r)) (i := 2) (t0 := 93) (by omega)) rfl rfl) <|
            oc (k_ia 6 0 3 (.int .i64 (3 : Nat)) (ix8h (i := 3) (by omega)) rfl rfl) <|
            oc (k_ld 6 3 (.int .u64 ((vS (bkH (bgF 8) PF k) (rT (pk PF k) 80) r 3) : Nat)) (c := au 8 (vS (bkH (bgF 8) PF k) (rT (pk PF k) 80) r)) (ld_au (n := 8) (F := (vS (bkH (bgF 8) PF k) (rT (pk PF k) 80) r)) (i := 3) (t0 := 93) (by omega)) rfl rfl) <|
            oc (k_mv (.inl rfl) rfl) <|
            oc (k_bi (.int .u64 ((vS (bkH (bgF 8) PF k) (rT (pk PF k) 80) r 3) : Nat)) (.int .u64 (((((((((((vS (bkH (bgF 8) PF k) (rT (pk PF k) 80) r 7) + (((tu (vS (bkH (bgF 8) PF k) (rT (pk PF k) 80) r 4) 14) ^^^ (tu (vS (bkH (bgF 8) PF k) (rT (pk PF k) 80) r 4) 18)) ^^^ (tu (vS (bkH (bgF 8) PF k) (rT (pk PF k) 80) r 4) 41))) % B64) + ((((vS (bkH (bgF 8) PF k) (rT (pk PF k) 80) r 4) &&& (vS (bkH (bgF 8) PF k) (rT (pk PF k) 80) r 5)) + ((18446744073709551615 - (vS (bkH (bgF 8) PF k) (rT (pk PF k) 80) r 4)) &&& (vS (bkH (bgF 8) PF k) (rT (pk PF k) 80) r 6))) % B64)) % B64) + (cu r)) % B64) + (rT (pk PF k) 80 r)) % B64) : Nat) : Int)) (.int .u64 (((((vS (bkH (bgF 8) PF k) (rT (pk PF k) 80) r 3) + (((((((((vS (bkH (bgF 8) PF k) (rT (pk PF k) 80) r 7) + (((tu (vS (bkH (bgF 8) PF k) (rT (pk PF k) 80) r 4) 14) ^^^ (tu (vS (bkH (bgF 8) PF k) (rT (pk PF k) 80) r 4) 18)) ^^^ (tu (vS (bkH (bgF 8) PF k) (rT (pk PF k) 80) r 4) 41))) % B64) + ((((vS (bkH (bgF 8) PF k) (rT (pk PF k) 80) r 4) &&& (vS (bkH (bgF 8) PF k) (rT (pk PF k) 80) r 5)) + ((18446744073709551615 - (vS (bkH (bgF 8) PF k) (rT (pk PF k) 80) r 4)) &&& (vS (bkH (bgF 8) PF k) (rT (pk PF k) 80) r 6))) % B64)) % B64) + (cu r)) % B64) + (rT (pk PF k) 80 r)) % B64)) % B64) : Nat) : Int)) (ad_w (m := (vS (bkH (bgF 8) PF k) (rT (pk PF k) 80) r 3)) (n := (((((((((vS (bkH (bgF 8) PF k) (rT (pk PF k) 80) r 7) + (((tu (vS (bkH (bgF 8) PF k) (rT (pk PF k) 80) r 4) 14) ^^^ (tu (vS (bkH (bgF 8) PF k) (rT (pk PF k) 80) r 4) 18)) ^^^ (tu (vS (bkH (bgF 8) PF k) (rT (pk PF k) 80) r 4) 41))) % B64) + ((((vS (bkH (bgF 8) PF k) (rT (pk PF k) 80) r 4) &&& (vS (bkH (bgF 8) PF k) (rT (pk PF k) 80) r 5)) + ((18446744073709551615 - (vS (bkH (bgF 8) PF k) (rT (pk PF k) 80) r 4)) &&& (vS (bkH (bgF 8) PF k) (rT (pk PF k) 80) r 6))) % B64)) % B64) + (cu r)) % B64) + (rT (pk PF k) 80 r)) % B64))) rfl rfl) <|
            oc (k_ia 6 0 4 (.int .i64 (4 : Nat)) (ix8h (i := 4) (by omega)) rfl rfl) <|
            oc (k_ld 6 4 (.int .u64 ((vS (bkH (bgF 8) PF k) (rT (pk PF k) 80) r 4) : Nat)) (c := au 8 (vS (bkH (bgF 8) PF k) (rT (pk PF k) 80) r)) (ld_au (n := 8) (F := (vS (bkH (bgF 8) PF k) (rT (pk PF k) 80) r)) (i := 4) (t0 := 93) (by omega)) rfl rfl) <|
            oc (k_ia 6 0 5 (.int .i64 (5 : Nat)) (ix8h (i := 5) (by omega)) rfl rfl) <|
            oc (k_ld 6 5 (.int .u64 ((vS (bkH (bgF 8) PF k) (rT (pk PF k) 80) r 5) : Nat)) (c := au 8 (vS (bkH (bgF 8) PF k) (rT (pk PF k) 80) r)) (ld_au (n := 8) (F := (vS (bkH (bgF 8) PF k) (rT (pk PF k) 80) r)) (i := 5) (t0 := 93) (by omega)) rfl rfl) <|
            oc (k_ia 6 0 6 (.int .i64 (6 : Nat)) (ix8h (i := 6) (by omega)) rfl rfl) <|
            oc (k_ld 6 6 (.int .u64 ((vS (bkH (bgF 8) PF k) (rT (pk PF k) 80) r 6) : Nat)) (c := au 8 (vS (bkH (bgF 8) PF k) (rT (pk PF k) 80) r)) (ld_au (n := 8) (F := (vS (bkH (bgF 8) PF k) (rT (pk PF k) 80) r)) (i := 6) (t0 := 93) (by omega)) rfl rfl) <|
            oc (k_bu #[(0, .int .u64 (((((((((((((vS (bkH (bgF 8) PF k) (rT (pk PF k) 80) r 7) + (((tu (vS (bkH (bgF 8) PF k) (rT (pk PF k) 80) r 4) 14) ^^^ (tu (vS (bkH (bgF 8) PF k) (rT (pk PF k) 80) r 4) 18)) ^^^ (tu (vS (bkH (bgF 8) PF k) (rT (pk PF k) 80) r 4) 41))) % B64) + ((((vS (bkH (bgF 8) PF k) (rT (pk PF k) 80) r 4) &&& (vS (bkH (bgF 8) PF k) (rT (pk PF k) 80) r 5)) + ((18446744073709551615 - (vS (bkH (bgF 8) PF k) (rT (pk PF k) 80) r 4)) &&& (vS (bkH (bgF 8) PF k) (rT (pk PF k) 80) r 6))) % B64)) % B64) + (cu r)) % B64) + (rT (pk PF k) 80 r)) % B64) + (((((tu (vS (bkH (bgF 8) PF k) (rT (pk PF k) 80) r 0) 28) ^^^ (tu (vS (bkH (bgF 8) PF k) (rT (pk PF k) 80) r 0) 34)) ^^^ (tu (vS (bkH (bgF 8) PF k) (rT (pk PF k) 80) r 0) 39)) + ((((vS (bkH (bgF 8) PF k) (rT (pk PF k) 80) r 0) &&& (vS (bkH (bgF 8) PF k) (rT (pk PF k) 80) r 1)) ||| ((vS (bkH (bgF 8) PF k) (rT (pk PF k) 80) r 0) &&& (vS (bkH (bgF 8) PF k) (rT (pk PF k) 80) r 2))) ||| ((vS (bkH (bgF 8) PF k) (rT (pk PF k) 80) r 1) &&& (vS (bkH (bgF 8) PF k) (rT (pk PF k) 80) r 2)))) % B64)) % B64) : Nat) : Int)), (1, .int .u64 ((vS (bkH (bgF 8) PF k) (rT (pk PF k) 80) r 0) : Nat)), (2, .int .u64 ((vS (bkH (bgF 8) PF k) (rT (pk PF k) 80) r 1) : Nat)), (3, .int .u64 ((vS (bkH (bgF 8) PF k) (rT (pk PF k) 80) r 2) : Nat)), (4, .int .u64 (((((vS (bkH (bgF 8) PF k) (rT (pk PF k) 80) r 3) + (((((((((vS (bkH (bgF 8) PF k) (rT (pk PF k) 80) r 7) + (((tu (vS (bkH (bgF 8) PF k) (rT (pk PF k) 80) r 4) 14) ^^^ (tu (vS (bkH (bgF 8) PF k) (rT (pk PF k) 80) r 4) 18)) ^^^ (tu (vS (bkH (bgF 8) PF k) (rT (pk PF k) 80) r 4) 41))) % B64) + ((((vS (bkH (bgF 8) PF k) (rT (pk PF k) 80) r 4) &&& (vS (bkH (bgF 8) PF k) (rT (pk PF k) 80) r 5)) + ((18446744073709551615 - (vS (bkH (bgF 8) PF k) (rT (pk PF k) 80) r 4)) &&& (vS (bkH (bgF 8) PF k) (rT (pk PF k) 80) r 6))) % B64)) % B64) + (cu r)) % B64) + (rT (pk PF k) 80 r)) % B64)) % B64) : Nat) : Int)), (5, .int .u64 ((vS (bkH (bgF 8) PF k) (rT (pk PF k) 80) r 4) : Nat)), (6, .int .u64 ((vS (bkH (bgF 8) PF k) (rT (pk PF k) 80) r 5) : Nat)), (7, .int .u64 ((vS (bkH (bgF 8) PF k) (rT (pk PF k) 80) r 6) : Nat))] (.agg (au 8 (g8 (((((((((((vS (bkH (bgF 8) PF k) (rT (pk PF k) 80) r 7) + (((tu (vS (bkH (bgF 8) PF k) (rT (pk PF k) 80) r 4) 14) ^^^ (tu (vS (bkH (bgF 8) PF k) (rT (pk PF k) 80) r 4) 18)) ^^^ (tu (vS (bkH (bgF 8) PF k) (rT (pk PF k) 80) r 4) 41))) % B64) + ((((vS (bkH (bgF 8) PF k) (rT (pk PF k) 80) r 4) &&& (vS (bkH (bgF 8) PF k) (rT (pk PF k) 80) r 5)) + ((18446744073709551615 - (vS (bkH (bgF 8) PF k) (rT (pk PF k) 80) r 4)) &&& (vS (bkH (bgF 8) PF k) (rT (pk PF k) 80) r 6))) % B64)) % B64) + (cu r)) % B64) + (rT (pk PF k) 80 r)) % B64) + (((((tu (vS (bkH (bgF 8) PF k) (rT (pk PF k) 80) r 0) 28) ^^^ (tu (vS (bkH (bgF 8) PF k) (rT (pk PF k) 80) r 0) 34)) ^^^ (tu (vS (bkH (bgF 8) PF k) (rT (pk PF k) 80) r 0) 39)) + ((((vS (bkH (bgF 8) PF k) (rT (pk PF k) 80) r 0) &&& (vS (bkH (bgF 8) PF k) (rT (pk PF k) 80) r 1)) ||| ((vS (bkH (bgF 8) PF k) (rT (pk PF k) 80) r 0) &&& (vS (bkH (bgF 8) PF k) (rT (pk PF k) 80) r 2))) ||| ((vS (bkH (bgF 8) PF k) (rT (pk PF k) 80) r 1) &&& (vS (bkH (bgF 8) PF k) (rT (pk PF k) 80) r 2)))) % B64)) % B64) (vS (bkH (bgF 8) PF k) (rT (pk PF k) 80) r 0) (vS (bkH (bgF 8) PF k) (rT (pk PF k) 80) r 1) (vS (bkH (bgF 8) PF k) (rT (pk PF k) 80) r 2) (((vS (bkH (bgF 8) PF k) (rT (pk PF k) 80) r 3) + (((((((((vS (bkH (bgF 8) PF k) (rT (pk PF k) 80) r 7) + (((tu (vS (bkH (bgF 8) PF k) (rT (pk PF k) 80) r 4) 14) ^^^ (tu (vS (bkH (bgF 8) PF k) (rT (pk PF k) 80) r 4) 18)) ^^^ (tu (vS (bkH (bgF 8) PF k) (rT (pk PF k) 80) r 4) 41))) % B64) + ((((vS (bkH (bgF 8) PF k) (rT (pk PF k) 80) r 4) &&& (vS (bkH (bgF 8) PF k) (rT (pk PF k) 80) r 5)) + ((18446744073709551615 - (vS (bkH (bgF 8) PF k) (rT (pk PF k) 80) r 4)) &&& (vS (bkH (bgF 8) PF k) (rT (pk PF k) 80) r 6))) % B64)) % B64) + (cu r)) % B64) + (rT (pk PF k) 80 r)) % B64)) % B64) (vS (bkH (bgF 8) PF k) (rT (pk PF k) 80) r 4) (vS (bkH (bgF 8) PF k) (rT (pk PF k) 80) r 5) (vS (bkH (bgF 8) PF k) (rT (pk PF k) 80) r 6)))) (fun w => by kernel_rfl) rfl rfl) <|
            oc (k_st 6 0 (.agg (au 8 (g8 (((((((((((vS (bkH (bgF 8) PF k) (rT (pk PF k) 80) r 7) + (((tu (vS (bkH (bgF 8) PF k) (rT (pk PF k) 80) r 4) 14) ^^^ (tu (vS (bkH (bgF 8) PF k) (rT (pk PF k) 80) r 4) 18)) ^^^ (tu (vS (bkH (bgF 8) PF k) (rT (pk PF k) 80) r 4) 41))) % B64) + ((((vS (bkH (bgF 8) PF k) (rT (pk PF k) 80) r 4) &&& (vS (bkH (bgF 8) PF k) (rT (pk PF k) 80) r 5)) + ((18446744073709551615 - (vS (bkH (bgF 8) PF k) (rT (pk PF k) 80) r 4)) &&& (vS (bkH (bgF 8) PF k) (rT (pk PF k) 80) r 6))) % B64)) % B64) + (cu r)) % B64) + (rT (pk PF k) 80 r)) % B64) + (((((tu (vS (bkH (bgF 8) PF k) (rT (pk PF k) 80) r 0) 28) ^^^ (tu (vS (bkH (bgF 8) PF k) (rT (pk PF k) 80) r 0) 34)) ^^^ (tu (vS (bkH (bgF 8) PF k) (rT (pk PF k) 80) r 0) 39)) + ((((vS (bkH (bgF 8) PF k) (rT (pk PF k) 80) r 0) &&& (vS (bkH (bgF 8) PF k) (rT (pk PF k) 80) r 1)) ||| ((vS (bkH (bgF 8) PF k) (rT (pk PF k) 80) r 0) &&& (vS (bkH (bgF 8) PF k) (rT (pk PF k) 80) r 2))) ||| ((vS (bkH (bgF 8) PF k) (rT (pk PF k) 80) r 1) &&& (vS (bkH (bgF 8) PF k) (rT (pk PF k) 80) r 2)))) % B64)) % B64) (vS (bkH (bgF 8) PF k) (rT (pk PF k) 80) r 0) (vS (bkH (bgF 8) PF k) (rT (pk PF k) 80) r 1) (vS (bkH (bgF 8) PF k) (rT (pk PF k) 80) r 2) (((vS (bkH (bgF 8) PF k) (rT (pk PF k) 80) r 3) + (((((((((vS (bkH (bgF 8) PF k) (rT (pk PF k) 80) r 7) + (((tu (vS (bkH (bgF 8) PF k) (rT (pk PF k) 80) r 4) 14) ^^^ (tu (vS (bkH (bgF 8) PF k) (rT (pk PF k) 80) r 4) 18)) ^^^ (tu (vS (bkH (bgF 8) PF k) (rT (pk PF k) 80) r 4) 41))) % B64) + ((((vS (bkH (bgF 8) PF k) (rT (pk PF k) 80) r 4) &&& (vS (bkH (bgF 8) PF k) (rT (pk PF k) 80) r 5)) + ((18446744073709551615 - (vS (bkH (bgF 8) PF k) (rT (pk PF k) 80) r 4)) &&& (vS (bkH (bgF 8) PF k) (rT (pk PF k) 80) r 6))) % B64)) % B64) + (cu r)) % B64) + (rT (pk PF k) 80 r)) % B64)) % B64) (vS (bkH (bgF 8) PF k) (rT (pk PF k) 80) r 4) (vS (bkH (bgF 8) PF k) (rT (pk PF k) 80) r 5) (vS (bkH (bgF 8) PF k) (rT (pk PF k) 80) r 6)))) (c := au 8 (vS (bkH (bgF 8) PF k) (rT (pk PF k) 80) r)) (n := au 8 (g8 (((((((((((vS (bkH (bgF 8) PF k) (rT (pk PF k) 80) r 7) + (((tu (vS (bkH (bgF 8) PF k) (rT (pk PF k) 80) r 4) 14) ^^^ (tu (vS (bkH (bgF 8) PF k) (rT (pk PF k) 80) r 4) 18)) ^^^ (tu (vS (bkH (bgF 8) PF k) (rT (pk PF k) 80) r 4) 41))) % B64) + ((((vS (bkH (bgF 8) PF k) (rT (pk PF k) 80) r 4) &&& (vS (bkH (bgF 8) PF k) (rT (pk PF k) 80) r 5)) + ((18446744073709551615 - (vS (bkH (bgF 8) PF k) (rT (pk PF k) 80) r 4)) &&& (vS (bkH (bgF 8) PF k) (rT (pk PF k) 80) r 6))) % B64)) % B64) + (cu r)) % B64) + (rT (pk PF k) 80 r)) % B64) + (((((tu (vS (bkH (bgF 8) PF k) (rT (pk PF k) 80) r 0) 28) ^^^ (tu (vS (bkH (bgF 8) PF k) (rT (pk PF k) 80) r 0) 34)) ^^^ (tu (vS (bkH (bgF 8) PF k) (rT (pk PF k) 80) r 0) 39)) + ((((vS (bkH (bgF 8) PF k) (rT (pk PF k) 80) r 0) &&& (vS (bkH (bgF 8) PF k) (rT (pk PF k) 80) r 1)) ||| ((vS (bkH (bgF 8) PF k) (rT (pk PF k) 80) r 0) &&& (vS (bkH (bgF 8) PF k) (rT (pk PF k) 80) r 2))) ||| ((vS (bkH (bgF 8) PF k) (rT (pk PF k) 80) r 1) &&& (vS (bkH (bgF 8) PF k) (rT (pk PF k) 80) r 2)))) % B64)) % B64) (vS (bkH (bgF 8) PF k) (rT (pk PF k) 80) r 0) (vS (bkH (bgF 8) PF k) (rT (pk PF k) 80) r 1) (vS (bkH (bgF 8) PF k) (rT (pk PF k) 80) r 2) (((vS (bkH (bgF 8) PF k) (rT (pk PF k) 80) r 3) + (((((((((vS (bkH (bgF 8) PF k) (rT (pk PF k) 80) r 7) + (((tu (vS (bkH (bgF 8) PF k) (rT (pk PF k) 80) r 4) 14) ^^^ (tu (vS (bkH (bgF 8) PF k) (rT (pk PF k) 80) r 4) 18)) ^^^ (tu (vS (bkH (bgF 8) PF k) (rT (pk PF k) 80) r 4) 41))) % B64) + ((((vS (bkH (bgF 8) PF k) (rT (pk PF k) 80) r 4) &&& (vS (bkH (bgF 8) PF k) (rT (pk PF k) 80) r 5)) + ((18446744073709551615 - (vS (bkH (bgF 8) PF k) (rT (pk PF k) 80) r 4)) &&& (vS (bkH (bgF 8) PF k) (rT (pk PF k) 80) r 6))) % B64)) % B64) + (cu r)) % B64) + (rT (pk PF k) 80 r)) % B64)) % B64) (vS (bkH (bgF 8) PF k) (rT (pk PF k) 80) r 4) (vS (bkH (bgF 8) PF k) (rT (pk PF k) 80) r 5) (vS (bkH (bgF 8) PF k) (rT (pk PF k) 80) r 6))) (st8a (F := (g8 (((((((((((vS (bkH (bgF 8) PF k) (rT (pk PF k) 80) r 7) + (((tu (vS (bkH (bgF 8) PF k) (rT (pk PF k) 80) r 4) 14) ^^^ (tu (vS (bkH (bgF 8) PF k) (rT (pk PF k) 80) r 4) 18)) ^^^ (tu (vS (bkH (bgF 8) PF k) (rT (pk PF k) 80) r 4) 41))) % B64) + ((((vS (bkH (bgF 8) PF k) (rT (pk PF k) 80) r 4) &&& (vS (bkH (bgF 8) PF k) (rT (pk PF k) 80) r 5)) + ((18446744073709551615 - (vS (bkH (bgF 8) PF k) (rT (pk PF k) 80) r 4)) &&& (vS (bkH (bgF 8) PF k) (rT (pk PF k) 80) r 6))) % B64)) % B64) + (cu r)) % B64) + (rT (pk PF k) 80 r)) % B64) + (((((tu (vS (bkH (bgF 8) PF k) (rT (pk PF k) 80) r 0) 28) ^^^ (tu (vS (bkH (bgF 8) PF k) (rT (pk PF k) 80) r 0) 34)) ^^^ (tu (vS (bkH (bgF 8) PF k) (rT (pk PF k) 80) r 0) 39)) + ((((vS (bkH (bgF 8) PF k) (rT (pk PF k) 80) r 0) &&& (vS (bkH (bgF 8) PF k) (rT (pk PF k) 80) r 1)) ||| ((vS (bkH (bgF 8) PF k) (rT (pk PF k) 80) r 0) &&& (vS (bkH (bgF 8) PF k) (rT (pk PF k) 80) r 2))) ||| ((vS (bkH (bgF 8) PF k) (rT (pk PF k) 80) r 1) &&& (vS (bkH (bgF 8) PF k) (rT (pk PF k) 80) r 2)))) % B64)) % B64) (vS (bkH (bgF 8) PF k) (rT (pk PF k) 80) r 0) (vS (bkH (bgF 8) PF k) (rT (pk PF k) 80) r 1) (vS (bkH (bgF 8) PF k) (rT (pk PF k) 80) r 2) (((vS (bkH (bgF 8) PF k) (rT (pk PF k) 80) r 3) + (((((((((vS (bkH (bgF 8) PF k) (rT (pk PF k) 80) r 7) + (((tu (vS (bkH (bgF 8) PF k) (rT (pk PF k) 80) r 4) 14) ^^^ (tu (vS (bkH (bgF 8) PF k) (rT (pk PF k) 80) r 4) 18)) ^^^ (tu (vS (bkH (bgF 8) PF k) (rT (pk PF k) 80) r 4) 41))) % B64) + ((((vS (bkH (bgF 8) PF k) (rT (pk PF k) 80) r 4) &&& (vS (bkH (bgF 8) PF k) (rT (pk PF k) 80) r 5)) + ((18446744073709551615 - (vS (bkH (bgF 8) PF k) (rT (pk PF k) 80) r 4)) &&& (vS (bkH (bgF 8) PF k) (rT (pk PF k) 80) r 6))) % B64)) % B64) + (cu r)) % B64) + (rT (pk PF k) 80 r)) % B64)) % B64) (vS (bkH (bgF 8) PF k) (rT (pk PF k) 80) r 4) (vS (bkH (bgF 8) PF k) (rT (pk PF k) 80) r 5) (vS (bkH (bgF 8) PF k) (rT (pk PF k) 80) r 6))) (c := au 8 (vS (bkH (bgF 8) PF k) (rT (pk PF k) 80) r)) 93 (au_size _ _)) rfl rfl) <|
            ok_nil
          clear h; intro β a w h
          refine blk_norm ?_
          refine sym_then ?_
          refine St.r0 h [(110, .inl (.int .i64 (r : Nat))), (111, .inl (.int .i64 ((r + 1) : Nat))), (15, .inl (.int .i64 ((r + 1) : Nat)))] [eO] ?_ ?_
          · exact oc (k_m0 rfl rfl) <|
            oz (k_bi (.int .i64 (r : Nat)) (.int .i64 (1 : Nat)) (.int .i64 ((r + 1) : Nat)) (ad_i (m := r) (n := 1) (by omega)) rfl rfl) <|
            oz (k_mv (.inr rfl) rfl) <|
            ok_nil
          clear h; intro β a w h
          replace h := St.sm h 6 (au 8 (vS (bkH (bgF 8) PF k) (rT (pk PF k) 80) (r + 1))) (c := au 8 (g8 (((((((((((vS (bkH (bgF 8) PF k) (rT (pk PF k) 80) r 7) + (((tu (vS (bkH (bgF 8) PF k) (rT (pk PF k) 80) r 4) 14) ^^^ (tu (vS (bkH (bgF 8) PF k) (rT (pk PF k) 80) r 4) 18)) ^^^ (tu (vS (bkH (bgF 8) PF k) (rT (pk PF k) 80) r 4) 41))) % B64) + ((((vS (bkH (bgF 8) PF k) (rT (pk PF k) 80) r 4) &&& (vS (bkH (bgF 8) PF k) (rT (pk PF k) 80) r 5)) + ((18446744073709551615 - (vS (bkH (bgF 8) PF k) (rT (pk PF k) 80) r 4)) &&& (vS (bkH (bgF 8) PF k) (rT (pk PF k) 80) r 6))) % B64)) % B64) + (cu r)) % B64) + (rT (pk PF k) 80 r)) % B64) + (((((tu (vS (bkH (bgF 8) PF k) (rT (pk PF k) 80) r 0) 28) ^^^ (tu (vS (bkH (bgF 8) PF k) (rT (pk PF k) 80) r 0) 34)) ^^^ (tu (vS (bkH (bgF 8) PF k) (rT (pk PF k) 80) r 0) 39)) + ((((vS (bkH (bgF 8) PF k) (rT (pk PF k) 80) r 0) &&& (vS (bkH (bgF 8) PF k) (rT (pk PF k) 80) r 1)) ||| ((vS (bkH (bgF 8) PF k) (rT (pk PF k) 80) r 0) &&& (vS (bkH (bgF 8) PF k) (rT (pk PF k) 80) r 2))) ||| ((vS (bkH (bgF 8) PF k) (rT (pk PF k) 80) r 1) &&& (vS (bkH (bgF 8) PF k) (rT (pk PF k) 80) r 2)))) % B64)) % B64) (vS (bkH (bgF 8) PF k) (rT (pk PF k) 80) r 0) (vS (bkH (bgF 8) PF k) (rT (pk PF k) 80) r 1) (vS (bkH (bgF 8) PF k) (rT (pk PF k) 80) r 2) (((vS (bkH (bgF 8) PF k) (rT (pk PF k) 80) r 3) + (((((((((vS (bkH (bgF 8) PF k) (rT (pk PF k) 80) r 7) + (((tu (vS (bkH (bgF 8) PF k) (rT (pk PF k) 80) r 4) 14) ^^^ (tu (vS (bkH (bgF 8) PF k) (rT (pk PF k) 80) r 4) 18)) ^^^ (tu (vS (bkH (bgF 8) PF k) (rT (pk PF k) 80) r 4) 41))) % B64) + ((((vS (bkH (bgF 8) PF k) (rT (pk PF k) 80) r 4) &&& (vS (bkH (bgF 8) PF k) (rT (pk PF k) 80) r 5)) + ((18446744073709551615 - (vS (bkH (bgF 8) PF k) (rT (pk PF k) 80) r 4)) &&& (vS (bkH (bgF 8) PF k) (rT (pk PF k) 80) r 6))) % B64)) % B64) + (cu r)) % B64) + (rT (pk PF k) 80 r)) % B64)) % B64) (vS (bkH (bgF 8) PF k) (rT (pk PF k) 80) r 4) (vS (bkH (bgF 8) PF k) (rT (pk PF k) 80) r 5) (vS (bkH (bgF 8) PF k) (rT (pk PF k) 80) r 6))) (t := 93) (vS_n hH r _ _ rfl rfl)
          obtain ⟨x, h⟩ := St.jn (n := 222) h [0, 2, 3, 4, 5, 6, 7, 8, 9, 10, 14, 15] [.inl (.slice aa len cap), .inr (0, pt 0), .inr (1, pt 0), .inr (2, sl 0 8 8), .inr (3, sl 0 80 80), .inl (.int .i64 (8 : Nat)), .inr (4, sl 0 M pc), .inl (.int .i64 ((128 * k) : Nat)), .inr (5, pt 0), .inl (.int .i64 (80 : Nat)), .inr (6, pt 0), .inl (.int .i64 ((r + 1) : Nat))] [(ab 64 (fun _ => 0), 29), (au 8 (bkH (bgF 8) PF k), 93), (au 8 sq, 42), (au 80 cu, 42), (c, 5), (au 80 (rT (pk PF k) 80), 103), (au 8 (vS (bkH (bgF 8) PF k) (rT (pk PF k) 80) (r + 1)), 93)] (by kernel_rfl) (by kernel_rfl) (by kernel_rfl)
          exact ⟨hltr, x, _, h⟩
        · obtain rfl : 80 = r := by omega
          refine sym_seq ?_
          refine sym_seq ?_
          refine St.r0 h [(108, .inl (.int .i64 (80 : Nat))), (109, .inl (.bool false))] [] ?_ ?_
          · exact oz (k_mv (.inl rfl) rfl) <|
            oz (k_bi (.int .i64 (80 : Nat)) (.int .i64 (80 : Nat)) (.bool false) (lt_i (m := ((80 : Nat) : Int)) (n := ((80 : Nat) : Int)) (decide_eq_false (by omega))) rfl rfl) <|
            ok_nil
          clear h; intro β a w h
          refine sym_then ?_
          refine s_cf h ?_
          refine wp_exit ?_
          refine then_exit ?_
          refine then_exit ?_
          refine blk_exit ?_
          refine sym_then ?_
          refine sym_seq ?_
          refine St.r0 h [(20, .inl (.int .i64 (0 : Nat)))] [] ?_ ?_
          · exact oz (k_mv (.inr rfl) rfl) <|
            ok_nil
          clear h; intro β a w h
          refine sym_then ?_
          refine blk_in ?_
          replace h := St.sm h 1 (au 8 (hF (bkH (bgF 8) PF k) (vS (bkH (bgF 8) PF k) (rT (pk PF k) 80) 80) 0)) (c := au 8 (bkH (bgF 8) PF k)) (t := 93) rfl
          obtain ⟨x, h⟩ := St.jn (n := 222) h [0, 2, 3, 4, 5, 6, 7, 8, 9, 10, 14, 15, 20] [.inl (.slice aa len cap), .inr (0, pt 0), .inr (1, pt 0), .inr (2, sl 0 8 8), .inr (3, sl 0 80 80), .inl (.int .i64 (8 : Nat)), .inr (4, sl 0 M pc), .inl (.int .i64 ((128 * k) : Nat)), .inr (5, pt 0), .inl (.int .i64 (80 : Nat)), .inr (6, pt 0), .inl (.int .i64 (80 : Nat)), .inl (.int .i64 (0 : Nat))] [(ab 64 (fun _ => 0), 29), (au 8 (hF (bkH (bgF 8) PF k) (vS (bkH (bgF 8) PF k) (rT (pk PF k) 80) 80) 0), 93), (au 8 sq, 42), (au 80 cu, 42), (c, 5), (au 80 (rT (pk PF k) 80), 103), (au 8 (vS (bkH (bgF 8) PF k) (rT (pk PF k) 80) 80), 93)] (by kernel_rfl) (by kernel_rfl) (by kernel_rfl)
          refine loop_up 8 (fun i a w => ∃ (x : Nat → SV) (β : Nat → Nat), St (wd W0) (ov (jk 222 x) ([0, 2, 3, 4, 5, 6, 7, 8, 9, 10, 14, 15, 20].zip [.inl (.slice aa len cap), .inr (0, pt 0), .inr (1, pt 0), .inr (2, sl 0 8 8), .inr (3, sl 0 80 80), .inl (.int .i64 (8 : Nat)), .inr (4, sl 0 M pc), .inl (.int .i64 ((128 * k) : Nat)), .inr (5, pt 0), .inl (.int .i64 (80 : Nat)), .inr (6, pt 0), .inl (.int .i64 (80 : Nat)), .inl (.int .i64 (i : Nat))])) [(ab 64 (fun _ => 0), 29), (au 8 (hF (bkH (bgF 8) PF k) (vS (bkH (bgF 8) PF k) (rT (pk PF k) 80) 80) i), 93), (au 8 sq, 42), (au 80 cu, 42), (c, 5), (au 80 (rT (pk PF k) 80), 103), (au 8 (vS (bkH (bgF 8) PF k) (rT (pk PF k) 80) 80), 93)] β a w) ⟨x, _, h⟩ ?_
          clear h; rintro i a w hki ⟨x, β, h⟩
          rcases Nat.lt_or_ge i 8 with hlti | hgei
          · refine sym_seq ?_
            refine sym_seq ?_
            refine St.r0 h [(191, .inl (.int .i64 (i : Nat))), (192, .inl (.bool true))] [] ?_ ?_
            · exact oz (k_mv (.inl rfl) rfl) <|
              oz (k_bi (.int .i64 (i : Nat)) (.int .i64 (8 : Nat)) (.bool true) (lt_i (m := ((i : Nat) : Int)) (n := ((8 : Nat) : Int)) (decide_eq_true (by omega))) rfl rfl) <|
              ok_nil
            clear h; intro β a w h
            refine sym_then ?_
            refine s_ct h ?_
            refine wp_skip ?_
            refine sym_then ?_
            refine sym_seq ?_
            refine blk_in ?_
            refine St.rg h [(195, .inl (.int .i64 (i : Nat))), (196, .inl (.int .i64 (i : Nat))), (197, .inr (1, pt i)), (198, .inl (.int .u64 ((hF (bkH (bgF 8) PF k) (vS (bkH (bgF 8) PF k) (rT (pk PF k) 80) 80) i i) : Nat))), (199, .inl (.int .i64 (i : Nat))), (200, .inr (6, pt i)), (201, .inl (.int .u64 ((vS (bkH (bgF 8) PF k) (rT (pk PF k) 80) 80 i) : Nat))), (202, .inl (.int .u64 (((((hF (bkH (bgF 8) PF k) (vS (bkH (bgF 8) PF k) (rT (pk PF k) 80) 80) i i) + (vS (bkH (bgF 8) PF k) (rT (pk PF k) 80) 80 i)) % B64) : Nat) : Int))), (203, .inr (1, pt i))] [] [(1, au 8 (updN (hF (bkH (bgF 8) PF k) (vS (bkH (bgF 8) PF k) (rT (pk PF k) 80) 80) i) i (((hF (bkH (bgF 8) PF k) (vS (bkH (bgF 8) PF k) (rT (pk PF k) 80) 80) i i) + (vS (bkH (bgF 8) PF k) (rT (pk PF k) 80) 80 i)) % B64)))] [nn, nn, nn, eR 1, nn, nn, eR 6, nn, nn, eS 1] ?_ ?_
            · exact oc (k_mv (.inl rfl) rfl) <|
              oc (k_mv (.inl rfl) rfl) <|
              oc (k_ia 1 0 i (.int .i64 (i : Nat)) (ix8h (i := i) (by omega)) rfl rfl) <|
              oc (k_ld 1 i (.int .u64 ((hF (bkH (bgF 8) PF k) (vS (bkH (bgF 8) PF k) (rT (pk PF k) 80) 80) i i) : Nat)) (c := au 8 (hF (bkH (bgF 8) PF k) (vS (bkH (bgF 8) PF k) (rT (pk PF k) 80) 80) i)) (ld_au (n := 8) (F := (hF (bkH (bgF 8) PF k) (vS (bkH (bgF 8) PF k) (rT (pk PF k) 80) 80) i)) (i := i) (t0 := 93) (by omega)) rfl rfl) <|
              oc (k_mv (.inl rfl) rfl) <|
              oc (k_ia 6 0 i (.int .i64 (i : Nat)) (ix8h (i := i) (by omega)) rfl rfl) <|
              oc (k_ld 6 i (.int .u64 ((vS (bkH (bgF 8) PF k) (rT (pk PF k) 80) 80 i) : Nat)) (c := au 8 (vS (bkH (bgF 8) PF k) (rT (pk PF k) 80) 80)) (ld_au (n := 8) (F := (vS (bkH (bgF 8) PF k) (rT (pk PF k) 80) 80)) (i := i) (t0 := 93) (by omega)) rfl rfl) <|
              oc (k_bi (.int .u64 ((hF (bkH (bgF 8) PF k) (vS (bkH (bgF 8) PF k) (rT (pk PF k) 80) 80) i i) : Nat)) (.int .u64 ((vS (bkH (bgF 8) PF k) (rT (pk PF k) 80) 80 i) : Nat)) (.int .u64 (((((hF (bkH (bgF 8) PF k) (vS (bkH (bgF 8) PF k) (rT (pk PF k) 80) 80) i i) + (vS (bkH (bgF 8) PF k) (rT (pk PF k) 80) 80 i)) % B64) : Nat) : Int)) (ad_w (m := (hF (bkH (bgF 8) PF k) (vS (bkH (bgF 8) PF k) (rT (pk PF k) 80) 80) i i)) (n := (vS (bkH (bgF 8) PF k) (rT (pk PF k) 80) 80 i))) rfl rfl) <|
              oc (k_ia 1 0 i (.int .i64 (i : Nat)) (ix8h (i := i) (by omega)) rfl rfl) <|
              oc (k_st 1 i (.int .u64 (((((hF (bkH (bgF 8) PF k) (vS (bkH (bgF 8) PF k) (rT (pk PF k) 80) 80) i i) + (vS (bkH (bgF 8) PF k) (rT (pk PF k) 80) 80 i)) % B64) : Nat) : Int)) (c := au 8 (hF (bkH (bgF 8) PF k) (vS (bkH (bgF 8) PF k) (rT (pk PF k) 80) 80) i)) (n := au 8 (updN (hF (bkH (bgF 8) PF k) (vS (bkH (bgF 8) PF k) (rT (pk PF k) 80) 80) i) i (((hF (bkH (bgF 8) PF k) (vS (bkH (bgF 8) PF k) (rT (pk PF k) 80) 80) i i) + (vS (bkH (bgF 8) PF k) (rT (pk PF k) 80) 80 i)) % B64))) (st_au (n := 8) (F := (hF (bkH (bgF 8) PF k) (vS (bkH (bgF 8) PF k) (rT (pk PF k) 80) 80) i)) (i := i) (v := (((hF (bkH (bgF 8) PF k) (vS (bkH (bgF 8) PF k) (rT (pk PF k) 80) 80) i i) + (vS (bkH (bgF 8) PF k) (rT (pk PF k) 80) 80 i)) % B64)) (t0 := 93) (by omega)) rfl rfl) <|
              ok_nil
            clear h; intro β a w h
            refine blk_norm ?_
            refine sym_then ?_
            refine St.r0 h [(193, .inl (.int .i64 (i : Nat))), (194, .inl (.int .i64 ((i + 1) : Nat))), (20, .inl (.int .i64 ((i + 1) : Nat)))] [eO] ?_ ?_
            · exact oc (k_m0 rfl rfl) <|
              oz (k_bi (.int .i64 (i : Nat)) (.int .i64 (1 : Nat)) (.int .i64 ((i + 1) : Nat)) (ad_i (m := i) (n := 1) (by omega)) rfl rfl) <|
              oz (k_mv (.inr rfl) rfl) <|
              ok_nil
            clear h; intro β a w h
            replace h := St.sm h 1 (au 8 (hF (bkH (bgF 8) PF k) (vS (bkH (bgF 8) PF k) (rT (pk PF k) 80) 80) (i + 1))) (c := au 8 (updN (hF (bkH (bgF 8) PF k) (vS (bkH (bgF 8) PF k) (rT (pk PF k) 80) 80) i) i (((hF (bkH (bgF 8) PF k) (vS (bkH (bgF 8) PF k) (rT (pk PF k) 80) 80) i i) + (vS (bkH (bgF 8) PF k) (rT (pk PF k) 80) 80 i)) % B64))) (t := 93) rfl
            obtain ⟨x, h⟩ := St.jn (n := 222) h [0, 2, 3, 4, 5, 6, 7, 8, 9, 10, 14, 15, 20] [.inl (.slice aa len cap), .inr (0, pt 0), .inr (1, pt 0), .inr (2, sl 0 8 8), .inr (3, sl 0 80 80), .inl (.int .i64 (8 : Nat)), .inr (4, sl 0 M pc), .inl (.int .i64 ((128 * k) : Nat)), .inr (5, pt 0), .inl (.int .i64 (80 : Nat)), .inr (6, pt 0), .inl (.int .i64 (80 : Nat)), .inl (.int .i64 ((i + 1) : Nat))] [(ab 64 (fun _ => 0), 29), (au 8 (hF (bkH (bgF 8) PF k) (vS (bkH (bgF 8) PF k) (rT (pk PF k) 80) 80) (i + 1)), 93), (au 8 sq, 42), (au 80 cu, 42), (c, 5), (au 80 (rT (pk PF k) 80), 103), (au 8 (vS (bkH (bgF 8) PF k) (rT (pk PF k) 80) 80), 93)] (by kernel_rfl) (by kernel_rfl) (by kernel_rfl)
            exact ⟨hlti, x, _, h⟩
          · obtain rfl : 8 = i := by omega
            refine sym_seq ?_
            refine sym_seq ?_
            refine St.r0 h [(191, .inl (.int .i64 (8 : Nat))), (192, .inl (.bool false))] [] ?_ ?_
            · exact oz (k_mv (.inl rfl) rfl) <|
              oz (k_bi (.int .i64 (8 : Nat)) (.int .i64 (8 : Nat)) (.bool false) (lt_i (m := ((8 : Nat) : Int)) (n := ((8 : Nat) : Int)) (decide_eq_false (by omega))) rfl rfl) <|
              ok_nil
            clear h; intro β a w h
            refine sym_then ?_
            refine s_cf h ?_
            refine wp_exit ?_
            refine then_exit ?_
            refine then_exit ?_
            refine blk_exit ?_
            refine blk_norm ?_
            refine sym_then ?_
            refine St.r0 h [(41, .inl (.int .i64 ((128 * k) : Nat))), (42, .inl (.int .i64 (((128 * k) + 128) : Nat))), (8, .inl (.int .i64 (((128 * k) + 128) : Nat)))] [eO] ?_ ?_
            · exact oc (k_m0 rfl rfl) <|
              oz (k_bi (.int .i64 ((128 * k) : Nat)) (.int .i64 (128 : Nat)) (.int .i64 (((128 * k) + 128) : Nat)) (ad_i (m := (128 * k)) (n := 128) (by omega)) rfl rfl) <|
              oz (k_mv (.inr rfl) rfl) <|
              ok_nil
            clear h; intro β a w h
            replace h := St.sm h 1 (au 8 (bkH (bgF 8) PF (k + 1))) (c := au 8 (hF (bkH (bgF 8) PF k) (vS (bkH (bgF 8) PF k) (rT (pk PF k) 80) 80) 8)) (t := 93) (bk_n PF k)
            replace h := St.ss h 8 (.int .i64 ((128 * (k + 1)) : Nat)) (v := .int .i64 (((128 * k) + 128) : Nat)) rfl
            obtain ⟨x, h⟩ := St.jd (n := 222) h [0, 2, 3, 4, 5, 6, 7, 8] [.inl (.slice aa len cap), .inr (0, pt 0), .inr (1, pt 0), .inr (2, sl 0 8 8), .inr (3, sl 0 80 80), .inl (.int .i64 (8 : Nat)), .inr (4, sl 0 M pc), .inl (.int .i64 ((128 * (k + 1)) : Nat))] [(ab 64 (fun _ => 0), 29), (au 8 (bkH (bgF 8) PF (k + 1)), 93), (au 8 sq, 42), (au 80 cu, 42), (c, 5)] (by kernel_rfl) (by kernel_rfl) (by kernel_rfl) (by kernel_rfl) (fun _ _ h => by cases h)
            exact ⟨hltk, x, _, h⟩
    · obtain rfl : NP = k := by omega
      refine sym_seq ?_
      refine sym_seq ?_
      refine St.r0 h [(37, .inl (.int .i64 ((128 * NP) : Nat))), (38, .inr (4, sl 0 M pc)), (39, .inl (.int .i64 (M : Nat))), (40, .inl (.bool false))] [] ?_ ?_
      · exact oz (k_mv (.inl rfl) rfl) <|
        oz (k_mp 4 (sl 0 M pc) (.inl rfl) rfl) <|
        oz (k_lb 4 0 M pc rfl rfl (fun w ad => len_b _ w)) <|
        oz (k_bi (.int .i64 ((128 * NP) : Nat)) (.int .i64 (M : Nat)) (.bool false) (lt_i (m := (((128 * NP) : Nat) : Int)) (n := ((M : Nat) : Int)) (decide_eq_false (by omega))) rfl rfl) <|
        ok_nil
      clear h; intro β a w h
      refine sym_then ?_
      refine s_cf h ?_
      refine wp_exit ?_
      refine then_exit ?_
      refine then_exit ?_
      refine blk_exit ?_
      refine sym_then ?_
      refine sym_seq ?_
      refine St.rg h [(21, .inr (5, pt 0))] [(ab 64 (fun _ => 0), 29)] [] [eN 5] ?_ ?_
      · exact oc (k_al 5 alS rfl rfl) <|
        ok_nil
      clear h; intro β a w h
      refine sym_then ?_
      refine sym_seq ?_
      refine sym_seq ?_
      refine St.r0 h [(22, .inl (.int .i64 (0 : Nat)))] [] ?_ ?_
      · exact oz (k_mv (.inr rfl) rfl) <|
        ok_nil
      clear h; intro β a w h
      refine sym_then ?_
      refine blk_in ?_
      replace h := St.sm h 5 (ab 64 (oF (bkH (bgF 8) PF NP) 0)) (c := ab 64 (fun _ => 0)) (t := 29) (oF_0 _)
      obtain ⟨x, h⟩ := St.jn (n := 222) h [0, 2, 3, 4, 5, 6, 7, 8, 21, 22] [.inl (.slice aa len cap), .inr (0, pt 0), .inr (1, pt 0), .inr (2, sl 0 8 8), .inr (3, sl 0 80 80), .inl (.int .i64 (8 : Nat)), .inr (4, sl 0 M pc), .inl (.int .i64 ((128 * NP) : Nat)), .inr (5, pt 0), .inl (.int .i64 (0 : Nat))] [(ab 64 (fun _ => 0), 29), (au 8 (bkH (bgF 8) PF NP), 93), (au 8 sq, 42), (au 80 cu, 42), (c, 5), (ab 64 (oF (bkH (bgF 8) PF NP) 0), 29)] (by kernel_rfl) (by kernel_rfl) (by kernel_rfl)
      refine loop_up 64 (fun i2 a w => ∃ (x : Nat → SV) (β : Nat → Nat), St (wd W0) (ov (jk 222 x) ([0, 2, 3, 4, 5, 6, 7, 8, 21, 22].zip [.inl (.slice aa len cap), .inr (0, pt 0), .inr (1, pt 0), .inr (2, sl 0 8 8), .inr (3, sl 0 80 80), .inl (.int .i64 (8 : Nat)), .inr (4, sl 0 M pc), .inl (.int .i64 ((128 * NP) : Nat)), .inr (5, pt 0), .inl (.int .i64 (i2 : Nat))])) [(ab 64 (fun _ => 0), 29), (au 8 (bkH (bgF 8) PF NP), 93), (au 8 sq, 42), (au 80 cu, 42), (c, 5), (ab 64 (oF (bkH (bgF 8) PF NP) i2), 29)] β a w) ⟨x, _, h⟩ ?_
      clear h; rintro i2 a w hki2 ⟨x, β, h⟩
      rcases Nat.lt_or_ge i2 64 with hlti2 | hgei2
      · refine sym_seq ?_
        refine sym_seq ?_
        refine St.r0 h [(204, .inl (.int .i64 (i2 : Nat))), (205, .inl (.bool true))] [] ?_ ?_
        · exact oz (k_mv (.inl rfl) rfl) <|
          oz (k_bi (.int .i64 (i2 : Nat)) (.int .i64 (64 : Nat)) (.bool true) (lt_i (m := ((i2 : Nat) : Int)) (n := ((64 : Nat) : Int)) (decide_eq_true (by omega))) rfl rfl) <|
          ok_nil
        clear h; intro β a w h
        refine sym_then ?_
        refine s_ct h ?_
        refine wp_skip ?_
        refine sym_then ?_
        refine sym_seq ?_
        refine blk_in ?_
        refine St.rg h [(208, .inl (.int .i64 (i2 : Nat))), (209, .inl (.int .i64 (i2 : Nat))), (210, .inl (.int .i64 ((i2 / 8) : Nat))), (211, .inr (1, pt (i2 / 8))), (212, .inl (.int .u64 ((bkH (bgF 8) PF NP (i2 / 8)) : Nat))), (213, .inl (.int .i64 (i2 : Nat))), (214, .inl (.int .i64 ((i2 % 8) : Nat))), (215, .inl (.int .i64 ((7 - (i2 % 8)) : Nat))), (216, .inl (.int .i64 ((8 * (7 - (i2 % 8))) : Nat))), (217, .inl (.int .u64 ((8 * (7 - (i2 % 8))) : Nat))), (218, .inl (.int .u64 (((bkH (bgF 8) PF NP (i2 / 8)) / 2 ^ (8 * (7 - (i2 % 8)))) : Nat))), (219, .inl (.int .u8 ((((bkH (bgF 8) PF NP (i2 / 8)) / 2 ^ (8 * (7 - (i2 % 8)))) % 256) : Nat))), (220, .inr (5, pt i2))] [] [(5, ab 64 (updN (oF (bkH (bgF 8) PF NP) i2) i2 (((bkH (bgF 8) PF NP (i2 / 8)) / 2 ^ (8 * (7 - (i2 % 8)))) % 256)))] [nn, nn, nn, nn, eR 1, nn, nn, nn, nn, nn, nn, nn, nn, eS 5] ?_ ?_
        · exact oc (k_mv (.inl rfl) rfl) <|
          oc (k_mv (.inl rfl) rfl) <|
          oc (k_bi (.int .i64 (i2 : Nat)) (.int .i64 (8 : Nat)) (.int .i64 ((i2 / 8) : Nat)) (qu_i (m := i2) (n := 8) (by decide) (by omega)) rfl rfl) <|
          oc (k_ia 1 0 ((i2 / 8)) (.int .i64 ((i2 / 8) : Nat)) (ix8h (i := (i2 / 8)) (by omega)) rfl rfl) <|
          oc (k_ld 1 ((i2 / 8)) (.int .u64 ((bkH (bgF 8) PF NP (i2 / 8)) : Nat)) (c := au 8 (bkH (bgF 8) PF NP)) (ld_au (n := 8) (F := (bkH (bgF 8) PF NP)) (i := (i2 / 8)) (t0 := 93) (by omega)) rfl rfl) <|
          oc (k_mv (.inl rfl) rfl) <|
          oc (k_bi (.int .i64 (i2 : Nat)) (.int .i64 (8 : Nat)) (.int .i64 ((i2 % 8) : Nat)) (re_i (m := i2) (n := 8) (by decide)) rfl rfl) <|
          oc (k_bi (.int .i64 (7 : Nat)) (.int .i64 ((i2 % 8) : Nat)) (.int .i64 ((7 - (i2 % 8)) : Nat)) (sb_zn (m := ((7 : Nat) : Int)) (n := (((i2 % 8) : Nat) : Int)) (k := (7 - (i2 % 8))) (by omega) (by omega)) rfl rfl) <|
          oc (k_bi (.int .i64 (8 : Nat)) (.int .i64 ((7 - (i2 % 8)) : Nat)) (.int .i64 ((8 * (7 - (i2 % 8))) : Nat)) (mu_i (m := 8) (n := (7 - (i2 % 8))) (by omega)) rfl rfl) <|
          oc (k_co (.int .i64 ((8 * (7 - (i2 % 8))) : Nat)) (.int .u64 ((8 * (7 - (i2 % 8))) : Nat)) (cv_iu (n := (8 * (7 - (i2 % 8)))) (by omega)) rfl rfl) <|
          oc (k_bi (.int .u64 ((bkH (bgF 8) PF NP (i2 / 8)) : Nat)) (.int .u64 ((8 * (7 - (i2 % 8))) : Nat)) (.int .u64 (((bkH (bgF 8) PF NP (i2 / 8)) / 2 ^ (8 * (7 - (i2 % 8)))) : Nat)) (sr_wu (m := (bkH (bgF 8) PF NP (i2 / 8))) (r := (8 * (7 - (i2 % 8)))) (by omega)) rfl rfl) <|
          oc (k_co (.int .u64 (((bkH (bgF 8) PF NP (i2 / 8)) / 2 ^ (8 * (7 - (i2 % 8)))) : Nat)) (.int .u8 ((((bkH (bgF 8) PF NP (i2 / 8)) / 2 ^ (8 * (7 - (i2 % 8)))) % 256) : Nat)) (cv_w8 (n := ((bkH (bgF 8) PF NP (i2 / 8)) / 2 ^ (8 * (7 - (i2 % 8)))))) rfl rfl) <|
          oc (k_ia 5 0 i2 (.int .i64 (i2 : Nat)) (ixS (i := i2) (by omega)) rfl rfl) <|
          oc (k_st 5 i2 (.int .u8 ((((bkH (bgF 8) PF NP (i2 / 8)) / 2 ^ (8 * (7 - (i2 % 8)))) % 256) : Nat)) (c := ab 64 (oF (bkH (bgF 8) PF NP) i2)) (n := ab 64 (updN (oF (bkH (bgF 8) PF NP) i2) i2 (((bkH (bgF 8) PF NP (i2 / 8)) / 2 ^ (8 * (7 - (i2 % 8)))) % 256))) (st_abS (N := 64) (F := (oF (bkH (bgF 8) PF NP) i2)) (i := i2) (v := (((bkH (bgF 8) PF NP (i2 / 8)) / 2 ^ (8 * (7 - (i2 % 8)))) % 256)) (t0 := 29) (by omega)) rfl rfl) <|
          ok_nil
        clear h; intro β a w h
        refine blk_norm ?_
        refine sym_then ?_
        refine St.r0 h [(206, .inl (.int .i64 (i2 : Nat))), (207, .inl (.int .i64 ((i2 + 1) : Nat))), (22, .inl (.int .i64 ((i2 + 1) : Nat)))] [eO] ?_ ?_
        · exact oc (k_m0 rfl rfl) <|
          oz (k_bi (.int .i64 (i2 : Nat)) (.int .i64 (1 : Nat)) (.int .i64 ((i2 + 1) : Nat)) (ad_i (m := i2) (n := 1) (by omega)) rfl rfl) <|
          oz (k_mv (.inr rfl) rfl) <|
          ok_nil
        clear h; intro β a w h
        replace h := St.sm h 5 (ab 64 (oF (bkH (bgF 8) PF NP) (i2 + 1))) (c := ab 64 (updN (oF (bkH (bgF 8) PF NP) i2) i2 (((bkH (bgF 8) PF NP (i2 / 8)) / 2 ^ (8 * (7 - (i2 % 8)))) % 256))) (t := 29) (oF_n _ _)
        obtain ⟨x, h⟩ := St.jn (n := 222) h [0, 2, 3, 4, 5, 6, 7, 8, 21, 22] [.inl (.slice aa len cap), .inr (0, pt 0), .inr (1, pt 0), .inr (2, sl 0 8 8), .inr (3, sl 0 80 80), .inl (.int .i64 (8 : Nat)), .inr (4, sl 0 M pc), .inl (.int .i64 ((128 * NP) : Nat)), .inr (5, pt 0), .inl (.int .i64 ((i2 + 1) : Nat))] [(ab 64 (fun _ => 0), 29), (au 8 (bkH (bgF 8) PF NP), 93), (au 8 sq, 42), (au 80 cu, 42), (c, 5), (ab 64 (oF (bkH (bgF 8) PF NP) (i2 + 1)), 29)] (by kernel_rfl) (by kernel_rfl) (by kernel_rfl)
        exact ⟨hlti2, x, _, h⟩
      · obtain rfl : 64 = i2 := by omega
        refine sym_seq ?_
        refine sym_seq ?_
        refine St.r0 h [(204, .inl (.int .i64 (64 : Nat))), (205, .inl (.bool false))] [] ?_ ?_
        · exact oz (k_mv (.inl rfl) rfl) <|
          oz (k_bi (.int .i64 (64 : Nat)) (.int .i64 (64 : Nat)) (.bool false) (lt_i (m := ((64 : Nat) : Int)) (n := ((64 : Nat) : Int)) (decide_eq_false (by omega))) rfl rfl) <|
          ok_nil
        clear h; intro β a w h
        refine sym_then ?_
        refine s_cf h ?_
        refine wp_exit ?_
        refine then_exit ?_
        refine then_exit ?_
        refine blk_exit ?_
        refine sym_then ?_
        refine sym_seq ?_
        refine St.rg h [(221, .inl (.agg (ab 64 (oF (bkH (bgF 8) PF NP) 64))))] [] [(0, ab 64 (oF (bkH (bgF 8) PF NP) 64))] [eR 5, eS 0] ?_ ?_
        · exact oc (k_ld 5 0 (.agg (ab 64 (oF (bkH (bgF 8) PF NP) 64))) (c := ab 64 (oF (bkH (bgF 8) PF NP) 64)) (ldS (F := (oF (bkH (bgF 8) PF NP) 64)) 29) rfl rfl) <|
          oc (k_st 0 0 (.agg (ab 64 (oF (bkH (bgF 8) PF NP) 64))) (c := ab 64 (fun _ => 0)) (n := ab 64 (oF (bkH (bgF 8) PF NP) 64)) (stS (F := (oF (bkH (bgF 8) PF NP) 64)) (c := ab 64 (fun _ => 0)) 29 (ab_size _ _)) rfl rfl) <|
          ok_nil
        clear h; intro β a w h
        refine sym_then ?_
        refine wp_ret ?_
        exact s_rc (b := 0) (t0 := 29) (c := ab 64 (oF (bkH (bgF 8) PF NP) 64)) h Tryz.results27 Tryz.underlying29 (fun hb => ⟨rfl, hb⟩) (by rw [ab_size]; kernel_rfl)
end Go.Proofs.YtacokkedomjgpaaGreatDoor.Lo

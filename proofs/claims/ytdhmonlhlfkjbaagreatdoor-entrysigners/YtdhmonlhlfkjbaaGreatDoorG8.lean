/- EA7, EA8, EA9, EA10, EA11, EA12, EA13, EA14, EA15, EA16, EA17, EAi, EA18, EA19: laid together. -/
import Derived.Lib.SlBytesConst
import Derived.Test.YtdhmonlhlfkjbaaGreatDoorG7
import Derived.Test.YtdhmonlhlfkjbaaGreatDoorG3
namespace Go.Proofs.YtdhmonlhlfkjbaaGreatDoor
open Go.RowKit Go.Shelf

theorem tlw_of {P : Program} {l r : List Oper} {o : Oper} {Q : Exit → Act → World → Prop} {a : Act} {w : World} (hg : o.guard = none) (h : ∀ K : Act → World → Prop, (∀ a w, tlw P l Q r a w → K a w) → o.wp P a w K Q) : tlw P l Q (o :: r) a w :=
  fun K hK => .plain hg (h K hK)
theorem bs_P1 {x0 x1 x2 x3 x4 x5 : Value} (w : World) : (Instr.buildSlice 53 1 #[(0, .agg #[x0, x1, x2, x3, x4, x5])]).run Tryz.prog w = .ok (.slice (some ⟨w.heap.size, 0, none⟩) 1 1) (w.alloc (.cells #[x0, x1, x2, x3, x4, x5] 69)) := by kernel_rfl
theorem own_bse {w : World} {B B' : Nat} {e : TypeId} {z n : Nat} {v : Value} {xs : List Value} (h : w.ownsRow B e z v n xs) (hb : B' ≤ B) : w.ownsRow B' e z v n xs := by
  obtain ⟨h1, h2 | ⟨g, cap, cur, hv, hB, r⟩⟩ := h
  · exact ⟨h1, .inl h2⟩
  · exact ⟨h1, .inr ⟨g, cap, cur, hv, Nat.le_trans hb hB, r⟩⟩
theorem app_2P {W1 : World} {B nb n : Nat} {v : Value} {c : Array Value} {xs : List Value} (tr : TypeId) (hB : B ≤ W1.heap.size) (how : W1.ownsRow B 69 6 v n xs) (h5 : c.size = 6) (h1 : c.all (·.oneCell') = true) (hnb : W1.heap[nb]? = some (.cells c 69 (0, 0))) (hn : n ≤ 1000000 := by omega) :
    ∃ v' W', (Builtin.append_ #[53, 53] tr #[v, .slice (some ⟨nb, 0, none⟩) 1 1]).run Tryz.prog W1 = .ok v' W' ∧ W1.grownBy W' v.ownBlock ∧ W'.ownsRow B 69 6 v' (n + 1) (xs ++ c.toList) := by
  obtain ⟨i0, hi, hz0, hz1, hz2⟩ := info_parts (show (Tryz.prog.info? 69).map (fun i => (i.zero, i.size, i.bytes)) = some (some (.agg #[.string ⟨#[]⟩, .int .i64 0, .int .i64 0, .string ⟨#[]⟩, .slice none 0 0, .slice none 0 0]), 6, 96) by kernel_rfl)
  have hnews : ∀ j u, c.toList[j]? = some u → W1.cell? ((⟨nb, 0, none⟩ : Addr).add j) = some u := by
    intro j u hj
    rw [Addr.add_lit, Nat.zero_add]
    simp only [World.cell?, hnb]
    simpa using hj
  obtain ⟨v', W', hr, g4, g5, -, g6⟩ := run_append_own_at (P := Tryz.prog) W1 B 53 tr 69 i0 _ 6 96 Tryz.underlying53 hi hz0 hz1 hz2 rfl (by decide) v n xs how ⟨nb, 0, none⟩ 1 1 c.toList (by simpa using h5) hnews
    (fun u hu => (Array.all_eq_true_iff_forall_mem.1 h1) u (by simpa using hu)) (by unfold maxLen; omega) (by omega) hB
  exact ⟨v', W', hr, g5, g4⟩
theorem obj_en {B : Nat} {w : World} {a : Option Addr} {cap : Nat} {c : List Value} (h : w.ownsRow B 69 6 (.slice a 3 cap) 3 ((pC ⟨#[107, 105, 110, 100]⟩ ⟨#[97, 114, 116, 105, 102, 97, 99, 116]⟩ ++ pC ⟨#[100, 105, 103, 101, 115, 116]⟩ (strOfNums (hexE (zL 32)))) ++ (.string ⟨#[115, 105, 103, 115]⟩ :: c))) (hv : VA (B ≤ ·) w sgT c) : Calls Tryz.prog 27 #[.slice a 3 cap] w (AnC w arT) := by
  have := obj_e (w := w) hg_en gd_en (va_obj (cs := [pC ⟨#[107, 105, 110, 100]⟩ ⟨#[97, 114, 116, 105, 102, 97, 99, 116]⟩, pC ⟨#[100, 105, 103, 101, 115, 116]⟩ (strOfNums (hexE (zL 32))), .string ⟨#[115, 105, 103, 115]⟩ :: c])
    (rwa_own (by simpa using h) (by have := hv.len; simp [this]) rfl) rfl (fun j q c h1 h2 => by
      match j with
      | 0 => cases h1; cases h2; rfl
      | 1 => cases h1; cases h2; rfl
      | 2 => cases h1; cases h2; rfl
      | j + 3 => simp at h1) (fun j q c h1 h2 => by
      match j with
      | 0 => cases h1; cases h2; exact VA.leaf 3 0 _
      | 1 => cases h1; cases h2; rw [st_hexz]; exact VA.leaf 3 0 _
      | 2 => cases h1; cases h2; exact hv
      | j + 3 => simp at h1))
  rw [show T.mk 5 0 [] [] _ = enT from rfl, so_en] at this
  exact this
set_option maxHeartbeats 8000000 in
set_option maxRecDepth 100000 in
theorem val_e {g cg : Nat} {w : World} (h : Sg1 w g alc) : Calls Tryz.prog 18 #[.agg (entA 1 0 [] (.slice (some ⟨g, 0, none⟩) 1 cg))] w fun e w' => ∃ c : Array Value, e = .returned (.tuple #[.agg c, .nilIface]) ∧ c.size = 5 ∧ Below w.heap.size w w' ∧ VA (w.heap.size ≤ ·) w' arT c.toList := by
  obtain ⟨E, hE⟩ : ∃ E, E = entA 1 0 [] (.slice (some ⟨g, 0, none⟩) 1 cg) := ⟨_, rfl⟩
  obtain ⟨wb, hwb⟩ : ∃ wb, wb = (w.alloc (.cells E 45)).alloc (.cells #[.int .i64 0, .int .i64 0, .string ⟨#[]⟩, .slice none 0 0, .slice none 0 0] 55) := ⟨_, rfl⟩
  have hk1 : Hid (E[0]? = some (.int .i64 1)) := hide1 (by rw [hE]; rfl)
  have hk2 : Hid ((E.toList.drop 1).take 32 = u8C (zL 32)) := hide1 (by rw [hE]; rfl)
  have hk3 : E[69]? = some (.slice (some ⟨g, 0, none⟩) 1 cg) := by rw [hE]; rfl
  have hks : E.size = 70 := by rw [hE]; rfl
  have bb : Below w.heap.size w wb := by rw [hwb]; exact (below_na _).alloc (by simp) _
  have hb1 : wb.heap[w.heap.size]? = some (.cells E 45 (0, 0)) := by rw [hwb]; exact (al_old (by simp)).trans (heap_na _ _ _)
  have hb2 : wb.heap[w.heap.size + 1]? = some (.cells #[.int .i64 0, .int .i64 0, .string ⟨#[]⟩, .slice none 0 0, .slice none 0 0] 55 (0, 0)) := by
    rw [hwb]
    have := heap_na (w.alloc (.cells E 45)) #[.int .i64 0, .int .i64 0, .string ⟨#[]⟩, .slice none 0 0, .slice none 0 0] 55
    rwa [show (w.alloc (.cells E 45)).heap.size = w.heap.size + 1 by simp] at this
  have hsg := h.below bb
  have hck := check_1 (c := cg) hsg
  rw [← hE] at hck ⊢
  have hle := hide1 (rng_of 0 E.toList hb1 (by rw [List.drop_zero, List.take_length]))
  have hls : (Tryz.prog.info? 45).map (·.size) = some E.toList.length := by rw [Array.length_toList, hks]; kernel_rfl
  replace bb := hide1 bb
  replace hb1 := hide1 hb1
  replace hb2 := hide1 hb2
  replace hsg := hide1 hsg
  replace hk3 := hide1 hk3
  replace hks := hide1 hks
  clear h hE
  go_enter Tryz.func18, Tryz.ntmps18
  go_upto_region 1 with fail
  rw [← hwb]
  clear hwb
  go_wp2_with (first | (refine load_w rfl 45 (.tmp 1) rfl w.heap.size 0 rfl E.toList _ hle.out Tryz.underlying45 rfl hls ?_; rw [show E.toList.toArray = E by simp]) | fail)
  refine hck.mono ?_
  rintro e w3 ⟨rfl, b3⟩
  have hx : Hid (En1 w3 w.heap.size E) := hide1 ⟨(b3.block _ (Array.getElem?_eq_some_iff.1 hb1.out).1).trans hb1.out, hks.out⟩
  have hl : Hid (∀ wa, Below w3.heap.size w3 wa → wa.cell? ⟨w.heap.size, 69, none⟩ = some (.slice (some ⟨g, 0, none⟩) 1 cg)) := hide1 fun wa hwa => cell_of 69 ((hwa.block _ (Array.getElem?_eq_some_iff.1 hx.out.1).1).trans hx.out.1) hk3.out
  have h2 := hide1 ((b3.block _ (Array.getElem?_eq_some_iff.1 hb2.out).1).trans hb2.out)
  have hq2 := hide1 (Array.getElem?_eq_some_iff.1 h2.out).1
  have hg3 := hide1 (hsg.out.below b3)
  have bw := hide1 (bb.out.trans (b3.mono bb.out.size))
  clear b3 hck hle hls hb1 hb2 hsg bb hk3 hks
  go_upto_region 3 with fail
  refine wp_flowT 4 _ _ (by kernel_rfl) (by kernel_rfl) (by kernel_rfl) (by decide) (fun j v_ w_ => if j = 1 then (fun v w2 => w2.ownsRow w3.heap.size 69 6 v 2 (pC ⟨#[107, 105, 110, 100]⟩ ⟨#[97, 114, 116, 105, 102, 97, 99, 116]⟩ ++ pC ⟨#[100, 105, 103, 101, 115, 116]⟩ (strOfNums (hexE (zL 32))))) v_ w_ else v_ = ([(.agg E), undef, (.pointer (some ⟨w.heap.size, 69, none⟩)), (.slice (some ⟨g, 0, none⟩) 1 cg), undef, undef, undef, undef, undef, undef, undef] : List Value).getD j undef) (fun j v w w' h hb => by
        by_cases e1 : j = 1
        · subst e1; exact own_bel h hb
        · simp only [if_neg e1] at h ⊢; exact h
        ) ?_ ?_
  · intro j op hop hj a wa hwa hsz hsl hdep K hK
    match j, hop, hj with
    | 0, hop, _ =>
      obtain rfl := Option.some.inj hop
      have p1 : a.tmps.getD 1 undef = (.pointer (some ⟨w.heap.size, 0, none⟩)) := hsl 1 rfl
      exact .plain rfl (wp_val (w' := wa) (v := (.agg E)) (by simp only [execOp, Act.eval]; rw [show a.tmps.getD 1 undef = _ from p1]; simp only [Sem.run_bind, ldEn (hx.out.below hwa), Result.andThen_ok, Sem.run_pure]) (hK _ _ (Below.refl _ _) rfl))
    | 1, hop, _ =>
      obtain rfl := Option.some.inj hop
      have t0 : a.tmps.getD 9 undef = (.agg E) := hdep 0 _ 9 rfl rfl ⟨⟨0, .data⟩, by simp, rfl, rfl⟩
      refine .plain rfl (oper_any (J := fun r w' => (fun v w2 => w2.ownsRow w3.heap.size 69 6 v 2 (pC ⟨#[107, 105, 110, 100]⟩ ⟨#[97, 114, 116, 105, 102, 97, 99, 116]⟩ ++ pC ⟨#[100, 105, 103, 101, 115, 116]⟩ (strOfNums (hexE (zL 32))))) r w' ∧ Below wa.heap.size wa w') 28 #[.tmp 9] _ rfl #[(.agg E)] (by simp only [List.map_toArray, List.map_cons, List.map_nil, Act.eval]; rw [show a.tmps.getD 9 undef = _ from t0]) (fun w => by kernel_rfl) ((bod_1 (E := E) (D := zL 32) hk1.out (byt_z _) rfl hk2.out wa).mono fun e w' h => by obtain ⟨v, rfl, ho, hb⟩ := h; exact ⟨_, rfl, own_bse ho hwa.size, hb⟩) ?_)
      rintro r w' ⟨hr, hb⟩
      exact hK _ _ hb hr
    | 2, hop, _ =>
      obtain rfl := Option.some.inj hop
      have p1 : a.tmps.getD 1 undef = (.pointer (some ⟨w.heap.size, 0, none⟩)) := hsl 1 rfl
      exact .plain rfl (wp_val (w' := wa) (v := (.pointer (some ⟨w.heap.size, 69, none⟩))) (by simp only [execOp, Act.eval]; rw [show a.tmps.getD 1 undef = _ from p1]; kernel_rfl) (hK _ _ (Below.refl _ _) rfl))
    | 3, hop, _ =>
      obtain rfl := Option.some.inj hop
      have t2 : a.tmps.getD 11 undef = (.pointer (some ⟨w.heap.size, 69, none⟩)) := hdep 2 _ 11 rfl rfl ⟨⟨2, .data⟩, by simp, rfl, rfl⟩
      exact .plain rfl (wp_val (w' := wa) (v := (.slice (some ⟨g, 0, none⟩) 1 cg)) (by simp only [execOp, Act.eval]; rw [show a.tmps.getD 11 undef = _ from t2]; simp only [Sem.run_bind, ldSl (hl.out wa hwa), Result.andThen_ok, Sem.run_pure]) (hK _ _ (Below.refl _ _) rfl))
    | j + 4, _, hj => exact absurd hj (by omega)
  · intro a wa hwa hdf hsz hsl hrr
    have kv12 : a.tmps.getD 12 undef = (.slice (some ⟨g, 0, none⟩) 1 cg) := hrr 3 _ 12 rfl (by decide) rfl
    have kr10 : (fun v w2 => w2.ownsRow w3.heap.size 69 6 v 2 (pC ⟨#[107, 105, 110, 100]⟩ ⟨#[97, 114, 116, 105, 102, 97, 99, 116]⟩ ++ pC ⟨#[100, 105, 103, 101, 115, 116]⟩ (strOfNums (hexE (zL 32))))) (a.tmps.getD 10 undef) wa := hrr 1 _ 10 rfl (by decide) rfl
    have hact := act_puts hdf hsz hsl
    clear hrr hsl hdf hsz
    simp only [List.filterMap_cons, List.filterMap_nil, List.foldl_cons, List.foldl_nil] at hact
    rw [kv12] at hact
    rw [hact]
    generalize a.tmps.getD 9 undef = y9
    generalize a.tmps.getD 10 undef = y10 at kr10 ⊢
    generalize a.tmps.getD 11 undef = y11
    generalize a.tmps.getD 13 undef = y13
    generalize a.tmps.getD 14 undef = y14
    generalize a.tmps.getD 15 undef = y15
    generalize a.tmps.getD 16 undef = y16
    generalize a.tmps.getD 17 undef = y17
    generalize a.tmps.getD 3 undef = y3
    clear hact kv12 a
    simp only [Act.put, List.setIfInBounds_toArray, List.set_cons_succ, List.set_cons_zero]
    obtain ⟨va, vc, rfl⟩ := own_slc kr10
    refine tlw_of rfl fun K1 hK1 => oper_any (J := fun r w' => ∃ c : Array Value, r = .agg c ∧ c.size = 5 ∧ VA (wa.heap.size ≤ ·) w' sgT c.toList ∧ Below wa.heap.size wa w') 29 #[.tmp 12] _ rfl #[(.slice (some ⟨g, 0, none⟩) 1 cg)] (by simp only [List.map_toArray, List.map_cons, List.map_nil, Act.eval]; rfl) (fun w => by kernel_rfl) ((sv_1 (hg3.out.below hwa)).mono fun e w' h => by obtain ⟨c, rfl, h5, hb, hx⟩ := h; exact ⟨_, rfl, c, rfl, h5, hx, hb⟩) ?_
    rintro r wc ⟨c, rfl, h5, hxc, bc⟩
    obtain ⟨y0, y1, y2, y3, y4, hce⟩ := five_l (l := c.toList) (by simpa using h5)
    obtain rfl : c = #[y0, y1, y2, y3, y4] := by cases c; simp at hce; simp [hce]
    refine hK1 _ _ ?_
    simp only [Act.put, List.setIfInBounds_toArray, List.set_cons_succ, List.set_cons_zero]
    have h1c := hxc.one
    have how := own_bel kr10 bc
    have hlt : Hid (∀ r, (Value.slice va 2 vc).ownBlock = some r → r < wa.heap.size) := hide1 fun r hr => (kr10.lt r hr).2
    replace hxc := hide1 hxc
    replace how := hide1 how
    clear kr10 hce h5
    refine tlw_val (w' := wc) (v := .agg #[.string ⟨#[115, 105, 103, 115]⟩, y0, y1, y2, y3, y4]) rfl (by simp only [execOp, Act.eval, List.map_toArray, List.map_cons, List.map_nil]; kernel_rfl) ?_
    simp only [Act.put, List.setIfInBounds_toArray, List.set_cons_succ, List.set_cons_zero]
    refine tlw_val (w' := wc.alloc (.cells #[.string ⟨#[115, 105, 103, 115]⟩, y0, y1, y2, y3, y4] 69)) (v := .slice (some ⟨wc.heap.size, 0, none⟩) 1 1) rfl (by simp only [execOp, Act.eval, List.map_toArray, List.map_cons, List.map_nil]; exact (by rw [show (Array.getD _ 14 undef) = .agg #[.string ⟨#[115, 105, 103, 115]⟩, y0, y1, y2, y3, y4] from rfl]; simp only [Sem.run_bind, bs_P1, Result.andThen_ok, Sem.run_pure])) ?_
    simp only [Act.put, List.setIfInBounds_toArray, List.set_cons_succ, List.set_cons_zero]
    obtain ⟨wd, hwd⟩ : ∃ wd, wd = wc.alloc (.cells #[.string ⟨#[115, 105, 103, 115]⟩, y0, y1, y2, y3, y4] 69) := ⟨_, rfl⟩
    have bd : Below wc.heap.size wc wd := by rw [hwd]; exact below_na _
    have hnd : wd.heap[wc.heap.size]? = some (.cells #[.string ⟨#[115, 105, 103, 115]⟩, y0, y1, y2, y3, y4] 69 (0, 0)) := by rw [hwd]; exact heap_na _ _ _
    rw [← hwd]
    clear hwd
    obtain ⟨v', W', hr, hg', ho'⟩ := app_2P 53 (Nat.le_trans hwa.size (Nat.le_trans bc.size bd.size)) (own_bel how.out bd) rfl (by simpa [Value.oneCell'] using h1c) hnd
    obtain ⟨va', vc', rfl⟩ := own_slc ho'
    have hW' : Below w3.heap.size wd W' := below_grE hg' (fun r hr => (how.out.lt r hr).1) (Nat.le_trans hwa.size (Nat.le_trans bc.size bd.size))
    refine tlw_val (w' := W') (v := .slice va' 3 vc') rfl (by unfold execOp; simp only [resolve, invoke, builtin, Sem.run_bind, Sem.run_pure, Result.andThen_ok, List.map_toArray, List.map_cons, List.map_nil]; exact (by rw [show (Act.eval _ (.tmp 10)) = .slice va 2 vc from rfl, show (Act.eval _ (.tmp 15)) = .slice (some ⟨wc.heap.size, 0, none⟩) 1 1 from rfl, hr]; rfl)) ?_
    simp only [Act.put, List.setIfInBounds_toArray, List.set_cons_succ, List.set_cons_zero]
    have hxv : VA (w3.heap.size ≤ ·) W' sgT [y0, y1, y2, y3, y4] := VA.frame (F := fun k => wa.heap.size ≤ k) hxc.out (fun k hk hs => (hg'.block k (Nat.lt_of_lt_of_le hs bd.size) (fun e => by have h8 := hlt.out k e.symm; have h9 : wa.heap.size ≤ k := hk; omega)).trans (bd.block k hs)) (fun k hk _ => Nat.le_trans hwa.size hk)
    have hob := obj_en ho' hxv
    refine tlw_of rfl fun K2 hK2 => oper_any (J := fun r w' => ∃ c : Array Value, r = .agg c ∧ c.size = 5 ∧ VA (W'.heap.size ≤ ·) w' arT c.toList ∧ Below W'.heap.size W' w') 27 #[.tmp 16] _ rfl #[.slice va' 3 vc'] (by simp only [List.map_toArray, List.map_cons, List.map_nil, Act.eval]; rfl) (fun w => by kernel_rfl) (hob.mono fun e w' h => by obtain ⟨c, rfl, h5, hb, hx⟩ := h; exact ⟨_, rfl, c, rfl, h5, hx, hb⟩) ?_
    rintro r we ⟨c, rfl, h5, hxe, be⟩
    obtain ⟨z0, z1, z2, z3, z4, hce⟩ := five_l (l := c.toList) (by simpa using h5)
    obtain rfl : c = #[z0, z1, z2, z3, z4] := by cases c; simp at hce; simp [hce]
    refine hK2 _ _ ?_
    simp only [Act.put, List.setIfInBounds_toArray, List.set_cons_succ, List.set_cons_zero]
    have h1e := hxe.one
    have B3 : Below w3.heap.size w3 we := (((hwa.trans (bc.mono hwa.size)).trans (bd.mono (Nat.le_trans hwa.size bc.size))).trans hW').trans (be.mono (Nat.le_trans (Nat.le_trans hwa.size (Nat.le_trans bc.size bd.size)) hW'.size))
    have h2e := (B3.block _ hq2.out).trans h2.out
    refine tlw_of rfl fun K3 hK3 => wp_store_row 55 (.tmp 2) (.tmp 17) rfl (w.heap.size + 1) #[z0, z1, z2, z3, z4] rfl rfl 55 _ h2e (by kernel_rfl) rfl (by simpa using h1e) (hK3 _ _ ?_)
    simp only [Act.put]
    refine tlw_val (w' := we.setRow (w.heap.size + 1) #[z0, z1, z2, z3, z4]) (v := .nilIface) rfl rfl ?_
    simp only [Act.put, List.setIfInBounds_toArray, List.set_cons_succ, List.set_cons_zero]
    refine tlwE_end ?_
    have hz := hide1 (setRow_heap we (w.heap.size + 1) _ #[z0, z1, z2, z3, z4] _ _ h2e)
    have hq3 := hq2.out
    have hz9 := Nat.le_trans (Nat.le_trans hwa.size (Nat.le_trans bc.size bd.size)) hW'.size
    have hfin : Hid (Below w.heap.size w (we.setRow (w.heap.size + 1) #[z0, z1, z2, z3, z4]) ∧ VA (w.heap.size ≤ ·) (we.setRow (w.heap.size + 1) #[z0, z1, z2, z3, z4]) arT [z0, z1, z2, z3, z4]) := hide1 ⟨blw_own (bw.out.trans (B3.mono bw.out.size)) (by omega) _, VA.frame (c := [z0, z1, z2, z3, z4]) hxe (fun k hk _ => setRow_other _ _ _ _ (by have h9 : W'.heap.size ≤ k := hk; omega)) (fun k hk _ => by have h9 : W'.heap.size ≤ k := hk; show w.heap.size ≤ k; omega)⟩
    clear B3 h2e hxe hob hxv hr hg' ho' hW' be bc bd how hxc hwa hnd hlt
    go_wp2
    exact bodyPost_ret (results_g2 rfl _ rfl (lv_V rfl hz.out)) rfl ⟨_, rfl, rfl, hfin.out.1, hfin.out.2⟩
section
variable {ops : Array Oper} {rest : List Oper} {oo : Oper} {a : Act} {Q : Exit → Act → World → Prop} {w w' : World}
theorem wpList_bldE (hgd : oo.guard = none) (t : TypeId) (parts : Array (Nat × Operand)) (_ : oo.op = .build t parts) {x : Value} (h : (execOp a.eval oo).run Tryz.prog w = .ok (.value x) w') (hk : wpList Tryz.prog ops Q rest (a.put oo.dst x) w') : wpList Tryz.prog ops Q (oo :: rest) a w := by
  refine wpList_plain hgd fun K hK => ?_
  unfold Oper.wp
  rw [h]
  exact hK _ _ hk
theorem wpList_bslE (hgd : oo.guard = none) (t : TypeId) (n : Nat) (parts : Array (Nat × Operand)) (_ : oo.op = .buildSlice t n parts) {x : Value} (h : (execOp a.eval oo).run Tryz.prog w = .ok (.value x) w') (hk : wpList Tryz.prog ops Q rest (a.put oo.dst x) w') : wpList Tryz.prog ops Q (oo :: rest) a w := by
  refine wpList_plain hgd fun K hK => ?_
  unfold Oper.wp
  rw [h]
  exact hK _ _ hk
end
set_option maxHeartbeats 1000000 in
set_option maxRecDepth 100000 in
theorem one_e (w : World) : Calls Tryz.prog 12 #[] w fun e w' => ∃ g, e = .returned (.agg (entA 1 0 [] (.slice (some ⟨g, 0, none⟩) 1 1))) ∧ Sg1 w' g alc ∧ w.heap.size ≤ g ∧ Below w.heap.size w w' := by
  have ha := heap_na w Tryz.zeroCells45 45
  have b1 := below_na (w := w) (.cells Tryz.zeroCells45 45)
  obtain ⟨w1, hw1⟩ : ∃ w1, w1 = w.alloc (.cells Tryz.zeroCells45 45) := ⟨_, rfl⟩
  rw [← hw1] at ha b1
  have hq := (Array.getElem?_eq_some_iff.1 ha).1
  obtain ⟨w2, hw2⟩ : ∃ w2, w2 = w1.alloc (.cells (sgC alc).toArray 32) := ⟨_, rfl⟩
  have b2 : Below w.heap.size w w2 := by rw [hw2]; exact b1.alloc (by omega) _
  have hs2 : Sg1 w2 w1.heap.size alc := .of (by rw [hw2]; exact heap_na _ _ _)
  have ha2 : w2.heap[w.heap.size]? = some (.cells Tryz.zeroCells45 45 (0, 0)) := by rw [hw2]; exact (al_old hq).trans ha
  have hone : (entA 1 0 [] (.slice (some ⟨w1.heap.size, 0, none⟩) 1 1)).all (·.oneCell') = true := by kernel_rfl
  have hz := hide1 (setRow_heap w2 w.heap.size _ (entA 1 0 [] (.slice (some ⟨w1.heap.size, 0, none⟩) 1 1)) _ _ ha2)
  have hfin : Hid (Sg1 (w2.setRow w.heap.size (entA 1 0 [] (.slice (some ⟨w1.heap.size, 0, none⟩) 1 1))) w1.heap.size alc ∧ Below w.heap.size w (w2.setRow w.heap.size (entA 1 0 [] (.slice (some ⟨w1.heap.size, 0, none⟩) 1 1)))) := hide1 ⟨hs2.keep (setRow_other _ _ _ _ (by omega)), blw_own b2 (Nat.le_refl _) _⟩
  clear b2 hs2 b1 ha
  go_enter Tryz.func12, Tryz.ntmps12
  go_upto_region 1 with fail
  rw [← hw1]
  go_wp2_with (first
    | (refine wpList_bldE rfl 32 _ rfl (x := .agg (sgC alc).toArray) (w' := w1) (by kernel_rfl) ?_)
    | (refine wpList_bslE rfl 43 1 _ rfl (x := .slice (some ⟨w1.heap.size, 0, none⟩) 1 1) (w' := w1.alloc (.cells (sgC alc).toArray 32)) (by kernel_rfl) ?_; rw [← hw2])
    | (refine wpList_bldE rfl 45 _ rfl (x := .agg (entA 1 0 [] (.slice (some ⟨w1.heap.size, 0, none⟩) 1 1))) (w' := w2) (by kernel_rfl) ?_)
    | (refine wpList_store_row rfl 45 (.tmp 0) (.tmp 3) rfl w.heap.size (entA 1 0 [] (.slice (some ⟨w1.heap.size, 0, none⟩) 1 1)) rfl rfl 45 _ ha2 (by kernel_rfl) (by kernel_rfl) hone ?_)
    | fail)
  exact bodyPost_ret (results_g rfl _ rfl (lv_E rfl hz.out)) rfl ⟨w1.heap.size, rfl, hfin.out.1, Nat.le_of_lt hq, hfin.out.2⟩
set_option maxHeartbeats 1000000 in
set_option maxRecDepth 100000 in
theorem put_1 {g cg : Nat} {w : World} (h : Sg1 w g alc) (hT : Ev w) (h8 : 8 ≤ w.heap.size) : Calls Tryz.prog 11 #[.agg (entA 1 0 [] (.slice (some ⟨g, 0, none⟩) 1 cg))] w fun e w' => ∃ v, e = .returned (.tuple #[v, .nilIface]) ∧ Below w.heap.size w w' ∧ BsA w' v (ct arT) := by
  obtain ⟨E, hE⟩ : ∃ E, E = entA 1 0 [] (.slice (some ⟨g, 0, none⟩) 1 cg) := ⟨_, rfl⟩
  obtain ⟨wb, hwb⟩ : ∃ wb, wb = w.alloc (.cells E 45) := ⟨_, rfl⟩
  have hks : E.size = 70 := by rw [hE]; rfl
  have bb : Below w.heap.size w wb := by rw [hwb]; exact below_na _
  have hb1 : wb.heap[w.heap.size]? = some (.cells E 45 (0, 0)) := by rw [hwb]; exact heap_na _ _ _
  have hva := val_e (cg := cg) (h.below bb)
  have hTb := hT.below bb (by omega)
  rw [← hE] at hva ⊢
  have hle := hide1 (rng_of 0 E.toList hb1 (by rw [List.drop_zero, List.take_length]))
  have hls : (Tryz.prog.info? 45).map (·.size) = some E.toList.length := by rw [Array.length_toList, hks]; kernel_rfl
  replace bb := hide1 bb
  replace hTb := hide1 hTb
  clear h hE hb1 hks hT
  go_enter Tryz.func11, Tryz.ntmps11
  go_upto_region 1 with fail
  rw [← hwb]
  clear hwb
  go_wp2_with (first | (refine load_w rfl 45 (.tmp 1) rfl w.heap.size 0 rfl E.toList _ hle.out Tryz.underlying45 rfl hls ?_; rw [show E.toList.toArray = E by simp]) | fail)
  refine hva.mono ?_
  rintro e w1 ⟨c, rfl, h5, b1, hv⟩
  have h1c := hv.one
  obtain ⟨y0, y1, y2, y3, y4, hce⟩ := five_l (l := c.toList) (by simpa using h5)
  obtain rfl : c = #[y0, y1, y2, y3, y4] := by cases c; simp at hce; simp [hce]
  have ha := heap_na w1 #[.int .i64 0, .int .i64 0, .string ⟨#[]⟩, .slice none 0 0, .slice none 0 0] 55
  have hz1 := setRow_heap _ _ _ #[y0, y1, y2, y3, y4] _ _ ha
  obtain ⟨w2, hw2⟩ : ∃ w2, w2 = (w1.alloc (.cells #[.int .i64 0, .int .i64 0, .string ⟨#[]⟩, .slice none 0 0, .slice none 0 0] 55)).setRow w1.heap.size #[y0, y1, y2, y3, y4] := ⟨_, rfl⟩
  have b2 : Below w1.heap.size w1 w2 := by rw [hw2]; exact blw_own (below_na _) (Nat.le_refl _) _
  rw [← hw2] at hz1
  have B1 := b1.trans (b2.mono b1.size)
  have hr2 := hide1 (rng_of 0 [y0, y1, y2, y3, y4] hz1 rfl)
  have z0 := bb.out.size
  have hpc := put_c hg_ar sb_ar (VA.frame (c := [y0, y1, y2, y3, y4]) (w' := w2) (G := fun _ => True) hv (fun k _ hs => b2.block k hs) (fun _ _ _ => trivial)) (hTb.out.below B1 (by omega)) (by have := B1.size; omega)
  replace hpc : Calls Tryz.prog 19 #[.agg #[y0, y1, y2, y3, y4]] w2 _ := hpc
  have bw := hide1 (bb.out.trans (B1.mono bb.out.size))
  replace h1c : (#[y0, y1, y2, y3, y4] : Array Value).all (·.oneCell') = true := by simpa using h1c
  clear hv hz1 b1 b2 B1 hva hce h5 hle hls hTb bb
  go_upto_region 2 with (first | (refine wpList_store_row rfl 55 (.tmp 4) (.tmp 9) rfl w1.heap.size #[y0, y1, y2, y3, y4] rfl rfl 55 _ ha (by kernel_rfl) rfl h1c ?_) | fail)
  rw [← hw2]
  clear hw2 ha
  go_wp2_with (first | (refine load_w rfl 55 (.tmp 4) rfl w1.heap.size 0 rfl [y0, y1, y2, y3, y4] _ hr2.out Tryz.underlying55 rfl (by kernel_rfl) ?_) | fail)
  refine hpc.mono ?_
  rintro e w3 ⟨v, ev, rfl, b3, hc⟩
  obtain ⟨rfl, how⟩ : ev = .nilIface ∧ Ow w3 w2.heap.size v (ct arT) := by
    rcases hc with ⟨h, _⟩ | ⟨_, h, _⟩ | ⟨_, _, h1, h2⟩
    · rw [gd_ar] at h; cases h
    · have := ct_ar; omega
    · exact ⟨h1, h2⟩
  have hfin := hide1 (bw.out.trans (b3.mono bw.out.size))
  have hbs := hide1 how.bs
  clear how hc b3 hpc hr2 bw
  go_wp2
  go_ret2
  exact ⟨v, rfl, hfin.out, hbs.out⟩
def ObR (w : World) (g : Nat) (vc : List Value) (n : Nat) : Prop := vc.length = 5 ∧ w.heap[g]? = some (.cells (vc ++ [Value.int .i64 (n : Nat), Value.bool false]).toArray 96 (0, 0))
set_option maxHeartbeats 2000000 in
set_option maxRecDepth 100000 in
theorem dec_int {w : World} {g n m : Nat} {vc : List Value} {k ki : Int} {s nm : List UInt8} {l : List T} {p : List (List UInt8 × T)} {x : T} {F : Nat → Prop} (ho : ObR w g vc n) (hm : m ≤ 65536) (hh : hgt (m + 1) (.mk k ki s l p)) (hv : VA F w (.mk k ki s l p) vc) (hf : getP k p nm = some x)
    {K : Nat} {cap : Array Value} (he : ∀ args w, (callFunc K args).run Tryz.prog w = .ok (.enter K args) w) {J : Value → World → Prop} (hd : ∀ w' (c : List Value), Below w.heap.size w w' → VA (w.heap.size ≤ ·) w' x c → Calls Tryz.prog K (#[.agg c.toArray] ++ cap) w' fun e w2 => ∃ y, e = .returned (.tuple #[y, .nilIface]) ∧ J y w2 ∧ Below w'.heap.size w' w2)
    (hJ : ∀ y u u', J y u → Kg g u u' → J y u') (hn : n ≤ 100 := by omega) :
    Calls Tryz.prog 54 #[.pointer (some ⟨g, 0, none⟩), .string (st nm), .func (.func K) #[] cap] w fun e w' => ∃ y, e = .returned y ∧ J y w' ∧ ObR w' g vc (n + 1) ∧ Kg g w w' := by
  obtain ⟨x0, x1, x2, x3, x4, rfl⟩ := five_l ho.1
  have hog : w.heap[g]? = some (.cells #[x0, x1, x2, x3, x4, .int .i64 (n : Nat), .bool false] 96 (0, 0)) := ho.2
  have hgl := (Array.getElem?_eq_some_iff.1 hog).1
  have hr0 := hide1 (rng_of 0 [x0, x1, x2, x3, x4] hog rfl)
  have hge := get_d (nm := nm) hh hm hv
  rw [hf] at hge
  replace hge : Calls Tryz.prog 105 #[.agg #[x0, x1, x2, x3, x4], .string (st nm)] w _ := hge
  replace hog := hide1 hog
  replace hd := hide1 hd
  replace hJ := hide1 hJ
  generalize st nm = N at *
  clear ho hv hh hf hm
  go_enter Tryz.func54, Tryz.ntmps54
  go_wp2_with (first | (refine load_w rfl 55 (.tmp 14) rfl g 0 rfl [x0, x1, x2, x3, x4] _ hr0.out Tryz.underlying55 rfl (by kernel_rfl) ?_) | fail)
  refine hge.mono ?_
  rintro e w1 ⟨c, rfl, h5, h1c, b1, ⟨t, ht, hxv⟩ | ⟨h, _⟩⟩
  case inr => cases h
  obtain rfl := Option.some.inj ht
  obtain ⟨y0, y1, y2, y3, y4, hce⟩ := five_l (l := c.toList) (by simpa using h5)
  obtain rfl : c = #[y0, y1, y2, y3, y4] := by cases c; simp at hce; simp [hce]
  have ha := heap_na w1 #[.int .i64 0, .int .i64 0, .string ⟨#[]⟩, .slice none 0 0, .slice none 0 0] 55
  have hz1 := setRow_heap _ _ _ #[y0, y1, y2, y3, y4] _ _ ha
  obtain ⟨w2, hw2⟩ : ∃ w2, w2 = (w1.alloc (.cells #[.int .i64 0, .int .i64 0, .string ⟨#[]⟩, .slice none 0 0, .slice none 0 0] 55)).setRow w1.heap.size #[y0, y1, y2, y3, y4] := ⟨_, rfl⟩
  have b2 : Below w1.heap.size w1 w2 := by rw [hw2]; exact blw_own (below_na _) (Nat.le_refl _) _
  rw [← hw2] at hz1
  have hr2 := hide1 (rng_of 0 [y0, y1, y2, y3, y4] hz1 rfl)
  have B2 := b1.trans (b2.mono b1.size)
  have hdc := hd.out w2 [y0, y1, y2, y3, y4] B2 (VA.frame (c := [y0, y1, y2, y3, y4]) hxv (fun k _ hs => b2.block k hs) (fun _ h _ => h))
  replace B2 := hide1 B2
  clear hxv hz1 b1 b2 hge hce h5 hd ht hr0
  go_upto_region 2 with (first | (refine wpList_store_row rfl 55 (.tmp 7) (.tmp 18) rfl w1.heap.size #[y0, y1, y2, y3, y4] rfl rfl 55 _ ha (by kernel_rfl) rfl h1c ?_) | fail)
  rw [← hw2]
  clear hw2 ha
  go_wp2_with (first | (refine load_w rfl 55 (.tmp 7) rfl w1.heap.size 0 rfl [y0, y1, y2, y3, y4] _ hr2.out Tryz.underlying55 rfl (by kernel_rfl) ?_) | fail)
  refine hdc.mono ?_
  rintro e w3 ⟨y, rfl, hJ3, b3⟩
  have B3 := B2.out.trans (b3.mono B2.out.size)
  have hog3 := (B3.block g hgl).trans hog.out
  have c5 : w3.cell? ⟨g, 5, none⟩ = some (.int .i64 (n : Nat)) := cell_of 5 hog3 rfl
  have c6 : w3.cell? ⟨g, 6, none⟩ = some (.bool false) := cell_of 6 hog3 rfl
  have f5 : w3.frozen? ⟨g, 5, none⟩ = false := by simp [World.frozen?, hog3]
  have f6 : w3.frozen? ⟨g, 6, none⟩ = false := by simp [World.frozen?, hog3]
  have hst : (w3.setCell ⟨g, 5, none⟩ (.int .i64 ((n : Int) + 1))).setCell ⟨g, 6, none⟩ (.bool false) = w3.setRow g #[x0, x1, x2, x3, x4, .int .i64 ((n : Int) + 1), .bool false] := by
    rw [setCell_eq_setRow w3 g 5 _ _ (0, 0) _ hog3, setCell_eq_setRow _ g 6 _ _ (0, 0) _ (setRow_heap _ _ _ _ _ _ hog3), setRow_setRow]; rfl
  have hkg : Kg g w3 (w3.setRow g #[x0, x1, x2, x3, x4, .int .i64 ((n : Int) + 1), .bool false]) := ⟨rfl, rfl, rfl, by simp [World.setRow], fun k _ hk => setRow_other _ _ _ _ hk⟩
  have hfin : Hid (J y (w3.setRow g #[x0, x1, x2, x3, x4, .int .i64 ((n : Int) + 1), .bool false]) ∧ ObR (w3.setRow g #[x0, x1, x2, x3, x4, .int .i64 ((n : Int) + 1), .bool false]) g [x0, x1, x2, x3, x4] (n + 1) ∧ Kg g w (w3.setRow g #[x0, x1, x2, x3, x4, .int .i64 ((n : Int) + 1), .bool false])) := hide1 ⟨hJ.out _ _ _ hJ3 hkg, ⟨rfl, setRow_heap _ _ _ _ _ _ hog3⟩, ⟨B3.os, B3.tape, B3.output, by have := B3.size; simpa [World.setRow] using this, fun k hk hne => (setRow_other _ _ _ _ hne).trans (B3.block k hk)⟩⟩
  clear hJ3 hJ hkg B3 b3 B2 hog hog3 hdc hr2 he
  go_wp2
  go_ret
  exact ⟨y, rfl, hfin.out.1, hfin.out.2.1, hfin.out.2.2⟩
set_option maxHeartbeats 2000000 in
set_option maxRecDepth 100000 in
theorem dec_sgs {w : World} {g n m : Nat} {vc : List Value} {k ki : Int} {s nm : List UInt8} {l : List T} {p : List (List UInt8 × T)} {x : T} {F : Nat → Prop} (ho : ObR w g vc n) (hm : m ≤ 65536) (hh : hgt (m + 1) (.mk k ki s l p)) (hv : VA F w (.mk k ki s l p) vc) (hf : getP k p nm = some x)
    {K : Nat} {cap : Array Value} (he : ∀ args w, (callFunc K args).run Tryz.prog w = .ok (.enter K args) w) {J : Value → World → Prop} (hd : ∀ w' (c : List Value), Below w.heap.size w w' → VA (w.heap.size ≤ ·) w' x c → Calls Tryz.prog K (#[.agg c.toArray] ++ cap) w' fun e w2 => ∃ y, e = .returned (.tuple #[y, .nilIface]) ∧ J y w2 ∧ Below w'.heap.size w' w2)
    (hJ : ∀ y u u', J y u → Kg g u u' → J y u') (hn : n ≤ 100 := by omega) :
    Calls Tryz.prog 57 #[.pointer (some ⟨g, 0, none⟩), .string (st nm), .func (.func K) #[] cap] w fun e w' => ∃ y, e = .returned y ∧ J y w' ∧ ObR w' g vc (n + 1) ∧ Kg g w w' := by
  obtain ⟨x0, x1, x2, x3, x4, rfl⟩ := five_l ho.1
  have hog : w.heap[g]? = some (.cells #[x0, x1, x2, x3, x4, .int .i64 (n : Nat), .bool false] 96 (0, 0)) := ho.2
  have hgl := (Array.getElem?_eq_some_iff.1 hog).1
  have hr0 := hide1 (rng_of 0 [x0, x1, x2, x3, x4] hog rfl)
  have hge := get_d (nm := nm) hh hm hv
  rw [hf] at hge
  replace hge : Calls Tryz.prog 105 #[.agg #[x0, x1, x2, x3, x4], .string (st nm)] w _ := hge
  replace hog := hide1 hog
  replace hd := hide1 hd
  replace hJ := hide1 hJ
  generalize st nm = N at *
  clear ho hv hh hf hm
  go_enter Tryz.func57, Tryz.ntmps57
  go_wp2_with (first | (refine load_w rfl 55 (.tmp 14) rfl g 0 rfl [x0, x1, x2, x3, x4] _ hr0.out Tryz.underlying55 rfl (by kernel_rfl) ?_) | fail)
  refine hge.mono ?_
  rintro e w1 ⟨c, rfl, h5, h1c, b1, ⟨t, ht, hxv⟩ | ⟨h, _⟩⟩
  case inr => cases h
  obtain rfl := Option.some.inj ht
  obtain ⟨y0, y1, y2, y3, y4, hce⟩ := five_l (l := c.toList) (by simpa using h5)
  obtain rfl : c = #[y0, y1, y2, y3, y4] := by cases c; simp at hce; simp [hce]
  have ha := heap_na w1 #[.int .i64 0, .int .i64 0, .string ⟨#[]⟩, .slice none 0 0, .slice none 0 0] 55
  have hz1 := setRow_heap _ _ _ #[y0, y1, y2, y3, y4] _ _ ha
  obtain ⟨w2, hw2⟩ : ∃ w2, w2 = (w1.alloc (.cells #[.int .i64 0, .int .i64 0, .string ⟨#[]⟩, .slice none 0 0, .slice none 0 0] 55)).setRow w1.heap.size #[y0, y1, y2, y3, y4] := ⟨_, rfl⟩
  have b2 : Below w1.heap.size w1 w2 := by rw [hw2]; exact blw_own (below_na _) (Nat.le_refl _) _
  rw [← hw2] at hz1
  have hr2 := hide1 (rng_of 0 [y0, y1, y2, y3, y4] hz1 rfl)
  have B2 := b1.trans (b2.mono b1.size)
  have hdc := hd.out w2 [y0, y1, y2, y3, y4] B2 (VA.frame (c := [y0, y1, y2, y3, y4]) hxv (fun k _ hs => b2.block k hs) (fun _ h _ => h))
  replace B2 := hide1 B2
  clear hxv hz1 b1 b2 hge hce h5 hd ht hr0
  go_upto_region 2 with (first | (refine wpList_store_row rfl 55 (.tmp 7) (.tmp 18) rfl w1.heap.size #[y0, y1, y2, y3, y4] rfl rfl 55 _ ha (by kernel_rfl) rfl h1c ?_) | fail)
  rw [← hw2]
  clear hw2 ha
  go_wp2_with (first | (refine load_w rfl 55 (.tmp 7) rfl w1.heap.size 0 rfl [y0, y1, y2, y3, y4] _ hr2.out Tryz.underlying55 rfl (by kernel_rfl) ?_) | fail)
  refine hdc.mono ?_
  rintro e w3 ⟨y, rfl, hJ3, b3⟩
  have B3 := B2.out.trans (b3.mono B2.out.size)
  have hog3 := (B3.block g hgl).trans hog.out
  have c5 : w3.cell? ⟨g, 5, none⟩ = some (.int .i64 (n : Nat)) := cell_of 5 hog3 rfl
  have c6 : w3.cell? ⟨g, 6, none⟩ = some (.bool false) := cell_of 6 hog3 rfl
  have f5 : w3.frozen? ⟨g, 5, none⟩ = false := by simp [World.frozen?, hog3]
  have f6 : w3.frozen? ⟨g, 6, none⟩ = false := by simp [World.frozen?, hog3]
  have hst : (w3.setCell ⟨g, 5, none⟩ (.int .i64 ((n : Int) + 1))).setCell ⟨g, 6, none⟩ (.bool false) = w3.setRow g #[x0, x1, x2, x3, x4, .int .i64 ((n : Int) + 1), .bool false] := by
    rw [setCell_eq_setRow w3 g 5 _ _ (0, 0) _ hog3, setCell_eq_setRow _ g 6 _ _ (0, 0) _ (setRow_heap _ _ _ _ _ _ hog3), setRow_setRow]; rfl
  have hkg : Kg g w3 (w3.setRow g #[x0, x1, x2, x3, x4, .int .i64 ((n : Int) + 1), .bool false]) := ⟨rfl, rfl, rfl, by simp [World.setRow], fun k _ hk => setRow_other _ _ _ _ hk⟩
  have hfin : Hid (J y (w3.setRow g #[x0, x1, x2, x3, x4, .int .i64 ((n : Int) + 1), .bool false]) ∧ ObR (w3.setRow g #[x0, x1, x2, x3, x4, .int .i64 ((n : Int) + 1), .bool false]) g [x0, x1, x2, x3, x4] (n + 1) ∧ Kg g w (w3.setRow g #[x0, x1, x2, x3, x4, .int .i64 ((n : Int) + 1), .bool false])) := hide1 ⟨hJ.out _ _ _ hJ3 hkg, ⟨rfl, setRow_heap _ _ _ _ _ _ hog3⟩, ⟨B3.os, B3.tape, B3.output, by have := B3.size; simpa [World.setRow] using this, fun k hk hne => (setRow_other _ _ _ _ hne).trans (B3.block k hk)⟩⟩
  clear hJ3 hJ hkg B3 b3 B2 hog hog3 hdc hr2 he
  go_wp2
  go_ret
  exact ⟨y, rfl, hfin.out.1, hfin.out.2.1, hfin.out.2.2⟩
set_option maxHeartbeats 4000000 in
set_option maxRecDepth 100000 in
theorem dec_sum {w : World} {g n m : Nat} {vc : List Value} {k ki : Int} {s nm : List UInt8} {l : List T} {p : List (List UInt8 × T)} {x : T} {F : Nat → Prop} (ho : ObR w g vc n) (hm : m ≤ 65536) (hh : hgt (m + 1) (.mk k ki s l p)) (hv : VA F w (.mk k ki s l p) vc) (hf : getP k p nm = some x)
    {K : Nat} {cap : Array Value} (he : ∀ args w, (callFunc K args).run Tryz.prog w = .ok (.enter K args) w) {J : Array Value → Prop} (hd : ∀ w' (c : List Value), Below w.heap.size w w' → VA (w.heap.size ≤ ·) w' x c → Calls Tryz.prog K (#[.agg c.toArray] ++ cap) w' fun e w2 => ∃ C : Array Value, e = .returned (.tuple #[.agg C, .nilIface]) ∧ C.size = 32 ∧ C.all (·.oneCell') = true ∧ J C ∧ Below w'.heap.size w' w2)
    (hn : n ≤ 100 := by omega) :
    Calls Tryz.prog 60 #[.pointer (some ⟨g, 0, none⟩), .string (st nm), .func (.func K) #[] cap] w fun e w' => ∃ C : Array Value, e = .returned (.agg C) ∧ C.size = 32 ∧ C.all (·.oneCell') = true ∧ J C ∧ ObR w' g vc (n + 1) ∧ Kg g w w' := by
  obtain ⟨x0, x1, x2, x3, x4, rfl⟩ := five_l ho.1
  have hog : w.heap[g]? = some (.cells #[x0, x1, x2, x3, x4, .int .i64 (n : Nat), .bool false] 96 (0, 0)) := ho.2
  have hgl := (Array.getElem?_eq_some_iff.1 hog).1
  have hzs : ∀ w : World, (zeroValue 42).run Tryz.prog w = .ok (.agg (bA (zL 32))) w := fun w => by kernel_rfl
  obtain ⟨Z, hZ⟩ : ∃ Z, Hid (Z = bA (zL 32)) := ⟨_, hide1 rfl⟩
  rw [← hZ.out] at hzs
  have hZs : Z.size = 32 := by rw [hZ.out]; rfl
  obtain ⟨wb, hwb⟩ : ∃ wb, wb = w.alloc (.cells Z 42) := ⟨_, rfl⟩
  have bb : Below w.heap.size w wb := by rw [hwb]; exact below_na _
  have hr6 : wb.heap[w.heap.size]? = some (.cells Z 42 (0, 0)) := by rw [hwb]; exact heap_na _ _ _
  have hq6 := (Array.getElem?_eq_some_iff.1 hr6).1
  have hogb := (bb.block g hgl).trans hog
  have hr0 := hide1 (rng_of 0 [x0, x1, x2, x3, x4] hogb rfl)
  have hge := get_d (nm := nm) hh hm (hv.frame (w' := wb) (G := fun _ => True) (fun k _ hs => bb.block k hs) (fun _ _ _ => trivial))
  rw [hf] at hge
  replace hge : Calls Tryz.prog 105 #[.agg #[x0, x1, x2, x3, x4], .string (st nm)] wb _ := hge
  have hog0 := hide1 hog
  replace hogb := hide1 hogb
  replace hd := hide1 hd
  replace hr6 := hide1 hr6
  replace bb := hide1 bb
  generalize st nm = N at *
  clear ho hv hh hf hm hog
  go_enter Tryz.func60, Tryz.ntmps60
  go_upto_region 1 with fail
  rw [← hwb]
  clear hwb
  go_wp2_with (first | (refine load_w rfl 55 (.tmp 14) rfl g 0 rfl [x0, x1, x2, x3, x4] _ hr0.out Tryz.underlying55 rfl (by kernel_rfl) ?_) | fail)
  refine hge.mono ?_
  rintro e w1 ⟨c, rfl, h5, h1c, b1, ⟨t, ht, hxv⟩ | ⟨h, _⟩⟩
  case inr => cases h
  obtain rfl := Option.some.inj ht
  obtain ⟨y0, y1, y2, y3, y4, hce⟩ := five_l (l := c.toList) (by simpa using h5)
  obtain rfl : c = #[y0, y1, y2, y3, y4] := by cases c; simp at hce; simp [hce]
  have ha := heap_na w1 #[.int .i64 0, .int .i64 0, .string ⟨#[]⟩, .slice none 0 0, .slice none 0 0] 55
  have hz1 := setRow_heap _ _ _ #[y0, y1, y2, y3, y4] _ _ ha
  obtain ⟨w2, hw2⟩ : ∃ w2, w2 = (w1.alloc (.cells #[.int .i64 0, .int .i64 0, .string ⟨#[]⟩, .slice none 0 0, .slice none 0 0] 55)).setRow w1.heap.size #[y0, y1, y2, y3, y4] := ⟨_, rfl⟩
  have b2 : Below w1.heap.size w1 w2 := by rw [hw2]; exact blw_own (below_na _) (Nat.le_refl _) _
  rw [← hw2] at hz1
  have hr2 := hide1 (rng_of 0 [y0, y1, y2, y3, y4] hz1 rfl)
  have B2b := b1.trans (b2.mono b1.size)
  have B2 := bb.out.trans (B2b.mono bb.out.size)
  have hdc := hd.out w2 [y0, y1, y2, y3, y4] B2 (VA.frame (c := [y0, y1, y2, y3, y4]) hxv (fun k _ hs => b2.block k hs) (fun k h _ => Nat.le_trans bb.out.size h))
  have hr62 := hide1 ((B2b.block _ hq6).trans hr6.out)
  have hs62 := hide1 (Nat.lt_of_lt_of_le hq6 B2b.size)
  replace B2 := hide1 B2
  clear hxv hz1 b1 b2 hge hce h5 hd ht hr0 B2b bb hr6
  go_upto_region 2 with (first | (refine wpList_store_row rfl 55 (.tmp 7) (.tmp 18) rfl w1.heap.size #[y0, y1, y2, y3, y4] rfl rfl 55 _ ha (by kernel_rfl) rfl h1c ?_) | fail)
  rw [← hw2]
  clear hw2 ha
  go_wp2_with (first | (refine load_w rfl 55 (.tmp 7) rfl w1.heap.size 0 rfl [y0, y1, y2, y3, y4] _ hr2.out Tryz.underlying55 rfl (by kernel_rfl) ?_) | fail)
  refine hdc.mono ?_
  rintro e w3 ⟨C, rfl, hCs, hC1, hJ3, b3⟩
  have ha9 := heap_na w3 Z 42
  have hz9 := setRow_heap _ _ _ C _ _ ha9
  obtain ⟨w4, hw4⟩ : ∃ w4, w4 = (w3.alloc (.cells Z 42)).setRow w3.heap.size C := ⟨_, rfl⟩
  have b4 : Below w3.heap.size w3 w4 := by rw [hw4]; exact blw_own (below_na _) (Nat.le_refl _) _
  rw [← hw4] at hz9
  have hiC : (Tryz.prog.info? 42).map (·.size) = some C.size := by rw [hCs]; kernel_rfl
  have hzC : (Z).size = C.size := by rw [hCs]; exact hZs
  have b34 := b3.trans (b4.mono b3.size)
  have B4 := B2.out.trans (b34.mono B2.out.size)
  have hog3 := (B4.block g hgl).trans (show w.heap[g]? = some (.cells #[x0, x1, x2, x3, x4, .int .i64 (n : Nat), .bool false] 96 (0, 0)) from hog0.out)
  have hr64 := (b34.block _ hs62.out).trans hr62.out
  have hg9 : w3.heap.size ≠ g := by have := B2.out.size; have := b3.size; omega
  have hg6 : w.heap.size ≠ g := by omega
  have hd9 : w.heap.size ≠ w3.heap.size := by have := hs62.out; have := b3.size; omega
  clear hdc hr2
  go_upto_region 3 with (first | (refine wpList_store_row rfl 42 (.tmp 9) (.tmp 24) rfl w3.heap.size C rfl rfl 42 _ ha9 hiC hzC hC1 ?_) | fail)
  rw [← hw4]
  clear hw4 ha9
  have c5 : w4.cell? ⟨g, 5, none⟩ = some (.int .i64 (n : Nat)) := cell_of 5 hog3 rfl
  have c6 : w4.cell? ⟨g, 6, none⟩ = some (.bool false) := cell_of 6 hog3 rfl
  have f5 : w4.frozen? ⟨g, 5, none⟩ = false := by simp [World.frozen?, hog3]
  have f6 : w4.frozen? ⟨g, 6, none⟩ = false := by simp [World.frozen?, hog3]
  have hst : (w4.setCell ⟨g, 5, none⟩ (.int .i64 ((n : Int) + 1))).setCell ⟨g, 6, none⟩ (.bool false) = w4.setRow g #[x0, x1, x2, x3, x4, .int .i64 ((n : Int) + 1), .bool false] := by
    rw [setCell_eq_setRow w4 g 5 _ _ (0, 0) _ hog3, setCell_eq_setRow _ g 6 _ _ (0, 0) _ (setRow_heap _ _ _ _ _ _ hog3), setRow_setRow]; rfl
  obtain ⟨w5, hw5⟩ : ∃ w5, w5 = w4.setRow g #[x0, x1, x2, x3, x4, .int .i64 ((n : Int) + 1), .bool false] := ⟨_, rfl⟩
  have e5 : ∀ k, k ≠ g → w5.heap[k]? = w4.heap[k]? := fun k hk => by rw [hw5]; exact setRow_other _ _ _ _ hk
  have hr9 := hide1 (rng_of 0 C.toList ((e5 _ hg9).trans hz9) (by rw [List.drop_zero, List.take_length]))
  have hr65 := (e5 _ hg6).trans hr64
  have hlC : (Tryz.prog.info? 42).map (·.size) = some C.toList.length := by rw [Array.length_toList]; exact hiC
  have hz := hide1 (setRow_heap w5 w.heap.size _ C _ _ hr65)
  have ho5 : w5.heap[g]? = some (.cells #[x0, x1, x2, x3, x4, .int .i64 ((n : Int) + 1), .bool false] 96 (0, 0)) := by rw [hw5]; exact setRow_heap _ _ _ _ _ _ hog3
  have hfin : Hid (ObR (w5.setRow w.heap.size C) g [x0, x1, x2, x3, x4] (n + 1) ∧ Kg g w (w5.setRow w.heap.size C)) := hide1 ⟨⟨rfl, (setRow_other _ _ _ _ (Ne.symm hg6)).trans ho5⟩, ⟨by rw [hw5]; exact B4.os, by rw [hw5]; exact B4.tape, by rw [hw5]; exact B4.output, by rw [hw5]; have := B4.size; simpa [World.setRow] using this, fun k hk hne => (setRow_other _ _ _ _ (by omega)).trans ((e5 k hne).trans (B4.block k hk))⟩⟩
  clear B4 b34 b3 b4 B2 hog3 hr64 hz9 hr62 ho5 he
  go_upto_region 5 with fail
  rw [← hw5]
  go_wp2_with (first
    | (refine load_w rfl 42 (.tmp 9) rfl w3.heap.size 0 rfl C.toList _ hr9.out Tryz.underlying42 rfl hlC ?_; rw [show C.toList.toArray = C by simp])
    | (refine wpList_store_row rfl 42 (.tmp 6) (.tmp 48) rfl w.heap.size C rfl rfl 42 _ hr65 hiC hzC hC1 ?_)
    | fail)
  exact bodyPost_ret (results_g rfl _ rfl (run_loadVar_row (P := Tryz.prog) _ _ 42 42 C (0, 0) _ hz.out Tryz.underlying42 (by rfl) hiC)) rfl ⟨C, rfl, hCs, hC1, hJ3, hfin.out.1, hfin.out.2⟩
set_option maxHeartbeats 4000000 in
set_option maxRecDepth 100000 in
theorem dec_wide {w : World} {g n m : Nat} {vc : List Value} {k ki : Int} {s nm : List UInt8} {l : List T} {p : List (List UInt8 × T)} {x : T} {F : Nat → Prop} (ho : ObR w g vc n) (hm : m ≤ 65536) (hh : hgt (m + 1) (.mk k ki s l p)) (hv : VA F w (.mk k ki s l p) vc) (hf : getP k p nm = some x)
    {K : Nat} {cap : Array Value} (he : ∀ args w, (callFunc K args).run Tryz.prog w = .ok (.enter K args) w) {J : Array Value → Prop} (hd : ∀ w' (c : List Value), Below w.heap.size w w' → VA (w.heap.size ≤ ·) w' x c → Calls Tryz.prog K (#[.agg c.toArray] ++ cap) w' fun e w2 => ∃ C : Array Value, e = .returned (.tuple #[.agg C, .nilIface]) ∧ C.size = 64 ∧ C.all (·.oneCell') = true ∧ J C ∧ Below w'.heap.size w' w2)
    (hn : n ≤ 100 := by omega) :
    Calls Tryz.prog 112 #[.pointer (some ⟨g, 0, none⟩), .string (st nm), .func (.func K) #[] cap] w fun e w' => ∃ C : Array Value, e = .returned (.agg C) ∧ C.size = 64 ∧ C.all (·.oneCell') = true ∧ J C ∧ ObR w' g vc (n + 1) ∧ Kg g w w' := by
  obtain ⟨x0, x1, x2, x3, x4, rfl⟩ := five_l ho.1
  have hog : w.heap[g]? = some (.cells #[x0, x1, x2, x3, x4, .int .i64 (n : Nat), .bool false] 96 (0, 0)) := ho.2
  have hgl := (Array.getElem?_eq_some_iff.1 hog).1
  have hzs : ∀ w : World, (zeroValue 30).run Tryz.prog w = .ok (.agg (bA (zL 64))) w := fun w => by kernel_rfl
  obtain ⟨Z, hZ⟩ : ∃ Z, Hid (Z = bA (zL 64)) := ⟨_, hide1 rfl⟩
  rw [← hZ.out] at hzs
  have hZs : Z.size = 64 := by rw [hZ.out]; rfl
  obtain ⟨wb, hwb⟩ : ∃ wb, wb = w.alloc (.cells Z 30) := ⟨_, rfl⟩
  have bb : Below w.heap.size w wb := by rw [hwb]; exact below_na _
  have hr6 : wb.heap[w.heap.size]? = some (.cells Z 30 (0, 0)) := by rw [hwb]; exact heap_na _ _ _
  have hq6 := (Array.getElem?_eq_some_iff.1 hr6).1
  have hogb := (bb.block g hgl).trans hog
  have hr0 := hide1 (rng_of 0 [x0, x1, x2, x3, x4] hogb rfl)
  have hge := get_d (nm := nm) hh hm (hv.frame (w' := wb) (G := fun _ => True) (fun k _ hs => bb.block k hs) (fun _ _ _ => trivial))
  rw [hf] at hge
  replace hge : Calls Tryz.prog 105 #[.agg #[x0, x1, x2, x3, x4], .string (st nm)] wb _ := hge
  have hog0 := hide1 hog
  replace hogb := hide1 hogb
  replace hd := hide1 hd
  replace hr6 := hide1 hr6
  replace bb := hide1 bb
  generalize st nm = N at *
  clear ho hv hh hf hm hog
  go_enter Tryz.func112, Tryz.ntmps112
  go_upto_region 1 with fail
  rw [← hwb]
  clear hwb
  go_wp2_with (first | (refine load_w rfl 55 (.tmp 14) rfl g 0 rfl [x0, x1, x2, x3, x4] _ hr0.out Tryz.underlying55 rfl (by kernel_rfl) ?_) | fail)
  refine hge.mono ?_
  rintro e w1 ⟨c, rfl, h5, h1c, b1, ⟨t, ht, hxv⟩ | ⟨h, _⟩⟩
  case inr => cases h
  obtain rfl := Option.some.inj ht
  obtain ⟨y0, y1, y2, y3, y4, hce⟩ := five_l (l := c.toList) (by simpa using h5)
  obtain rfl : c = #[y0, y1, y2, y3, y4] := by cases c; simp at hce; simp [hce]
  have ha := heap_na w1 #[.int .i64 0, .int .i64 0, .string ⟨#[]⟩, .slice none 0 0, .slice none 0 0] 55
  have hz1 := setRow_heap _ _ _ #[y0, y1, y2, y3, y4] _ _ ha
  obtain ⟨w2, hw2⟩ : ∃ w2, w2 = (w1.alloc (.cells #[.int .i64 0, .int .i64 0, .string ⟨#[]⟩, .slice none 0 0, .slice none 0 0] 55)).setRow w1.heap.size #[y0, y1, y2, y3, y4] := ⟨_, rfl⟩
  have b2 : Below w1.heap.size w1 w2 := by rw [hw2]; exact blw_own (below_na _) (Nat.le_refl _) _
  rw [← hw2] at hz1
  have hr2 := hide1 (rng_of 0 [y0, y1, y2, y3, y4] hz1 rfl)
  have B2b := b1.trans (b2.mono b1.size)
  have B2 := bb.out.trans (B2b.mono bb.out.size)
  have hdc := hd.out w2 [y0, y1, y2, y3, y4] B2 (VA.frame (c := [y0, y1, y2, y3, y4]) hxv (fun k _ hs => b2.block k hs) (fun k h _ => Nat.le_trans bb.out.size h))
  have hr62 := hide1 ((B2b.block _ hq6).trans hr6.out)
  have hs62 := hide1 (Nat.lt_of_lt_of_le hq6 B2b.size)
  replace B2 := hide1 B2
  clear hxv hz1 b1 b2 hge hce h5 hd ht hr0 B2b bb hr6
  go_upto_region 2 with (first | (refine wpList_store_row rfl 55 (.tmp 7) (.tmp 18) rfl w1.heap.size #[y0, y1, y2, y3, y4] rfl rfl 55 _ ha (by kernel_rfl) rfl h1c ?_) | fail)
  rw [← hw2]
  clear hw2 ha
  go_wp2_with (first | (refine load_w rfl 55 (.tmp 7) rfl w1.heap.size 0 rfl [y0, y1, y2, y3, y4] _ hr2.out Tryz.underlying55 rfl (by kernel_rfl) ?_) | fail)
  refine hdc.mono ?_
  rintro e w3 ⟨C, rfl, hCs, hC1, hJ3, b3⟩
  have ha9 := heap_na w3 Z 30
  have hz9 := setRow_heap _ _ _ C _ _ ha9
  obtain ⟨w4, hw4⟩ : ∃ w4, w4 = (w3.alloc (.cells Z 30)).setRow w3.heap.size C := ⟨_, rfl⟩
  have b4 : Below w3.heap.size w3 w4 := by rw [hw4]; exact blw_own (below_na _) (Nat.le_refl _) _
  rw [← hw4] at hz9
  have hiC : (Tryz.prog.info? 30).map (·.size) = some C.size := by rw [hCs]; kernel_rfl
  have hzC : (Z).size = C.size := by rw [hCs]; exact hZs
  have b34 := b3.trans (b4.mono b3.size)
  have B4 := B2.out.trans (b34.mono B2.out.size)
  have hog3 := (B4.block g hgl).trans (show w.heap[g]? = some (.cells #[x0, x1, x2, x3, x4, .int .i64 (n : Nat), .bool false] 96 (0, 0)) from hog0.out)
  have hr64 := (b34.block _ hs62.out).trans hr62.out
  have hg9 : w3.heap.size ≠ g := by have := B2.out.size; have := b3.size; omega
  have hg6 : w.heap.size ≠ g := by omega
  have hd9 : w.heap.size ≠ w3.heap.size := by have := hs62.out; have := b3.size; omega
  clear hdc hr2
  go_upto_region 3 with (first | (refine wpList_store_row rfl 30 (.tmp 9) (.tmp 24) rfl w3.heap.size C rfl rfl 30 _ ha9 hiC hzC hC1 ?_) | fail)
  rw [← hw4]
  clear hw4 ha9
  have c5 : w4.cell? ⟨g, 5, none⟩ = some (.int .i64 (n : Nat)) := cell_of 5 hog3 rfl
  have c6 : w4.cell? ⟨g, 6, none⟩ = some (.bool false) := cell_of 6 hog3 rfl
  have f5 : w4.frozen? ⟨g, 5, none⟩ = false := by simp [World.frozen?, hog3]
  have f6 : w4.frozen? ⟨g, 6, none⟩ = false := by simp [World.frozen?, hog3]
  have hst : (w4.setCell ⟨g, 5, none⟩ (.int .i64 ((n : Int) + 1))).setCell ⟨g, 6, none⟩ (.bool false) = w4.setRow g #[x0, x1, x2, x3, x4, .int .i64 ((n : Int) + 1), .bool false] := by
    rw [setCell_eq_setRow w4 g 5 _ _ (0, 0) _ hog3, setCell_eq_setRow _ g 6 _ _ (0, 0) _ (setRow_heap _ _ _ _ _ _ hog3), setRow_setRow]; rfl
  obtain ⟨w5, hw5⟩ : ∃ w5, w5 = w4.setRow g #[x0, x1, x2, x3, x4, .int .i64 ((n : Int) + 1), .bool false] := ⟨_, rfl⟩
  have e5 : ∀ k, k ≠ g → w5.heap[k]? = w4.heap[k]? := fun k hk => by rw [hw5]; exact setRow_other _ _ _ _ hk
  have hr9 := hide1 (rng_of 0 C.toList ((e5 _ hg9).trans hz9) (by rw [List.drop_zero, List.take_length]))
  have hr65 := (e5 _ hg6).trans hr64
  have hlC : (Tryz.prog.info? 30).map (·.size) = some C.toList.length := by rw [Array.length_toList]; exact hiC
  have hz := hide1 (setRow_heap w5 w.heap.size _ C _ _ hr65)
  have ho5 : w5.heap[g]? = some (.cells #[x0, x1, x2, x3, x4, .int .i64 ((n : Int) + 1), .bool false] 96 (0, 0)) := by rw [hw5]; exact setRow_heap _ _ _ _ _ _ hog3
  have hfin : Hid (ObR (w5.setRow w.heap.size C) g [x0, x1, x2, x3, x4] (n + 1) ∧ Kg g w (w5.setRow w.heap.size C)) := hide1 ⟨⟨rfl, (setRow_other _ _ _ _ (Ne.symm hg6)).trans ho5⟩, ⟨by rw [hw5]; exact B4.os, by rw [hw5]; exact B4.tape, by rw [hw5]; exact B4.output, by rw [hw5]; have := B4.size; simpa [World.setRow] using this, fun k hk hne => (setRow_other _ _ _ _ (by omega)).trans ((e5 k hne).trans (B4.block k hk))⟩⟩
  clear B4 b34 b3 b4 B2 hog3 hr64 hz9 hr62 ho5 he
  go_upto_region 5 with fail
  rw [← hw5]
  go_wp2_with (first
    | (refine load_w rfl 30 (.tmp 9) rfl w3.heap.size 0 rfl C.toList _ hr9.out Tryz.underlying30 rfl hlC ?_; rw [show C.toList.toArray = C by simp])
    | (refine wpList_store_row rfl 30 (.tmp 6) (.tmp 48) rfl w.heap.size C rfl rfl 30 _ hr65 hiC hzC hC1 ?_)
    | fail)
  exact bodyPost_ret (results_g rfl _ rfl (run_loadVar_row (P := Tryz.prog) _ _ 30 30 C (0, 0) _ hz.out Tryz.underlying30 (by rfl) hiC)) rfl ⟨C, rfl, hCs, hC1, hJ3, hfin.out.1, hfin.out.2⟩
set_option maxHeartbeats 4000000 in
set_option maxRecDepth 100000 in
theorem dec_sig {w : World} {g n m : Nat} {vc : List Value} {k ki : Int} {s nm : List UInt8} {l : List T} {p : List (List UInt8 × T)} {x : T} {F : Nat → Prop} (ho : ObR w g vc n) (hm : m ≤ 65536) (hh : hgt (m + 1) (.mk k ki s l p)) (hv : VA F w (.mk k ki s l p) vc) (hf : getP k p nm = some x)
    {K : Nat} {cap : Array Value} (he : ∀ args w, (callFunc K args).run Tryz.prog w = .ok (.enter K args) w) {J : Array Value → Prop} (hd : ∀ w' (c : List Value), Below w.heap.size w w' → VA (w.heap.size ≤ ·) w' x c → Calls Tryz.prog K (#[.agg c.toArray] ++ cap) w' fun e w2 => ∃ C : Array Value, e = .returned (.tuple #[.agg C, .nilIface]) ∧ C.size = 97 ∧ C.all (·.oneCell') = true ∧ J C ∧ Below w'.heap.size w' w2)
    (hn : n ≤ 100 := by omega) :
    Calls Tryz.prog 109 #[.pointer (some ⟨g, 0, none⟩), .string (st nm), .func (.func K) #[] cap] w fun e w' => ∃ C : Array Value, e = .returned (.agg C) ∧ C.size = 97 ∧ C.all (·.oneCell') = true ∧ J C ∧ ObR w' g vc (n + 1) ∧ Kg g w w' := by
  obtain ⟨x0, x1, x2, x3, x4, rfl⟩ := five_l ho.1
  have hog : w.heap[g]? = some (.cells #[x0, x1, x2, x3, x4, .int .i64 (n : Nat), .bool false] 96 (0, 0)) := ho.2
  have hgl := (Array.getElem?_eq_some_iff.1 hog).1
  obtain ⟨wb, hwb⟩ : ∃ wb, wb = w.alloc (.cells Tryz.zeroCells32 32) := ⟨_, rfl⟩
  have bb : Below w.heap.size w wb := by rw [hwb]; exact below_na _
  have hr6 : wb.heap[w.heap.size]? = some (.cells Tryz.zeroCells32 32 (0, 0)) := by rw [hwb]; exact heap_na _ _ _
  have hq6 := (Array.getElem?_eq_some_iff.1 hr6).1
  have hogb := (bb.block g hgl).trans hog
  have hr0 := hide1 (rng_of 0 [x0, x1, x2, x3, x4] hogb rfl)
  have hge := get_d (nm := nm) hh hm (hv.frame (w' := wb) (G := fun _ => True) (fun k _ hs => bb.block k hs) (fun _ _ _ => trivial))
  rw [hf] at hge
  replace hge : Calls Tryz.prog 105 #[.agg #[x0, x1, x2, x3, x4], .string (st nm)] wb _ := hge
  have hog0 := hide1 hog
  replace hogb := hide1 hogb
  replace hd := hide1 hd
  replace hr6 := hide1 hr6
  replace bb := hide1 bb
  generalize st nm = N at *
  clear ho hv hh hf hm hog
  go_enter Tryz.func109, Tryz.ntmps109
  go_upto_region 1 with fail
  rw [← hwb]
  clear hwb
  go_wp2_with (first | (refine load_w rfl 55 (.tmp 14) rfl g 0 rfl [x0, x1, x2, x3, x4] _ hr0.out Tryz.underlying55 rfl (by kernel_rfl) ?_) | fail)
  refine hge.mono ?_
  rintro e w1 ⟨c, rfl, h5, h1c, b1, ⟨t, ht, hxv⟩ | ⟨h, _⟩⟩
  case inr => cases h
  obtain rfl := Option.some.inj ht
  obtain ⟨y0, y1, y2, y3, y4, hce⟩ := five_l (l := c.toList) (by simpa using h5)
  obtain rfl : c = #[y0, y1, y2, y3, y4] := by cases c; simp at hce; simp [hce]
  have ha := heap_na w1 #[.int .i64 0, .int .i64 0, .string ⟨#[]⟩, .slice none 0 0, .slice none 0 0] 55
  have hz1 := setRow_heap _ _ _ #[y0, y1, y2, y3, y4] _ _ ha
  obtain ⟨w2, hw2⟩ : ∃ w2, w2 = (w1.alloc (.cells #[.int .i64 0, .int .i64 0, .string ⟨#[]⟩, .slice none 0 0, .slice none 0 0] 55)).setRow w1.heap.size #[y0, y1, y2, y3, y4] := ⟨_, rfl⟩
  have b2 : Below w1.heap.size w1 w2 := by rw [hw2]; exact blw_own (below_na _) (Nat.le_refl _) _
  rw [← hw2] at hz1
  have hr2 := hide1 (rng_of 0 [y0, y1, y2, y3, y4] hz1 rfl)
  have B2b := b1.trans (b2.mono b1.size)
  have B2 := bb.out.trans (B2b.mono bb.out.size)
  have hdc := hd.out w2 [y0, y1, y2, y3, y4] B2 (VA.frame (c := [y0, y1, y2, y3, y4]) hxv (fun k _ hs => b2.block k hs) (fun k h _ => Nat.le_trans bb.out.size h))
  have hr62 := hide1 ((B2b.block _ hq6).trans hr6.out)
  have hs62 := hide1 (Nat.lt_of_lt_of_le hq6 B2b.size)
  replace B2 := hide1 B2
  clear hxv hz1 b1 b2 hge hce h5 hd ht hr0 B2b bb hr6
  go_upto_region 2 with (first | (refine wpList_store_row rfl 55 (.tmp 7) (.tmp 18) rfl w1.heap.size #[y0, y1, y2, y3, y4] rfl rfl 55 _ ha (by kernel_rfl) rfl h1c ?_) | fail)
  rw [← hw2]
  clear hw2 ha
  go_wp2_with (first | (refine load_w rfl 55 (.tmp 7) rfl w1.heap.size 0 rfl [y0, y1, y2, y3, y4] _ hr2.out Tryz.underlying55 rfl (by kernel_rfl) ?_) | fail)
  refine hdc.mono ?_
  rintro e w3 ⟨C, rfl, hCs, hC1, hJ3, b3⟩
  have ha9 := heap_na w3 Tryz.zeroCells32 32
  have hz9 := setRow_heap _ _ _ C _ _ ha9
  obtain ⟨w4, hw4⟩ : ∃ w4, w4 = (w3.alloc (.cells Tryz.zeroCells32 32)).setRow w3.heap.size C := ⟨_, rfl⟩
  have b4 : Below w3.heap.size w3 w4 := by rw [hw4]; exact blw_own (below_na _) (Nat.le_refl _) _
  rw [← hw4] at hz9
  have hiC : (Tryz.prog.info? 32).map (·.size) = some C.size := by rw [hCs]; kernel_rfl
  have hzC : (Tryz.zeroCells32).size = C.size := by rw [hCs]; kernel_rfl
  have b34 := b3.trans (b4.mono b3.size)
  have B4 := B2.out.trans (b34.mono B2.out.size)
  have hog3 := (B4.block g hgl).trans (show w.heap[g]? = some (.cells #[x0, x1, x2, x3, x4, .int .i64 (n : Nat), .bool false] 96 (0, 0)) from hog0.out)
  have hr64 := (b34.block _ hs62.out).trans hr62.out
  have hg9 : w3.heap.size ≠ g := by have := B2.out.size; have := b3.size; omega
  have hg6 : w.heap.size ≠ g := by omega
  have hd9 : w.heap.size ≠ w3.heap.size := by have := hs62.out; have := b3.size; omega
  clear hdc hr2
  go_upto_region 3 with (first | (refine wpList_store_row rfl 32 (.tmp 9) (.tmp 24) rfl w3.heap.size C rfl rfl 32 _ ha9 hiC hzC hC1 ?_) | fail)
  rw [← hw4]
  clear hw4 ha9
  have c5 : w4.cell? ⟨g, 5, none⟩ = some (.int .i64 (n : Nat)) := cell_of 5 hog3 rfl
  have c6 : w4.cell? ⟨g, 6, none⟩ = some (.bool false) := cell_of 6 hog3 rfl
  have f5 : w4.frozen? ⟨g, 5, none⟩ = false := by simp [World.frozen?, hog3]
  have f6 : w4.frozen? ⟨g, 6, none⟩ = false := by simp [World.frozen?, hog3]
  have hst : (w4.setCell ⟨g, 5, none⟩ (.int .i64 ((n : Int) + 1))).setCell ⟨g, 6, none⟩ (.bool false) = w4.setRow g #[x0, x1, x2, x3, x4, .int .i64 ((n : Int) + 1), .bool false] := by
    rw [setCell_eq_setRow w4 g 5 _ _ (0, 0) _ hog3, setCell_eq_setRow _ g 6 _ _ (0, 0) _ (setRow_heap _ _ _ _ _ _ hog3), setRow_setRow]; rfl
  obtain ⟨w5, hw5⟩ : ∃ w5, w5 = w4.setRow g #[x0, x1, x2, x3, x4, .int .i64 ((n : Int) + 1), .bool false] := ⟨_, rfl⟩
  have e5 : ∀ k, k ≠ g → w5.heap[k]? = w4.heap[k]? := fun k hk => by rw [hw5]; exact setRow_other _ _ _ _ hk
  have hr9 := hide1 (rng_of 0 C.toList ((e5 _ hg9).trans hz9) (by rw [List.drop_zero, List.take_length]))
  have hr65 := (e5 _ hg6).trans hr64
  have hlC : (Tryz.prog.info? 32).map (·.size) = some C.toList.length := by rw [Array.length_toList]; exact hiC
  have hz := hide1 (setRow_heap w5 w.heap.size _ C _ _ hr65)
  have ho5 : w5.heap[g]? = some (.cells #[x0, x1, x2, x3, x4, .int .i64 ((n : Int) + 1), .bool false] 96 (0, 0)) := by rw [hw5]; exact setRow_heap _ _ _ _ _ _ hog3
  have hfin : Hid (ObR (w5.setRow w.heap.size C) g [x0, x1, x2, x3, x4] (n + 1) ∧ Kg g w (w5.setRow w.heap.size C)) := hide1 ⟨⟨rfl, (setRow_other _ _ _ _ (Ne.symm hg6)).trans ho5⟩, ⟨by rw [hw5]; exact B4.os, by rw [hw5]; exact B4.tape, by rw [hw5]; exact B4.output, by rw [hw5]; have := B4.size; simpa [World.setRow] using this, fun k hk hne => (setRow_other _ _ _ _ (by omega)).trans ((e5 k hne).trans (B4.block k hk))⟩⟩
  clear B4 b34 b3 b4 B2 hog3 hr64 hz9 hr62 ho5 he
  go_upto_region 5 with fail
  rw [← hw5]
  go_wp2_with (first
    | (refine load_w rfl 32 (.tmp 9) rfl w3.heap.size 0 rfl C.toList _ hr9.out Tryz.underlying32 rfl hlC ?_; rw [show C.toList.toArray = C by simp])
    | (refine wpList_store_row rfl 32 (.tmp 6) (.tmp 48) rfl w.heap.size C rfl rfl 32 _ hr65 hiC hzC hC1 ?_)
    | fail)
  exact bodyPost_ret (results_g rfl _ rfl (run_loadVar_row (P := Tryz.prog) _ _ 32 32 C (0, 0) _ hz.out Tryz.underlying32 (by rfl) hiC)) rfl ⟨C, rfl, hCs, hC1, hJ3, hfin.out.1, hfin.out.2⟩
theorem va_tx {F : Nat → Prop} {w : World} {s : List UInt8} {c : List Value} (h : VA F w (tx s) c) : ∃ v3 v4, c = [.int .i64 3, .int .i64 0, .string (st s), v3, v4] ∧ ([.int .i64 3, .int .i64 0, .string (st s), v3, v4] : List Value).all (·.oneCell') = true := by
  have h1 := h.one
  cases h with
  | mk _ _ _ _ _ _ _ => exact ⟨_, _, rfl, h1⟩
theorem cell_lt {w : World} {q o : Nat} {v : Value} (h : w.cell? ⟨q, o, none⟩ = some v) : q < w.heap.size := by
  rcases Nat.lt_or_ge q w.heap.size with h' | h'
  · exact h'
  · simp [World.cell?, Array.getElem?_eq_none h'] at h
set_option maxHeartbeats 1000000 in
set_option maxRecDepth 100000 in
theorem oft_int {F : Nat → Prop} {s : List UInt8} {q K : Nat} {w : World} {c : List Value} {y : Value} (hv : VA F w (tx s) c) (hq : w.cell? ⟨q, 0, none⟩ = some (.func (.func K) #[] #[])) (he : ∀ args w, (callFunc K args).run Tryz.prog w = .ok (.enter K args) w)
    (hd : ∀ w', Below w.heap.size w w' → Calls Tryz.prog K #[.string (st s)] w' fun e w2 => e = .returned (.tuple #[y, .nilIface]) ∧ Below w'.heap.size w' w2) :
    Calls Tryz.prog 106 (#[.agg c.toArray] ++ #[.pointer (some ⟨q, 0, none⟩)]) w fun e w' => e = .returned (.tuple #[y, .nilIface]) ∧ Below w.heap.size w w' := by
  obtain ⟨v3, v4, rfl, h1c⟩ := va_tx hv
  obtain ⟨wb, hwb⟩ : ∃ wb, wb = w.alloc (.cells #[.int .i64 3, .int .i64 0, .string (st s), v3, v4] 55) := ⟨_, rfl⟩
  have bb : Below w.heap.size w wb := by rw [hwb]; exact below_na _
  have hb : wb.heap[w.heap.size]? = some (.cells #[.int .i64 3, .int .i64 0, .string (st s), v3, v4] 55 (0, 0)) := by rw [hwb]; exact heap_na _ _ _
  have hq1 := (World.cell?_of_block (bb.block q (cell_lt hq))).trans hq
  have c0 : wb.cell? ⟨w.heap.size, 0, none⟩ = some (.int .i64 3) := cell_of 0 hb rfl
  have c2 : wb.cell? ⟨w.heap.size, 2, none⟩ = some (.string (st s)) := cell_of 2 hb rfl
  have hdc := hd wb bb
  replace bb := hide1 bb
  generalize st s = S at *
  clear hv hq hd hb
  show Calls Tryz.prog 106 #[.agg #[.int .i64 3, .int .i64 0, .string S, v3, v4], .pointer (some ⟨q, 0, none⟩)] w _
  go_enter Tryz.func106, Tryz.ntmps106
  go_upto_region 1 with fail
  rw [← hwb]
  clear hwb
  go_wp2_with fail
  refine hdc.mono ?_
  rintro e w1 ⟨rfl, b1⟩
  have hfin := hide1 (bb.out.trans (b1.mono bb.out.size))
  clear b1 hdc he
  go_wp2
  go_ret2
  exact ⟨rfl, hfin.out⟩
set_option maxHeartbeats 1000000 in
set_option maxRecDepth 100000 in
theorem oft_sum {F : Nat → Prop} {s : List UInt8} {q K : Nat} {w : World} {c : List Value} {C : Array Value} (hv : VA F w (tx s) c) (hq : w.cell? ⟨q, 0, none⟩ = some (.func (.func K) #[] #[])) (he : ∀ args w, (callFunc K args).run Tryz.prog w = .ok (.enter K args) w) (hCs : C.size = 32) (hC1 : C.all (·.oneCell') = true)
    (hd : ∀ w', Below w.heap.size w w' → Calls Tryz.prog K #[.string (st s)] w' fun e w2 => e = .returned (.tuple #[.agg C, .nilIface]) ∧ Below w'.heap.size w' w2) :
    Calls Tryz.prog 115 (#[.agg c.toArray] ++ #[.pointer (some ⟨q, 0, none⟩)]) w fun e w' => e = .returned (.tuple #[.agg C, .nilIface]) ∧ Below w.heap.size w w' := by
  obtain ⟨v3, v4, rfl, h1c⟩ := va_tx hv
  have hzs : ∀ w : World, (zeroValue 42).run Tryz.prog w = .ok (.agg (bA (zL 32))) w := fun w => by kernel_rfl
  obtain ⟨Z, hZ⟩ : ∃ Z, Hid (Z = bA (zL 32)) := ⟨_, hide1 rfl⟩
  rw [← hZ.out] at hzs
  have hZs : Z.size = 32 := by rw [hZ.out]; rfl
  obtain ⟨wb, hwb⟩ : ∃ wb, wb = (w.alloc (.cells #[.int .i64 3, .int .i64 0, .string (st s), v3, v4] 55)).alloc (.cells Z 42) := ⟨_, rfl⟩
  have bb : Below w.heap.size w wb := by rw [hwb]; exact (below_na _).alloc (by simp) _
  have hb : wb.heap[w.heap.size]? = some (.cells #[.int .i64 3, .int .i64 0, .string (st s), v3, v4] 55 (0, 0)) := by rw [hwb]; exact (al_old (by simp)).trans (heap_na _ _ _)
  have hr : wb.heap[w.heap.size + 1]? = some (.cells Z 42 (0, 0)) := by
    rw [hwb]
    have := heap_na (w.alloc (.cells #[.int .i64 3, .int .i64 0, .string (st s), v3, v4] 55)) Z 42
    rwa [show (w.alloc (.cells #[.int .i64 3, .int .i64 0, .string (st s), v3, v4] 55)).heap.size = w.heap.size + 1 by simp] at this
  have hq1 := (World.cell?_of_block (bb.block q (cell_lt hq))).trans hq
  have c0 : wb.cell? ⟨w.heap.size, 0, none⟩ = some (.int .i64 3) := cell_of 0 hb rfl
  have c2 : wb.cell? ⟨w.heap.size, 2, none⟩ = some (.string (st s)) := cell_of 2 hb rfl
  have hdc := hd wb bb
  have hiC : (Tryz.prog.info? 42).map (·.size) = some C.size := by rw [hCs]; kernel_rfl
  have hzC : (Z).size = C.size := by rw [hCs]; exact hZs
  replace bb := hide1 bb
  replace hr := hide1 hr
  generalize st s = S at *
  clear hv hq hd hb
  show Calls Tryz.prog 115 #[.agg #[.int .i64 3, .int .i64 0, .string S, v3, v4], .pointer (some ⟨q, 0, none⟩)] w _
  go_enter Tryz.func115, Tryz.ntmps115
  go_upto_region 1 with fail
  rw [← hwb]
  clear hwb
  go_wp2_with fail
  refine hdc.mono ?_
  rintro e w1 ⟨rfl, b1⟩
  have hr1 := (b1.block _ (Array.getElem?_eq_some_iff.1 hr.out).1).trans hr.out
  have hz := hide1 (setRow_heap w1 (w.heap.size + 1) _ C _ _ hr1)
  have hfin := hide1 (blw_own (bb.out.trans (b1.mono bb.out.size)) (show w.heap.size ≤ w.heap.size + 1 by omega) C)
  clear b1 hdc he hr
  go_wp2_with (first | (refine wpList_store_row rfl 42 (.tmp 3) (.tmp 15) rfl (w.heap.size + 1) C rfl rfl 42 _ hr1 hiC hzC hC1 ?_) | fail)
  exact bodyPost_ret (results_g2 rfl _ rfl (run_loadVar_row (P := Tryz.prog) _ _ 42 42 C (0, 0) _ hz.out Tryz.underlying42 (by rfl) hiC)) rfl ⟨rfl, hfin.out⟩
set_option maxHeartbeats 1000000 in
set_option maxRecDepth 100000 in
theorem oft_wide {F : Nat → Prop} {s : List UInt8} {q K : Nat} {w : World} {c : List Value} {C : Array Value} (hv : VA F w (tx s) c) (hq : w.cell? ⟨q, 0, none⟩ = some (.func (.func K) #[] #[])) (he : ∀ args w, (callFunc K args).run Tryz.prog w = .ok (.enter K args) w) (hCs : C.size = 64) (hC1 : C.all (·.oneCell') = true)
    (hd : ∀ w', Below w.heap.size w w' → Calls Tryz.prog K #[.string (st s)] w' fun e w2 => e = .returned (.tuple #[.agg C, .nilIface]) ∧ Below w'.heap.size w' w2) :
    Calls Tryz.prog 159 (#[.agg c.toArray] ++ #[.pointer (some ⟨q, 0, none⟩)]) w fun e w' => e = .returned (.tuple #[.agg C, .nilIface]) ∧ Below w.heap.size w w' := by
  obtain ⟨v3, v4, rfl, h1c⟩ := va_tx hv
  have hzs : ∀ w : World, (zeroValue 30).run Tryz.prog w = .ok (.agg (bA (zL 64))) w := fun w => by kernel_rfl
  obtain ⟨Z, hZ⟩ : ∃ Z, Hid (Z = bA (zL 64)) := ⟨_, hide1 rfl⟩
  rw [← hZ.out] at hzs
  have hZs : Z.size = 64 := by rw [hZ.out]; rfl
  obtain ⟨wb, hwb⟩ : ∃ wb, wb = (w.alloc (.cells #[.int .i64 3, .int .i64 0, .string (st s), v3, v4] 55)).alloc (.cells Z 30) := ⟨_, rfl⟩
  have bb : Below w.heap.size w wb := by rw [hwb]; exact (below_na _).alloc (by simp) _
  have hb : wb.heap[w.heap.size]? = some (.cells #[.int .i64 3, .int .i64 0, .string (st s), v3, v4] 55 (0, 0)) := by rw [hwb]; exact (al_old (by simp)).trans (heap_na _ _ _)
  have hr : wb.heap[w.heap.size + 1]? = some (.cells Z 30 (0, 0)) := by
    rw [hwb]
    have := heap_na (w.alloc (.cells #[.int .i64 3, .int .i64 0, .string (st s), v3, v4] 55)) Z 30
    rwa [show (w.alloc (.cells #[.int .i64 3, .int .i64 0, .string (st s), v3, v4] 55)).heap.size = w.heap.size + 1 by simp] at this
  have hq1 := (World.cell?_of_block (bb.block q (cell_lt hq))).trans hq
  have c0 : wb.cell? ⟨w.heap.size, 0, none⟩ = some (.int .i64 3) := cell_of 0 hb rfl
  have c2 : wb.cell? ⟨w.heap.size, 2, none⟩ = some (.string (st s)) := cell_of 2 hb rfl
  have hdc := hd wb bb
  have hiC : (Tryz.prog.info? 30).map (·.size) = some C.size := by rw [hCs]; kernel_rfl
  have hzC : (Z).size = C.size := by rw [hCs]; exact hZs
  replace bb := hide1 bb
  replace hr := hide1 hr
  generalize st s = S at *
  clear hv hq hd hb
  show Calls Tryz.prog 159 #[.agg #[.int .i64 3, .int .i64 0, .string S, v3, v4], .pointer (some ⟨q, 0, none⟩)] w _
  go_enter Tryz.func159, Tryz.ntmps159
  go_upto_region 1 with fail
  rw [← hwb]
  clear hwb
  go_wp2_with fail
  refine hdc.mono ?_
  rintro e w1 ⟨rfl, b1⟩
  have hr1 := (b1.block _ (Array.getElem?_eq_some_iff.1 hr.out).1).trans hr.out
  have hz := hide1 (setRow_heap w1 (w.heap.size + 1) _ C _ _ hr1)
  have hfin := hide1 (blw_own (bb.out.trans (b1.mono bb.out.size)) (show w.heap.size ≤ w.heap.size + 1 by omega) C)
  clear b1 hdc he hr
  go_wp2_with (first | (refine wpList_store_row rfl 30 (.tmp 3) (.tmp 15) rfl (w.heap.size + 1) C rfl rfl 30 _ hr1 hiC hzC hC1 ?_) | fail)
  exact bodyPost_ret (results_g2 rfl _ rfl (run_loadVar_row (P := Tryz.prog) _ _ 30 30 C (0, 0) _ hz.out Tryz.underlying30 (by rfl) hiC)) rfl ⟨rfl, hfin.out⟩
set_option maxHeartbeats 1000000 in
set_option maxRecDepth 100000 in
theorem oft_sig {F : Nat → Prop} {s : List UInt8} {q K : Nat} {w : World} {c : List Value} {C : Array Value} (hv : VA F w (tx s) c) (hq : w.cell? ⟨q, 0, none⟩ = some (.func (.func K) #[] #[])) (he : ∀ args w, (callFunc K args).run Tryz.prog w = .ok (.enter K args) w) (hCs : C.size = 97) (hC1 : C.all (·.oneCell') = true)
    (hd : ∀ w', Below w.heap.size w w' → Calls Tryz.prog K #[.string (st s)] w' fun e w2 => e = .returned (.tuple #[.agg C, .nilIface]) ∧ Below w'.heap.size w' w2) :
    Calls Tryz.prog 157 (#[.agg c.toArray] ++ #[.pointer (some ⟨q, 0, none⟩)]) w fun e w' => e = .returned (.tuple #[.agg C, .nilIface]) ∧ Below w.heap.size w w' := by
  obtain ⟨v3, v4, rfl, h1c⟩ := va_tx hv
  obtain ⟨wb, hwb⟩ : ∃ wb, wb = (w.alloc (.cells #[.int .i64 3, .int .i64 0, .string (st s), v3, v4] 55)).alloc (.cells Tryz.zeroCells32 32) := ⟨_, rfl⟩
  have bb : Below w.heap.size w wb := by rw [hwb]; exact (below_na _).alloc (by simp) _
  have hb : wb.heap[w.heap.size]? = some (.cells #[.int .i64 3, .int .i64 0, .string (st s), v3, v4] 55 (0, 0)) := by rw [hwb]; exact (al_old (by simp)).trans (heap_na _ _ _)
  have hr : wb.heap[w.heap.size + 1]? = some (.cells Tryz.zeroCells32 32 (0, 0)) := by
    rw [hwb]
    have := heap_na (w.alloc (.cells #[.int .i64 3, .int .i64 0, .string (st s), v3, v4] 55)) Tryz.zeroCells32 32
    rwa [show (w.alloc (.cells #[.int .i64 3, .int .i64 0, .string (st s), v3, v4] 55)).heap.size = w.heap.size + 1 by simp] at this
  have hq1 := (World.cell?_of_block (bb.block q (cell_lt hq))).trans hq
  have c0 : wb.cell? ⟨w.heap.size, 0, none⟩ = some (.int .i64 3) := cell_of 0 hb rfl
  have c2 : wb.cell? ⟨w.heap.size, 2, none⟩ = some (.string (st s)) := cell_of 2 hb rfl
  have hdc := hd wb bb
  have hiC : (Tryz.prog.info? 32).map (·.size) = some C.size := by rw [hCs]; kernel_rfl
  have hzC : (Tryz.zeroCells32).size = C.size := by rw [hCs]; kernel_rfl
  replace bb := hide1 bb
  replace hr := hide1 hr
  generalize st s = S at *
  clear hv hq hd hb
  show Calls Tryz.prog 157 #[.agg #[.int .i64 3, .int .i64 0, .string S, v3, v4], .pointer (some ⟨q, 0, none⟩)] w _
  go_enter Tryz.func157, Tryz.ntmps157
  go_upto_region 1 with fail
  rw [← hwb]
  clear hwb
  go_wp2_with fail
  refine hdc.mono ?_
  rintro e w1 ⟨rfl, b1⟩
  have hr1 := (b1.block _ (Array.getElem?_eq_some_iff.1 hr.out).1).trans hr.out
  have hz := hide1 (setRow_heap w1 (w.heap.size + 1) _ C _ _ hr1)
  have hfin := hide1 (blw_own (bb.out.trans (b1.mono bb.out.size)) (show w.heap.size ≤ w.heap.size + 1 by omega) C)
  clear b1 hdc he hr
  go_wp2_with (first | (refine wpList_store_row rfl 32 (.tmp 3) (.tmp 15) rfl (w.heap.size + 1) C rfl rfl 32 _ hr1 hiC hzC hC1 ?_) | fail)
  exact bodyPost_ret (results_g2 rfl _ rfl (run_loadVar_row (P := Tryz.prog) _ _ 32 32 C (0, 0) _ hz.out Tryz.underlying32 (by rfl) hiC)) rfl ⟨rfl, hfin.out⟩
set_option maxRecDepth 100000 in
theorem kind_1 (w : World) : Calls Tryz.prog 56 #[.string (st [97, 114, 116, 105, 102, 97, 99, 116])] w fun e w' => e = .returned (.tuple #[.int .i64 1, .nilIface]) ∧ Below w.heap.size w w' := by
  show Calls Tryz.prog 56 #[.string ⟨#[97, 114, 116, 105, 102, 97, 99, 116]⟩] w _
  have hn : Calls Tryz.prog 107 #[.string ⟨#[97, 114, 116, 105, 102, 97, 99, 116]⟩, .int .i64 4, .func (.func 41) #[] #[]] w fun e w' => e = .returned (.tuple #[.int .i64 1, .nilIface]) ∧ w' = w := by
    have kw := kw_1 w
    have he : ∀ args w, (callFunc 41 args).run Tryz.prog w = .ok (.enter 41 args) w := fun _ _ => by kernel_rfl
    go_enter Tryz.func107, Tryz.ntmps107
    go_wp2_with fail
    refine wp_loop_rounds 1 ?_
    rw [rounds_succ]
    go_wp2_with fail
    refine kw.mono ?_
    rintro e w1 ⟨rfl, rfl⟩
    go_wp2
    go_ret2
    exact ⟨rfl, rfl⟩
  go_enter Tryz.func56, Tryz.ntmps56
  go_wp2_with fail
  refine hn.mono ?_
  rintro e w1 ⟨rfl, rfl⟩
  go_wp2
  go_ret2
  exact ⟨rfl, Below.refl _ _⟩
theorem sum_z (w : World) : Calls Tryz.prog 62 #[.string (st hexz)] w fun e w' => e = .returned (.tuple #[.agg (bA (zL 32)), .nilIface]) ∧ Below w.heap.size w w' := by
  have h := sum_d (List.replicate 64 48) (fun z hz => by have := List.eq_of_mem_replicate hz; omega) (by simp) w
  rw [show fx 32 (ga4 .z (List.replicate 64 48)) = some (zL 32) by kernel_rfl, show strOfNums (List.replicate 64 48) = st hexz by kernel_rfl] at h
  exact h
theorem wide_z (w : World) : Calls Tryz.prog 114 #[.string (st b64z)] w fun e w' => e = .returned (.tuple #[.agg (bA (zL 64)), .nilIface]) ∧ Below w.heap.size w w' := by
  have h := wide_d (List.replicate 86 65 ++ [61, 61]) (fun z hz => by
    rcases List.mem_append.1 hz with hz | hz
    · have := List.eq_of_mem_replicate hz; omega
    · simp at hz; omega) (by simp) w
  rw [show fx 64 (d64 (List.replicate 86 65 ++ [61, 61])) = some (zL 64) by kernel_rfl, show strOfNums (List.replicate 86 65 ++ [61, 61]) = st b64z by kernel_rfl] at h
  exact h
set_option maxRecDepth 100000 in
theorem ot_int (K : Nat) (w : World) : Calls Tryz.prog 55 #[.func (.func K) #[] #[]] w fun e w' => e = .returned (.func (.func 106) #[] #[.pointer (some ⟨w.heap.size, 0, none⟩)]) ∧ Below w.heap.size w w' ∧ w'.cell? ⟨w.heap.size, 0, none⟩ = some (.func (.func K) #[] #[]) := by
  obtain ⟨wb, hwb⟩ : ∃ wb, wb = w.alloc (.cells #[.func (.func K) #[] #[]] 101) := ⟨_, rfl⟩
  have bb : Below w.heap.size w wb := by rw [hwb]; exact below_na _
  have hc : wb.cell? ⟨w.heap.size, 0, none⟩ = some (.func (.func K) #[] #[]) := cell_of 0 (by rw [hwb]; exact heap_na _ _ _) rfl
  replace bb := hide1 bb
  replace hc := hide1 hc
  go_enter Tryz.func55, Tryz.ntmps55
  go_upto_region 1 with fail
  rw [← hwb]
  clear hwb
  go_wp2
  go_ret
  exact ⟨rfl, bb.out, hc.out⟩
set_option maxRecDepth 100000 in
theorem ot_sum (K : Nat) (w : World) : Calls Tryz.prog 61 #[.func (.func K) #[] #[]] w fun e w' => e = .returned (.func (.func 115) #[] #[.pointer (some ⟨w.heap.size, 0, none⟩)]) ∧ Below w.heap.size w w' ∧ w'.cell? ⟨w.heap.size, 0, none⟩ = some (.func (.func K) #[] #[]) := by
  obtain ⟨wb, hwb⟩ : ∃ wb, wb = w.alloc (.cells #[.func (.func K) #[] #[]] 109) := ⟨_, rfl⟩
  have bb : Below w.heap.size w wb := by rw [hwb]; exact below_na _
  have hc : wb.cell? ⟨w.heap.size, 0, none⟩ = some (.func (.func K) #[] #[]) := cell_of 0 (by rw [hwb]; exact heap_na _ _ _) rfl
  replace bb := hide1 bb
  replace hc := hide1 hc
  go_enter Tryz.func61, Tryz.ntmps61
  go_upto_region 1 with fail
  rw [← hwb]
  clear hwb
  go_wp2
  go_ret
  exact ⟨rfl, bb.out, hc.out⟩
set_option maxRecDepth 100000 in
theorem ot_wide (K : Nat) (w : World) : Calls Tryz.prog 113 #[.func (.func K) #[] #[]] w fun e w' => e = .returned (.func (.func 159) #[] #[.pointer (some ⟨w.heap.size, 0, none⟩)]) ∧ Below w.heap.size w w' ∧ w'.cell? ⟨w.heap.size, 0, none⟩ = some (.func (.func K) #[] #[]) := by
  obtain ⟨wb, hwb⟩ : ∃ wb, wb = w.alloc (.cells #[.func (.func K) #[] #[]] 155) := ⟨_, rfl⟩
  have bb : Below w.heap.size w wb := by rw [hwb]; exact below_na _
  have hc : wb.cell? ⟨w.heap.size, 0, none⟩ = some (.func (.func K) #[] #[]) := cell_of 0 (by rw [hwb]; exact heap_na _ _ _) rfl
  replace bb := hide1 bb
  replace hc := hide1 hc
  go_enter Tryz.func113, Tryz.ntmps113
  go_upto_region 1 with fail
  rw [← hwb]
  clear hwb
  go_wp2
  go_ret
  exact ⟨rfl, bb.out, hc.out⟩
set_option maxRecDepth 100000 in
theorem ot_sig (K : Nat) (w : World) : Calls Tryz.prog 110 #[.func (.func K) #[] #[]] w fun e w' => e = .returned (.func (.func 157) #[] #[.pointer (some ⟨w.heap.size, 0, none⟩)]) ∧ Below w.heap.size w w' ∧ w'.cell? ⟨w.heap.size, 0, none⟩ = some (.func (.func K) #[] #[]) := by
  obtain ⟨wb, hwb⟩ : ∃ wb, wb = w.alloc (.cells #[.func (.func K) #[] #[]] 151) := ⟨_, rfl⟩
  have bb : Below w.heap.size w wb := by rw [hwb]; exact below_na _
  have hc : wb.cell? ⟨w.heap.size, 0, none⟩ = some (.func (.func K) #[] #[]) := cell_of 0 (by rw [hwb]; exact heap_na _ _ _) rfl
  replace bb := hide1 bb
  replace hc := hide1 hc
  go_enter Tryz.func110, Tryz.ntmps110
  go_upto_region 1 with fail
  rw [← hwb]
  clear hwb
  go_wp2
  go_ret
  exact ⟨rfl, bb.out, hc.out⟩
set_option maxRecDepth 100000 in
theorem ot_just (K : Nat) (w : World) : Calls Tryz.prog 65 #[.func (.func K) #[] #[]] w fun e w' => e = .returned (.func (.func 118) #[] #[.pointer (some ⟨w.heap.size, 0, none⟩)]) ∧ Below w.heap.size w w' ∧ w'.cell? ⟨w.heap.size, 0, none⟩ = some (.func (.func K) #[] #[]) := by
  obtain ⟨wb, hwb⟩ : ∃ wb, wb = w.alloc (.cells #[.func (.func K) #[] #[]] 115) := ⟨_, rfl⟩
  have bb : Below w.heap.size w wb := by rw [hwb]; exact below_na _
  have hc : wb.cell? ⟨w.heap.size, 0, none⟩ = some (.func (.func K) #[] #[]) := cell_of 0 (by rw [hwb]; exact heap_na _ _ _) rfl
  replace bb := hide1 bb
  replace hc := hide1 hc
  go_enter Tryz.func65, Tryz.ntmps65
  go_upto_region 1 with fail
  rw [← hwb]
  clear hwb
  go_wp2
  go_ret
  exact ⟨rfl, bb.out, hc.out⟩
set_option maxRecDepth 100000 in
theorem just_1 {q : Nat} {w : World} (hq : w.cell? ⟨q, 0, none⟩ = some (.func (.func 70) #[] #[])) : Calls Tryz.prog 118 #[.string (strOfNums alc), .pointer (some ⟨q, 0, none⟩)] w fun e w' => e = .returned (.tuple #[.string (strOfNums alc), .nilIface]) ∧ Below w.heap.size w w' := by
  have hn := name_d alc (by unfold Byt alc; decide) (by decide) w
  rw [show nmd alc = true by decide] at hn
  have he : ∀ args w, (callFunc 70 args).run Tryz.prog w = .ok (.enter 70 args) w := fun _ _ => by kernel_rfl
  generalize strOfNums alc = S at *
  go_enter Tryz.func118, Tryz.ntmps118
  go_wp2_with fail
  refine hn.mono ?_
  rintro e w1 ⟨rfl, b1⟩
  replace b1 := hide1 b1
  go_wp2
  go_ret2
  exact ⟨rfl, b1.out⟩
set_option maxHeartbeats 1000000 in
set_option maxRecDepth 100000 in
theorem sgo_a (w : World) : Calls Tryz.prog 111 #[.string (strOfNums alc)] w fun e w' => e = .returned (.tuple #[.agg (sgC alc).toArray, .nilIface]) ∧ Below w.heap.size w w' := by
  obtain ⟨wb, hwb⟩ : ∃ wb, wb = w.alloc (.cells Tryz.zeroCells32 32) := ⟨_, rfl⟩
  have bb : Below w.heap.size w wb := by rw [hwb]; exact below_na _
  have hr : wb.heap[w.heap.size]? = some (.cells Tryz.zeroCells32 32 (0, 0)) := by rw [hwb]; exact heap_na _ _ _
  have hcp : Calls Tryz.prog 158 #[.string (strOfNums alc), .string ⟨#[107, 101, 121, 58]⟩] wb fun e w' => e = .returned (.tuple #[.string (strOfNums alc), .bool false]) ∧ w' = wb := (strings_CutPrefix (strOfNums alc) ⟨#[107, 101, 121, 58]⟩ wb).mono fun e w' h => ⟨h.1.trans (by kernel_rfl), h.2⟩
  have hj := ot_just 70 wb
  have hj1 := fun (q : Nat) (w : World) => @just_1 q w
  have hb5 : (Tryz.prog.built 32 [(0, .string (strOfNums alc))]) = some (sgC alc).toArray := by kernel_rfl
  have hsc : (sgC alc).toArray = Tryz.zeroCells32.setIfInBounds 0 (.string (strOfNums alc)) := by kernel_rfl
  have hone : (sgC alc).toArray.all (·.oneCell') = true := by kernel_rfl
  replace bb := hide1 bb
  replace hr := hide1 hr
  replace hj1 := hide1 hj1
  obtain ⟨C, hC⟩ : ∃ C, C = (sgC alc).toArray := ⟨_, rfl⟩
  rw [← hC] at hsc hone ⊢
  have hCs : (Tryz.prog.info? 32).map (·.size) = some C.size := by rw [hC]; kernel_rfl
  have hCz : Tryz.zeroCells32.size = C.size := by rw [hC]; kernel_rfl
  have hC9 : C.size = 97 := by rw [hC]; rfl
  obtain ⟨S, hS⟩ : ∃ S, S = strOfNums alc := ⟨_, rfl⟩
  rw [← hS] at hcp hj1 hsc ⊢
  clear hC hb5 hS
  go_enter Tryz.func111, Tryz.ntmps111
  go_upto_region 1 with fail
  rw [← hwb]
  clear hwb
  go_wp2_with fail
  refine hcp.mono ?_
  rintro e w1 ⟨rfl, rfl⟩
  clear hcp
  go_wp2_with fail
  refine hj.mono ?_
  rintro e w2 ⟨rfl, b2, hc2⟩
  have hja := hj1.out _ _ hc2
  have he : ∀ args w, (callFunc 118 args).run Tryz.prog w = .ok (.enter 118 args) w := fun _ _ => by kernel_rfl
  clear hj
  go_wp2_with fail
  refine hja.mono ?_
  rintro e w3 ⟨rfl, b3⟩
  have b23 := b2.trans (b3.mono b2.size)
  have hr3 := (b23.block _ (Array.getElem?_eq_some_iff.1 hr.out).1).trans hr.out
  have hz := hide1 (setRow_heap w3 w.heap.size _ C _ _ hr3)
  have hfin := hide1 (blw_own (bb.out.trans (b23.mono bb.out.size)) (Nat.le_refl _) C)
  clear b23 b3 b2 hja hc2 hr he
  go_wp2_with (first | (refine wpList_store_row rfl 32 (.tmp 2) (.tmp 31) rfl w.heap.size C rfl (by rw [hsc]; rfl) 32 _ hr3 hCs hCz hone ?_) | fail)
  subst hsc
  exact bodyPost_ret (results_g2 rfl _ rfl (lv_S hC9 hz.out)) rfl ⟨rfl, hfin.out⟩
theorem ld_bE {w : World} {b o : Nat} {v : Value} (h1 : w.cell? ⟨b, o, none⟩ = some v) : (Instr.loadAt 4 (.pointer (some ⟨b, o, none⟩))).run Tryz.prog w = .ok v w := by
  simp [Instr.loadAt, Instr.sureAddr, go_sem, h1]
theorem ld_iE {w : World} {b o : Nat} {v : Value} (h1 : w.cell? ⟨b, o, none⟩ = some v) : (Instr.loadAt 3 (.pointer (some ⟨b, o, none⟩))).run Tryz.prog w = .ok v w := by
  simp [Instr.loadAt, Instr.sureAddr, go_sem, h1]
theorem ld_pE {w : World} {b o : Nat} {v : Value} (h1 : w.cell? ⟨b, o, none⟩ = some v) : (Instr.loadAt 53 (.pointer (some ⟨b, o, none⟩))).run Tryz.prog w = .ok v w := by
  simp [Instr.loadAt, Instr.sureAddr, go_sem, h1]
theorem eg_nq {x u : Operand} (a b : Int) (w : World) : (eqGuard .neq 3 x u (.int .i64 a) (.int .i64 b)).run Tryz.prog w = .ok () w := by simp [eqGuard, go_sem]
theorem nq_n (n : Nat) (w : World) : (binOp .neq 3 (.int .i64 (n : Nat)) (.int .i64 (n : Nat))).run Tryz.prog w = .ok (.bool false) w := by simp [go_sem]
theorem ObR.later {w w' : World} {g n : Nat} {vc : List Value} (h : ObR w g vc n) (hb : Below w.heap.size w w') : ObR w' g vc n := ⟨h.1, (hb.block g (Array.getElem?_eq_some_iff.1 h.2).1).trans h.2⟩
set_option maxHeartbeats 2000000 in
set_option maxRecDepth 100000 in
theorem end_e {w : World} {g n : Nat} {x0 x1 x2 x3 : Value} {pa : Option Addr} {pc : Nat} (h : ObR w g [x0, x1, x2, x3, .slice pa n pc] n) : Calls Tryz.prog 75 #[.pointer (some ⟨g, 0, none⟩)] w fun e w' => e = .returned .nilIface ∧ Below w.heap.size w w' := by
  have hog : w.heap[g]? = some (.cells #[x0, x1, x2, x3, .slice pa n pc, .int .i64 (n : Nat), .bool false] 96 (0, 0)) := h.2
  have hgl := (Array.getElem?_eq_some_iff.1 hog).1
  have h4 : Hid (∀ wa, Below w.heap.size w wa → wa.cell? ⟨g, 4, none⟩ = some (.slice pa n pc)) := hide1 fun wa hwa => cell_of 4 ((hwa.block g hgl).trans hog) rfl
  have h5 : Hid (∀ wa, Below w.heap.size w wa → wa.cell? ⟨g, 5, none⟩ = some (.int .i64 (n : Nat))) := hide1 fun wa hwa => cell_of 5 ((hwa.block g hgl).trans hog) rfl
  have h6 : Hid (∀ wa, Below w.heap.size w wa → wa.cell? ⟨g, 6, none⟩ = some (.bool false)) := hide1 fun wa hwa => cell_of 6 ((hwa.block g hgl).trans hog) rfl
  clear hog h
  go_enter Tryz.func75, Tryz.ntmps75
  go_upto_region 1 with fail
  refine wp_flowG 16 _ _ (by kernel_rfl) (by kernel_rfl) (by kernel_rfl) rfl (fun j v_ _ => v_ = ([(.pointer (some ⟨g, 0, none⟩)), (.pointer (some ⟨g, 0, none⟩)), (.pointer (some ⟨g, 6, none⟩)), (.bool false), (.bool false), (.pointer (some ⟨g, 0, none⟩)), (.pointer (some ⟨g, 0, none⟩)), (.pointer (some ⟨g, 5, none⟩)), (.int .i64 (n : Nat)), (.pointer (some ⟨g, 0, none⟩)), (.pointer (some ⟨g, 0, none⟩)), (.pointer (some ⟨g, 0, none⟩)), (.pointer (some ⟨g, 4, none⟩)), (.slice pa n pc), (.int .i64 (n : Nat)), (.bool false), (.bool false)] : List Value).getD j undef) (fun _ _ _ _ h _ => h) ?_ ?_
  · intro j op hop hj a wa hwa hsz hsl hdep K hK
    match j, hop with
    | 0, hop =>
      obtain rfl := Option.some.inj hop
      have p0 : a.tmps.getD 0 undef = (.pointer (some ⟨g, 0, none⟩)) := hsl 0 rfl
      exact .plain rfl (wp_val (w' := wa) (v := (.pointer (some ⟨g, 0, none⟩))) (by simp only [execOp, Act.eval]; rw [show a.tmps.getD 0 undef = _ from p0]; rfl) (hK _ _ (Below.refl _ _) rfl))
    | 1, hop =>
      obtain rfl := Option.some.inj hop
      have t0 : a.tmps.getD 3 undef = (.pointer (some ⟨g, 0, none⟩)) := hdep 0 _ 3 rfl rfl ⟨⟨0, .data⟩, by simp, rfl, rfl⟩
      exact .plain rfl (wp_val (w' := wa) (v := (.pointer (some ⟨g, 0, none⟩))) (by simp only [execOp, Act.eval]; rw [show a.tmps.getD 3 undef = _ from t0]; kernel_rfl) (hK _ _ (Below.refl _ _) rfl))
    | 2, hop =>
      obtain rfl := Option.some.inj hop
      have t1 : a.tmps.getD 4 undef = (.pointer (some ⟨g, 0, none⟩)) := hdep 1 _ 4 rfl rfl ⟨⟨1, .data⟩, by simp, rfl, rfl⟩
      exact .plain rfl (wp_val (w' := wa) (v := (.pointer (some ⟨g, 6, none⟩))) (by simp only [execOp, Act.eval]; rw [show a.tmps.getD 4 undef = _ from t1]; kernel_rfl) (hK _ _ (Below.refl _ _) rfl))
    | 3, hop =>
      obtain rfl := Option.some.inj hop
      have t2 : a.tmps.getD 5 undef = (.pointer (some ⟨g, 6, none⟩)) := hdep 2 _ 5 rfl rfl ⟨⟨2, .data⟩, by simp, rfl, rfl⟩
      exact .plain rfl (wp_val (w' := wa) (v := (.bool false)) (by simp only [execOp, Act.eval]; rw [show a.tmps.getD 5 undef = _ from t2]; simp only [Sem.run_bind, ld_bE (h6.out wa hwa), Result.andThen_ok, Sem.run_pure]) (hK _ _ (Below.refl _ _) rfl))
    | 4, hop =>
      obtain rfl := Option.some.inj hop
      have t3 : a.tmps.getD 6 undef = (.bool false) := hdep 3 _ 6 rfl rfl ⟨⟨3, .data⟩, by simp, rfl, rfl⟩
      exact .plain rfl (wp_val (w' := wa) (v := (.bool false)) (by simp only [execOp, Act.eval]; rw [show a.tmps.getD 6 undef = _ from t3]; rfl) (hK _ _ (Below.refl _ _) rfl))
    | 5, hop =>
      obtain rfl := Option.some.inj hop
      have gg : a.tmps.getD 7 undef = (.bool false) := hdep 4 _ 7 rfl rfl ⟨⟨4, .guard⟩, by simp, rfl, rfl⟩
      have p0 : a.tmps.getD 0 undef = (.pointer (some ⟨g, 0, none⟩)) := hsl 0 rfl
      exact .want rfl rfl (by rw [hsz]; simp) gg (wp_val (w' := wa) (v := (.pointer (some ⟨g, 0, none⟩))) (by simp only [execOp, Act.eval]; rw [show a.tmps.getD 0 undef = _ from p0]; rfl) (hK _ _ (Below.refl _ _) rfl))
    | 6, hop =>
      obtain rfl := Option.some.inj hop
      have gg : a.tmps.getD 7 undef = (.bool false) := hdep 4 _ 7 rfl rfl ⟨⟨4, .guard⟩, by simp, rfl, rfl⟩
      have t5 : a.tmps.getD 8 undef = (.pointer (some ⟨g, 0, none⟩)) := hdep 5 _ 8 rfl rfl ⟨⟨5, .data⟩, by simp, rfl, rfl⟩
      exact .want rfl rfl (by rw [hsz]; simp) gg (wp_val (w' := wa) (v := (.pointer (some ⟨g, 0, none⟩))) (by simp only [execOp, Act.eval]; rw [show a.tmps.getD 8 undef = _ from t5]; kernel_rfl) (hK _ _ (Below.refl _ _) rfl))
    | 7, hop =>
      obtain rfl := Option.some.inj hop
      have gg : a.tmps.getD 7 undef = (.bool false) := hdep 4 _ 7 rfl rfl ⟨⟨4, .guard⟩, by simp, rfl, rfl⟩
      have t6 : a.tmps.getD 9 undef = (.pointer (some ⟨g, 0, none⟩)) := hdep 6 _ 9 rfl rfl ⟨⟨6, .data⟩, by simp, rfl, rfl⟩
      exact .want rfl rfl (by rw [hsz]; simp) gg (wp_val (w' := wa) (v := (.pointer (some ⟨g, 5, none⟩))) (by simp only [execOp, Act.eval]; rw [show a.tmps.getD 9 undef = _ from t6]; kernel_rfl) (hK _ _ (Below.refl _ _) rfl))
    | 8, hop =>
      obtain rfl := Option.some.inj hop
      have gg : a.tmps.getD 7 undef = (.bool false) := hdep 4 _ 7 rfl rfl ⟨⟨4, .guard⟩, by simp, rfl, rfl⟩
      have t7 : a.tmps.getD 10 undef = (.pointer (some ⟨g, 5, none⟩)) := hdep 7 _ 10 rfl rfl ⟨⟨7, .data⟩, by simp, rfl, rfl⟩
      exact .want rfl rfl (by rw [hsz]; simp) gg (wp_val (w' := wa) (v := (.int .i64 (n : Nat))) (by simp only [execOp, Act.eval]; rw [show a.tmps.getD 10 undef = _ from t7]; simp only [Sem.run_bind, ld_iE (h5.out wa hwa), Result.andThen_ok, Sem.run_pure]) (hK _ _ (Below.refl _ _) rfl))
    | 9, hop =>
      obtain rfl := Option.some.inj hop
      have gg : a.tmps.getD 7 undef = (.bool false) := hdep 4 _ 7 rfl rfl ⟨⟨4, .guard⟩, by simp, rfl, rfl⟩
      have p0 : a.tmps.getD 0 undef = (.pointer (some ⟨g, 0, none⟩)) := hsl 0 rfl
      exact .want rfl rfl (by rw [hsz]; simp) gg (wp_val (w' := wa) (v := (.pointer (some ⟨g, 0, none⟩))) (by simp only [execOp, Act.eval]; rw [show a.tmps.getD 0 undef = _ from p0]; rfl) (hK _ _ (Below.refl _ _) rfl))
    | 10, hop =>
      obtain rfl := Option.some.inj hop
      have gg : a.tmps.getD 7 undef = (.bool false) := hdep 4 _ 7 rfl rfl ⟨⟨4, .guard⟩, by simp, rfl, rfl⟩
      have t9 : a.tmps.getD 12 undef = (.pointer (some ⟨g, 0, none⟩)) := hdep 9 _ 12 rfl rfl ⟨⟨9, .data⟩, by simp, rfl, rfl⟩
      exact .want rfl rfl (by rw [hsz]; simp) gg (wp_val (w' := wa) (v := (.pointer (some ⟨g, 0, none⟩))) (by simp only [execOp, Act.eval]; rw [show a.tmps.getD 12 undef = _ from t9]; kernel_rfl) (hK _ _ (Below.refl _ _) rfl))
    | 11, hop =>
      obtain rfl := Option.some.inj hop
      have gg : a.tmps.getD 7 undef = (.bool false) := hdep 4 _ 7 rfl rfl ⟨⟨4, .guard⟩, by simp, rfl, rfl⟩
      have t10 : a.tmps.getD 13 undef = (.pointer (some ⟨g, 0, none⟩)) := hdep 10 _ 13 rfl rfl ⟨⟨10, .data⟩, by simp, rfl, rfl⟩
      exact .want rfl rfl (by rw [hsz]; simp) gg (wp_val (w' := wa) (v := (.pointer (some ⟨g, 0, none⟩))) (by simp only [execOp, Act.eval]; rw [show a.tmps.getD 13 undef = _ from t10]; kernel_rfl) (hK _ _ (Below.refl _ _) rfl))
    | 12, hop =>
      obtain rfl := Option.some.inj hop
      have gg : a.tmps.getD 7 undef = (.bool false) := hdep 4 _ 7 rfl rfl ⟨⟨4, .guard⟩, by simp, rfl, rfl⟩
      have t11 : a.tmps.getD 14 undef = (.pointer (some ⟨g, 0, none⟩)) := hdep 11 _ 14 rfl rfl ⟨⟨11, .data⟩, by simp, rfl, rfl⟩
      exact .want rfl rfl (by rw [hsz]; simp) gg (wp_val (w' := wa) (v := (.pointer (some ⟨g, 4, none⟩))) (by simp only [execOp, Act.eval]; rw [show a.tmps.getD 14 undef = _ from t11]; kernel_rfl) (hK _ _ (Below.refl _ _) rfl))
    | 13, hop =>
      obtain rfl := Option.some.inj hop
      have gg : a.tmps.getD 7 undef = (.bool false) := hdep 4 _ 7 rfl rfl ⟨⟨4, .guard⟩, by simp, rfl, rfl⟩
      have t12 : a.tmps.getD 15 undef = (.pointer (some ⟨g, 4, none⟩)) := hdep 12 _ 15 rfl rfl ⟨⟨12, .data⟩, by simp, rfl, rfl⟩
      exact .want rfl rfl (by rw [hsz]; simp) gg (wp_val (w' := wa) (v := (.slice pa n pc)) (by simp only [execOp, Act.eval]; rw [show a.tmps.getD 15 undef = _ from t12]; simp only [Sem.run_bind, ld_pE (h4.out wa hwa), Result.andThen_ok, Sem.run_pure]) (hK _ _ (Below.refl _ _) rfl))
    | 14, hop =>
      obtain rfl := Option.some.inj hop
      have gg : a.tmps.getD 7 undef = (.bool false) := hdep 4 _ 7 rfl rfl ⟨⟨4, .guard⟩, by simp, rfl, rfl⟩
      have t13 : a.tmps.getD 16 undef = (.slice pa n pc) := hdep 13 _ 16 rfl rfl ⟨⟨13, .data⟩, by simp, rfl, rfl⟩
      exact .want rfl rfl (by rw [hsz]; simp) gg (wp_val (w' := wa) (v := (.int .i64 (n : Nat))) (by simp only [execOp, resolve, invoke, builtin, Sem.run_bind, Sem.run_pure, Result.andThen_ok, List.map_toArray, List.map_cons, List.map_nil, Act.eval]; rw [show a.tmps.getD 16 undef = _ from t13]; kernel_rfl) (hK _ _ (Below.refl _ _) rfl))
    | 15, hop =>
      obtain rfl := Option.some.inj hop
      have gg : a.tmps.getD 7 undef = (.bool false) := hdep 4 _ 7 rfl rfl ⟨⟨4, .guard⟩, by simp, rfl, rfl⟩
      have t8 : a.tmps.getD 11 undef = (.int .i64 (n : Nat)) := hdep 8 _ 11 rfl rfl ⟨⟨8, .data⟩, by simp, rfl, rfl⟩
      have t14 : a.tmps.getD 17 undef = (.int .i64 (n : Nat)) := hdep 14 _ 17 rfl rfl ⟨⟨14, .data⟩, by simp, rfl, rfl⟩
      exact .want rfl rfl (by rw [hsz]; simp) gg (wp_val (w' := wa) (v := (.bool false)) (by simp only [execOp, Act.eval]; rw [show a.tmps.getD 11 undef = _ from t8, show a.tmps.getD 17 undef = _ from t14]; simp only [Sem.run_bind, eg_nq, nq_n n, Result.andThen_ok, Sem.run_pure]) (hK _ _ (Below.refl _ _) rfl))
    | 16, _ => exact absurd rfl hj
    | _ + 17, hop => exact absurd hop (by simp)
  · intro a wa hwa hdf hsz hsl hrr K hK
    have t4 : a.tmps.getD 7 undef = (.bool false) := hrr 4 _ 7 rfl (by decide) rfl
    have t15 : a.tmps.getD 18 undef = (.bool false) := hrr 15 _ 18 rfl (by decide) rfl
    refine .plain rfl (wp_val (w' := wa) (v := (.bool false)) (by simp only [execOp, Act.eval]; rw [show a.tmps.getD 7 undef = _ from t4, show a.tmps.getD 18 undef = _ from t15]; rfl) ?_)
    refine hK _ wa ?_
    have hact := act_puts hdf hsz hsl
    clear hrr hsl hdf hsz hK t15 t4
    simp only [List.filterMap_cons, List.filterMap_nil, List.foldl_cons, List.foldl_nil] at hact
    rw [hact]
    generalize a.tmps.getD 3 undef = y3
    generalize a.tmps.getD 4 undef = y4
    generalize a.tmps.getD 5 undef = y5
    generalize a.tmps.getD 6 undef = y6
    generalize a.tmps.getD 7 undef = y7
    generalize a.tmps.getD 8 undef = y8
    generalize a.tmps.getD 9 undef = y9
    generalize a.tmps.getD 10 undef = y10
    generalize a.tmps.getD 11 undef = y11
    generalize a.tmps.getD 12 undef = y12
    generalize a.tmps.getD 13 undef = y13
    generalize a.tmps.getD 14 undef = y14
    generalize a.tmps.getD 15 undef = y15
    generalize a.tmps.getD 16 undef = y16
    generalize a.tmps.getD 17 undef = y17
    generalize a.tmps.getD 18 undef = y18
    clear hact
    simp only [Act.put, List.setIfInBounds_toArray, List.set_cons_succ, List.set_cons_zero]
    have hfin := hide1 hwa
    clear hwa h4 h5 h6
    go_wp2
    go_ret
    exact ⟨rfl, hfin.out⟩
theorem va_by {F : Nat → Prop} {w : World} {c : List Value} (h : VA F w byT c) : ∃ v3 pa pc, c = [.int .i64 5, .int .i64 0, .string ⟨#[]⟩, v3, .slice pa 2 pc] ∧ ([.int .i64 5, .int .i64 0, .string ⟨#[]⟩, v3, .slice pa 2 pc] : List Value).all (·.oneCell') = true := by
  have h1 := h.one
  cases h with
  | mk r1 r2 e1 e2 _ _ _ =>
    obtain ⟨pa, pc, hp⟩ := r2.slc
    subst hp
    have e3 : _ = 2 := e2
    rw [e3] at h1 ⊢
    exact ⟨_, pa, pc, rfl, h1⟩
theorem Kg.bl {B g : Nat} {w0 w w' : World} (hb : Below B w0 w) (h : Kg g w w') (hg : B ≤ g) (hB : B ≤ w.heap.size) : Below B w0 w' := ⟨h.os.trans hb.os, h.tape.trans hb.tape, h.output.trans hb.output, Nat.le_trans hb.size h.size, fun k hk => (h.block k (by omega) (by omega)).trans (hb.block k hk)⟩
set_option maxHeartbeats 4000000 in
set_option maxRecDepth 100000 in
theorem sgof_a {F : Nat → Prop} {w : World} {c : List Value} (hv : VA F w byT c) : Calls Tryz.prog 59 #[.agg c.toArray] w fun e w' => e = .returned (.tuple #[.agg (sgC alc).toArray, .nilIface]) ∧ Below w.heap.size w w' := by
  obtain ⟨v3, pa, pc, rfl, h1c⟩ := va_by hv
  show Calls Tryz.prog 59 #[.agg #[.int .i64 5, .int .i64 0, .string ⟨#[]⟩, v3, .slice pa 2 pc]] w _
  obtain ⟨wb, hwb⟩ : ∃ wb, wb = (w.alloc (.cells #[.int .i64 5, .int .i64 0, .string ⟨#[]⟩, v3, .slice pa 2 pc] 55)).alloc (.cells Tryz.zeroCells32 32) := ⟨_, rfl⟩
  have bb : Below w.heap.size w wb := by rw [hwb]; exact (below_na _).alloc (by simp) _
  have hb : wb.heap[w.heap.size]? = some (.cells #[.int .i64 5, .int .i64 0, .string ⟨#[]⟩, v3, .slice pa 2 pc] 55 (0, 0)) := by rw [hwb]; exact (al_old (by simp)).trans (heap_na _ _ _)
  have hr : wb.heap[w.heap.size + 1]? = some (.cells Tryz.zeroCells32 32 (0, 0)) := by
    rw [hwb]
    have := heap_na (w.alloc (.cells #[.int .i64 5, .int .i64 0, .string ⟨#[]⟩, v3, .slice pa 2 pc] 55)) Tryz.zeroCells32 32
    rwa [show (w.alloc (.cells #[.int .i64 5, .int .i64 0, .string ⟨#[]⟩, v3, .slice pa 2 pc] 55)).heap.size = w.heap.size + 1 by simp] at this
  have r0 := hide1 (rng_of 0 [.int .i64 5, .int .i64 0, .string ⟨#[]⟩, v3, .slice pa 2 pc] hb rfl)
  have hsb : w.heap.size + 1 < wb.heap.size := (Array.getElem?_eq_some_iff.1 hr).1
  have ha := heap_na wb #[.int .i64 0, .int .i64 0, .string ⟨#[]⟩, .slice none 0 0, .slice none 0 0, .int .i64 0, .bool false] 96
  have ho1 := setRow_heap _ _ _ #[.int .i64 5, .int .i64 0, .string ⟨#[]⟩, v3, .slice pa 2 pc, .int .i64 0, .bool false] _ _ ha
  have honeO : (#[.int .i64 5, .int .i64 0, .string ⟨#[]⟩, v3, .slice pa 2 pc, .int .i64 0, .bool false] : Array Value).all (·.oneCell') = true := by simpa [Value.oneCell'] using h1c
  obtain ⟨w1', hw1⟩ : ∃ w1', w1' = (wb.alloc (.cells #[.int .i64 0, .int .i64 0, .string ⟨#[]⟩, .slice none 0 0, .slice none 0 0, .int .i64 0, .bool false] 96)).setRow wb.heap.size #[.int .i64 5, .int .i64 0, .string ⟨#[]⟩, v3, .slice pa 2 pc, .int .i64 0, .bool false] := ⟨_, rfl⟩
  have b1 : Below wb.heap.size wb w1' := by rw [hw1]; exact blw_own (below_na _) (Nat.le_refl _) _
  rw [← hw1] at ho1
  have hob1 : ObR w1' wb.heap.size [.int .i64 5, .int .i64 0, .string ⟨#[]⟩, v3, .slice pa 2 pc] 0 := ⟨rfl, ho1⟩
  have hgl1 : wb.heap.size < w1'.heap.size := (Array.getElem?_eq_some_iff.1 ho1).1
  have hv1 : VA (· < w.heap.size) w1' byT [.int .i64 5, .int .i64 0, .string ⟨#[]⟩, v3, .slice pa 2 pc] := VA.frame (c := [.int .i64 5, .int .i64 0, .string ⟨#[]⟩, v3, .slice pa 2 pc]) hv (fun k _ hs => ((b1.block k (Nat.lt_of_lt_of_le hs bb.size)).trans (bb.block k hs))) (fun _ _ h => h)
  have bw1 := bb.trans (b1.mono bb.size)
  have hr1 := (b1.block _ hsb).trans hr
  have hot := ot_sig 111 w1'
  replace bb := hide1 bb
  replace hob1 := hide1 hob1
  replace hv1 := hide1 hv1
  replace bw1 := hide1 bw1
  replace hr1 := hide1 hr1
  clear hv hb hr ho1 h1c b1
  go_enter Tryz.func59, Tryz.ntmps59
  go_upto_region 1 with fail
  rw [← hwb]
  clear hwb
  go_upto_region 2 with (first
    | (refine load_w rfl 55 (.tmp 1) rfl w.heap.size 0 rfl [.int .i64 5, .int .i64 0, .string ⟨#[]⟩, v3, .slice pa 2 pc] _ r0.out Tryz.underlying55 rfl (by kernel_rfl) ?_)
    | (refine wpList_store_row rfl 96 (.tmp 4) (.tmp 7) rfl wb.heap.size #[.int .i64 5, .int .i64 0, .string ⟨#[]⟩, v3, .slice pa 2 pc, .int .i64 0, .bool false] rfl (by kernel_rfl) 96 _ ha (by kernel_rfl) (by kernel_rfl) honeO ?_)
    | fail)
  rw [← hw1]
  clear hw1 ha honeO r0
  go_wp2_with fail
  refine hot.mono ?_
  rintro e w2 ⟨rfl, b2, hc2⟩
  have hob2 := hob1.out.later b2
  have hv2 : VA (· < w.heap.size) w2 byT [.int .i64 5, .int .i64 0, .string ⟨#[]⟩, v3, .slice pa 2 pc] := VA.frame (c := [.int .i64 5, .int .i64 0, .string ⟨#[]⟩, v3, .slice pa 2 pc]) hv1.out (fun k _ hs => b2.block k hs) (fun _ h _ => h)
  have hd2 := dec_sig (nm := [98, 121]) (x := tx [97, 108, 105, 99, 101]) (K := 157) (cap := #[.pointer (some ⟨w1'.heap.size, 0, none⟩)]) hob2 (m := 1) (by omega) hg_by hv2 rfl (fun _ _ => by kernel_rfl) (J := fun C => C = (sgC alc).toArray) (fun w' c hb hx => (oft_sig hx ((World.cell?_of_block (hb.block _ (cell_lt hc2))).trans hc2) (fun _ _ => by kernel_rfl) (C := (sgC alc).toArray) rfl (by kernel_rfl) (fun w' _ => sgo_a w')).mono fun e w' h => ⟨_, h.1, rfl, by kernel_rfl, rfl, h.2⟩)
  replace hd2 : Calls Tryz.prog 109 #[.pointer (some ⟨wb.heap.size, 0, none⟩), .string ⟨#[98, 121]⟩, .func (.func 157) #[] #[.pointer (some ⟨w1'.heap.size, 0, none⟩)]] w2 _ := hd2
  have hr2 := hide1 ((b2.block _ (by omega)).trans hr1.out)
  have bw2 := hide1 (bw1.out.trans (b2.mono bw1.out.size))
  have hg2 := hide1 (Nat.lt_of_lt_of_le hgl1 b2.size)
  clear hot b2 hc2 hob1 hob2 hv1 hr1 bw1
  go_wp2_with fail
  refine hd2.mono ?_
  rintro e w3 ⟨C, rfl, -, -, hC, hob3, k3⟩
  obtain rfl := hC
  have hzz := bw2.out.size
  have bz := bb.out.size
  have bw3 := Kg.bl bw2.out k3 (by omega) (by omega)
  have hv3 : VA (· < w.heap.size) w3 byT [.int .i64 5, .int .i64 0, .string ⟨#[]⟩, v3, .slice pa 2 pc] := VA.frame (c := [.int .i64 5, .int .i64 0, .string ⟨#[]⟩, v3, .slice pa 2 pc]) hv2 (fun k hk hs => k3.block k hs (by have h9 : k < w.heap.size := hk; omega)) (fun _ h _ => h)
  have hr3 := (k3.block _ (by have := hg2.out; omega) (by omega)).trans hr2.out
  have ha5 := heap_na w3 Tryz.zeroCells32 32
  have hx5 := setRow_heap _ _ _ (sgC alc).toArray _ _ ha5
  obtain ⟨w5, hw5⟩ : ∃ w5, w5 = (w3.alloc (.cells Tryz.zeroCells32 32)).setRow w3.heap.size (sgC alc).toArray := ⟨_, rfl⟩
  have b5 : Below w3.heap.size w3 w5 := by rw [hw5]; exact blw_own (below_na _) (Nat.le_refl _) _
  rw [← hw5] at hx5
  have s5 : w3.heap.size < w5.heap.size := (Array.getElem?_eq_some_iff.1 hx5).1
  have hot := ot_wide 114 w5
  have hob5 := hob3.later b5
  have hg3 : wb.heap.size < w3.heap.size := Nat.lt_of_lt_of_le hg2.out k3.size
  have hv5 : VA (· < w.heap.size) w5 byT [.int .i64 5, .int .i64 0, .string ⟨#[]⟩, v3, .slice pa 2 pc] := VA.frame (c := [.int .i64 5, .int .i64 0, .string ⟨#[]⟩, v3, .slice pa 2 pc]) hv3 (fun k _ hs => b5.block k hs) (fun _ h _ => h)
  have hr5 := hide1 ((b5.block _ (by omega)).trans hr3)
  have bw5 := hide1 (bw3.trans (b5.mono bw3.size))
  replace hob5 := hide1 hob5
  replace hv5 := hide1 hv5
  replace hx5 := hide1 hx5
  clear hd2 hob3 k3 bw3 hv3 hv2 hr3 b5 hr2 bw2
  go_upto_region 3 with (first | (refine wpList_store_row rfl 32 (.tmp 5) (.tmp 9) rfl w3.heap.size (sgC alc).toArray rfl rfl 32 _ ha5 (by kernel_rfl) (by kernel_rfl) (by kernel_rfl) ?_) | fail)
  rw [← hw5]
  clear hw5 ha5
  go_wp2_with fail
  refine hot.mono ?_
  rintro e w6 ⟨rfl, b6, hc6⟩
  have hob6 := hob5.out.later b6
  have hv6 : VA (· < w.heap.size) w6 byT [.int .i64 5, .int .i64 0, .string ⟨#[]⟩, v3, .slice pa 2 pc] := VA.frame (c := [.int .i64 5, .int .i64 0, .string ⟨#[]⟩, v3, .slice pa 2 pc]) hv5.out (fun k _ hs => b6.block k hs) (fun _ h _ => h)
  have hd6 := dec_wide (nm := [115, 105, 103]) (x := tx b64z) (K := 159) (cap := #[.pointer (some ⟨w5.heap.size, 0, none⟩)]) hob6 (m := 1) (by omega) hg_by hv6 rfl (fun _ _ => by kernel_rfl) (J := fun C => C = bA (zL 64)) (fun w' c hb hx => (oft_wide hx ((World.cell?_of_block (hb.block _ (cell_lt hc6))).trans hc6) (fun _ _ => by kernel_rfl) (C := bA (zL 64)) rfl (by kernel_rfl) (fun w' _ => wide_z w')).mono fun e w' h => ⟨_, h.1, rfl, by kernel_rfl, rfl, h.2⟩)
  replace hd6 : Calls Tryz.prog 112 #[.pointer (some ⟨wb.heap.size, 0, none⟩), .string ⟨#[115, 105, 103]⟩, .func (.func 159) #[] #[.pointer (some ⟨w5.heap.size, 0, none⟩)]] w6 _ := hd6
  have hr6 := hide1 ((b6.block _ (by omega)).trans hr5.out)
  have hx6 := hide1 ((b6.block _ s5).trans hx5.out)
  have bw6 := hide1 (bw5.out.trans (b6.mono bw5.out.size))
  have hs6 := hide1 (Nat.lt_of_lt_of_le s5 b6.size)
  clear hot b6 hc6 hob5 hob6 hv5 hr5 bw5 hx5
  go_wp2_with fail
  refine hd6.mono ?_
  rintro e w7 ⟨C, rfl, -, -, hC, hob7, k7⟩
  have e7 : C.toList = u8C (zL 64) := by rw [hC]; rfl
  have hz6 := bw6.out.size
  have bw7 := Kg.bl bw6.out k7 (by omega) (by omega)
  have hr7 := (k7.block _ (by have := hs6.out; omega) (by omega)).trans hr6.out
  have hx7 := (k7.block _ hs6.out (by omega)).trans hx6.out
  have ht : w7.there w3.heap.size 33 C.size := there_of hx7 (by rw [hC]; decide)
  have hsc : w7.setCells w3.heap.size 33 C.toList = w7.setRow w3.heap.size (sgC alc).toArray := by
    rw [setCells_row C.toList 33 w7 _ hx7 (by rw [e7]; decide), e7]
    rw [show setL (sgC alc).toArray 33 (u8C (zL 64)) = (sgC alc).toArray by kernel_rfl]
  obtain ⟨w8, hw8⟩ : ∃ w8, w8 = w7.setRow w3.heap.size (sgC alc).toArray := ⟨_, rfl⟩
  have hCs : (Tryz.prog.info? 30).map (·.size) = some C.size := by rw [hC]; kernel_rfl
  have hC1 : C.all (·.oneCell') = true := by rw [hC]; kernel_rfl
  have hx : Hid (Sg1 w8 w3.heap.size alc) := hide1 (.of (by rw [hw8]; exact setRow_heap _ _ _ _ _ _ hx7))
  have hob : Hid (ObR w8 wb.heap.size [.int .i64 5, .int .i64 0, .string ⟨#[]⟩, v3, .slice pa 2 pc] 2) := hide1 ⟨rfl, by rw [hw8]; exact (setRow_other _ _ _ _ (by omega)).trans hob7.2⟩
  have h2 := hide1 (show w8.heap[w.heap.size + 1]? = some (.cells Tryz.zeroCells32 32 (0, 0)) from (by rw [hw8]; exact (setRow_other _ _ _ _ (by omega)).trans hr7))
  have bw : Hid (Below w.heap.size w w8) := hide1 (by rw [hw8]; exact blw_own bw7 (by omega) _)
  clear hd6 hob7 k7 bw7 hr7 hr6 bw6 hx6 hx7 e7 hC
  go_upto_region 4 with (first | (refine wpList_store_mid rfl 30 (.tmp 12) (.tmp 11) rfl w3.heap.size 33 C rfl rfl ht hCs hC1 ?_) | fail)
  rw [show w7.setCells w3.heap.size 33 C.toList = w8 from hsc.trans hw8.symm]
  clear hsc hw8 ht hCs hC1
  refine wp_flowT 2 _ _ (by kernel_rfl) (by kernel_rfl) (by kernel_rfl) (by decide) (fun j v_ _ => v_ = ([(.agg (sgC alc).toArray), .nilIface, undef, undef] : List Value).getD j undef) (fun _ _ _ _ h _ => h) ?_ ?_
  · intro j op hop hj a wa hwa hsz hsl hdep K hK
    match j, hop, hj with
    | 0, hop, _ =>
      obtain rfl := Option.some.inj hop
      have p5 : a.tmps.getD 5 undef = (.pointer (some ⟨w3.heap.size, 0, none⟩)) := hsl 5 rfl
      exact .plain rfl (wp_val (w' := wa) (v := (.agg (sgC alc).toArray)) (by simp only [execOp, Act.eval]; rw [show a.tmps.getD 5 undef = _ from p5]; simp only [Sem.run_bind, ldSg (hx.out.below hwa), Result.andThen_ok, Sem.run_pure]) (hK _ _ (Below.refl _ _) rfl))
    | 1, hop, _ =>
      obtain rfl := Option.some.inj hop
      have p4 : a.tmps.getD 4 undef = (.pointer (some ⟨wb.heap.size, 0, none⟩)) := hsl 4 rfl
      refine .plain rfl (oper_any (J := fun r w' => r = .nilIface ∧ Below wa.heap.size wa w') 75 #[.tmp 4] _ rfl #[(.pointer (some ⟨wb.heap.size, 0, none⟩))] (by simp only [List.map_toArray, List.map_cons, List.map_nil, Act.eval]; rw [show a.tmps.getD 4 undef = _ from p4]) (fun w => by kernel_rfl) ((end_e (hob.out.later hwa)).mono fun e w' h => ⟨_, h.1, rfl, h.2⟩) ?_)
      rintro r w' ⟨rfl, hb⟩
      exact hK _ _ hb rfl
    | j + 2, _, hj => exact absurd hj (by omega)
  · intro a wa hwa hdf hsz hsl hrr
    have kv13 : a.tmps.getD 13 undef = (.agg (sgC alc).toArray) := hrr 0 _ 13 rfl (by decide) rfl
    have kv14 : a.tmps.getD 14 undef = .nilIface := hrr 1 _ 14 rfl (by decide) rfl
    have hact := act_puts hdf hsz hsl
    clear hrr hsl hdf hsz
    simp only [List.filterMap_cons, List.filterMap_nil, List.foldl_cons, List.foldl_nil] at hact
    rw [kv13, kv14] at hact
    rw [hact]
    generalize a.tmps.getD 3 undef = y3
    clear hact kv13 kv14 a
    simp only [Act.put, List.setIfInBounds_toArray, List.set_cons_succ, List.set_cons_zero]
    have hr2 := (hwa.block _ (Array.getElem?_eq_some_iff.1 h2.out).1).trans h2.out
    refine tlw_of rfl fun K3 hK3 => wp_store_row 32 (.tmp 2) (.tmp 13) rfl (w.heap.size + 1) (sgC alc).toArray rfl rfl 32 _ hr2 (by kernel_rfl) (by kernel_rfl) (by kernel_rfl) (hK3 _ _ ?_)
    simp only [Act.put]
    refine tlw_val (w' := wa.setRow (w.heap.size + 1) (sgC alc).toArray) (v := .nilIface) rfl (by simp only [execOp, Act.eval]; rfl) ?_
    simp only [Act.put, List.setIfInBounds_toArray, List.set_cons_succ, List.set_cons_zero]
    refine tlwE_end ?_
    have hz := hide1 (setRow_heap wa (w.heap.size + 1) _ (sgC alc).toArray _ _ hr2)
    have hfin := hide1 (blw_own (bw.out.trans (hwa.mono bw.out.size)) (show w.heap.size ≤ w.heap.size + 1 by omega) (sgC alc).toArray)
    clear hr2 hwa
    go_wp2
    exact bodyPost_ret (results_g2 rfl _ rfl (lv_S rfl hz.out)) rfl ⟨rfl, hfin.out⟩
theorem app_1S {W1 : World} {B nb : Nat} {c : Array Value} (tr : TypeId) (hB : B ≤ W1.heap.size) (h5 : c.size = 97) (h1 : c.all (·.oneCell') = true) (hnb : W1.heap[nb]? = some (.cells c 32 (0, 0))) :
    ∃ v' W', (Builtin.append_ #[43, 43] tr #[.slice none 0 0, .slice (some ⟨nb, 0, none⟩) 1 1]).run Tryz.prog W1 = .ok v' W' ∧ W1.grownBy W' none ∧ W'.ownsRow B 32 97 v' 1 c.toList := by
  obtain ⟨i0, hi, hz0, hz1, hz2⟩ := info_parts (show (Tryz.prog.info? 32).map (fun i => (i.zero, i.size, i.bytes)) = some (some (.agg Tryz.zeroCells32), 97, 112) by kernel_rfl)
  have hnews : ∀ j u, c.toList[j]? = some u → W1.cell? ((⟨nb, 0, none⟩ : Addr).add j) = some u := by
    intro j u hj
    rw [Addr.add_lit, Nat.zero_add]
    simp only [World.cell?, hnb]
    simpa using hj
  obtain ⟨v', W', hr, g4, g5, -, g6⟩ := run_append_own_at (P := Tryz.prog) W1 B 43 tr 32 i0 _ 97 112 Tryz.underlying43 hi hz0 hz1 hz2 (by kernel_rfl) (by decide) (.slice none 0 0) 0 [] ⟨rfl, .inl ⟨rfl, rfl⟩⟩ ⟨nb, 0, none⟩ 1 1 c.toList (by simpa using h5) hnews
    (fun u hu => (Array.all_eq_true_iff_forall_mem.1 h1) u (by simpa using hu)) (by unfold maxLen; omega) (by omega) hB
  exact ⟨v', W', hr, g5, by simpa using g4⟩
theorem sg_own {w : World} {B : Nat} {v : Value} {s : List Int} (h : w.ownsRow B 32 97 v 1 (sgC s)) : ∃ g c, v = .slice (some ⟨g, 0, none⟩) 1 c ∧ B ≤ g ∧ Sg1 w g s := by
  obtain ⟨hl, ⟨_, h2⟩ | ⟨g, cap, cur, rfl, hB, hg, h3, _, h5, h6⟩⟩ := h
  · cases h2
  · refine ⟨g, cap, rfl, hB, fun j v hj => ?_⟩
    have hjl := (List.getElem?_eq_some_iff.1 hj).1
    simp only [World.cell?, hg]
    rw [Nat.zero_add, ← Array.getElem?_toList]
    have e := congrArg (·[j]?) h6
    simp only [List.getElem?_take] at e
    rw [if_pos (by omega)] at e
    show cur.toList[j]? = some v
    rw [e]; exact hj
section
variable {ops : Array Oper} {rest : List Oper} {oo : Oper} {a : Act} {Q : Exit → Act → World → Prop} {w w' : World}
theorem wpList_apS (hgd : oo.guard = none) (s x : Operand) (ho : oo.op = .call { callee := .builtin .append, args := #[s, x], argTypes := #[43, 43] }) {v0 u v' : Value} (hs : a.eval s = v0) (hx : a.eval x = u)
    (hr : (Builtin.append_ #[43, 43] oo.type #[v0, u]).run Tryz.prog w = .ok v' w') (hk : wpList Tryz.prog ops Q rest (a.put oo.dst v') w') : wpList Tryz.prog ops Q (oo :: rest) a w := by
  refine wpList_plain hgd fun K hK => ?_
  unfold Oper.wp execOp
  simp only [ho, resolve, invoke, builtin, Sem.run_bind, Sem.run_pure, Result.andThen_ok, List.map_toArray, List.map_cons, List.map_nil, hs, hx, hr]
  exact hK _ _ hk
end
theorem va_sgt {F : Nat → Prop} {w : World} {c : List Value} (h : VA F w sgT c) : ∃ (b o lc : Nat) (v4 : Value) (x0 x1 x2 x3 x4 : Value), c = [.int .i64 4, .int .i64 0, .string ⟨#[]⟩, .slice (some ⟨b, o, none⟩) 1 lc, v4] ∧ b < w.heap.size ∧ w.rangeAt b o [x0, x1, x2, x3, x4] ∧ VA F w byT [x0, x1, x2, x3, x4] := by
  cases h with
  | @mk k i s l p sl sp cl cp r1 r2 e1 e2 hl _ _ =>
    obtain ⟨c1, rfl⟩ : ∃ c1, cl = [c1] := List.length_eq_one_iff.1 e1
    have hv := hl 0 _ _ rfl rfl
    obtain ⟨b, o, cap, hve, -, hbl, hr⟩ := r1.at (i := 0) rfl
    subst hve
    obtain ⟨x0, x1, x2, x3, x4, rfl⟩ := five_l hv.len
    exact ⟨b, o, cap, sp, x0, x1, x2, x3, x4, rfl, hbl, fun j v hj => by have := hr j v hj; simpa using this, hv⟩
set_option maxHeartbeats 4000000 in
set_option maxRecDepth 100000 in
theorem ofl_1 {F : Nat → Prop} {w : World} {c : List Value} {q2 q3 : Nat} (hv : VA F w sgT c) (hq2 : w.cell? ⟨q2, 0, none⟩ = some (.int .i64 8)) (hq3 : w.cell? ⟨q3, 0, none⟩ = some (.func (.func 59) #[] #[])) :
    Calls Tryz.prog 108 (#[.agg c.toArray] ++ #[.pointer (some ⟨q2, 0, none⟩), .pointer (some ⟨q3, 0, none⟩)]) w fun e w' => ∃ g cg, e = .returned (.tuple #[.slice (some ⟨g, 0, none⟩) 1 cg, .nilIface]) ∧ Sg1 w' g alc ∧ w.heap.size ≤ g ∧ Below w.heap.size w w' := by
  obtain ⟨b, o, lc, v4, x0, x1, x2, x3, x4, rfl, hbl, hrg, hvb⟩ := va_sgt hv
  have hvo := hv.one
  have hxo := hvb.one
  show Calls Tryz.prog 108 #[.agg #[.int .i64 4, .int .i64 0, .string ⟨#[]⟩, .slice (some ⟨b, o, none⟩) 1 lc, v4], .pointer (some ⟨q2, 0, none⟩), .pointer (some ⟨q3, 0, none⟩)] w _
  obtain ⟨wb, hwb⟩ : ∃ wb, wb = w.alloc (.cells #[.int .i64 4, .int .i64 0, .string ⟨#[]⟩, .slice (some ⟨b, o, none⟩) 1 lc, v4] 55) := ⟨_, rfl⟩
  have bb : Below w.heap.size w wb := by rw [hwb]; exact below_na _
  have hb : wb.heap[w.heap.size]? = some (.cells #[.int .i64 4, .int .i64 0, .string ⟨#[]⟩, .slice (some ⟨b, o, none⟩) 1 lc, v4] 55 (0, 0)) := by rw [hwb]; exact heap_na _ _ _
  have d2 := (World.cell?_of_block (bb.block q2 (cell_lt hq2))).trans hq2
  have d3 := (World.cell?_of_block (bb.block q3 (cell_lt hq3))).trans hq3
  have c0 : wb.cell? ⟨w.heap.size, 0, none⟩ = some (.int .i64 4) := cell_of 0 hb rfl
  have c3 : wb.cell? ⟨w.heap.size, 3, none⟩ = some (.slice (some ⟨b, o, none⟩) 1 lc) := cell_of 3 hb rfl
  have hr0 : Hid (wb.rangeAt b o [x0, x1, x2, x3, x4]) := hide1 fun j v hj => (World.cell?_of_block (bb.block b hbl)).trans (hrg j v hj)
  have ha := heap_na wb #[.int .i64 0, .int .i64 0, .string ⟨#[]⟩, .slice none 0 0, .slice none 0 0] 55
  have hz8 := setRow_heap _ _ _ #[x0, x1, x2, x3, x4] _ _ ha
  obtain ⟨w2, hw2⟩ : ∃ w2, w2 = (wb.alloc (.cells #[.int .i64 0, .int .i64 0, .string ⟨#[]⟩, .slice none 0 0, .slice none 0 0] 55)).setRow wb.heap.size #[x0, x1, x2, x3, x4] := ⟨_, rfl⟩
  have b2 : Below wb.heap.size wb w2 := by rw [hw2]; exact blw_own (below_na _) (Nat.le_refl _) _
  rw [← hw2] at hz8
  have d32 := (World.cell?_of_block (b2.block q3 (cell_lt d3))).trans d3
  have hr8 := hide1 (rng_of 0 [x0, x1, x2, x3, x4] hz8 rfl)
  have B2 := bb.trans (b2.mono bb.size)
  have hso := sgof_a (VA.frame (c := [x0, x1, x2, x3, x4]) (w' := w2) (G := fun _ => True) hvb (fun k _ hs => B2.block k hs) (fun _ _ _ => trivial))
  replace hso : Calls Tryz.prog 59 #[.agg #[x0, x1, x2, x3, x4]] w2 _ := hso
  have he : ∀ args w, (callFunc 59 args).run Tryz.prog w = .ok (.enter 59 args) w := fun _ _ => by kernel_rfl
  replace hxo : (#[x0, x1, x2, x3, x4] : Array Value).all (·.oneCell') = true := by simpa using hxo
  have hv4 : v4.oneCell' = true := by simpa using List.all_eq_true.1 hvo v4 (by simp)
  replace B2 := hide1 B2
  clear hv hvb hrg hb bb b2 hz8 hbl hvo
  go_enter Tryz.func108, Tryz.ntmps108
  go_upto_region 1 with fail
  rw [← hwb]
  clear hwb
  go_wp2_with fail
  refine wp_loop_rounds 2 ?_
  rw [rounds_succ]
  go_upto_region 7 with (first
    | (refine load_w rfl 55 (.tmp 33) rfl b o rfl [x0, x1, x2, x3, x4] _ hr0.out Tryz.underlying55 rfl (by kernel_rfl) ?_)
    | (refine wpList_store_row rfl 55 (.tmp 8) (.tmp 34) rfl wb.heap.size #[x0, x1, x2, x3, x4] rfl rfl 55 _ ha (by kernel_rfl) rfl hxo ?_)
    | fail)
  rw [← hw2]
  clear hw2 ha
  go_wp2_with (first | (refine load_w rfl 55 (.tmp 8) rfl wb.heap.size 0 rfl [x0, x1, x2, x3, x4] _ hr8.out Tryz.underlying55 rfl (by kernel_rfl) ?_) | fail)
  refine hso.mono ?_
  rintro e w3 ⟨rfl, b3⟩
  have B3 := B2.out.trans (b3.mono B2.out.size)
  have ha9 := heap_na w3 Tryz.zeroCells32 32
  have hz9 := setRow_heap _ _ _ (sgC alc).toArray _ _ ha9
  obtain ⟨w4, hw4⟩ : ∃ w4, w4 = (w3.alloc (.cells Tryz.zeroCells32 32)).setRow w3.heap.size (sgC alc).toArray := ⟨_, rfl⟩
  have b4 : Below w3.heap.size w3 w4 := by rw [hw4]; exact blw_own (below_na _) (Nat.le_refl _) _
  rw [← hw4] at hz9
  have hr9 := hide1 (Sg1.of (s := alc) hz9)
  have B4 := B3.trans (b4.mono B3.size)
  obtain ⟨w5, hw5⟩ : ∃ w5, w5 = w4.alloc (.cells (sgC alc).toArray 32) := ⟨_, rfl⟩
  have B5 : Below w.heap.size w w5 := by rw [hw5]; exact B4.alloc B4.size _
  have hn5 : w5.heap[w4.heap.size]? = some (.cells (sgC alc).toArray 32 (0, 0)) := by rw [hw5]; exact heap_na _ _ _
  obtain ⟨v', W', hr, hg', ho'⟩ := app_1S (B := w.heap.size) 43 B5.size rfl (by kernel_rfl) hn5
  obtain ⟨g', cg, rfl, hgB, hsg⟩ := sg_own (s := alc) (by simpa using ho')
  have B6 := hide1 (B5.trans (below_grE hg' (fun r hr => by cases hr) B5.size))
  replace hsg := hide1 hsg
  clear hso b3 B2 B3 b4 B4 B5 hz9 hn5 hg' ho' hr8 hr0 he
  go_upto_region 8 with (first | (refine wpList_store_row rfl 32 (.tmp 9) (.tmp 39) rfl w3.heap.size (sgC alc).toArray rfl rfl 32 _ ha9 (by kernel_rfl) (by kernel_rfl) (by kernel_rfl) ?_) | fail)
  rw [← hw4]
  clear hw4 ha9
  go_wp2_with (first
    | (refine load_w rfl 32 (.tmp 9) rfl w3.heap.size 0 rfl (sgC alc) _ hr9.out Tryz.underlying32 rfl (by kernel_rfl) ?_)
    | (refine wpList_bslE rfl 43 1 _ rfl (x := .slice (some ⟨w4.heap.size, 0, none⟩) 1 1) (w' := w4.alloc (.cells (sgC alc).toArray 32)) (by kernel_rfl) ?_; rw [← hw5])
    | (refine wpList_apS rfl (.tmp 44) (.tmp 46) rfl rfl rfl hr ?_; refine stopAtE ?_)
    | fail)
  refine hide1 ?_
  clear hr hw5 hr9
  go_wp2
  rw [rounds_succ]
  go_wp2
  go_ret2
  exact ⟨g', cg, rfl, hsg.out, hgB, B6.out⟩
set_option maxRecDepth 100000 in
theorem ot_list (K : Nat) (w : World) : Calls Tryz.prog 58 #[.int .i64 8, .func (.func K) #[] #[]] w fun e w' => e = .returned (.func (.func 108) #[] #[.pointer (some ⟨w.heap.size, 0, none⟩), .pointer (some ⟨w.heap.size + 1, 0, none⟩)]) ∧ Below w.heap.size w w' ∧ w'.cell? ⟨w.heap.size, 0, none⟩ = some (.int .i64 8) ∧ w'.cell? ⟨w.heap.size + 1, 0, none⟩ = some (.func (.func K) #[] #[]) := by
  obtain ⟨wb, hwb⟩ : ∃ wb, wb = (w.alloc (.cells #[.int .i64 8] 3)).alloc (.cells #[.func (.func K) #[] #[]] 105) := ⟨_, rfl⟩
  have bb : Below w.heap.size w wb := by rw [hwb]; exact (below_na _).alloc (by simp) _
  have hc : wb.cell? ⟨w.heap.size, 0, none⟩ = some (.int .i64 8) := cell_of 0 (by rw [hwb]; exact (al_old (by simp)).trans (heap_na _ _ _)) rfl
  have hc2 : wb.cell? ⟨w.heap.size + 1, 0, none⟩ = some (.func (.func K) #[] #[]) := cell_of 0 (by
    rw [hwb]
    have := heap_na (w.alloc (.cells #[.int .i64 8] 3)) #[.func (.func K) #[] #[]] 105
    rwa [show (w.alloc (.cells #[.int .i64 8] 3)).heap.size = w.heap.size + 1 by simp] at this) rfl
  replace bb := hide1 bb
  replace hc := hide1 hc
  replace hc2 := hide1 hc2
  go_enter Tryz.func58, Tryz.ntmps58
  go_upto_region 1 with fail
  rw [← hwb]
  clear hwb
  go_wp2
  go_ret
  exact ⟨rfl, bb.out, hc.out, hc2.out⟩
theorem va_ar {F : Nat → Prop} {w : World} {c : List Value} (h : VA F w arT c) : ∃ v3 pa pc, c = [.int .i64 5, .int .i64 0, .string ⟨#[]⟩, v3, .slice pa 3 pc] ∧ ([.int .i64 5, .int .i64 0, .string ⟨#[]⟩, v3, .slice pa 3 pc] : List Value).all (·.oneCell') = true := by
  have h1 := h.one
  cases h with
  | mk r1 r2 e1 e2 _ _ _ =>
    obtain ⟨pa, pc, hp⟩ := r2.slc
    subst hp
    have e3 : _ = 3 := e2
    rw [e3] at h1 ⊢
    exact ⟨_, pa, pc, rfl, h1⟩
set_option maxHeartbeats 8000000 in
set_option maxRecDepth 100000 in
theorem eof_a {F : Nat → Prop} {w : World} {c : List Value} (hv : VA F w arT c) : Calls Tryz.prog 35 #[.agg c.toArray] w fun e w' => ∃ g cg, e = .returned (.tuple #[.agg (entA 1 0 [] (.slice (some ⟨g, 0, none⟩) 1 cg)), .nilIface]) ∧ Sg1 w' g alc ∧ w.heap.size ≤ g ∧ Below w.heap.size w w' := by
  obtain ⟨v3, pa, pc, rfl, h1c⟩ := va_ar hv
  show Calls Tryz.prog 35 #[.agg #[.int .i64 5, .int .i64 0, .string ⟨#[]⟩, v3, .slice pa 3 pc]] w _
  obtain ⟨wb, hwb⟩ : ∃ wb, wb = (w.alloc (.cells #[.int .i64 5, .int .i64 0, .string ⟨#[]⟩, v3, .slice pa 3 pc] 55)).alloc (.cells Tryz.zeroCells45 45) := ⟨_, rfl⟩
  have bb : Below w.heap.size w wb := by rw [hwb]; exact (below_na _).alloc (by simp) _
  have hb : wb.heap[w.heap.size]? = some (.cells #[.int .i64 5, .int .i64 0, .string ⟨#[]⟩, v3, .slice pa 3 pc] 55 (0, 0)) := by rw [hwb]; exact (al_old (by simp)).trans (heap_na _ _ _)
  have hr : wb.heap[w.heap.size + 1]? = some (.cells Tryz.zeroCells45 45 (0, 0)) := by
    rw [hwb]
    have := heap_na (w.alloc (.cells #[.int .i64 5, .int .i64 0, .string ⟨#[]⟩, v3, .slice pa 3 pc] 55)) Tryz.zeroCells45 45
    rwa [show (w.alloc (.cells #[.int .i64 5, .int .i64 0, .string ⟨#[]⟩, v3, .slice pa 3 pc] 55)).heap.size = w.heap.size + 1 by simp] at this
  have r0 := hide1 (rng_of 0 [.int .i64 5, .int .i64 0, .string ⟨#[]⟩, v3, .slice pa 3 pc] hb rfl)
  have hsb0 : w.heap.size + 1 < wb.heap.size := (Array.getElem?_eq_some_iff.1 hr).1
  have ha := heap_na wb #[.int .i64 0, .int .i64 0, .string ⟨#[]⟩, .slice none 0 0, .slice none 0 0, .int .i64 0, .bool false] 96
  have ho1 := setRow_heap _ _ _ #[.int .i64 5, .int .i64 0, .string ⟨#[]⟩, v3, .slice pa 3 pc, .int .i64 0, .bool false] _ _ ha
  have honeO : (#[.int .i64 5, .int .i64 0, .string ⟨#[]⟩, v3, .slice pa 3 pc, .int .i64 0, .bool false] : Array Value).all (·.oneCell') = true := by simpa [Value.oneCell'] using h1c
  obtain ⟨w1, hw1⟩ : ∃ w1, w1 = (wb.alloc (.cells #[.int .i64 0, .int .i64 0, .string ⟨#[]⟩, .slice none 0 0, .slice none 0 0, .int .i64 0, .bool false] 96)).setRow wb.heap.size #[.int .i64 5, .int .i64 0, .string ⟨#[]⟩, v3, .slice pa 3 pc, .int .i64 0, .bool false] := ⟨_, rfl⟩
  have b1 : Below wb.heap.size wb w1 := by rw [hw1]; exact blw_own (below_na _) (Nat.le_refl _) _
  rw [← hw1] at ho1
  have hob1 : ObR w1 wb.heap.size [.int .i64 5, .int .i64 0, .string ⟨#[]⟩, v3, .slice pa 3 pc] 0 := ⟨rfl, ho1⟩
  have hgl1 : wb.heap.size < w1.heap.size := (Array.getElem?_eq_some_iff.1 ho1).1
  have hv1 : VA (· < w.heap.size) w1 arT [.int .i64 5, .int .i64 0, .string ⟨#[]⟩, v3, .slice pa 3 pc] := VA.frame (c := [.int .i64 5, .int .i64 0, .string ⟨#[]⟩, v3, .slice pa 3 pc]) hv (fun k _ hs => ((b1.block k (Nat.lt_of_lt_of_le hs bb.size)).trans (bb.block k hs))) (fun _ _ h => h)
  have bw1 := bb.trans (b1.mono bb.size)
  have hr1 := (b1.block _ hsb0).trans hr
  have hot := ot_int 56 w1
  replace bb := hide1 bb
  replace hob1 := hide1 hob1
  replace hv1 := hide1 hv1
  replace bw1 := hide1 bw1
  replace hr1 := hide1 hr1
  clear hv hb hr ho1 h1c b1
  go_enter Tryz.func35, Tryz.ntmps35
  go_upto_region 1 with fail
  rw [← hwb]
  clear hwb
  go_upto_region 2 with (first
    | (refine load_w rfl 55 (.tmp 1) rfl w.heap.size 0 rfl [.int .i64 5, .int .i64 0, .string ⟨#[]⟩, v3, .slice pa 3 pc] _ r0.out Tryz.underlying55 rfl (by kernel_rfl) ?_)
    | (refine wpList_store_row rfl 96 (.tmp 4) (.tmp 7) rfl wb.heap.size #[.int .i64 5, .int .i64 0, .string ⟨#[]⟩, v3, .slice pa 3 pc, .int .i64 0, .bool false] rfl (by kernel_rfl) 96 _ ha (by kernel_rfl) (by kernel_rfl) honeO ?_)
    | fail)
  rw [← hw1]
  clear hw1 ha honeO r0
  go_wp2_with fail
  refine hot.mono ?_
  rintro e w2 ⟨rfl, b2, hc2⟩
  have hob2 := hob1.out.later b2
  have hv2 : VA (· < w.heap.size) w2 arT [.int .i64 5, .int .i64 0, .string ⟨#[]⟩, v3, .slice pa 3 pc] := VA.frame (c := [.int .i64 5, .int .i64 0, .string ⟨#[]⟩, v3, .slice pa 3 pc]) hv1.out (fun k _ hs => b2.block k hs) (fun _ h _ => h)
  have hd2 := dec_int (nm := [107, 105, 110, 100]) (x := tx [97, 114, 116, 105, 102, 97, 99, 116]) (K := 106) (cap := #[.pointer (some ⟨w1.heap.size, 0, none⟩)]) hob2 (m := 3) (by omega) hg_ar hv2 rfl (fun _ _ => by kernel_rfl) (J := fun y _ => y = .int .i64 1) (fun w' c hb hx => (oft_int hx ((World.cell?_of_block (hb.block _ (cell_lt hc2))).trans hc2) (fun _ _ => by kernel_rfl) (y := .int .i64 1) (fun w' _ => kind_1 w')).mono fun e w' h => ⟨_, h.1, rfl, h.2⟩) (fun _ _ _ h _ => h)
  replace hd2 : Calls Tryz.prog 54 #[.pointer (some ⟨wb.heap.size, 0, none⟩), .string ⟨#[107, 105, 110, 100]⟩, .func (.func 106) #[] #[.pointer (some ⟨w1.heap.size, 0, none⟩)]] w2 _ := hd2
  have hr2 := hide1 ((b2.block _ (by omega)).trans hr1.out)
  have bw2 := hide1 (bw1.out.trans (b2.mono bw1.out.size))
  have hg2 := hide1 (Nat.lt_of_lt_of_le hgl1 b2.size)
  clear hot b2 hc2 hob1 hob2 hv1 hr1 bw1
  go_wp2_with fail
  refine hd2.mono ?_
  rintro e w3 ⟨y, rfl, rfl, hob3, k3⟩
  have hzz := bw2.out.size
  have bz := bb.out.size
  have bw3 := Kg.bl bw2.out k3 (by omega) (by omega)
  have hv3 : VA (· < w.heap.size) w3 arT [.int .i64 5, .int .i64 0, .string ⟨#[]⟩, v3, .slice pa 3 pc] := VA.frame (c := [.int .i64 5, .int .i64 0, .string ⟨#[]⟩, v3, .slice pa 3 pc]) hv2 (fun k hk hs => k3.block k hs (by have h9 : k < w.heap.size := hk; omega)) (fun _ h _ => h)
  have hr3 := (k3.block _ (by have := hg2.out; omega) (by omega)).trans hr2.out
  have hg3 : wb.heap.size < w3.heap.size := Nat.lt_of_lt_of_le hg2.out k3.size
  have hot := ot_list 59 w3
  replace hob3 := hide1 hob3
  replace hv3 := hide1 hv3
  replace hr3 := hide1 hr3
  replace bw3 := hide1 bw3
  clear hd2 k3 hr2 bw2 hv2
  go_wp2_with fail
  refine hot.mono ?_
  rintro e w4 ⟨rfl, b4, hc4, hc5⟩
  have hob4 := hob3.out.later b4
  have hv4 : VA (· < w.heap.size) w4 arT [.int .i64 5, .int .i64 0, .string ⟨#[]⟩, v3, .slice pa 3 pc] := VA.frame (c := [.int .i64 5, .int .i64 0, .string ⟨#[]⟩, v3, .slice pa 3 pc]) hv3.out (fun k _ hs => b4.block k hs) (fun _ h _ => h)
  have hg4 := Nat.lt_of_lt_of_le hg3 b4.size
  have hd4 := dec_sgs (nm := [115, 105, 103, 115]) (x := sgT) (K := 108) (cap := #[.pointer (some ⟨w3.heap.size, 0, none⟩), .pointer (some ⟨w3.heap.size + 1, 0, none⟩)]) hob4 (m := 3) (by omega) hg_ar hv4 rfl (fun _ _ => by kernel_rfl) (J := fun y u => ∃ g cg, y = .slice (some ⟨g, 0, none⟩) 1 cg ∧ Sg1 u g alc ∧ wb.heap.size < g)
    (fun w' c hb hx => (ofl_1 hx ((World.cell?_of_block (hb.block _ (cell_lt hc4))).trans hc4) ((World.cell?_of_block (hb.block _ (cell_lt hc5))).trans hc5)).mono fun e w' h => by obtain ⟨g, cg, rfl, h1, h2, h3⟩ := h; exact ⟨_, rfl, ⟨g, cg, rfl, h1, Nat.lt_of_lt_of_le (Nat.lt_of_lt_of_le hg4 hb.size) h2⟩, h3⟩)
    (fun y u u' h k => by obtain ⟨g, cg, e, h1, h2⟩ := h; exact ⟨g, cg, e, h1.keep (k.block g h1.lt (by omega)), h2⟩)
  replace hd4 : Calls Tryz.prog 57 #[.pointer (some ⟨wb.heap.size, 0, none⟩), .string ⟨#[115, 105, 103, 115]⟩, .func (.func 108) #[] #[.pointer (some ⟨w3.heap.size, 0, none⟩), .pointer (some ⟨w3.heap.size + 1, 0, none⟩)]] w4 _ := hd4
  have hr4 := hide1 ((b4.block _ (by omega)).trans hr3.out)
  have bw4 := hide1 (bw3.out.trans (b4.mono bw3.out.size))
  clear hot b4 hc4 hc5 hob3 hob4 hv3 hr3 bw3
  go_wp2_with fail
  refine hd4.mono ?_
  rintro e w5 ⟨y, rfl, ⟨gs, cg, rfl, hsg5, hgs5⟩, hob5, k5⟩
  have bw5 := Kg.bl bw4.out k5 (by omega) (by have := bw4.out.size; omega)
  have hv5 : VA (· < w.heap.size) w5 arT [.int .i64 5, .int .i64 0, .string ⟨#[]⟩, v3, .slice pa 3 pc] := VA.frame (c := [.int .i64 5, .int .i64 0, .string ⟨#[]⟩, v3, .slice pa 3 pc]) hv4 (fun k hk hs => k5.block k hs (by have h9 : k < w.heap.size := hk; omega)) (fun _ h _ => h)
  have hr5 := (k5.block _ (by omega) (by omega)).trans hr4.out
  have ha6 := heap_na w5 Tryz.zeroCells45 45
  have hx6 := setRow_heap _ _ _ (entA 1 0 [] (.slice (some ⟨gs, 0, none⟩) 1 cg)) _ _ ha6
  have hone : ((entA 1 0 [] (.slice (some ⟨gs, 0, none⟩) 1 cg))).all (·.oneCell') = true := by kernel_rfl
  obtain ⟨w6, hw6⟩ : ∃ w6, w6 = (w5.alloc (.cells Tryz.zeroCells45 45)).setRow w5.heap.size (entA 1 0 [] (.slice (some ⟨gs, 0, none⟩) 1 cg)) := ⟨_, rfl⟩
  have b6 : Below w5.heap.size w5 w6 := by rw [hw6]; exact blw_own (below_na _) (Nat.le_refl _) _
  rw [← hw6] at hx6
  have hl6 : w5.heap.size < w6.heap.size := (Array.getElem?_eq_some_iff.1 hx6).1
  have c6 : w6.cell? ⟨w5.heap.size, 0, none⟩ = some (.int .i64 1) := cell_of 0 hx6 rfl
  have hsg6 := hide1 (hsg5.below b6)
  have hob6 := hide1 (hob5.later b6)
  have hg5 := Nat.lt_of_lt_of_le hg4 k5.size
  have hv6 : Hid (VA (· < w.heap.size) w6 arT [.int .i64 5, .int .i64 0, .string ⟨#[]⟩, v3, .slice pa 3 pc]) := hide1 (VA.frame (c := [.int .i64 5, .int .i64 0, .string ⟨#[]⟩, v3, .slice pa 3 pc]) hv5 (fun k _ hs => b6.block k hs) (fun _ h _ => h))
  have hr6 := hide1 ((b6.block _ (by omega)).trans hr5)
  have bw6 := hide1 (bw5.trans (b6.mono bw5.size))
  have hsg0 := hide1 hsg5.lt
  replace hx6 := hide1 hx6
  have hot := ot_sum 62 w6
  clear hd4 hsg5 hob5 k5 bw5 hv5 hr5 b6 hr4 bw4 hv4
  go_upto_region 3 with (first
    | (refine wpList_bldE rfl 45 _ rfl (x := .agg (entA 1 0 [] (.slice (some ⟨gs, 0, none⟩) 1 cg))) (w' := w5) (by kernel_rfl) ?_)
    | (refine wpList_store_row rfl 45 (.tmp 5) (.tmp 12) rfl w5.heap.size (entA 1 0 [] (.slice (some ⟨gs, 0, none⟩) 1 cg)) rfl rfl 45 _ ha6 (by kernel_rfl) (by kernel_rfl) hone ?_)
    | fail)
  rw [← hw6]
  clear hw6 ha6
  go_wp2_with fail
  refine hot.mono ?_
  rintro e w7 ⟨rfl, b7, hc7⟩
  have hob7 := hob6.out.later b7
  have hv7 : VA (· < w.heap.size) w7 arT [.int .i64 5, .int .i64 0, .string ⟨#[]⟩, v3, .slice pa 3 pc] := VA.frame (c := [.int .i64 5, .int .i64 0, .string ⟨#[]⟩, v3, .slice pa 3 pc]) hv6.out (fun k _ hs => b7.block k hs) (fun _ h _ => h)
  have hd7 := dec_sum (nm := [100, 105, 103, 101, 115, 116]) (x := tx hexz) (K := 115) (cap := #[.pointer (some ⟨w6.heap.size, 0, none⟩)]) hob7 (m := 3) (by omega) hg_ar hv7 rfl (fun _ _ => by kernel_rfl) (J := fun C => C = bA (zL 32)) (fun w' c hb hx => (oft_sum hx ((World.cell?_of_block (hb.block _ (cell_lt hc7))).trans hc7) (fun _ _ => by kernel_rfl) (C := bA (zL 32)) rfl (by kernel_rfl) (fun w' _ => sum_z w')).mono fun e w' h => ⟨_, h.1, rfl, by kernel_rfl, rfl, h.2⟩)
  replace hd7 : Calls Tryz.prog 60 #[.pointer (some ⟨wb.heap.size, 0, none⟩), .string ⟨#[100, 105, 103, 101, 115, 116]⟩, .func (.func 115) #[] #[.pointer (some ⟨w6.heap.size, 0, none⟩)]] w7 _ := hd7
  have hr7 := hide1 ((b7.block _ (by omega)).trans hr6.out)
  have hx7 := hide1 ((b7.block _ hl6).trans hx6.out)
  have bw7 := hide1 (bw6.out.trans (b7.mono bw6.out.size))
  have hsg7 := hide1 (hsg6.out.below b7)
  have hl7 := hide1 (Nat.lt_of_lt_of_le hl6 b7.size)
  clear hot b7 hc7 hob6 hob7 hv6 hr6 bw6 hx6 hsg6
  go_wp2_with fail
  refine hd7.mono ?_
  rintro e w8 ⟨C, rfl, -, -, hC, hob8, k8⟩
  have e7 : C.toList = u8C (zL 32) := by rw [hC]; rfl
  have hl7' := hl7.out
  have hzz2 := bw7.out.size
  have bw8 := Kg.bl bw7.out k8 (by omega) (by omega)
  have hr8 := (k8.block _ (by omega) (by omega)).trans hr7.out
  have hx8 := (k8.block _ hl7' (by omega)).trans hx7.out
  have hsg8 := hsg7.out.keep (k8.block gs hsg7.out.lt (by omega))
  have ht : w8.there w5.heap.size 1 C.size := there_of hx8 (by rw [hC]; exact (show 33 ≤ 70 by decide))
  have hsc : w8.setCells w5.heap.size 1 C.toList = w8.setRow w5.heap.size (entA 1 0 [] (.slice (some ⟨gs, 0, none⟩) 1 cg)) := by
    rw [setCells_row C.toList 1 w8 _ hx8 (by rw [e7]; decide), e7]
    rw [show setL (entA 1 0 [] (.slice (some ⟨gs, 0, none⟩) 1 cg)) 1 (u8C (zL 32)) = (entA 1 0 [] (.slice (some ⟨gs, 0, none⟩) 1 cg)) by kernel_rfl]
  obtain ⟨w9, hw9⟩ : ∃ w9, w9 = w8.setRow w5.heap.size (entA 1 0 [] (.slice (some ⟨gs, 0, none⟩) 1 cg)) := ⟨_, rfl⟩
  have hCs : (Tryz.prog.info? 42).map (·.size) = some C.size := by rw [hC]; kernel_rfl
  have hC1 : C.all (·.oneCell') = true := by rw [hC]; kernel_rfl
  have hx : Hid (En1 w9 w5.heap.size (entA 1 0 [] (.slice (some ⟨gs, 0, none⟩) 1 cg))) := hide1 ⟨by rw [hw9]; exact setRow_heap _ _ _ _ _ _ hx8, rfl⟩
  have hob : Hid (ObR w9 wb.heap.size [.int .i64 5, .int .i64 0, .string ⟨#[]⟩, v3, .slice pa 3 pc] 3) := hide1 ⟨rfl, by rw [hw9]; exact (setRow_other _ _ _ _ (by omega)).trans hob8.2⟩
  have h2 := hide1 (show w9.heap[w.heap.size + 1]? = some (.cells Tryz.zeroCells45 45 (0, 0)) from (by rw [hw9]; exact (setRow_other _ _ _ _ (by omega)).trans hr8))
  have hsg : Hid (Sg1 w9 gs alc) := hide1 (by rw [hw9]; exact hsg8.keep (setRow_other _ _ _ _ (by have := hsg0.out; omega)))
  have bw : Hid (Below w.heap.size w w9) := hide1 (by rw [hw9]; exact blw_own bw8 (by omega) _)
  have hsb : Hid (w.heap.size + 1 < gs) := hide1 (by omega)
  clear hd7 hob8 k8 bw8 hr8 hr7 bw7 hx7 hx8 hsg8 hsg7 e7 hC
  go_upto_region 16 with (first | (refine wpList_store_mid rfl 42 (.tmp 19) (.tmp 18) rfl w5.heap.size 1 C rfl rfl ht hCs hC1 ?_) | fail)
  rw [show w8.setCells w5.heap.size 1 C.toList = w9 from hsc.trans hw9.symm]
  clear hsc hw9 ht hCs hC1
  refine wp_flowT 2 _ _ (by kernel_rfl) (by kernel_rfl) (by kernel_rfl) (by decide) (fun j v_ _ => v_ = ([(.agg (entA 1 0 [] (.slice (some ⟨gs, 0, none⟩) 1 cg))), .nilIface, undef, undef] : List Value).getD j undef) (fun _ _ _ _ h _ => h) ?_ ?_
  · intro j op hop hj a wa hwa hsz hsl hdep K hK
    match j, hop, hj with
    | 0, hop, _ =>
      obtain rfl := Option.some.inj hop
      have p5 : a.tmps.getD 5 undef = (.pointer (some ⟨w5.heap.size, 0, none⟩)) := hsl 5 rfl
      exact .plain rfl (wp_val (w' := wa) (v := (.agg (entA 1 0 [] (.slice (some ⟨gs, 0, none⟩) 1 cg)))) (by simp only [execOp, Act.eval]; rw [show a.tmps.getD 5 undef = _ from p5]; simp only [Sem.run_bind, ldEn (hx.out.below hwa), Result.andThen_ok, Sem.run_pure]) (hK _ _ (Below.refl _ _) rfl))
    | 1, hop, _ =>
      obtain rfl := Option.some.inj hop
      have p4 : a.tmps.getD 4 undef = (.pointer (some ⟨wb.heap.size, 0, none⟩)) := hsl 4 rfl
      refine .plain rfl (oper_any (J := fun r w' => r = .nilIface ∧ Below wa.heap.size wa w') 75 #[.tmp 4] _ rfl #[(.pointer (some ⟨wb.heap.size, 0, none⟩))] (by simp only [List.map_toArray, List.map_cons, List.map_nil, Act.eval]; rw [show a.tmps.getD 4 undef = _ from p4]) (fun w => by kernel_rfl) ((end_e (hob.out.later hwa)).mono fun e w' h => ⟨_, h.1, rfl, h.2⟩) ?_)
      rintro r w' ⟨rfl, hb⟩
      exact hK _ _ hb rfl
    | j + 2, _, hj => exact absurd hj (by omega)
  · intro a wa hwa hdf hsz hsl hrr
    have kv49 : a.tmps.getD 49 undef = (.agg (entA 1 0 [] (.slice (some ⟨gs, 0, none⟩) 1 cg))) := hrr 0 _ 49 rfl (by decide) rfl
    have kv50 : a.tmps.getD 50 undef = .nilIface := hrr 1 _ 50 rfl (by decide) rfl
    have hact := act_puts hdf hsz hsl
    clear hrr hsl hdf hsz
    simp only [List.filterMap_cons, List.filterMap_nil, List.foldl_cons, List.foldl_nil] at hact
    rw [kv49, kv50] at hact
    rw [hact]
    generalize a.tmps.getD 3 undef = y3
    clear hact kv49 kv50 a
    simp only [Act.put, List.setIfInBounds_toArray, List.set_cons_succ, List.set_cons_zero]
    have hr2 := (hwa.block _ (Array.getElem?_eq_some_iff.1 h2.out).1).trans h2.out
    refine tlw_of rfl fun K3 hK3 => wp_store_row 45 (.tmp 2) (.tmp 49) rfl (w.heap.size + 1) (entA 1 0 [] (.slice (some ⟨gs, 0, none⟩) 1 cg)) rfl rfl 45 _ hr2 (by kernel_rfl) (by kernel_rfl) (by kernel_rfl) (hK3 _ _ ?_)
    simp only [Act.put]
    refine tlw_val (w' := wa.setRow (w.heap.size + 1) (entA 1 0 [] (.slice (some ⟨gs, 0, none⟩) 1 cg))) (v := .nilIface) rfl (by simp only [execOp, Act.eval]; rfl) ?_
    simp only [Act.put, List.setIfInBounds_toArray, List.set_cons_succ, List.set_cons_zero]
    refine tlwE_end ?_
    have hz := hide1 (setRow_heap wa (w.heap.size + 1) _ (entA 1 0 [] (.slice (some ⟨gs, 0, none⟩) 1 cg)) _ _ hr2)
    have hfin : Hid (Sg1 (wa.setRow (w.heap.size + 1) (entA 1 0 [] (.slice (some ⟨gs, 0, none⟩) 1 cg))) gs alc ∧ Below w.heap.size w (wa.setRow (w.heap.size + 1) (entA 1 0 [] (.slice (some ⟨gs, 0, none⟩) 1 cg)))) := hide1 ⟨(hsg.out.below hwa).keep (setRow_other _ _ _ _ (by have := hsb.out; omega)), blw_own (bw.out.trans (hwa.mono bw.out.size)) (by omega) _⟩
    clear hr2 hwa
    go_wp2
    exact bodyPost_ret (results_g2 rfl _ rfl (lv_E rfl hz.out)) rfl ⟨gs, cg, rfl, hfin.out.1, by have := hsb.out; omega, hfin.out.2⟩
set_option maxHeartbeats 4000000 in
set_option maxRecDepth 100000 in
theorem of_a {F : Nat → Prop} {w : World} {c : List Value} (hv : VA F w arT c) (hT : Ev w) (h8 : 8 ≤ w.heap.size) : Calls Tryz.prog 21 #[.agg c.toArray] w fun e w' => ∃ g cg, e = .returned (.tuple #[.agg (entA 1 0 [] (.slice (some ⟨g, 0, none⟩) 1 cg)), .nilIface]) ∧ Sg1 w' g alc ∧ w.heap.size ≤ g ∧ Below w.heap.size w w' := by
  obtain ⟨x0, x1, x2, x3, x4, rfl⟩ := five_l hv.len
  show Calls Tryz.prog 21 #[.agg #[x0, x1, x2, x3, x4]] w _
  obtain ⟨wb, hwb⟩ : ∃ wb, wb = (w.alloc (.cells #[x0, x1, x2, x3, x4] 55)).alloc (.cells Tryz.zeroCells45 45) := ⟨_, rfl⟩
  have bb : Below w.heap.size w wb := by rw [hwb]; exact (below_na _).alloc (by simp) _
  have hb : wb.heap[w.heap.size]? = some (.cells #[x0, x1, x2, x3, x4] 55 (0, 0)) := by rw [hwb]; exact (al_old (by simp)).trans (heap_na _ _ _)
  have hr : wb.heap[w.heap.size + 1]? = some (.cells Tryz.zeroCells45 45 (0, 0)) := by
    rw [hwb]
    have := heap_na (w.alloc (.cells #[x0, x1, x2, x3, x4] 55)) Tryz.zeroCells45 45
    rwa [show (w.alloc (.cells #[x0, x1, x2, x3, x4] 55)).heap.size = w.heap.size + 1 by simp] at this
  have hsb := (Array.getElem?_eq_some_iff.1 hr).1
  have hvb : VA (fun _ => True) wb arT [x0, x1, x2, x3, x4] := VA.frame (c := [x0, x1, x2, x3, x4]) hv (fun k _ hs => bb.block k hs) (fun _ _ _ => trivial)
  have hck := check_d hg_ar sb_ar hvb (hT.below bb (by omega)) (by have := bb.size; omega)
  rw [gd_ar] at hck
  replace hck : Calls Tryz.prog 30 #[.agg #[x0, x1, x2, x3, x4]] wb fun e w' => e = .returned .nilIface ∧ Below wb.heap.size wb w' := hck
  have r0 := hide1 (rng_of 0 [x0, x1, x2, x3, x4] hb rfl)
  replace hb := hide1 hb
  replace hr := hide1 hr
  replace hvb := hide1 hvb
  replace bb := hide1 bb
  clear hv hT
  go_enter Tryz.func21, Tryz.ntmps21
  go_upto_region 1 with fail
  rw [← hwb]
  clear hwb
  go_wp2_with (first | (refine load_w rfl 55 (.tmp 1) rfl w.heap.size 0 rfl [x0, x1, x2, x3, x4] _ r0.out Tryz.underlying55 rfl (by kernel_rfl) ?_) | fail)
  refine hck.mono ?_
  rintro e w1 ⟨rfl, b1⟩
  have r1 := hide1 (rng_of 0 [x0, x1, x2, x3, x4] ((b1.block _ (by omega)).trans hb.out) rfl)
  have heo := eof_a (VA.frame (c := [x0, x1, x2, x3, x4]) (w' := w1) (G := fun _ => True) hvb.out (fun k _ hs => b1.block k hs) (fun _ _ _ => trivial))
  replace heo : Calls Tryz.prog 35 #[.agg #[x0, x1, x2, x3, x4]] w1 _ := heo
  have bw1 := hide1 (bb.out.trans (b1.mono bb.out.size))
  have hr1 := hide1 ((b1.block _ hsb).trans hr.out)
  have hs1 := hide1 (Nat.lt_of_lt_of_le hsb b1.size)
  clear hck b1 hb hr bb hvb r0
  go_wp2_with (first | (refine load_w rfl 55 (.tmp 1) rfl w.heap.size 0 rfl [x0, x1, x2, x3, x4] _ r1.out Tryz.underlying55 rfl (by kernel_rfl) ?_) | fail)
  refine heo.mono ?_
  rintro e w2 ⟨gs, cg, rfl, hsg2, hgs, b2⟩
  obtain ⟨E, hE⟩ : ∃ E, E = entA 1 0 [] (.slice (some ⟨gs, 0, none⟩) 1 cg) := ⟨_, rfl⟩
  have hks : E.size = 70 := by rw [hE]; rfl
  have hone : E.all (·.oneCell') = true := by rw [hE]; kernel_rfl
  have hi : (Tryz.prog.info? 45).map (·.size) = some E.size := by rw [hks]; kernel_rfl
  have hz0 : Tryz.zeroCells45.size = E.size := by rw [hks]; kernel_rfl
  have hls : (Tryz.prog.info? 45).map (·.size) = some E.toList.length := by rw [Array.length_toList]; exact hi
  have ha := heap_na w2 Tryz.zeroCells45 45
  have hx3 := setRow_heap _ _ _ E _ _ ha
  obtain ⟨w3, hw3⟩ : ∃ w3, w3 = (w2.alloc (.cells Tryz.zeroCells45 45)).setRow w2.heap.size E := ⟨_, rfl⟩
  have b3 : Below w2.heap.size w2 w3 := by rw [hw3]; exact blw_own (below_na _) (Nat.le_refl _) _
  rw [← hw3] at hx3
  have hl3 := (Array.getElem?_eq_some_iff.1 hx3).1
  have r3 := hide1 (rng_of 0 E.toList hx3 (by rw [List.drop_zero, List.take_length]))
  have hsg3 := hsg2.below b3
  have hch := check_1 (c := cg) hsg3
  rw [← hE] at hch
  have b23 := b2.trans (b3.mono b2.size)
  have bw3 := hide1 (bw1.out.trans (b23.mono bw1.out.size))
  have hr3 := hide1 ((b23.block _ hs1.out).trans hr1.out)
  have hs3 := hide1 (Nat.lt_of_lt_of_le hs1.out b23.size)
  have hgw : Hid (w.heap.size + 1 < gs) := hide1 (Nat.lt_of_lt_of_le hs1.out hgs)
  replace hsg3 := hide1 hsg3
  replace hx3 := hide1 hx3
  rw [← hE]
  replace hE := hide1 hE
  clear heo b2 b3 b23 hsg2 hgs r1 bw1 hr1
  go_upto_region 4 with (first | (refine wpList_store_row rfl 45 (.tmp 4) (.tmp 14) rfl w2.heap.size E rfl rfl 45 _ ha hi hz0 hone ?_) | fail)
  rw [← hw3]
  clear hw3 ha
  go_wp2_with (first | (refine load_w (by first | rfl | (simp [Region.wanted, yielded]; done)) 45 (.tmp 4) rfl w2.heap.size 0 rfl E.toList _ r3.out Tryz.underlying45 rfl hls ?_; rw [show E.toList.toArray = E by simp]) | fail)
  refine hch.mono ?_
  rintro e w4 ⟨rfl, b4⟩
  have r4 := hide1 (rng_of 0 E.toList ((b4.block _ hl3).trans hx3.out) (by rw [List.drop_zero, List.take_length]))
  have hr4 := (b4.block _ hs3.out).trans hr3.out
  have hz := hide1 (setRow_heap w4 (w.heap.size + 1) _ E _ _ hr4)
  have hfin : Hid (Sg1 (w4.setRow (w.heap.size + 1) E) gs alc ∧ Below w.heap.size w (w4.setRow (w.heap.size + 1) E)) := hide1 ⟨(hsg3.out.below b4).keep (setRow_other _ _ _ _ (by have := hgw.out; omega)), blw_own (bw3.out.trans (b4.mono bw3.out.size)) (by omega) _⟩
  clear hch b4 bw3 hr3 hx3 r3 hsg3
  go_wp2_with (first
    | (refine load_w rfl 45 (.tmp 4) rfl w2.heap.size 0 rfl E.toList _ r4.out Tryz.underlying45 rfl hls ?_; rw [show E.toList.toArray = E by simp])
    | (refine wpList_store_row rfl 45 (.tmp 2) (.tmp 25) rfl (w.heap.size + 1) E rfl rfl 45 _ hr4 hi hz0 hone ?_)
    | fail)
  exact bodyPost_ret (results_g2 rfl _ rfl (lv_E hks hz.out)) rfl ⟨gs, cg, by rw [← hE.out]; rfl, hfin.out.1, by have := hgw.out; omega, hfin.out.2⟩
set_option maxHeartbeats 4000000 in
set_option maxRecDepth 100000 in
theorem parse_a {w : World} {v : Value} (hb : BsA w v (ct arT)) (hT : Ev w) (h8 : 8 ≤ w.heap.size) : Calls Tryz.prog 13 #[v] w fun e w' => ∃ g cg, e = .returned (.tuple #[.agg (entA 1 0 [] (.slice (some ⟨g, 0, none⟩) 1 cg)), .nilIface]) ∧ Sg1 w' g alc ∧ w.heap.size ≤ g ∧ Below w.heap.size w w' := by
  obtain ⟨wb, hwb⟩ : ∃ wb, wb = w.alloc (.cells Tryz.zeroCells45 45) := ⟨_, rfl⟩
  have bb : Below w.heap.size w wb := by rw [hwb]; exact below_na _
  have hr : wb.heap[w.heap.size]? = some (.cells Tryz.zeroCells45 45 (0, 0)) := by rw [hwb]; exact heap_na _ _ _
  have hsb := (Array.getElem?_eq_some_iff.1 hr).1
  have hTb := hT.below bb (by omega)
  have hps := parse_d (hb.below bb) hTb (by omega)
  obtain ⟨va, vc, rfl, -⟩ := hb
  generalize (ct arT).length = N at *
  replace hr := hide1 hr
  replace bb := hide1 bb
  replace hTb := hide1 hTb
  clear hT
  go_enter Tryz.func13, Tryz.ntmps13
  go_upto_region 1 with fail
  rw [← hwb]
  clear hwb
  go_wp2_with fail
  refine hps.mono ?_
  rintro e w1 ⟨c, ev, rfl, h5, h1c, b1, ⟨t, ht, rfl, hv⟩ | ⟨h, _⟩⟩
  case inr => rw [prs_ar] at h; cases h
  rw [prs_ar] at ht
  obtain rfl := Option.some.inj ht
  obtain ⟨y0, y1, y2, y3, y4, hce⟩ := five_l (l := c.toList) (by simpa using h5)
  obtain rfl : c = #[y0, y1, y2, y3, y4] := by cases c; simp at hce; simp [hce]
  have ha := heap_na w1 #[.int .i64 0, .int .i64 0, .string ⟨#[]⟩, .slice none 0 0, .slice none 0 0] 55
  have hz1 := setRow_heap _ _ _ #[y0, y1, y2, y3, y4] _ _ ha
  obtain ⟨w2, hw2⟩ : ∃ w2, w2 = (w1.alloc (.cells #[.int .i64 0, .int .i64 0, .string ⟨#[]⟩, .slice none 0 0, .slice none 0 0] 55)).setRow w1.heap.size #[y0, y1, y2, y3, y4] := ⟨_, rfl⟩
  have b2 : Below w1.heap.size w1 w2 := by rw [hw2]; exact blw_own (below_na _) (Nat.le_refl _) _
  rw [← hw2] at hz1
  have B2 := b1.trans (b2.mono b1.size)
  have hr2 := hide1 (rng_of 0 [y0, y1, y2, y3, y4] hz1 rfl)
  have hof := of_a (VA.frame (c := [y0, y1, y2, y3, y4]) (w' := w2) (G := fun _ => True) hv (fun k _ hs => b2.block k hs) (fun _ _ _ => trivial)) (hTb.out.below B2 (by omega)) (by have := B2.size; omega)
  replace hof : Calls Tryz.prog 21 #[.agg #[y0, y1, y2, y3, y4]] w2 _ := hof
  have hr3 := hide1 ((B2.block _ hsb).trans hr.out)
  have hs3 := hide1 (Nat.lt_of_lt_of_le hsb B2.size)
  have bw := hide1 (bb.out.trans (B2.mono bb.out.size))
  clear hv hz1 b1 b2 B2 hps hce h5 hTb bb ht hr
  go_upto_region 2 with (first | (refine wpList_store_row rfl 55 (.tmp 4) (.tmp 9) rfl w1.heap.size #[y0, y1, y2, y3, y4] rfl rfl 55 _ ha (by kernel_rfl) rfl h1c ?_) | fail)
  rw [← hw2]
  clear hw2 ha
  go_wp2_with (first | (refine load_w rfl 55 (.tmp 4) rfl w1.heap.size 0 rfl [y0, y1, y2, y3, y4] _ hr2.out Tryz.underlying55 rfl (by kernel_rfl) ?_) | fail)
  refine hof.mono ?_
  rintro e w3 ⟨gs, cg, rfl, hsg, hgs, b3⟩
  obtain ⟨E, hE⟩ : ∃ E, E = entA 1 0 [] (.slice (some ⟨gs, 0, none⟩) 1 cg) := ⟨_, rfl⟩
  have hks : E.size = 70 := by rw [hE]; rfl
  have hone : E.all (·.oneCell') = true := by rw [hE]; kernel_rfl
  have hi : (Tryz.prog.info? 45).map (·.size) = some E.size := by rw [hks]; kernel_rfl
  have hz0 : Tryz.zeroCells45.size = E.size := by rw [hks]; kernel_rfl
  have hr4 := (b3.block _ hs3.out).trans hr3.out
  have hz := hide1 (setRow_heap w3 w.heap.size _ E _ _ hr4)
  have hgw : w.heap.size < gs := Nat.lt_of_lt_of_le hs3.out hgs
  have hfin : Hid (Sg1 (w3.setRow w.heap.size E) gs alc ∧ Below w.heap.size w (w3.setRow w.heap.size E)) := hide1 ⟨hsg.keep (setRow_other _ _ _ _ (by omega)), blw_own (bw.out.trans (b3.mono bw.out.size)) (Nat.le_refl _) _⟩
  rw [← hE]
  replace hE := hide1 hE
  clear hof b3 bw hr3 hr2 hsg hgs
  go_wp2_with (first | (refine wpList_store_row rfl 45 (.tmp 2) (.tmp 17) rfl w.heap.size E rfl rfl 45 _ hr4 hi hz0 hone ?_) | fail)
  exact bodyPost_ret (results_g2 rfl _ rfl (lv_E hks hz.out)) rfl ⟨gs, cg, by rw [← hE.out]; rfl, hfin.out.1, by omega, hfin.out.2⟩
theorem bs_bc (w : World) : BsA (w.alloc (.cells #[.int .u8 98, .int .u8 99] 5 (2, 3))) (.slice (some ⟨w.heap.size, 0, none⟩) 2 2) [98, 99] :=
  ⟨_, 2, rfl, .inr ⟨w.heap.size, 0, rfl, by simp, fun j x hj => by
    have hn : (w.alloc (.cells #[.int .u8 98, .int .u8 99] 5 (2, 3))).heap[w.heap.size]? = some (.cells #[.int .u8 98, .int .u8 99] 5 (2, 3)) := by
      show (w.heap.push _)[w.heap.size]? = _
      rw [Array.getElem?_push, if_pos rfl]
    match j with
    | 0 => cases hj; simp only [World.cell?, hn]; rfl
    | 1 => cases hj; simp only [World.cell?, hn]; rfl
    | j + 2 => simp at hj⟩⟩
set_option maxHeartbeats 4000000 in
set_option maxRecDepth 100000 in
theorem alive_e {w : World} (hT : Ev w) (h8 : 8 ≤ w.heap.size) : Calls Tryz.prog 6 #[] w fun e w' => e = .returned (.bool true) ∧ Below w.heap.size w w' := by
  obtain ⟨wb, hwb⟩ : ∃ wb, wb = w.alloc (.cells #[.int .u8 98, .int .u8 99] 5 (2, 3)) := ⟨_, rfl⟩
  have bb : Below w.heap.size w wb := by rw [hwb]; exact below_na _
  have hbs : BsA wb (.slice (some ⟨w.heap.size, 0, none⟩) 2 2) [98, 99] := by rw [hwb]; exact bs_bc w
  have hau := auth_e (k := [97]) hbs (by decide) (by decide) (hT.below bb (by omega)) (by have := bb.size; omega)
  rw [au_ex] at hau
  replace hau : Calls Tryz.prog 10 #[.string ⟨#[97]⟩, .slice (some ⟨w.heap.size, 0, none⟩) 2 2] wb _ := hau
  have kc := fun (w : World) (C : Array Value) (n c : Nat) => Lib.run_convert_bytes_const (P := Tryz.prog) w 22 5 C n c Tryz.underlying22 Tryz.underlying5
  replace bb := hide1 bb
  replace hT := hide1 hT
  clear hbs
  go_enter Tryz.func6, Tryz.ntmps6
  go_wp2_with fail
  rw [← hwb]
  refine hau.mono ?_
  rintro e w1 ⟨b, c, rfl, hb1, -, -, b1⟩
  have hcv := conv_b hb1
  replace hcv : (convert 22 9 (.slice (some ⟨b, 0, none⟩) 15 c)).run Tryz.prog w1 = .ok (.string ⟨#[68, 83, 83, 69, 118, 49, 32, 49, 32, 97, 32, 50, 32, 98, 99]⟩) w1 := hcv
  have B1 := hide1 (bb.out.trans (b1.mono bb.out.size))
  have ho := one_e w1
  clear hau hb1 b1 bb hwb kc
  go_wp2_with fail
  refine ho.mono ?_
  rintro e w2 ⟨g, rfl, hs2, -, b2⟩
  have B2 := B1.out.trans (b2.mono B1.out.size)
  have hpu := put_1 (cg := 1) hs2 (hT.out.below B2 (by omega)) (by have := B2.size; omega)
  replace B2 := hide1 B2
  clear ho hs2 b2 B1 hcv
  go_wp2_with fail
  refine hpu.mono ?_
  rintro e w3 ⟨v, rfl, b3, hb3⟩
  have B3 := B2.out.trans (b3.mono B2.out.size)
  have hpa := parse_a hb3 (hT.out.below B3 (by omega)) (by have := B3.size; omega)
  replace B3 := hide1 B3
  clear hpu hb3 b3 B2
  go_wp2_with fail
  refine hpa.mono ?_
  rintro e w8 ⟨gs, cg, rfl, hs8, -, b8⟩
  have B8 := B3.out.trans (b8.mono B3.out.size)
  have ha := heap_na w8 Tryz.zeroCells45 45
  have hx9 := setRow_heap _ _ _ (entA 1 0 [] (.slice (some ⟨gs, 0, none⟩) 1 cg)) _ _ ha
  have hone : ((entA 1 0 [] (.slice (some ⟨gs, 0, none⟩) 1 cg))).all (·.oneCell') = true := by kernel_rfl
  obtain ⟨w9, hw9⟩ : ∃ w9, w9 = (w8.alloc (.cells Tryz.zeroCells45 45)).setRow w8.heap.size (entA 1 0 [] (.slice (some ⟨gs, 0, none⟩) 1 cg)) := ⟨_, rfl⟩
  have b9 : Below w8.heap.size w8 w9 := by rw [hw9]; exact blw_own (below_na _) (Nat.le_refl _) _
  rw [← hw9] at hx9
  have hl9 := (Array.getElem?_eq_some_iff.1 hx9).1
  have hx : Hid (En1 w9 w8.heap.size (entA 1 0 [] (.slice (some ⟨gs, 0, none⟩) 1 cg))) := hide1 ⟨hx9, rfl⟩
  have hc0 : Hid (∀ wa, Below w9.heap.size w9 wa → wa.cell? ⟨w8.heap.size, 0, none⟩ = some (.int .i64 1)) := hide1 fun wa hwa => cell_of 0 ((hwa.block _ hl9).trans hx9) rfl
  have hsg := hide1 (hs8.below b9)
  have B9 := hide1 (B8.trans (b9.mono B8.size))
  clear hpa hs8 b8 B3 B8 b9 hx9
  go_upto_region 7 with (first | (refine wpList_store_row rfl 45 (.tmp 3) (.tmp 19) rfl w8.heap.size (entA 1 0 [] (.slice (some ⟨gs, 0, none⟩) 1 cg)) rfl rfl 45 _ ha (by kernel_rfl) (by kernel_rfl) hone ?_) | fail)
  rw [← hw9]
  clear hw9 ha hone
  refine wp_flowG 12 _ _ (by kernel_rfl) (by kernel_rfl) (by kernel_rfl) rfl (fun j v_ w_ => if j = 4 then (fun v w2 => ∃ g, v = .agg (entA 1 0 [] (.slice (some ⟨g, 0, none⟩) 1 1)) ∧ Sg1 w2 g alc) v_ w_ else v_ = ([.nilIface, (.bool true), (.bool true), (.agg (entA 1 0 [] (.slice (some ⟨gs, 0, none⟩) 1 cg))), undef, (.bool true), (.bool true), (.bool true), (.pointer (some ⟨w8.heap.size, 0, none⟩)), (.int .i64 1), (.bool true), (.bool true), (.bool true)] : List Value).getD j undef) (fun j v w w' h hb => by
        by_cases e4 : j = 4
        · subst e4; exact by obtain ⟨g, e, hs⟩ := h; exact ⟨g, e, hs.below hb⟩
        · simp only [if_neg e4] at h ⊢; exact h
        ) ?_ ?_
  · intro j op hop hj a wa hwa hsz hsl hdep K hK
    match j, hop with
    | 0, hop =>
      obtain rfl := Option.some.inj hop
      have p2 : a.tmps.getD 2 undef = .nilIface := hsl 2 rfl
      exact .plain rfl (wp_val (w' := wa) (v := .nilIface) (by simp only [execOp, Act.eval]; rw [show a.tmps.getD 2 undef = _ from p2]; rfl) (hK _ _ (Below.refl _ _) rfl))
    | 1, hop =>
      obtain rfl := Option.some.inj hop
      have t0 : a.tmps.getD 21 undef = .nilIface := hdep 0 _ 21 rfl rfl ⟨⟨0, .data⟩, by simp, rfl, rfl⟩
      exact .plain rfl (wp_val (w' := wa) (v := (.bool true)) (by simp only [execOp, Act.eval]; rw [show a.tmps.getD 21 undef = _ from t0]; kernel_rfl) (hK _ _ (Below.refl _ _) rfl))
    | 2, hop =>
      obtain rfl := Option.some.inj hop
      have t1 : a.tmps.getD 22 undef = (.bool true) := hdep 1 _ 22 rfl rfl ⟨⟨1, .data⟩, by simp, rfl, rfl⟩
      exact .plain rfl (wp_val (w' := wa) (v := (.bool true)) (by simp only [execOp, Act.eval]; rw [show a.tmps.getD 22 undef = _ from t1]; rfl) (hK _ _ (Below.refl _ _) rfl))
    | 3, hop =>
      obtain rfl := Option.some.inj hop
      have gg : a.tmps.getD 23 undef = (.bool true) := hdep 2 _ 23 rfl rfl ⟨⟨2, .guard⟩, by simp, rfl, rfl⟩
      have p3 : a.tmps.getD 3 undef = (.pointer (some ⟨w8.heap.size, 0, none⟩)) := hsl 3 rfl
      exact .want rfl rfl (by rw [hsz]; simp) gg (wp_val (w' := wa) (v := (.agg (entA 1 0 [] (.slice (some ⟨gs, 0, none⟩) 1 cg)))) (by simp only [execOp, Act.eval]; rw [show a.tmps.getD 3 undef = _ from p3]; simp only [Sem.run_bind, ldEn (hx.out.below hwa), Result.andThen_ok, Sem.run_pure]) (hK _ _ (Below.refl _ _) rfl))
    | 4, hop =>
      obtain rfl := Option.some.inj hop
      have gg : a.tmps.getD 23 undef = (.bool true) := hdep 2 _ 23 rfl rfl ⟨⟨2, .guard⟩, by simp, rfl, rfl⟩
      refine .want rfl rfl (by rw [hsz]; simp) gg (oper_any (J := fun r w' => (fun v w2 => ∃ g, v = .agg (entA 1 0 [] (.slice (some ⟨g, 0, none⟩) 1 1)) ∧ Sg1 w2 g alc) r w' ∧ Below wa.heap.size wa w') 12 #[] _ rfl #[] (by simp) (fun w => by kernel_rfl) ((one_e wa).mono fun e w' h => by obtain ⟨g, rfl, h1, _, h3⟩ := h; exact ⟨_, rfl, ⟨g, rfl, h1⟩, h3⟩) ?_)
      rintro r w' ⟨hr, hb⟩
      exact hK _ _ hb hr
    | 5, hop =>
      obtain rfl := Option.some.inj hop
      have gg : a.tmps.getD 23 undef = (.bool true) := hdep 2 _ 23 rfl rfl ⟨⟨2, .guard⟩, by simp, rfl, rfl⟩
      have t3 : a.tmps.getD 24 undef = (.agg (entA 1 0 [] (.slice (some ⟨gs, 0, none⟩) 1 cg))) := hdep 3 _ 24 rfl rfl ⟨⟨3, .data⟩, by simp, rfl, rfl⟩
      have t4 : (fun v w2 => ∃ g, v = .agg (entA 1 0 [] (.slice (some ⟨g, 0, none⟩) 1 1)) ∧ Sg1 w2 g alc) (a.tmps.getD 25 undef) wa := hdep 4 _ 25 rfl rfl ⟨⟨4, .data⟩, by simp, rfl, rfl⟩
      refine .want rfl rfl (by rw [hsz]; simp) gg (oper_any (J := fun r w' => r = (.bool true) ∧ Below wa.heap.size wa w') 14 #[.tmp 24, .tmp 25] _ rfl #[(.agg (entA 1 0 [] (.slice (some ⟨gs, 0, none⟩) 1 cg))), a.tmps.getD 25 undef] (by simp only [List.map_toArray, List.map_cons, List.map_nil, Act.eval]; rw [show a.tmps.getD 24 undef = _ from t3]) (fun w => by kernel_rfl) (by obtain ⟨g2, ev, hs2⟩ := t4; rw [ev]; exact (equal_e tld_a (hsg.out.below hwa) hs2).mono fun e w' h => ⟨_, h.1, rfl, h.2⟩) ?_)
      rintro r w' ⟨rfl, hb⟩
      exact hK _ _ hb rfl
    | 6, hop =>
      obtain rfl := Option.some.inj hop
      have t2 : a.tmps.getD 23 undef = (.bool true) := hdep 2 _ 23 rfl rfl ⟨⟨2, .data⟩, by simp, rfl, rfl⟩
      have t5 : a.tmps.getD 26 undef = (.bool true) := hdep 5 _ 26 rfl rfl ⟨⟨5, .data⟩, by simp, rfl, rfl⟩
      exact .plain rfl (wp_val (w' := wa) (v := (.bool true)) (by simp only [execOp, Act.eval]; rw [show a.tmps.getD 23 undef = _ from t2, show a.tmps.getD 26 undef = _ from t5]; rfl) (hK _ _ (Below.refl _ _) rfl))
    | 7, hop =>
      obtain rfl := Option.some.inj hop
      have t6 : a.tmps.getD 27 undef = (.bool true) := hdep 6 _ 27 rfl rfl ⟨⟨6, .data⟩, by simp, rfl, rfl⟩
      exact .plain rfl (wp_val (w' := wa) (v := (.bool true)) (by simp only [execOp, Act.eval]; rw [show a.tmps.getD 27 undef = _ from t6]; rfl) (hK _ _ (Below.refl _ _) rfl))
    | 8, hop =>
      obtain rfl := Option.some.inj hop
      have gg : a.tmps.getD 28 undef = (.bool true) := hdep 7 _ 28 rfl rfl ⟨⟨7, .guard⟩, by simp, rfl, rfl⟩
      have p3 : a.tmps.getD 3 undef = (.pointer (some ⟨w8.heap.size, 0, none⟩)) := hsl 3 rfl
      exact .want rfl rfl (by rw [hsz]; simp) gg (wp_val (w' := wa) (v := (.pointer (some ⟨w8.heap.size, 0, none⟩))) (by simp only [execOp, Act.eval]; rw [show a.tmps.getD 3 undef = _ from p3]; kernel_rfl) (hK _ _ (Below.refl _ _) rfl))
    | 9, hop =>
      obtain rfl := Option.some.inj hop
      have gg : a.tmps.getD 28 undef = (.bool true) := hdep 7 _ 28 rfl rfl ⟨⟨7, .guard⟩, by simp, rfl, rfl⟩
      have t8 : a.tmps.getD 29 undef = (.pointer (some ⟨w8.heap.size, 0, none⟩)) := hdep 8 _ 29 rfl rfl ⟨⟨8, .data⟩, by simp, rfl, rfl⟩
      exact .want rfl rfl (by rw [hsz]; simp) gg (wp_val (w' := wa) (v := (.int .i64 1)) (by simp only [execOp, Act.eval]; rw [show a.tmps.getD 29 undef = _ from t8]; simp only [Sem.run_bind, ld_iE (hc0.out wa hwa), Result.andThen_ok, Sem.run_pure]) (hK _ _ (Below.refl _ _) rfl))
    | 10, hop =>
      obtain rfl := Option.some.inj hop
      have gg : a.tmps.getD 28 undef = (.bool true) := hdep 7 _ 28 rfl rfl ⟨⟨7, .guard⟩, by simp, rfl, rfl⟩
      have t9 : a.tmps.getD 30 undef = (.int .i64 1) := hdep 9 _ 30 rfl rfl ⟨⟨9, .data⟩, by simp, rfl, rfl⟩
      exact .want rfl rfl (by rw [hsz]; simp) gg (wp_val (w' := wa) (v := (.bool true)) (by simp only [execOp, Act.eval]; rw [show a.tmps.getD 30 undef = _ from t9]; kernel_rfl) (hK _ _ (Below.refl _ _) rfl))
    | 11, hop =>
      obtain rfl := Option.some.inj hop
      have t7 : a.tmps.getD 28 undef = (.bool true) := hdep 7 _ 28 rfl rfl ⟨⟨7, .data⟩, by simp, rfl, rfl⟩
      have t10 : a.tmps.getD 31 undef = (.bool true) := hdep 10 _ 31 rfl rfl ⟨⟨10, .data⟩, by simp, rfl, rfl⟩
      exact .plain rfl (wp_val (w' := wa) (v := (.bool true)) (by simp only [execOp, Act.eval]; rw [show a.tmps.getD 28 undef = _ from t7, show a.tmps.getD 31 undef = _ from t10]; rfl) (hK _ _ (Below.refl _ _) rfl))
    | 12, _ => exact absurd rfl hj
    | _ + 13, hop => exact absurd hop (by simp)
  · intro a wa hwa hdf hsz hsl hrr K hK
    have t11 : a.tmps.getD 32 undef = (.bool true) := hrr 11 _ 32 rfl (by decide) rfl
    refine .plain rfl (wp_val (w' := wa) (v := (.bool true)) (by simp only [execOp, Act.eval]; rw [show a.tmps.getD 32 undef = _ from t11]; rfl) ?_)
    refine hK _ wa ?_
    have hact := act_puts hdf hsz hsl
    clear hrr hsl hdf hsz hK t11
    simp only [List.filterMap_cons, List.filterMap_nil, List.foldl_cons, List.foldl_nil] at hact
    rw [hact]
    generalize a.tmps.getD 21 undef = y21
    generalize a.tmps.getD 22 undef = y22
    generalize a.tmps.getD 23 undef = y23
    generalize a.tmps.getD 24 undef = y24
    generalize a.tmps.getD 25 undef = y25
    generalize a.tmps.getD 26 undef = y26
    generalize a.tmps.getD 27 undef = y27
    generalize a.tmps.getD 28 undef = y28
    generalize a.tmps.getD 29 undef = y29
    generalize a.tmps.getD 30 undef = y30
    generalize a.tmps.getD 31 undef = y31
    generalize a.tmps.getD 32 undef = y32
    clear hact
    simp only [Act.put, List.setIfInBounds_toArray, List.set_cons_succ, List.set_cons_zero]
    have hfin := hide1 (B9.out.trans (hwa.mono B9.out.size))
    clear hwa hx hc0 hsg B9
    go_wp2
    go_ret
    exact ⟨rfl, hfin.out⟩
theorem egeqE {x u : Operand} (a b : ByteArray) (w : World) : (eqGuard .eql 9 x u (.string a) (.string b)).run Tryz.prog w = .ok () w := by simp [eqGuard, go_sem]
end Go.Proofs.YtdhmonlhlfkjbaaGreatDoor

namespace Go.Proofs.YtdhmonlhlfkjbaaGreatDoor
open Go.ChangeShapes Go.WideShapes Go.ChangeAt Go.RowKit
section
variable {H : Type} {enc : TypeId × Value → H} {W : World} {held : Bool}
end
end Go.Proofs.YtdhmonlhlfkjbaaGreatDoor

namespace Go.Proofs.YtdhmonlhlfkjbaaGreatDoor
open Go.ChangeShapes Go.WideShapes Go.ChangeAt Go.RowKit
section
variable {H : Type} {enc : TypeId × Value → H} {W : World} {held : Bool}
theorem arr_l {T n k : Nat} {cs : List Value} {x : DataW H × List MemPlace} (ht : Tryz.prog.underlying T = some (.array n 5)) (hct : Tryz.prog.cellsOf T = n) (h2 : DataW.trod enc Tryz.prog W 0 (fun _ => true) held k T cs = some x) : ∃ D : List Int, Byt D ∧ D.length = n ∧ cs = u8C D := by
  obtain ⟨xs, m, rfl, -, hlen, hx, hi⟩ := DataW.trod_array ht h2
  have hce : Tryz.prog.cellsOf 5 = 1 := by kernel_rfl
  have hcell : ∀ i, i < n → ∃ z : Int, 0 ≤ z ∧ z < 256 ∧ cs[i]? = some (.int .u8 z) := by
    intro i hin
    have h1 := hi i hin
    have h2 : xs[i]? = some xs[i] := by simp [hx, hin]
    rw [h2, hce, Nat.mul_one] at h1
    obtain ⟨z, hc, -, hw⟩ := DataW.trod_int Tryz.underlying5 h1
    have h3 : cs[i]? = some (.int .u8 z) := by
      have := congrArg (·[0]?) hc
      simpa [List.getElem?_take, List.getElem?_drop] using this
    simp only [Lit.wf, Bool.and_eq_true, decide_eq_true_eq] at hw
    have e1 : IntKind.u8.min = 0 := rfl
    have e2 : IntKind.u8.max = 255 := rfl
    rw [e1, e2] at hw
    exact ⟨z, by omega, by omega, h3⟩
  obtain ⟨f, hf⟩ := Deep.choose_lt hcell
  rw [hct] at hlen
  refine ⟨(List.range n).map f, fun z hz => ?_, by simp, ?_⟩
  · obtain ⟨i, hin, rfl⟩ := List.mem_map.1 hz
    have := hf i (List.mem_range.1 hin)
    exact ⟨this.1, this.2.1⟩
  · apply List.ext_getElem?
    intro i
    rcases Nat.lt_or_ge i n with h | h
    · rw [(hf i h).2.2]; simp [u8C, h]
    · rw [List.getElem?_eq_none (by omega), List.getElem?_eq_none (by simp [u8C]; exact h)]
theorem sig_in {cs : Array Value} {d : DataW H} {p : List MemPlace} (h : DataW.Trod enc Tryz.prog W 0 (fun _ => true) held 32 (.agg cs) d p) :
    ∃ s K b : List Int, cs = (sgG s K b).toArray ∧ Byt s ∧ Byt K ∧ Byt b ∧ K.length = 32 ∧ b.length = 64 := by
  obtain ⟨fuel, h⟩ := h
  obtain ⟨xs, k, rfl, -, hl, hx, hi⟩ := DataW.trod_struct Tryz.underlying32 h
  have c1 : Tryz.prog.cellsOf 9 = 1 := by kernel_rfl
  have c2 : Tryz.prog.cellsOf 28 = 32 := by kernel_rfl
  have c3 : Tryz.prog.cellsOf 30 = 64 := by kernel_rfl
  have c39 : Tryz.prog.cellsOf 32 = 97 := by kernel_rfl
  have hx5 : xs.length = 3 := hx
  have hg : ∀ i (h : i < 3), xs[i]? = some (xs[i]'(by omega)) := fun i h => List.getElem?_eq_getElem _
  have h0 : DataW.trod enc Tryz.prog W 0 (fun _ => true) held k 9 ((cs.toList.drop 0).take (Tryz.prog.cellsOf 9)) = xs[0]? := hi 0 _ rfl
  have h1 : DataW.trod enc Tryz.prog W 0 (fun _ => true) held k 28 ((cs.toList.drop 1).take (Tryz.prog.cellsOf 28)) = xs[1]? := hi 1 _ rfl
  have h2 : DataW.trod enc Tryz.prog W 0 (fun _ => true) held k 30 ((cs.toList.drop 33).take (Tryz.prog.cellsOf 30)) = xs[2]? := hi 2 _ rfl
  rw [hg 0 (by omega), c1] at h0
  rw [hg 1 (by omega), c2] at h1
  rw [hg 2 (by omega), c3] at h2
  have hcs : (Value.agg cs).cells.toList = cs.toList := rfl
  rw [hcs, c39] at hl
  generalize hL : cs.toList = M at *
  obtain ⟨s0, e0, _, sz0⟩ := DataW.trod_string Tryz.underlying9 h0
  obtain ⟨K, hK, nK, e1⟩ := arr_l Tryz.underlying28 c2 h1
  obtain ⟨b, hb, nb, e2⟩ := arr_l Tryz.underlying30 c3 h2
  refine ⟨numsOf s0, K, b, ?_, numsOf_byt s0, hK, hb, nK, nb⟩
  have hsp : M = (M.drop 0).take 1 ++ ((M.drop 1).take 32 ++ (M.drop 33).take 64) := by
    have t5 : (M.drop 33).take 64 = M.drop 33 := List.take_of_length_le (by rw [List.length_drop]; omega)
    have st : ∀ k q, (M.drop k).take q ++ M.drop (k + q) = M.drop k := fun k q => by
      have := List.take_append_drop q (M.drop k)
      rwa [List.drop_drop] at this
    rw [t5, st 1 32, st 0 1, List.drop_zero]
  rw [e0, e1, e2] at hsp
  have : cs = M.toArray := by rw [← hL]
  rw [this, hsp]
  unfold sgG
  rw [numsOf_str]
  rfl
end
open Go.Shelf
set_option maxHeartbeats 4000000 in
set_option maxRecDepth 100000 in
theorem rsgn_g {s K b : List Int} (ho : SgO s K b) (w : World) : Calls Tryz.prog 8 #[.agg (sgG s K b).toArray] w fun e w' => e = .returned (.string (strOfNums (sgrT s K))) ∧ Below w.heap.size w w' := by
  have hn := nil_emp ho.hs
  have hb := heap_na w (sgG s K b).toArray 32
  have bb := below_na (w := w) (.cells (sgG s K b).toArray 32)
  obtain ⟨wb, hwb⟩ : ∃ wb, wb = w.alloc (.cells (sgG s K b).toArray 32) := ⟨_, rfl⟩
  rw [← hwb] at hb bb
  have c0 : wb.cell? ⟨w.heap.size, 0, none⟩ = some (.string (strOfNums s)) := cell_of 0 hb rfl
  have hK : Bs wb (some ⟨w.heap.size, 1, none⟩) 32 K := by
    refine ⟨ho.Kl, ho.hK, fun _ => ⟨w.heap.size, 1, rfl, fun i hi => ?_⟩⟩
    have h9 : i < K.length := by have := ho.Kl; omega
    exact rng_of 1 (u8C K) hb (sgG_key s K b) i _ (by simp [u8C, h9])
  have hx := refHex_d (some ⟨w.heap.size, 1, none⟩) 32 32 K wb hK (by omega)
  have hs : (⟨#[107, 101, 121, 58]⟩ : ByteArray) ++ strOfNums (hexE K) = strOfNums (kyP ++ hexE K) := by rw [← str_app]; rfl
  have hz := hexE_size ho.Kl
  replace bb := hide1 bb
  by_cases h0 : s = []
  · rw [decide_eq_true h0] at hn
    have e : sgrT s K = kyP ++ hexE K := by unfold sgrT; rw [if_pos h0]
    rw [e, ← hs]
    generalize strOfNums (hexE K) = H at *
    generalize strOfNums s = S at *
    clear hb hs hK h0 e
    go_enter Tryz.func8, Tryz.ntmps8
    go_upto_region 1 with fail
    rw [← hwb]
    clear hwb
    go_wp2_with fail
    refine hx.mono ?_
    rintro e w1 ⟨rfl, b1⟩
    go_wp2
    go_ret
    exact ⟨rfl, bb.out.trans (b1.mono bb.out.size)⟩
  · rw [decide_eq_false h0] at hn
    have e : sgrT s K = s := by unfold sgrT; rw [if_neg h0]
    rw [e]
    generalize strOfNums s = S at *
    clear hb hs hK h0 e hx hz
    go_enter Tryz.func8, Tryz.ntmps8
    go_upto_region 1 with fail
    rw [← hwb]
    clear hwb
    go_wp2
    go_ret
    exact ⟨rfl, bb.out⟩
end Go.Proofs.YtdhmonlhlfkjbaaGreatDoor

namespace Go.Proofs.YtdhmonlhlfkjbaaGreatDoor
open Go.RowKit Go.Shelf

theorem ld_strE {w : World} {b o : Nat} {v : Value} (h1 : w.cell? ⟨b, o, none⟩ = some v) : (Instr.loadAt 9 (.pointer (some ⟨b, o, none⟩))).run Tryz.prog w = .ok v w := by
  simp [Instr.loadAt, Instr.sureAddr, go_sem, h1]
theorem eg_gtE {x u : Operand} (a b : Int) (w : World) : (eqGuard .gtr 3 x u (.int .i64 a) (.int .i64 b)).run Tryz.prog w = .ok () w := by simp [eqGuard, go_sem]
theorem gt_nE {a : Int} (h : a ≤ 5000) (w : World) : (binOp .gtr 3 (.int .i64 a) (.int .i64 5000)).run Tryz.prog w = .ok (.bool false) w := by
  have h1 : ¬ 5000 < a := by omega
  simp [go_sem, h1]
theorem gt_yE {a : Int} (h : 5000 < a) (w : World) : (binOp .gtr 3 (.int .i64 a) (.int .i64 5000)).run Tryz.prog w = .ok (.bool true) w := by simp [go_sem, h]
theorem eqssE (s : ByteArray) (w : World) : (binOp .eql 9 (.string s) (.string s)).run Tryz.prog w = .ok (.bool true) w := by simp [binOp, Op.stringOp, go_sem]
theorem ldSgG {w : World} {g : Nat} {s K b : List Int} (ho : SgO s K b) (h : w.rangeAt g 0 (sgG s K b)) : (Instr.loadAt 32 (.pointer (some ⟨g, 0, none⟩))).run Tryz.prog w = .ok (.agg (sgG s K b).toArray) w :=
  run_loadAt_mid w g 0 32 (sgG s K b) _ h Tryz.underlying32 rfl (by rw [ho.len]; kernel_rfl)
set_option maxHeartbeats 8000000 in
set_option maxRecDepth 100000 in
theorem signers_walk {w : World} {s kk bb : List Int} (hs : Byt s) (hK : Byt kk) (hb : Byt bb) (nK : kk.length = 32) (nb : bb.length = 64) (hT : Ev w) (h8 : 8 ≤ w.heap.size) : Calls Tryz.prog 4 #[.agg (sgG s kk bb).toArray] w fun e w' => e = .returned (.bool true) ∧ Below w.heap.size w w' := by
  obtain ⟨wb, hwb⟩ : ∃ wb, wb = w.alloc (.cells (sgG s kk bb).toArray 32) := ⟨_, rfl⟩
  have bw : Below w.heap.size w wb := by rw [hwb]; exact below_na _
  have hn : wb.heap[w.heap.size]? = some (.cells (sgG s kk bb).toArray 32 (0, 0)) := by rw [hwb]; exact heap_na _ _ _
  have hql := (Array.getElem?_eq_some_iff.1 hn).1
  have hal := alive_e (hT.below bw (by omega)) (by have := bw.size; omega)
  have hrg := rng_of 0 (sgG s kk bb) hn (by rw [List.drop_zero, List.take_length])
  replace bw := hide1 bw
  replace hrg := hide1 hrg
  obtain ⟨C, hC⟩ : ∃ C, Hid (C = (sgG s kk bb).toArray) := ⟨_, hide1 rfl⟩
  rw [← hC.out] at hwb ⊢
  clear hn hT
  go_enter Tryz.func4, Tryz.ntmps4
  go_upto_region 1 with fail
  rw [← hwb]
  clear hwb
  go_wp2_with fail
  refine hal.mono ?_
  rintro e w1 ⟨rfl, b1⟩
  have hx : Hid (∀ wa, Below w1.heap.size w1 wa → wa.rangeAt w.heap.size 0 (sgG s kk bb)) := hide1 fun wa hwa j v hj => (World.cell?_of_block ((hwa.block _ (Nat.lt_of_lt_of_le hql b1.size)).trans (b1.block _ hql))).trans (hrg.out j v hj)
  have hc0 : Hid (∀ wa, Below w1.heap.size w1 wa → wa.cell? ⟨w.heap.size, 0, none⟩ = some (.string (strOfNums s))) := hide1 fun wa hwa => by
    have := hx.out wa hwa 0 _ rfl
    simpa using this
  have B1 := hide1 (bw.out.trans (b1.mono bw.out.size))
  have hsz := str_size s
  clear hal b1 hrg bw
  obtain ⟨S, hS⟩ : ∃ S, S = strOfNums s := ⟨_, rfl⟩
  rw [← hS] at hc0 hsz
  by_cases hlen : (5000 : Int) < ((S.size : Nat) : Int)
  · go_upto_region 3 with fail
    refine wp_flowG 11 _ _ (by kernel_rfl) (by kernel_rfl) (by kernel_rfl) rfl (fun j v_ _ => v_ = ([(.pointer (some ⟨w.heap.size, 0, none⟩)), (.string S), (.int .i64 (S.size : Nat)), (.bool true), (.bool true), undef, undef, undef, undef, undef, (.bool true), (.bool true)] : List Value).getD j undef) (fun _ _ _ _ h _ => h) ?_ ?_
    · intro j op hop hj a wa hwa hsz hsl hdep K hK
      match j, hop with
      | 0, hop =>
        obtain rfl := Option.some.inj hop
        have p1 : a.tmps.getD 1 undef = (.pointer (some ⟨w.heap.size, 0, none⟩)) := hsl 1 rfl
        exact .plain rfl (wp_val (w' := wa) (v := (.pointer (some ⟨w.heap.size, 0, none⟩))) (by simp only [execOp, Act.eval]; rw [show a.tmps.getD 1 undef = _ from p1]; kernel_rfl) (hK _ _ (Below.refl _ _) rfl))
      | 1, hop =>
        obtain rfl := Option.some.inj hop
        have t0 : a.tmps.getD 5 undef = (.pointer (some ⟨w.heap.size, 0, none⟩)) := hdep 0 _ 5 rfl rfl ⟨⟨0, .data⟩, by simp, rfl, rfl⟩
        exact .plain rfl (wp_val (w' := wa) (v := (.string S)) (by simp only [execOp, Act.eval]; rw [show a.tmps.getD 5 undef = _ from t0]; simp only [Sem.run_bind, ld_strE (hc0.out wa hwa), Result.andThen_ok, Sem.run_pure]) (hK _ _ (Below.refl _ _) rfl))
      | 2, hop =>
        obtain rfl := Option.some.inj hop
        have t1 : a.tmps.getD 6 undef = (.string S) := hdep 1 _ 6 rfl rfl ⟨⟨1, .data⟩, by simp, rfl, rfl⟩
        exact .plain rfl (wp_val (w' := wa) (v := (.int .i64 (S.size : Nat))) (by simp only [execOp, resolve, invoke, builtin, Sem.run_bind, Sem.run_pure, Result.andThen_ok, List.map_toArray, List.map_cons, List.map_nil, Act.eval]; rw [show a.tmps.getD 6 undef = _ from t1]; kernel_rfl) (hK _ _ (Below.refl _ _) rfl))
      | 3, hop =>
        obtain rfl := Option.some.inj hop
        have t2 : a.tmps.getD 7 undef = (.int .i64 (S.size : Nat)) := hdep 2 _ 7 rfl rfl ⟨⟨2, .data⟩, by simp, rfl, rfl⟩
        exact .plain rfl (wp_val (w' := wa) (v := (.bool true)) (by simp only [execOp, Act.eval]; rw [show a.tmps.getD 7 undef = _ from t2]; simp only [Sem.run_bind, eg_gtE, gt_yE hlen, Result.andThen_ok, Sem.run_pure]) (hK _ _ (Below.refl _ _) rfl))
      | 4, hop =>
        obtain rfl := Option.some.inj hop
        have t3 : a.tmps.getD 8 undef = (.bool true) := hdep 3 _ 8 rfl rfl ⟨⟨3, .data⟩, by simp, rfl, rfl⟩
        exact .plain rfl (wp_val (w' := wa) (v := (.bool true)) (by simp only [execOp, Act.eval]; rw [show a.tmps.getD 8 undef = _ from t3]; rfl) (hK _ _ (Below.refl _ _) rfl))
      | 5, hop =>
        obtain rfl := Option.some.inj hop
        have gg : a.tmps.getD 9 undef = (.bool true) := hdep 4 _ 9 rfl rfl ⟨⟨4, .guard⟩, by simp, rfl, rfl⟩
        exact .skip rfl rfl (by rw [hsz]; simp) gg (hK _ _ (Below.refl _ _) rfl)
      | 6, hop =>
        obtain rfl := Option.some.inj hop
        have gg : a.tmps.getD 9 undef = (.bool true) := hdep 4 _ 9 rfl rfl ⟨⟨4, .guard⟩, by simp, rfl, rfl⟩
        exact .skip rfl rfl (by rw [hsz]; simp) gg (hK _ _ (Below.refl _ _) rfl)
      | 7, hop =>
        obtain rfl := Option.some.inj hop
        have gg : a.tmps.getD 9 undef = (.bool true) := hdep 4 _ 9 rfl rfl ⟨⟨4, .guard⟩, by simp, rfl, rfl⟩
        exact .skip rfl rfl (by rw [hsz]; simp) gg (hK _ _ (Below.refl _ _) rfl)
      | 8, hop =>
        obtain rfl := Option.some.inj hop
        have gg : a.tmps.getD 9 undef = (.bool true) := hdep 4 _ 9 rfl rfl ⟨⟨4, .guard⟩, by simp, rfl, rfl⟩
        exact .skip rfl rfl (by rw [hsz]; simp) gg (hK _ _ (Below.refl _ _) rfl)
      | 9, hop =>
        obtain rfl := Option.some.inj hop
        have gg : a.tmps.getD 9 undef = (.bool true) := hdep 4 _ 9 rfl rfl ⟨⟨4, .guard⟩, by simp, rfl, rfl⟩
        exact .skip rfl rfl (by rw [hsz]; simp) gg (hK _ _ (Below.refl _ _) rfl)
      | 10, hop =>
        obtain rfl := Option.some.inj hop
        have t4 : a.tmps.getD 9 undef = (.bool true) := hdep 4 _ 9 rfl rfl ⟨⟨4, .data⟩, by simp, rfl, rfl⟩
        have t9 : a.tmps.getD 14 undef = undef := hdep 9 _ 14 rfl rfl ⟨⟨9, .data⟩, by simp, rfl, rfl⟩
        exact .plain rfl (wp_val (w' := wa) (v := (.bool true)) (by simp only [execOp, Act.eval]; rw [show a.tmps.getD 9 undef = _ from t4, show a.tmps.getD 14 undef = _ from t9]; rfl) (hK _ _ (Below.refl _ _) rfl))
      | 11, _ => exact absurd rfl hj
      | _ + 12, hop => exact absurd hop (by simp)
    · intro a wa hwa hdf hsz hsl hrr K hK
      have t10 : a.tmps.getD 15 undef = (.bool true) := hrr 10 _ 15 rfl (by decide) rfl
      refine .plain rfl (wp_val (w' := wa) (v := (.bool true)) (by simp only [execOp, Act.eval]; rw [show a.tmps.getD 15 undef = _ from t10]; rfl) ?_)
      refine hK _ wa ?_
      have hact := act_puts hdf hsz hsl
      clear hrr hsl hdf hsz hK t10
      simp only [List.filterMap_cons, List.filterMap_nil, List.foldl_cons, List.foldl_nil] at hact
      rw [hact]
      generalize a.tmps.getD 5 undef = y5
      generalize a.tmps.getD 6 undef = y6
      generalize a.tmps.getD 7 undef = y7
      generalize a.tmps.getD 8 undef = y8
      generalize a.tmps.getD 9 undef = y9
      generalize a.tmps.getD 10 undef = y10
      generalize a.tmps.getD 11 undef = y11
      generalize a.tmps.getD 12 undef = y12
      generalize a.tmps.getD 13 undef = y13
      generalize a.tmps.getD 14 undef = y14
      generalize a.tmps.getD 15 undef = y15
      clear hact
      simp only [Act.put, List.setIfInBounds_toArray, List.set_cons_succ, List.set_cons_zero]
      have hfin := hide1 (B1.out.trans (hwa.mono B1.out.size))
      clear hwa hx hc0
      go_wp2
      go_ret
      exact ⟨rfl, hfin.out⟩
  · have ho : Hid (SgO s kk bb) := hide1 ⟨hs, hK, hb, by omega, nK, nb⟩
    go_upto_region 3 with fail
    refine wp_flowG 11 _ _ (by kernel_rfl) (by kernel_rfl) (by kernel_rfl) rfl (fun j v_ _ => v_ = ([(.pointer (some ⟨w.heap.size, 0, none⟩)), (.string S), (.int .i64 (S.size : Nat)), (.bool false), (.bool false), (.agg (sgG s kk bb).toArray), (.string (strOfNums (sgrT s kk))), (.agg (sgG s kk bb).toArray), (.string (strOfNums (sgrT s kk))), (.bool true), (.bool true), (.bool true)] : List Value).getD j undef) (fun _ _ _ _ h _ => h) ?_ ?_
    · intro j op hop hj a wa hwa hsz hsl hdep K hK
      match j, hop with
      | 0, hop =>
        obtain rfl := Option.some.inj hop
        have p1 : a.tmps.getD 1 undef = (.pointer (some ⟨w.heap.size, 0, none⟩)) := hsl 1 rfl
        exact .plain rfl (wp_val (w' := wa) (v := (.pointer (some ⟨w.heap.size, 0, none⟩))) (by simp only [execOp, Act.eval]; rw [show a.tmps.getD 1 undef = _ from p1]; kernel_rfl) (hK _ _ (Below.refl _ _) rfl))
      | 1, hop =>
        obtain rfl := Option.some.inj hop
        have t0 : a.tmps.getD 5 undef = (.pointer (some ⟨w.heap.size, 0, none⟩)) := hdep 0 _ 5 rfl rfl ⟨⟨0, .data⟩, by simp, rfl, rfl⟩
        exact .plain rfl (wp_val (w' := wa) (v := (.string S)) (by simp only [execOp, Act.eval]; rw [show a.tmps.getD 5 undef = _ from t0]; simp only [Sem.run_bind, ld_strE (hc0.out wa hwa), Result.andThen_ok, Sem.run_pure]) (hK _ _ (Below.refl _ _) rfl))
      | 2, hop =>
        obtain rfl := Option.some.inj hop
        have t1 : a.tmps.getD 6 undef = (.string S) := hdep 1 _ 6 rfl rfl ⟨⟨1, .data⟩, by simp, rfl, rfl⟩
        exact .plain rfl (wp_val (w' := wa) (v := (.int .i64 (S.size : Nat))) (by simp only [execOp, resolve, invoke, builtin, Sem.run_bind, Sem.run_pure, Result.andThen_ok, List.map_toArray, List.map_cons, List.map_nil, Act.eval]; rw [show a.tmps.getD 6 undef = _ from t1]; kernel_rfl) (hK _ _ (Below.refl _ _) rfl))
      | 3, hop =>
        obtain rfl := Option.some.inj hop
        have t2 : a.tmps.getD 7 undef = (.int .i64 (S.size : Nat)) := hdep 2 _ 7 rfl rfl ⟨⟨2, .data⟩, by simp, rfl, rfl⟩
        exact .plain rfl (wp_val (w' := wa) (v := (.bool false)) (by simp only [execOp, Act.eval]; rw [show a.tmps.getD 7 undef = _ from t2]; simp only [Sem.run_bind, eg_gtE, gt_nE hlen, Result.andThen_ok, Sem.run_pure]) (hK _ _ (Below.refl _ _) rfl))
      | 4, hop =>
        obtain rfl := Option.some.inj hop
        have t3 : a.tmps.getD 8 undef = (.bool false) := hdep 3 _ 8 rfl rfl ⟨⟨3, .data⟩, by simp, rfl, rfl⟩
        exact .plain rfl (wp_val (w' := wa) (v := (.bool false)) (by simp only [execOp, Act.eval]; rw [show a.tmps.getD 8 undef = _ from t3]; rfl) (hK _ _ (Below.refl _ _) rfl))
      | 5, hop =>
        obtain rfl := Option.some.inj hop
        have gg : a.tmps.getD 9 undef = (.bool false) := hdep 4 _ 9 rfl rfl ⟨⟨4, .guard⟩, by simp, rfl, rfl⟩
        have p1 : a.tmps.getD 1 undef = (.pointer (some ⟨w.heap.size, 0, none⟩)) := hsl 1 rfl
        exact .want rfl rfl (by rw [hsz]; simp) gg (wp_val (w' := wa) (v := (.agg (sgG s kk bb).toArray)) (by simp only [execOp, Act.eval]; rw [show a.tmps.getD 1 undef = _ from p1]; simp only [Sem.run_bind, ldSgG (ho.out) (hx.out wa hwa), Result.andThen_ok, Sem.run_pure]) (hK _ _ (Below.refl _ _) rfl))
      | 6, hop =>
        obtain rfl := Option.some.inj hop
        have gg : a.tmps.getD 9 undef = (.bool false) := hdep 4 _ 9 rfl rfl ⟨⟨4, .guard⟩, by simp, rfl, rfl⟩
        have t5 : a.tmps.getD 10 undef = (.agg (sgG s kk bb).toArray) := hdep 5 _ 10 rfl rfl ⟨⟨5, .data⟩, by simp, rfl, rfl⟩
        refine .want rfl rfl (by rw [hsz]; simp) gg (oper_any (J := fun r w' => r = (.string (strOfNums (sgrT s kk))) ∧ Below wa.heap.size wa w') 7 #[.tmp 10] _ rfl #[(.agg (sgG s kk bb).toArray)] (by simp only [List.map_toArray, List.map_cons, List.map_nil, Act.eval]; rw [show a.tmps.getD 10 undef = _ from t5]) (fun w => by kernel_rfl) ((signer_g ho.out wa).mono fun e w' h => ⟨_, h.1, rfl, h.2⟩) ?_)
        rintro r w' ⟨rfl, hb⟩
        exact hK _ _ hb rfl
      | 7, hop =>
        obtain rfl := Option.some.inj hop
        have gg : a.tmps.getD 9 undef = (.bool false) := hdep 4 _ 9 rfl rfl ⟨⟨4, .guard⟩, by simp, rfl, rfl⟩
        have p1 : a.tmps.getD 1 undef = (.pointer (some ⟨w.heap.size, 0, none⟩)) := hsl 1 rfl
        exact .want rfl rfl (by rw [hsz]; simp) gg (wp_val (w' := wa) (v := (.agg (sgG s kk bb).toArray)) (by simp only [execOp, Act.eval]; rw [show a.tmps.getD 1 undef = _ from p1]; simp only [Sem.run_bind, ldSgG (ho.out) (hx.out wa hwa), Result.andThen_ok, Sem.run_pure]) (hK _ _ (Below.refl _ _) rfl))
      | 8, hop =>
        obtain rfl := Option.some.inj hop
        have gg : a.tmps.getD 9 undef = (.bool false) := hdep 4 _ 9 rfl rfl ⟨⟨4, .guard⟩, by simp, rfl, rfl⟩
        have t7 : a.tmps.getD 12 undef = (.agg (sgG s kk bb).toArray) := hdep 7 _ 12 rfl rfl ⟨⟨7, .data⟩, by simp, rfl, rfl⟩
        refine .want rfl rfl (by rw [hsz]; simp) gg (oper_any (J := fun r w' => r = (.string (strOfNums (sgrT s kk))) ∧ Below wa.heap.size wa w') 8 #[.tmp 12] _ rfl #[(.agg (sgG s kk bb).toArray)] (by simp only [List.map_toArray, List.map_cons, List.map_nil, Act.eval]; rw [show a.tmps.getD 12 undef = _ from t7]) (fun w => by kernel_rfl) ((rsgn_g ho.out wa).mono fun e w' h => ⟨_, h.1, rfl, h.2⟩) ?_)
        rintro r w' ⟨rfl, hb⟩
        exact hK _ _ hb rfl
      | 9, hop =>
        obtain rfl := Option.some.inj hop
        have gg : a.tmps.getD 9 undef = (.bool false) := hdep 4 _ 9 rfl rfl ⟨⟨4, .guard⟩, by simp, rfl, rfl⟩
        have t6 : a.tmps.getD 11 undef = (.string (strOfNums (sgrT s kk))) := hdep 6 _ 11 rfl rfl ⟨⟨6, .data⟩, by simp, rfl, rfl⟩
        have t8 : a.tmps.getD 13 undef = (.string (strOfNums (sgrT s kk))) := hdep 8 _ 13 rfl rfl ⟨⟨8, .data⟩, by simp, rfl, rfl⟩
        exact .want rfl rfl (by rw [hsz]; simp) gg (wp_val (w' := wa) (v := (.bool true)) (by simp only [execOp, Act.eval]; rw [show a.tmps.getD 11 undef = _ from t6, show a.tmps.getD 13 undef = _ from t8]; simp only [Sem.run_bind, egeqE, eqssE, Result.andThen_ok, Sem.run_pure]) (hK _ _ (Below.refl _ _) rfl))
      | 10, hop =>
        obtain rfl := Option.some.inj hop
        have t4 : a.tmps.getD 9 undef = (.bool false) := hdep 4 _ 9 rfl rfl ⟨⟨4, .data⟩, by simp, rfl, rfl⟩
        have t9 : a.tmps.getD 14 undef = (.bool true) := hdep 9 _ 14 rfl rfl ⟨⟨9, .data⟩, by simp, rfl, rfl⟩
        exact .plain rfl (wp_val (w' := wa) (v := (.bool true)) (by simp only [execOp, Act.eval]; rw [show a.tmps.getD 9 undef = _ from t4, show a.tmps.getD 14 undef = _ from t9]; rfl) (hK _ _ (Below.refl _ _) rfl))
      | 11, _ => exact absurd rfl hj
      | _ + 12, hop => exact absurd hop (by simp)
    · intro a wa hwa hdf hsz hsl hrr K hK
      have t10 : a.tmps.getD 15 undef = (.bool true) := hrr 10 _ 15 rfl (by decide) rfl
      refine .plain rfl (wp_val (w' := wa) (v := (.bool true)) (by simp only [execOp, Act.eval]; rw [show a.tmps.getD 15 undef = _ from t10]; rfl) ?_)
      refine hK _ wa ?_
      have hact := act_puts hdf hsz hsl
      clear hrr hsl hdf hsz hK t10
      simp only [List.filterMap_cons, List.filterMap_nil, List.foldl_cons, List.foldl_nil] at hact
      rw [hact]
      generalize a.tmps.getD 5 undef = y5
      generalize a.tmps.getD 6 undef = y6
      generalize a.tmps.getD 7 undef = y7
      generalize a.tmps.getD 8 undef = y8
      generalize a.tmps.getD 9 undef = y9
      generalize a.tmps.getD 10 undef = y10
      generalize a.tmps.getD 11 undef = y11
      generalize a.tmps.getD 12 undef = y12
      generalize a.tmps.getD 13 undef = y13
      generalize a.tmps.getD 14 undef = y14
      generalize a.tmps.getD 15 undef = y15
      clear hact
      simp only [Act.put, List.setIfInBounds_toArray, List.set_cons_succ, List.set_cons_zero]
      have hfin := hide1 (B1.out.trans (hwa.mono B1.out.size))
      clear hwa hx hc0
      go_wp2
      go_ret
      exact ⟨rfl, hfin.out⟩
end Go.Proofs.YtdhmonlhlfkjbaaGreatDoor

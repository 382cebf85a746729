/- D23, D24, F1, F2, F3, F4, F5, F6, F7, F8, F9, F10, F11, F12, K1: laid together. -/
import Derived.Deep.Cut
import Derived.Deep.CutRange
import Derived.Test.YtcmgpllnficmdaaG1
namespace Go.Proofs.Ytcmgpllnficmdaa
open Go.RowKit Go.Maps

variable {w w' : World} {base b : Nat} {D : Dsk}

theorem step_delete {w : World} {ops : Array Oper} {o : Oper} {a : Act} {K : Act → World → Prop} {Q : Exit → Act → World → Prop} {E : Prop} (hgd : o.guard = none) (m x : Operand)
    (ho : o.op = .call { callee := .builtin .delete, args := #[m, x], argTypes := #[60, 9] }) (bm n : Nat) (fs : List Fn) (s : ByteArray) (hm : a.eval m = .map (some bm)) (hx : a.eval x = .string s) (hown : w.ownsMap Try.prog 9 fElem bm n (dm fs)) (hs : s.size ≤ maxLen)
    (h : ∀ w', w'.ownsMap Try.prog 9 fElem bm (delF s.data.toList fs).length (dm (delF s.data.toList fs)) → Fr (· = bm) w w' → K (a.put o.dst (.tuple #[])) w') : if Region.wanted o (yielded ops a.tmps) = true then Oper.wp Try.prog o a w K Q else E := by
  have hw : Region.wanted o (yielded ops a.tmps) = true := by simp [Region.wanted, hgd]
  rw [if_pos hw]
  obtain ⟨w2, h1, h2, h3⟩ := dele_d hown hs o.type
  unfold Oper.wp execOp
  simp only [ho, resolve, invoke, builtin, Sem.run_bind, Sem.run_pure, Result.andThen_ok, List.map_toArray, List.map_cons, List.map_nil, hm, hx, h1]
  exact h w2 h2 h3

theorem del_twice (nm : List UInt8) (fs : List Fn) : delF nm (delF nm fs) = delF nm fs := by
  unfold delF
  rw [List.filter_filter]
  simp
theorem put_del (nm : List UInt8) (q : Nat) (fs : List Fn) : putF nm q (delF nm fs) = putF nm q fs := by unfold putF; rw [del_twice]

/-- How many bytes the file of that name has, if there is one. -/
def lenAt (nm : List UInt8) (fs : List Fn) (ct : Nat → Fc) : Int := match findF nm fs with
  | some p => (ct p.2).dat.length
  | none => 0
def syC (c : Fc) : Fc := { c with sure := c.dat.length }
/-- What a disk is where a file is called otherwise. -/
def renD (D : Dsk) (old tn : List UInt8) (q : Nat) : Dsk := { D with used := D.used - lenAt tn (delF old D.fs) D.ct, fs := putF tn q (delF old D.fs), ct := updC D.ct q (syC (D.ct q)) }

theorem pw_del {nm : List UInt8} {fs : List Fn} (h : fs.Pairwise fun p q => p.1 ≠ q.1) : (delF nm fs).Pairwise fun p q => p.1 ≠ q.1 := h.filter _
theorem lens_at {nm : List UInt8} {fs : List Fn} (ct : Nat → Fc) (h : fs.Pairwise fun p q => p.1 ≠ q.1) : lens fs ct = lenAt nm fs ct + lens (delF nm fs) ct := by
  unfold lenAt
  cases hf : findF nm fs with
  | some p => exact lens_del ct h hf
  | none => simp only; rw [del_none hf]; omega

theorem DkAt.ren (h : DkAt w base b D) {old tn : List UInt8} {p : Fn} (hp : findF old D.fs = some p) (hrow : w'.heap[b]? = some (.cells (rowD (renD D old tn p.2)) 64 (0, 0))) (hmap : w'.ownsMap Try.prog 9 fElem D.bm (putF tn p.2 (delF old D.fs)).length (dm (putF tn p.2 (delF old D.fs))))
    (hq : w'.heap[p.2]? = some (.cells (rowF (syC (D.ct p.2))) 90 (0, 0))) (hf : Fr (fun k => k = b ∨ k = D.bm ∨ k = p.2) w w') :
    DkAt w' base b (renD D old tn p.2) ∧ Fr (fp b D) w w' ∧ Grow w b D (renD D old tn p.2) := by
  obtain ⟨hm, hnm⟩ := find_mem hp
  have hmem : ∀ x, x ∈ putF tn p.2 (delF old D.fs) → x = (tn, p.2) ∨ (x ∈ D.fs ∧ x.1 ≠ old ∧ x.1 ≠ tn) := fun x hx => by
    have := (insF_perm (tn, p.2) (delF tn (delF old D.fs))).mem_iff.1 hx
    rcases List.mem_cons.1 this with e | e
    · exact .inl e
    · have e1 := mem_del.1 e
      have e2 := mem_del.1 e1.1
      exact .inr ⟨e2.1, e2.2, e1.2⟩
  have hne : ∀ x ∈ D.fs, x.1 ≠ old → x.2 ≠ p.2 := fun x hx h1 e => h1 (by rw [h.inj x hx p hm e]; exact hnm)
  have hct : ∀ x ∈ D.fs, x.1 ≠ old → updC D.ct p.2 (syC (D.ct p.2)) x.2 = D.ct x.2 := fun x hx h1 => updC_o _ _ (hne x hx h1)
  have hfile : FlAt w' base p.2 (syC (D.ct p.2)) := ⟨hq, (h.fil p hm).ge, row_fr (h.fil p hm).dat hf (by
      rintro k hk (e | e | e)
      · exact h.b_o hm hk e.symm
      · exact h.bm_o hm hk e.symm
      · exact h.f_o hm hm hk e.symm), (h.fil p hm).byt, Nat.le_refl _⟩
  refine ⟨⟨hrow, h.gb, hmap, h.gm, ?_, ?_, ?_, ?_, ?_, h.st, h.lf⟩, hf.mono fun i _ e => e.elim .inl fun e => e.elim (fun e => .inr (.inl e)) fun e => .inr (.inr (.inl ⟨p, hm, e⟩)), ?_⟩
  · intro x hx
    show FlAt w' base x.2 (updC D.ct p.2 (syC (D.ct p.2)) x.2)
    rcases hmem x hx with rfl | ⟨h1, h2, h3⟩
    · rw [updC_s]; exact hfile
    · rw [hct x h1 h2]
      refine (h.fil x h1).fr hf ?_ ?_
      · rintro (e | e | e)
        · exact h.b_f h1 e.symm
        · exact h.bm_f h1 e.symm
        · exact hne x h1 h2 e
      · rintro k hk (e | e | e)
        · exact h.b_o h1 hk e.symm
        · exact h.bm_o h1 hk e.symm
        · exact h.f_o h1 hm hk e.symm
  · intro x hx y hy e
    rcases hmem x hx with rfl | ⟨h1, h2, h3⟩ <;> rcases hmem y hy with rfl | ⟨g1, g2, g3⟩
    · rfl
    · exact absurd e.symm (hne y g1 g2)
    · exact absurd e (hne x h1 h2)
    · exact h.inj x h1 y g1 e
  · have key : ∀ x, x ∈ putF tn p.2 (delF old D.fs) → ∀ k, (updC D.ct p.2 (syC (D.ct p.2)) x.2).v.ownBlock = some k → (x = (tn, p.2) ∧ (D.ct p.2).v.ownBlock = some k) ∨ (x ∈ D.fs ∧ x.1 ≠ old ∧ (D.ct x.2).v.ownBlock = some k) := fun x hx k hk => by
      rcases hmem x hx with rfl | ⟨h1, h2, h3⟩
      · rw [updC_s] at hk; exact .inl ⟨rfl, hk⟩
      · rw [hct x h1 h2] at hk; exact .inr ⟨h1, h2, hk⟩
    intro x hx y hy k hk hk'
    rcases key x hx k hk with ⟨rfl, e1⟩ | ⟨e1, e2, e3⟩ <;> rcases key y hy k hk' with ⟨rfl, g1⟩ | ⟨g1, g2, g3⟩
    · rfl
    · exact absurd (congrArg Prod.fst (h.sep y g1 p hm k g3 e1)) (by rw [hnm]; exact g2)
    · exact absurd (congrArg Prod.fst (h.sep x e1 p hm k e3 g1)) (by rw [hnm]; exact e2)
    · exact h.sep x e1 y g1 k e3 g3
  · show D.used - lenAt tn (delF old D.fs) D.ct = lens (putF tn p.2 (delF old D.fs)) (updC D.ct p.2 (syC (D.ct p.2)))
    unfold putF
    rw [lens_perm _ (insF_perm (tn, p.2) (delF tn (delF old D.fs))), lens_cons, updC_s, lens_congr (ct' := D.ct) fun x hx => by
      have e1 := mem_del.1 hx
      have e2 := mem_del.1 e1.1
      rw [hct x e2.1 e2.2], h.usd, lens_del D.ct h.nd hp, lens_at (nm := tn) D.ct (pw_del (nm := old) h.nd)]
    show _ = ((D.ct p.2).dat.length : Int) + _
    omega
  · have h1 : 0 ≤ lenAt tn (delF old D.fs) D.ct := by unfold lenAt; split <;> omega
    have := h.qt
    refine ⟨?_, this.2⟩
    show D.used - lenAt tn (delF old D.fs) D.ct ≤ D.quota
    omega
  · rintro i (e | e | ⟨x, hx, e⟩ | ⟨x, hx, e⟩)
    · exact .inl (.inl e)
    · exact .inl (.inr (.inl e))
    · rcases hmem x hx with rfl | ⟨h1, _, _⟩
      · exact .inl (.inr (.inr (.inl ⟨p, hm, e⟩)))
      · exact .inl (.inr (.inr (.inl ⟨x, h1, e⟩)))
    · have e : (updC D.ct p.2 (syC (D.ct p.2)) x.2).v.ownBlock = some i := e
      rcases hmem x hx with rfl | ⟨h1, h2, _⟩
      · rw [updC_s] at e; exact .inl (.inr (.inr (.inr ⟨p, hm, e⟩)))
      · rw [hct x h1 h2] at e; exact .inl (.inr (.inr (.inr ⟨x, h1, e⟩)))

/-- take, whether there is such a file or not. -/
theorem take_any (h : DkAt w base b D) {old : List UInt8} (hrow : w'.heap[b]? = some (.cells (rowD D) 64 (0, 0))) (hmap : w'.ownsMap Try.prog 9 fElem D.bm (delF old D.fs).length (dm (delF old D.fs))) (hf : Fr (fun k => k = D.bm) w w') {s : ByteArray} (hs : s.size ≤ maxLen) :
    Calls Try.prog 60 #[pD b, .string s] w' fun e w2 => e = .returned (.tuple #[]) ∧ w2.heap[b]? = some (.cells (rowD { D with used := D.used - lenAt s.data.toList (delF old D.fs) D.ct }) 64 (0, 0)) ∧ w2.ownsMap Try.prog 9 fElem D.bm (delF s.data.toList (delF old D.fs)).length (dm (delF s.data.toList (delF old D.fs))) ∧ Fr (fun k => k = b ∨ k = D.bm) w w2 := by
  unfold lenAt
  cases hp : findF s.data.toList (delF old D.fs) with
  | none =>
    refine (take_n (D := { D with fs := delF old D.fs }) hrow hmap hs hp).mono ?_
    rintro e w2 ⟨rfl, rfl⟩
    refine ⟨rfl, ?_, ?_, hf.mono fun _ _ e => .inr e⟩
    · have : rowD { D with used := D.used - 0 } = rowD D := by simp [rowD]
      rw [this]; exact hrow
    · rw [del_none hp]; exact hmap
  | some p =>
    have hm := (mem_del.1 (find_mem hp).1).1
    have hfl : FlAt w' base p.2 (D.ct p.2) := (h.fil p hm).fr hf (fun e => h.bm_f hm e.symm) fun k hk e => h.bm_o hm hk e.symm
    refine (take_s (D := { D with fs := delF old D.fs }) hrow hmap hs hp hfl (len_le h hm) (show D.used ≤ _ by have := h.qt; omega)).mono ?_
    rintro e w2 ⟨rfl, ht⟩
    exact ⟨rfl, ht.row, ht.map, (hf.mono fun _ _ e => .inr e).trans ht.fr fun _ _ e => e⟩

set_option maxHeartbeats 2000000 in
theorem ren_do (h : DkAt w base b D) {s t : ByteArray} (hs : s.size ≤ 1000000) (ht : t.size ≤ 1000000) {p : Fn} (hp : findF s.data.toList D.fs = some p) (hn : D.fs.length < 1000000) {n0 n1 n2 n3 : Nat}
    (x0 : w.heap[n0]? = some (.cells #[pD b] 25 (0, 0))) (x1 : w.heap[n1]? = some (.cells #[.string s] 9 (0, 0))) (x2 : w.heap[n2]? = some (.cells #[.string t] 9 (0, 0))) (x3 : w.heap[n3]? = some (.cells #[pD p.2] 80 (0, 0))) :
    Calls Try.prog 59 #[pD n0, pD n1, pD n2, pD n3] w fun e w' => e = .returned (.tuple #[]) ∧ DkAt w' base b (renD D s.data.toList t.data.toList p.2) ∧ Fr (fp b D) w w' ∧ Grow w b D (renD D s.data.toList t.data.toList p.2) := by
  have hm := (find_mem hp).1
  have hrow := h.row
  have hblt : b < w.heap.size := (Array.getElem?_eq_some_iff.1 hrow).1
  have b0 : w.cell? ⟨n0, 0, none⟩ = some (pD b) := cell_row x0 0
  have b1 : w.cell? ⟨n1, 0, none⟩ = some (.string s) := cell_row x1 0
  have c6 : w.cell? ⟨b, 6, none⟩ = some (.map (some D.bm)) := cell_row hrow 6
  have kM : ∀ {v : World}, Fr (fun k => k = b ∨ k = D.bm) w v → ∀ {k : Nat} {x : Array Value} {t : TypeId}, w.heap[k]? = some (.cells x t (0, 0)) → t ≠ 64 → v.heap[k]? = some (.cells x t (0, 0)) := fun {v} f {k x t} hk ht' => by
    rw [f.block k (Array.getElem?_eq_some_iff.1 hk).1]
    · exact hk
    · rintro (e | e)
      · exact ne_rows hk hrow ht' e
      · exact ne_map hk h.map e.symm
  have hlenp : (delF s.data.toList D.fs).length ≤ D.fs.length := List.length_filter_le _ _
  have hlen2 : (delF t.data.toList (delF s.data.toList D.fs)).length ≤ (delF s.data.toList D.fs).length := List.length_filter_le _ _
  have hsm : s.size ≤ maxLen := by unfold maxLen; omega
  have htm : t.size ≤ maxLen := by unfold maxLen; omega
  go_enter Try.func59, Try.ntmps59
  go_wp2
  go_region_law (refine step_delete rfl (.tmp 7) (.tmp 8) rfl D.bm D.fs.length D.fs s (by simp [Act.eval]) (by simp [Act.eval]) h.map hsm ?_; intro w1 hmap1 hfr1)
  all_goals
    have f1 : Fr (fun k => k = D.bm) w w1 := ⟨hfr1.os, hfr1.tape, hfr1.output, hfr1.size, hfr1.block⟩
    have f1' : Fr (fun k => k = b ∨ k = D.bm) w w1 := f1.mono fun _ _ e => .inr e
    have hrow1 : w1.heap[b]? = some (.cells (rowD D) 64 (0, 0)) := (f1.block b hblt h.bm_b.symm).trans hrow
    have htk := take_any h hrow1 hmap1 f1 htm
    have d0 : w1.cell? ⟨n0, 0, none⟩ = some (pD b) := cell_row (kM f1' x0 (by decide)) 0
    have d2 : w1.cell? ⟨n2, 0, none⟩ = some (.string t) := cell_row (kM f1' x2 (by decide)) 0
    clear b0 b1 c6 hfr1 f1 f1'
    go_wp2_with fail
    refine htk.mono ?_
    rintro e w2 ⟨rfl, hrow2, hmap2, f2⟩
    have hcl := call_d (q := p.2) (cell_row hrow2 6) (Array.getElem?_eq_some_iff.1 hrow2).1 hmap2 (show _ < maxLen by unfold maxLen; omega) ht
    rw [put_del] at hcl
    have e0 : w2.cell? ⟨n0, 0, none⟩ = some (pD b) := cell_row (kM f2 x0 (by decide)) 0
    have e2 : w2.cell? ⟨n2, 0, none⟩ = some (.string t) := cell_row (kM f2 x2 (by decide)) 0
    have e3 : w2.cell? ⟨n3, 0, none⟩ = some (pD p.2) := cell_row (kM f2 x3 (by decide)) 0
    clear htk d0 d2 hmap1 hrow1
    go_wp2_with fail
    refine hcl.mono ?_
    rintro e w3 ⟨rfl, hmap3, f3⟩
    have f3' : Fr (fun k => k = b ∨ k = D.bm) w w3 := f2.trans f3 fun _ _ e => .inr e
    have hrow3 : w3.heap[b]? = some (.cells (rowD (renD D s.data.toList t.data.toList p.2)) 64 (0, 0)) := (f3.block b (Array.getElem?_eq_some_iff.1 hrow2).1 h.bm_b.symm).trans hrow2
    have hq3 := kM f3' (h.fil p hm).row (by decide)
    obtain ⟨fa, fcap, hv⟩ := row_form (h.fil p hm).dat
    have g0 : w3.cell? ⟨p.2, 0, none⟩ = some (.slice fa (D.ct p.2).dat.length fcap) := by rw [← hv]; exact cell_row hq3 0
    have g1 : w3.cell? ⟨p.2, 1, none⟩ = some (.int .i64 ((D.ct p.2).sure : Int)) := cell_row hq3 1
    have gf := froz_row hq3 1
    have g3 : w3.cell? ⟨n3, 0, none⟩ = some (pD p.2) := cell_row (kM f3' x3 (by decide)) 0
    have hfin : ∀ w4, Wt w3 w4 p.2 (rowF (syC (D.ct p.2))) 90 → DkAt w4 base b (renD D s.data.toList t.data.toList p.2) ∧ Fr (fp b D) w w4 ∧ Grow w b D (renD D s.data.toList t.data.toList p.2) := fun w4 hw4 =>
      h.ren hp ((hw4.block b (h.b_f hm)).trans hrow3) (owns_fr hmap3 hw4.fr (h.bm_f hm)) hw4.row ((f3'.mono fun _ _ e => e.imp id .inl).trans hw4.fr fun _ _ e => .inr (.inr e))
    have hw4 := (Wt.refl hq3).cell 1 (.int .i64 ((D.ct p.2).dat.length : Int))
    have ew : (rowF (D.ct p.2)).setIfInBounds 1 (.int .i64 ((D.ct p.2).dat.length : Int)) = rowF (syC (D.ct p.2)) := by simp [rowF, syC]
    rw [ew] at hw4
    have hfin := hfin _ hw4.drew
    clear hcl e0 e2 e3 hmap2 hrow2 f2 f3 f3' hmap3 hrow3 hq3 hw4 ew kM h hv hrow
    go_wp2
    go_region
    all_goals (go_end0; exact ⟨rfl, hfin⟩)

/-- The boxes that Rename makes. -/
abbrev boxN (w : World) (b : Nat) (s t : ByteArray) : World := ((w.alloc (.cells #[pD b] 25)).alloc (.cells #[.string s] 9)).alloc (.cells #[.string t] 9)
theorem boxN_below (w : World) (b : Nat) (s t : ByteArray) : Below w.heap.size w (boxN w b s t) := (((Below.refl _ w).alloc (Nat.le_refl _) _).alloc (by simp) _).alloc (by simp; omega) _
abbrev boxM (w : World) (b : Nat) (s t : ByteArray) (q : Nat) : World := (boxN w b s t).alloc (.cells #[pD q] 80)
theorem boxM_below (w : World) (b : Nat) (s t : ByteArray) (q : Nat) : Below w.heap.size w (boxM w b s t q) := (boxN_below w b s t).alloc (boxN_below w b s t).size _
theorem boxM_at (w : World) (b : Nat) (s t : ByteArray) (q : Nat) : (boxM w b s t q).heap[w.heap.size]? = some (.cells #[pD b] 25 (0, 0)) ∧ (boxM w b s t q).heap[w.heap.size + 1]? = some (.cells #[.string s] 9 (0, 0)) ∧ (boxM w b s t q).heap[w.heap.size + 1 + 1]? = some (.cells #[.string t] 9 (0, 0)) ∧ (boxM w b s t q).heap[w.heap.size + 1 + 1 + 1]? = some (.cells #[pD q] 80 (0, 0)) := by
  refine ⟨?_, ?_, ?_, ?_⟩
  · rw [Below.heap_alloc _ _ _ (by simp only [World.size_alloc]; omega), Below.heap_alloc _ _ _ (by simp only [World.size_alloc]; omega), Below.heap_alloc _ _ _ (by simp only [World.size_alloc]; omega)]; exact (MapKept.heap_alloc w _).1
  · rw [Below.heap_alloc _ _ _ (by simp only [World.size_alloc]; omega), Below.heap_alloc _ _ _ (by simp only [World.size_alloc]; omega)]
    have := (MapKept.heap_alloc (w.alloc (.cells #[pD b] 25)) (.cells #[.string s] 9)).1
    simpa using this
  · rw [Below.heap_alloc _ _ _ (by simp only [World.size_alloc]; omega)]
    have := (MapKept.heap_alloc ((w.alloc (.cells #[pD b] 25)).alloc (.cells #[.string s] 9)) (.cells #[.string t] 9)).1
    simpa using this
  · have := (MapKept.heap_alloc (boxN w b s t) (.cells #[pD q] 80)).1
    simpa using this
theorem ren_n (h : DkAt w base b D) {s : ByteArray} (t : ByteArray) (hs : s.size ≤ maxLen) (hp : findF s.data.toList D.fs = none) : Calls Try.prog 28 #[pD b, .string s, .string t] w fun e w' => e = .returned (eN_ 5) ∧ Below w.heap.size w w' := by
  have h1 := h.later (boxN_below w b s t)
  go_enter Try.func28, Try.ntmps28
  go_wp2_with fail
  refine (find_n h1 hs hp).mono ?_
  rintro e w1 ⟨rfl, rfl⟩
  clear h h1
  go_wp2
  go_ret
  exact ⟨rfl, by go_grown⟩
theorem ren_name (h : DkAt w base b D) {s t : ByteArray} (hs : s.size ≤ maxLen) {p : Fn} (hp : findF s.data.toList D.fs = some p) (ht : isName t.data.toList = false) : Calls Try.prog 28 #[pD b, .string s, .string t] w fun e w' => e = .returned (eN_ 5) ∧ Below w.heap.size w w' := by
  have h1 := h.later (boxN_below w b s t)
  obtain ⟨y0, y1, y2, y3⟩ := boxM_at w b s t p.2
  have c2 : (boxM w b s t p.2).cell? ⟨w.heap.size + 1 + 1, 0, none⟩ = some (.string t) := cell_row y2 0
  have hnm := named_d t
  rw [ht] at hnm
  have hb := boxM_below w b s t p.2
  clear y0 y1 y2 y3
  go_enter Try.func28, Try.ntmps28
  go_wp2_with fail
  refine (find_s h1 hs hp).mono ?_
  rintro e w1 ⟨rfl, rfl⟩
  clear h h1
  go_wp2_with fail
  refine (hnm _).mono ?_
  rintro e w1 ⟨rfl, rfl⟩
  go_wp2
  go_ret
  exact ⟨rfl, hb⟩
theorem ren_step {R : Value → World → Prop} (h : DkAt w base b D) {s t : ByteArray} (hs : s.size ≤ maxLen) {p : Fn} (hp : findF s.data.toList D.fs = some p) (ht : isName t.data.toList = true)
    (hstep : Calls Try.prog 53 #[pD b, .func (.func 59) #[] #[pD w.heap.size, pD (w.heap.size + 1), pD (w.heap.size + 1 + 1), pD (w.heap.size + 1 + 1 + 1)]] (boxM w b s t p.2) fun e w' => ∃ v, e = .returned v ∧ R v w') :
    Calls Try.prog 28 #[pD b, .string s, .string t] w fun e w' => ∃ v, e = .returned v ∧ R v w' := by
  have h1 := h.later (boxN_below w b s t)
  obtain ⟨y0, y1, y2, y3⟩ := boxM_at w b s t p.2
  have c2 : (boxM w b s t p.2).cell? ⟨w.heap.size + 1 + 1, 0, none⟩ = some (.string t) := cell_row y2 0
  have c0 : (boxM w b s t p.2).cell? ⟨w.heap.size, 0, none⟩ = some (pD b) := cell_row y0 0
  have hnm := named_d t
  rw [ht] at hnm
  clear y0 y1 y2 y3
  go_enter Try.func28, Try.ntmps28
  go_wp2_with fail
  refine (find_s h1 hs hp).mono ?_
  rintro e w1 ⟨rfl, rfl⟩
  clear h h1
  go_wp2_with fail
  refine (hnm _).mono ?_
  rintro e w1 ⟨rfl, rfl⟩
  go_wp2_with fail
  refine hstep.mono ?_
  rintro e w2 ⟨v, rfl, hR⟩
  clear hstep hnm c0 c2
  go_wp2
  go_ret
  exact ⟨v, rfl, hR⟩
theorem ren_down (h : DkAt w base b D) {s t : ByteArray} (hs : s.size ≤ maxLen) {p : Fn} (hp : findF s.data.toList D.fs = some p) (ht : isName t.data.toList = true) (hg : D.gone = true ∨ (D.armed = true ∧ D.left = 0)) :
    Calls Try.prog 28 #[pD b, .string s, .string t] w fun e w' => e = .returned (eN_ 4) ∧ DkAt w' base b (goned D) ∧ Fr (fp b D) w w' := by
  refine (ren_step (R := fun v w' => v = eN_ 4 ∧ DkAt w' base b (goned D) ∧ Fr (fp b D) w w') h hs hp ht ?_).mono ?_
  · refine (step_no _ (h.later (boxM_below w b s t p.2)).row hg).mono ?_
    rintro e w2 ⟨rfl, hw⟩
    exact ⟨_, rfl, rfl, no_step h (boxM_below w b s t p.2) hw⟩
  · rintro e w2 ⟨v, rfl, rfl, h2⟩
    exact ⟨rfl, h2⟩
theorem ren_ok (h : DkAt w base b D) {s t : ByteArray} (hs : s.size ≤ 1000000) (ht2 : t.size ≤ 1000000) {p : Fn} (hp : findF s.data.toList D.fs = some p) (ht : isName t.data.toList = true) (hc : canD D) (hst : D.steps < 1000000000) (hn : D.fs.length < 1000000) :
    Calls Try.prog 28 #[pD b, .string s, .string t] w fun e w' => e = .returned .nilIface ∧ DkAt w' base b (renD (stepd D) s.data.toList t.data.toList p.2) ∧ Fr (fp b D) w w' ∧ Grow w b D (renD (stepd D) s.data.toList t.data.toList p.2) := by
  refine (ren_step (R := fun v w' => v = .nilIface ∧ DkAt w' base b (renD (stepd D) s.data.toList t.data.toList p.2) ∧ Fr (fp b D) w w' ∧ Grow w b D (renD (stepd D) s.data.toList t.data.toList p.2)) h (by unfold maxLen; omega) hp ht ?_).mono ?_
  · have hu := boxM_below w b s t p.2
    obtain ⟨x0, x1, x2, x3⟩ := boxM_at w b s t p.2
    have hblt : b < w.heap.size := (Array.getElem?_eq_some_iff.1 h.row).1
    refine (step_ok (R := fun w' => DkAt w' base b (renD (stepd D) s.data.toList t.data.toList p.2) ∧ Fr (fp b D) w w' ∧ Grow w b D (renD (stepd D) s.data.toList t.data.toList p.2)) 59 _ (h.later hu).row hc.1 (fun ha => ⟨hc.2 ha, (h.lf ha).2⟩) ⟨h.st, hst⟩ (fun w => by kernel_rfl) fun w1 hw1 => ?_).mono ?_
    · have h1 := step_dk h hu hw1 hc
      have f1 : Fr (fp b D) w w1 := (wt_below hu hw1).mono fun _ _ e => .inl e
      have k1 : ∀ {k : Nat} {x : Array Value} {t' : TypeId}, (boxM w b s t p.2).heap[k]? = some (.cells x t' (0, 0)) → k ≠ b → w1.heap[k]? = some (.cells x t' (0, 0)) := fun {k x t'} hk hne => by
        rw [hw1.block k hne]; exact hk
      refine (ren_do h1 hs ht2 hp (show D.fs.length < 1000000 from hn) (k1 x0 (by omega)) (k1 x1 (by omega)) (k1 x2 (by omega)) (k1 x3 (by omega))).mono ?_
      rintro e w3 ⟨rfl, g1, g2, g3⟩
      exact ⟨rfl, g1, f1.trans g2 fun i _ hi => hi, fun k hk => (g3 k hk).imp id fun h => by have := f1.size; omega⟩
    · rintro e w3 ⟨rfl, h3⟩
      exact ⟨_, rfl, rfl, h3⟩
  · rintro e w3 ⟨v, rfl, rfl, h3⟩
    exact ⟨rfl, h3⟩
end Go.Proofs.Ytcmgpllnficmdaa

namespace Go.Proofs.Ytcmgpllnficmdaa
open Go.RowKit Go.Maps

variable {w : World} {base b : Nat} {D : Dsk}

/-- An error's number as the program answers it. -/
def eV (n : Int) : Value := if n = 0 then .nilIface else eN_ n
/-- What a call does: it refuses (no), the power goes, or it is done (ok). -/
def Oo (D : Dsk) (no : Int) (ok : Dsk → Prop) (D' : Dsk) (n : Int) : Prop :=
  (no ≠ 0 ∧ D' = D ∧ n = no) ∨ (no = 0 ∧ (D.gone = true ∨ (D.armed = true ∧ D.left = 0)) ∧ D' = goned D ∧ n = 4) ∨ (no = 0 ∧ canD D ∧ ok D' ∧ n = 0)
def POut (w : World) (base b : Nat) (D : Dsk) (R : Dsk → Int → Prop) (e : Ending) (w' : World) : Prop :=
  ∃ D' n, R D' n ∧ e = .returned (eV n) ∧ DkAt w' base b D' ∧ Fr (fp b D) w w' ∧ Grow w b D D'
theorem grow_self : Grow w b D D := fun _ h => .inl h
theorem pout_no {e : Ending} {w' : World} {no : Int} {ok : Dsk → Prop} (h : DkAt w base b D) (hn : no ≠ 0) (he : e = .returned (eN_ no)) (hb : Below w.heap.size w w') : POut w base b D (Oo D no ok) e w' :=
  ⟨D, no, .inl ⟨hn, rfl, rfl⟩, by rw [he, eV, if_neg hn], h.later hb, fr_b hb _, grow_self⟩
theorem pout_down {e : Ending} {w' : World} {no : Int} {ok : Dsk → Prop} (hn : no = 0) (hg : D.gone = true ∨ (D.armed = true ∧ D.left = 0)) (h : e = .returned (eN_ 4) ∧ DkAt w' base b (goned D) ∧ Fr (fp b D) w w') : POut w base b D (Oo D no ok) e w' :=
  ⟨goned D, 4, .inr (.inl ⟨hn, hg, rfl, rfl⟩), by rw [h.1]; rfl, h.2.1, h.2.2, fun _ hk => .inl hk⟩
theorem pout_ok {e : Ending} {w' : World} {no : Int} {ok : Dsk → Prop} {D' : Dsk} (hn : no = 0) (hc : canD D) (ho : ok D') (he : e = .returned .nilIface) (h : DkAt w' base b D') (hf : Fr (fp b D) w w') (hg : Grow w b D D') : POut w base b D (Oo D no ok) e w' :=
  ⟨D', 0, .inr (.inr ⟨hn, hc, ho, rfl⟩), by rw [he]; rfl, h, hf, hg⟩

def noApp (D : Dsk) (nm : List UInt8) (len : Nat) : Int := if isName nm then (if D.quota - D.used < len then 3 else 0) else 5
theorem append_all (h : DkAt w base b D) {s : ByteArray} (hs : s.size ≤ 1000000) {ad : Option Addr} {len cap : Nat} {zs : List Int} (hbs : Bs w ad len zs) (hxb : ∀ x, ad = some x → 0 < len → x.block ≠ b) (hst : D.steps < 1000000000) (hlen : D.fs.length < 1000000) (hbase : base ≤ w.heap.size) :
    Calls Try.prog 25 #[pD b, .string s, .slice ad len cap] w (POut w base b D (Oo D (noApp D s.data.toList len) fun D' => AppR D D' s.data.toList zs)) := by
  cases hn : isName s.data.toList with
  | false =>
    refine (append_name hn ad len cap).mono ?_
    rintro e w1 ⟨rfl, hb⟩
    simp only [noApp, hn]
    exact pout_no h (by simp) rfl hb
  | true =>
    by_cases hr : D.quota - D.used < len
    · refine (append_full h hn ad len cap hr).mono ?_
      rintro e w1 ⟨rfl, hb⟩
      simp only [noApp, hn, hr]
      exact pout_no h (by simp) rfl hb
    · have e0 : noApp D s.data.toList len = 0 := by simp [noApp, hn, hr]
      rcases can_or D fun ha => (h.lf ha).1 with hc | hg
      · refine (append_ok h hs hn hbs hxb (by omega) hc hst hlen hbase).mono ?_
        rintro e w1 ⟨rfl, D', ho, h1, h2, h3⟩
        exact pout_ok e0 hc ho rfl h1 h2 h3
      · refine (append_down h hn ad len cap (by omega) hg).mono ?_
        intro e w1 hx
        exact pout_down e0 hg hx
def noNm (D : Dsk) (nm : List UInt8) : Int := if (findF nm D.fs).isNone then 5 else 0
theorem sync_all (h : DkAt w base b D) {s : ByteArray} (hs : s.size ≤ maxLen) (hst : D.steps < 1000000000) :
    Calls Try.prog 26 #[pD b, .string s] w (POut w base b D (Oo D (noNm D s.data.toList) fun D' => ∃ p, findF s.data.toList D.fs = some p ∧ D' = syncd D p.2)) := by
  cases hp : findF s.data.toList D.fs with
  | none =>
    refine (sync_n h hs hp).mono ?_
    rintro e w1 ⟨rfl, hb⟩
    simp only [noNm, hp]
    exact pout_no h (by simp) rfl hb
  | some p =>
    have e0 : noNm D s.data.toList = 0 := by simp [noNm, hp]
    rcases can_or D fun ha => (h.lf ha).1 with hc | hg
    · refine (sync_ok h hs hp hc hst).mono ?_
      rintro e w1 ⟨rfl, h1, h2⟩
      refine pout_ok e0 hc ⟨p, rfl, rfl⟩ rfl h1 h2 ?_
      rintro k (e | e | ⟨p', hp', e⟩ | ⟨p', hp', e⟩)
      · exact .inl (.inl e)
      · exact .inl (.inr (.inl e))
      · exact .inl (.inr (.inr (.inl ⟨p', hp', e⟩)))
      · refine .inl (.inr (.inr (.inr ⟨p', hp', ?_⟩)))
        rw [← e]
        simp only [syncd, updC]
        split
        · rename_i e2; rw [e2]
        · rfl
    · refine (sync_down h hs hp hg).mono ?_
      intro e w1 hx
      exact pout_down e0 hg hx
def noCut (D : Dsk) (nm : List UInt8) (n : Int) : Int := match findF nm D.fs with
  | none => 5
  | some p => if n < 0 ∨ ((D.ct p.2).dat.length : Int) < n then 2 else 0
theorem cut_all (h : DkAt w base b D) {s : ByteArray} (hs : s.size ≤ maxLen) (n : Int) (hst : D.steps < 1000000000) :
    Calls Try.prog 27 #[pD b, .string s, .int .i64 n] w (POut w base b D (Oo D (noCut D s.data.toList n) fun D' => ∃ p v, findF s.data.toList D.fs = some p ∧ D' = cutD (stepd D) p.2 n.toNat v)) := by
  cases hp : findF s.data.toList D.fs with
  | none =>
    refine (cut_n h hs hp n).mono ?_
    rintro e w1 ⟨rfl, hb⟩
    simp only [noCut, hp]
    exact pout_no h (by simp) rfl hb
  | some p =>
    by_cases hr : n < 0 ∨ ((D.ct p.2).dat.length : Int) < n
    · refine (cut_rng h hs hp n hr).mono ?_
      rintro e w1 ⟨rfl, hb⟩
      simp only [noCut, hp, hr]
      exact pout_no h (by simp) rfl hb
    · have e0 : noCut D s.data.toList n = 0 := by simp only [noCut, hp, hr, if_false]
      rcases can_or D fun ha => (h.lf ha).1 with hc | hg
      · obtain ⟨m, rfl⟩ : ∃ m : Nat, n = (m : Int) := ⟨n.toNat, by omega⟩
        refine (cut_ok h hs hp m (by omega) hc hst).mono ?_
        rintro e w1 ⟨rfl, v, h1, h2, h3⟩
        exact pout_ok e0 hc ⟨p, v, rfl, rfl⟩ rfl h1 h2 h3
      · refine (cut_down h hs hp n (by omega) (by omega) hg).mono ?_
        intro e w1 hx
        exact pout_down e0 hg hx
theorem drop_all (h : DkAt w base b D) {s : ByteArray} (hs : s.size ≤ maxLen) (hst : D.steps < 1000000000) :
    Calls Try.prog 29 #[pD b, .string s] w (POut w base b D (Oo D (noNm D s.data.toList) fun D' => ∃ p, findF s.data.toList D.fs = some p ∧ D' = dropD D s.data.toList p.2)) := by
  cases hp : findF s.data.toList D.fs with
  | none =>
    refine (drop_n h hs hp).mono ?_
    rintro e w1 ⟨rfl, hb⟩
    simp only [noNm, hp]
    exact pout_no h (by simp) rfl hb
  | some p =>
    have e0 : noNm D s.data.toList = 0 := by simp [noNm, hp]
    rcases can_or D fun ha => (h.lf ha).1 with hc | hg
    · refine (drop_ok h hs hp hc hst).mono ?_
      rintro e w1 ⟨rfl, h1, h2, h3⟩
      exact pout_ok e0 hc ⟨p, rfl, rfl⟩ rfl h1 h2 h3
    · refine (drop_down h hs hp hg).mono ?_
      intro e w1 hx
      exact pout_down e0 hg hx
def noRen (D : Dsk) (nm tn : List UInt8) : Int := if (findF nm D.fs).isNone then 5 else if isName tn then 0 else 5
theorem ren_all (h : DkAt w base b D) {s t : ByteArray} (hs : s.size ≤ 1000000) (ht : t.size ≤ 1000000) (hst : D.steps < 1000000000) (hlen : D.fs.length < 1000000) :
    Calls Try.prog 28 #[pD b, .string s, .string t] w (POut w base b D (Oo D (noRen D s.data.toList t.data.toList) fun D' => ∃ p, findF s.data.toList D.fs = some p ∧ D' = renD (stepd D) s.data.toList t.data.toList p.2)) := by
  have hs2 : s.size ≤ maxLen := by unfold maxLen; omega
  cases hp : findF s.data.toList D.fs with
  | none =>
    refine (ren_n h t hs2 hp).mono ?_
    rintro e w1 ⟨rfl, hb⟩
    simp only [noRen, hp]
    exact pout_no h (by simp) rfl hb
  | some p =>
    cases hn : isName t.data.toList with
    | false =>
      refine (ren_name h hs2 hp hn).mono ?_
      rintro e w1 ⟨rfl, hb⟩
      simp only [noRen, hp, hn]
      exact pout_no h (by simp) rfl hb
    | true =>
      have e0 : noRen D s.data.toList t.data.toList = 0 := by simp [noRen, hp, hn]
      rcases can_or D fun ha => (h.lf ha).1 with hc | hg
      · refine (ren_ok h hs ht hp hn hc hst hlen).mono ?_
        rintro e w1 ⟨rfl, h1, h2, h3⟩
        exact pout_ok e0 hc ⟨p, rfl, rfl⟩ rfl h1 h2 h3
      · refine (ren_down h hs2 hp hn hg).mono ?_
        intro e w1 hx
        exact pout_down e0 hg hx
end Go.Proofs.Ytcmgpllnficmdaa

namespace Go.Proofs.Ytcmgpllnficmdaa
open Go.RowKit Go.Maps

/-- A file, on paper. -/
structure Rf where
  nm : List UInt8
  dat : List Int
  sure : Nat
abbrev bstr (l : List UInt8) : ByteArray := ⟨l.toArray⟩
/-- The i-th file of a row in memory. -/
def RfC (w : World) (X : Nat → Prop) (fb i : Nat) (r : Rf) : Prop := ∃ ad cap, w.cell? ⟨fb, i * 3, none⟩ = some (.string (bstr r.nm)) ∧ w.cell? ⟨fb, i * 3 + 1, none⟩ = some (.slice ad r.dat.length cap) ∧ w.cell? ⟨fb, i * 3 + 2, none⟩ = some (.int .i64 (r.sure : Int)) ∧ Bs w ad r.dat.length r.dat ∧ r.dat.length ≤ cap ∧ ∀ x, ad = some x → 0 < r.dat.length → X x.block
/-- A row of files in memory, in blocks of these. -/
def Fs (w : World) (X : Nat → Prop) (fa : Option Addr) (R : List Rf) : Prop := 0 < R.length → ∃ fb, fa = some ⟨fb, 0, none⟩ ∧ X fb ∧ ∀ i (h : i < R.length), RfC w X fb i R[i]
theorem RfC.fr {S X : Nat → Prop} {w w' : World} {fb i : Nat} {r : Rf} (h : RfC w X fb i r) (f : Fr S w w') (hX : ∀ k, X k → ¬ S k) (hb : X fb) : RfC w' X fb i r := by
  obtain ⟨ad, cap, h1, h2, h3, h4, h6, h5⟩ := h
  exact ⟨ad, cap, cell_fr f (hX _ hb) h1, cell_fr f (hX _ hb) h2, cell_fr f (hX _ hb) h3, h4.fr f fun x ex hl => hX _ (h5 x ex hl), h6, h5⟩
theorem Fs.fr {S X : Nat → Prop} {w w' : World} {fa : Option Addr} {R : List Rf} (h : Fs w X fa R) (f : Fr S w w') (hX : ∀ k, X k → ¬ S k) : Fs w' X fa R := fun hl => by
  obtain ⟨fb, e, hb, hc⟩ := h hl
  exact ⟨fb, e, hb, fun i hi => (hc i hi).fr f hX hb⟩
theorem Fs.later {X : Nat → Prop} {w w' : World} {fa : Option Addr} {R : List Rf} (h : Fs w X fa R) (f : Below w.heap.size w w') : Fs w' X fa R := h.fr (fr_b f fun _ => False) fun _ _ => id
theorem Fs.mono {X Y : Nat → Prop} {w : World} {fa : Option Addr} {R : List Rf} (h : Fs w X fa R) (hXY : ∀ k, X k → Y k) : Fs w Y fa R := fun hl => by
  obtain ⟨fb, e, hb, hc⟩ := h hl
  refine ⟨fb, e, hXY _ hb, fun i hi => ?_⟩
  obtain ⟨ad, cap, h1, h2, h3, h4, h6, h5⟩ := hc i hi
  exact ⟨ad, cap, h1, h2, h3, h4, h6, fun x ex hl => hXY _ (h5 x ex hl)⟩

/-- A disk of the document's, on paper; its value. -/
structure Rd where
  quota : Int
  steps : Int
  left : Int
  armed : Bool
  gone : Bool
  fs : List Rf
abbrev rcells (M : Rd) (fa : Option Addr) (fc : Nat) : Array Value := #[.int .i64 M.quota, .int .i64 M.steps, .int .i64 M.left, .bool M.armed, .bool M.gone, .slice fa M.fs.length fc]
abbrev rval (M : Rd) (fa : Option Addr) (fc : Nat) : Value := .agg (rcells M fa fc)

def atR (nm : List UInt8) : List Rf → Nat → Int
  | [], _ => -1
  | r :: l, i => if r.nm = nm then (i : Int) else atR nm l (i + 1)
theorem atR_none {nm : List UInt8} : ∀ (l : List Rf) (i : Nat), (∀ r ∈ l, r.nm ≠ nm) → atR nm l i = -1
  | [], _, _ => rfl
  | r :: l, i, h => by
    unfold atR
    rw [if_neg (h r (by simp))]
    exact atR_none l (i + 1) fun x hx => h x (by simp [hx])
theorem atR_at {nm : List UInt8} : ∀ (l : List Rf) (j k : Nat) (hk : k < l.length), (∀ i (hi : i < l.length), i < k → l[i].nm ≠ nm) → l[k].nm = nm → atR nm l j = ((j + k : Nat) : Int)
  | [], _, k, hk, _, _ => by simp at hk
  | r :: l, j, 0, _, _, h => by
    unfold atR
    rw [if_pos (by simpa using h)]; rfl
  | r :: l, j, k + 1, hk, hn, h => by
    unfold atR
    have h0 := hn 0 (by simp) (by omega)
    rw [if_neg (by simpa using h0), atR_at l (j + 1) k (by simpa using hk) (fun i hi hik => by have := hn (i + 1) (by simpa using hi) (by omega); rwa [List.getElem_cons_succ] at this) (by rwa [List.getElem_cons_succ] at h)]
    omega

theorem at_d {w : World} {X : Nat → Prop} {M : Rd} {fa : Option Addr} {fc : Nat} (hf : Fs w X fa M.fs) (hn : M.fs.length ≤ 1000000) (nm : List UInt8) :
    Calls Try.prog 64 #[rval M fa fc, .string (bstr nm)] w fun e w' => e = .returned (.int .i64 (atR nm M.fs 0)) ∧ Below w.heap.size w w' := by
  obtain ⟨u, hu⟩ : ∃ u, Hid (u = w.alloc (.cells (rcells M fa fc) 34)) := ⟨_, hide1 rfl⟩
  have hb : Below w.heap.size w u := by rw [hu.out]; exact (Below.refl _ _).alloc (Nat.le_refl _) _
  have hr : u.heap[w.heap.size]? = some (.cells (rcells M fa fc) 34 (0, 0)) := by rw [hu.out]; exact (MapKept.heap_alloc w _).1
  have c5 : u.cell? ⟨w.heap.size, 5, none⟩ = some (.slice fa M.fs.length fc) := cell_row hr 5
  have hf := hf.later hb
  go_enter Try.func64, Try.ntmps64
  go_wp2
  rw [← hu.out]
  clear hr hu
  go_loop [5] (fun i => ∃ k : Nat, k ≤ M.fs.length ∧ (∀ j (hj : j < M.fs.length), j < k → M.fs[j].nm ≠ nm) ∧ i = .int .i64 k) (fun i => M.fs.length - (intOf i).toNat)
  case atStart => exact ⟨0, by omega, fun j _ h => by omega, rfl⟩
  case round =>
    obtain ⟨k, hk, hall, rfl⟩ := hrel
    by_cases hlt : k < M.fs.length
    · obtain ⟨fb, rfl, _, hc⟩ := hf (by omega)
      obtain ⟨ad, cap, h1, _⟩ := hc k hlt
      by_cases he : M.fs[k].nm = nm
      · have h2 : (M.fs[k].nm == nm) = true := by simpa using he
        have h3 := atR_at M.fs 0 k hlt (fun i hi hik => hall i hi hik) he
        rw [Nat.zero_add] at h3
        clear hc hall
        go_wp2
        try rw [h3]
        go_ret
        exact ⟨rfl, hb⟩
      · have h2 : (M.fs[k].nm == nm) = false := by simpa using he
        have hall' : ∀ j (hj : j < M.fs.length), j < k + 1 → M.fs[j].nm ≠ nm := fun j hj h => by
          by_cases e : j = k
          · subst e; exact he
          · exact hall j hj (by omega)
        clear hc hall
        go_wp2
        exact ⟨⟨k + 1, by omega, hall', by go_num⟩, by simp [intOf]; omega⟩
    · have h3 : atR nm M.fs 0 = -1 := atR_none _ _ fun r hr => by
        obtain ⟨j, hj, rfl⟩ := List.mem_iff_getElem.1 hr
        exact hall j hj (by omega)
      clear hall
      go_wp2
      try rw [h3]
      go_ret
      exact ⟨rfl, hb⟩
def usedR (R : List Rf) : Int := (R.map fun r => (r.dat.length : Int)).sum
theorem usedR_take (R : List Rf) (k : Nat) (h : k < R.length) : usedR (R.take (k + 1)) = usedR (R.take k) + R[k].dat.length := by
  unfold usedR
  rw [List.take_succ_eq_append_getElem h, List.map_append, List.sum_append]
  simp
theorem usedR_nn (R : List Rf) : 0 ≤ usedR R := by
  unfold usedR
  induction R with
  | nil => simp
  | cons p r ih => simp only [List.map_cons, List.sum_cons]; omega
theorem usedR_le (R : List Rf) (k : Nat) : usedR (R.take k) ≤ usedR R := by
  have h1 : usedR R = usedR (R.take k) + usedR (R.drop k) := by
    unfold usedR
    rw [← List.sum_append, ← List.map_append, List.take_append_drop]
  have := usedR_nn (R.drop k)
  omega
theorem used_r {w : World} {X : Nat → Prop} {M : Rd} {fa : Option Addr} {fc : Nat} (hf : Fs w X fa M.fs) (hn : M.fs.length ≤ 1000000) (hq : usedR M.fs ≤ 1000000000) :
    Calls Try.prog 43 #[rval M fa fc] w fun e w' => e = .returned (.int .i64 (usedR M.fs)) ∧ Below w.heap.size w w' := by
  obtain ⟨u, hu⟩ : ∃ u, Hid (u = w.alloc (.cells (rcells M fa fc) 34)) := ⟨_, hide1 rfl⟩
  have hb : Below w.heap.size w u := by rw [hu.out]; exact (Below.refl _ _).alloc (Nat.le_refl _) _
  have hr : u.heap[w.heap.size]? = some (.cells (rcells M fa fc) 34 (0, 0)) := by rw [hu.out]; exact (MapKept.heap_alloc w _).1
  have c5 : u.cell? ⟨w.heap.size, 5, none⟩ = some (.slice fa M.fs.length fc) := cell_row hr 5
  have hf := hf.later hb
  go_enter Try.func43, Try.ntmps43
  go_wp2
  rw [← hu.out]
  clear hr hu
  go_loop [3, 4] (fun x i => ∃ k : Nat, k ≤ M.fs.length ∧ i = .int .i64 k ∧ x = .int .i64 (usedR (M.fs.take k))) (fun _ i => M.fs.length - (intOf i).toNat)
  case atStart => exact ⟨0, by omega, rfl, rfl⟩
  case round =>
    obtain ⟨k, hk, rfl, rfl⟩ := hrel
    by_cases hlt : k < M.fs.length
    · obtain ⟨fb, rfl, _, hc⟩ := hf (by omega)
      obtain ⟨ad, cap, _, h1, _⟩ := hc k hlt
      have h2 := usedR_take M.fs k hlt
      have h3 := usedR_nn (M.fs.take k)
      have h4 := usedR_le M.fs (k + 1)
      clear hc
      rw [h2] at h4
      generalize usedR (M.fs.take k) = us at *
      go_wp2
      exact ⟨⟨k + 1, by omega, by go_num, by rw [h2]⟩, by simp [intOf]; omega⟩
    · obtain rfl : k = M.fs.length := by omega
      have h3 : usedR (M.fs.take M.fs.length) = usedR M.fs := by rw [List.take_length]
      go_wp2
      try rw [h3]
      go_ret
      exact ⟨rfl, hb⟩

set_option maxHeartbeats 1000000 in
theorem named_r (s : ByteArray) (w : World) : Calls Try.prog 62 #[.string s] w fun e w' => e = .returned (.bool (isName s.data.toList)) ∧ w' = w := by
  have hsz : s.data.toList.length = s.size := by simp
  by_cases h0 : s.size < 1
  · have e : isName s.data.toList = false := by
      have : s.data.toList = [] := List.eq_nil_of_length_eq_zero (by omega)
      rw [this]; rfl
    rw [e]
    have h1 : (s.size : Int) < 1 := by omega
    go_enter Try.func62, Try.ntmps62
    go_wp2
    go_ret
    exact ⟨rfl, rfl⟩
  · have hne : s.data.toList.isEmpty = false := by
      cases h : s.data.toList with
      | nil => rw [h] at hsz; simp at hsz; omega
      | cons _ _ => rfl
    have h1 : 1 ≤ (s.size : Int) := by omega
    by_cases h2 : s.size ≤ 64
    · have e : isName s.data.toList = s.data.toList.all fun c => sgn (c.toNat : Int) := by simp only [isName, hne, hsz, h2]; rfl
      rw [e]
      clear hne hsz e h0
      have hB1 : ∀ k (hlt : k < s.size), sgn (s[k].toNat : Int) = false → (s.data.toList.all fun c => sgn (c.toNat : Int)) = false := fun k hlt hb => all_bad hlt hb
      have hB2 : (∀ k (hk : k < s.size), sgn (s[k].toNat : Int) = true) → (s.data.toList.all fun c => sgn (c.toNat : Int)) = true := fun h => all_good h
      generalize (s.data.toList.all fun c => sgn (c.toNat : Int)) = B at *
      go_enter Try.func62, Try.ntmps62
      go_wp2
      go_loop [3] (fun i => ∃ k : Nat, k ≤ s.size ∧ (∀ j (hj : j < s.size), j < k → sgn (s[j].toNat : Int) = true) ∧ i = .int .i64 k) (fun i => s.size - (intOf i).toNat)
      case atStart => exact ⟨0, by omega, fun j _ h => by omega, rfl⟩
      case round =>
        obtain ⟨k, hk, hall, rfl⟩ := hrel
        by_cases hlt : k < s.size
        · have hbad := hB1 k hlt
          have hgood : sgn (s[k].toNat : Int) = true → ∀ j (hj : j < s.size), j < k + 1 → sgn (s[j].toNat : Int) = true := fun hb j hj h => by
            by_cases e : j = k
            · subst e; exact hb
            · exact hall j hj (by omega)
          clear hall hB1 hB2
          go_wp2
          all_goals first
            | exact ⟨⟨k + 1, by omega, hgood (by unfold sgn; grind), by go_num⟩, by simp [intOf]; omega⟩
            | (go_ret; refine ⟨ret_b ?_, rfl⟩; exact (hbad (by unfold sgn; grind)).symm)
        · obtain rfl := hB2 fun j hj => hall j hj (by omega)
          clear hall
          go_wp2
          go_ret
          exact ⟨rfl, rfl⟩
    · have e : isName s.data.toList = false := by simp only [isName, hsz, h2]; simp
      have h2 : 64 < s.size := by omega
      rw [e]
      clear hne hsz e
      go_enter Try.func62, Try.ntmps62
      go_wp2
      go_ret
      exact ⟨rfl, rfl⟩
end Go.Proofs.Ytcmgpllnficmdaa

namespace Go.Proofs.Ytcmgpllnficmdaa
open Go.RowKit Go.Maps

/-- The cells of files, one behind the other. -/
def FcsOK (w : World) (X : Nat → Prop) : List Rf → List Value → Prop
  | [], cs => cs = []
  | r :: R, cs => ∃ ad cap rest, cs = .string (bstr r.nm) :: .slice ad r.dat.length cap :: .int .i64 (r.sure : Int) :: rest ∧ (Bs w ad r.dat.length r.dat ∧ r.dat.length ≤ cap) ∧ (∀ x, ad = some x → 0 < r.dat.length → X x.block) ∧ FcsOK w X R rest
theorem fcs_len {w : World} {X : Nat → Prop} : ∀ {R : List Rf} {cs : List Value}, FcsOK w X R cs → cs.length = R.length * 3
  | [], cs, h => by rw [show cs = [] from h]; rfl
  | r :: R, cs, h => by
    obtain ⟨ad, cap, rest, rfl, _, _, h4⟩ := h
    have := fcs_len h4
    simp only [List.length_cons]; omega
theorem fcs_snoc {w : World} {X : Nat → Prop} {r : Rf} {ad : Option Addr} {cap : Nat} (h1 : Bs w ad r.dat.length r.dat ∧ r.dat.length ≤ cap) (h2 : ∀ x, ad = some x → 0 < r.dat.length → X x.block) : ∀ {R : List Rf} {cs : List Value}, FcsOK w X R cs → FcsOK w X (R ++ [r]) (cs ++ [.string (bstr r.nm), .slice ad r.dat.length cap, .int .i64 (r.sure : Int)])
  | [], cs, h => by
    rw [show cs = [] from h]
    exact ⟨ad, cap, [], rfl, h1, h2, rfl⟩
  | x :: R, cs, h => by
    obtain ⟨ad', cap', rest, rfl, a1, a2, a3⟩ := h
    exact ⟨ad', cap', _, rfl, a1, a2, fcs_snoc h1 h2 a3⟩
theorem fcs_fr {S X : Nat → Prop} {w w' : World} (f : Fr S w w') (hX : ∀ k, X k → ¬ S k) : ∀ {R : List Rf} {cs : List Value}, FcsOK w X R cs → FcsOK w' X R cs
  | [], _, h => h
  | x :: R, cs, h => by
    obtain ⟨ad', cap', rest, rfl, a1, a2, a3⟩ := h
    exact ⟨ad', cap', rest, rfl, ⟨a1.1.fr f fun x ex hl => hX _ (a2 x ex hl), a1.2⟩, a2, fcs_fr f hX a3⟩
theorem fcs_at {w : World} {X : Nat → Prop} : ∀ {R : List Rf} {cs : List Value}, FcsOK w X R cs → ∀ i (h : i < R.length), ∃ ad cap, cs[i * 3]? = some (.string (bstr R[i].nm)) ∧ cs[i * 3 + 1]? = some (.slice ad R[i].dat.length cap) ∧ cs[i * 3 + 2]? = some (.int .i64 (R[i].sure : Int)) ∧ (Bs w ad R[i].dat.length R[i].dat ∧ R[i].dat.length ≤ cap) ∧ ∀ x, ad = some x → 0 < R[i].dat.length → X x.block
  | [], _, _, i, h => by simp at h
  | r :: R, cs, h, 0, _ => by
    obtain ⟨ad, cap, rest, rfl, a1, a2, a3⟩ := h
    exact ⟨ad, cap, rfl, rfl, rfl, a1, a2⟩
  | r :: R, cs, h, i + 1, hi => by
    obtain ⟨ad, cap, rest, rfl, a1, a2, a3⟩ := h
    obtain ⟨ad', cap', b1, b2, b3, b4, b5⟩ := fcs_at a3 i (by simpa using hi)
    refine ⟨ad', cap', ?_, ?_, ?_, b4, b5⟩
    · rw [show (i + 1) * 3 = i * 3 + 3 by omega]; exact b1
    · rw [show (i + 1) * 3 + 1 = i * 3 + 1 + 3 by omega]; exact b2
    · rw [show (i + 1) * 3 + 2 = i * 3 + 2 + 3 by omega]; exact b3

/-- A row of files that grows. -/
def GrR (w : World) (base : Nat) (X : Nat → Prop) (v : Value) (R : List Rf) : Prop := ∃ cs, w.ownsRow base 78 3 v R.length cs ∧ FcsOK w X R cs
theorem GrR.fs {w : World} {base : Nat} {X : Nat → Prop} {v : Value} {R : List Rf} (h : GrR w base X v R) : ∃ fa fc, v = .slice fa R.length fc ∧ Fs w (fun k => X k ∨ base ≤ k) fa R := by
  obtain ⟨cs, ho, hc⟩ := h
  have hl := ho.1
  rcases ho.2 with ⟨rfl, hn⟩ | ⟨g, cap, cur, rfl, hb, hg, hnc, hcm, hcs, ht⟩
  · exact ⟨none, 0, by rw [hn], fun h => by omega⟩
  · refine ⟨_, cap, rfl, fun _ => ⟨g, rfl, .inr hb, fun i hi => ?_⟩⟩
    obtain ⟨ad, c', b1, b2, b3, b4, b5⟩ := fcs_at hc i hi
    have key : ∀ j u, cs[j]? = some u → w.cell? ⟨g, j, none⟩ = some u := fun j u hj => by
      have hjl : j < cs.length := (List.getElem?_eq_some_iff.1 hj).1
      rw [cell_row hg, ← hj, ← ht, List.getElem?_take, if_pos (by omega)]
      simp
    exact ⟨ad, c', key _ _ b1, key _ _ b2, key _ _ b3, b4.1, b4.2, fun x ex hl => .inl (b5 x ex hl)⟩

theorem GrR.later {w w' : World} {base : Nat} {X : Nat → Prop} {v : Value} {R : List Rf} (h : GrR w base X v R) (f : Below w.heap.size w w') : GrR w' base X v R := by
  obtain ⟨cs, ho, hc⟩ := h
  have hlt := ho.lt
  refine ⟨cs, ⟨ho.1, ?_⟩, fcs_fr (fr_b f fun _ => False) (fun _ _ => id) hc⟩
  rcases ho.2 with h1 | ⟨g, cap, cur, rfl, h2, h3, h4⟩
  · exact .inl h1
  · exact .inr ⟨g, cap, cur, rfl, h2, (f.block g (hlt g rfl).2).trans h3, h4⟩
theorem GrR.own {w : World} {base : Nat} {X : Nat → Prop} {v : Value} {R : List Rf} (h : GrR w base X v R) : ∀ k, v.ownBlock = some k → base ≤ k ∧ k < w.heap.size := by
  obtain ⟨cs, ho, _⟩ := h
  exact ho.lt
theorem info78 : (Try.prog.info? 78).map (fun i => (i.zero, i.size, i.bytes)) = some (some (.agg #[.string ByteArray.empty, .slice none 0 0, .int .i64 0]), 3, 48) := by kernel_rfl

/-- One file more, at the operation. -/
theorem wpList_app_file {w : World} {ops : Array Oper} {rest : List Oper} {o : Oper} {a : Act} {Q : Exit → Act → World → Prop} (hgd : o.guard = none) (s x : Operand)
    (ho : o.op = .call { callee := .builtin .append, args := #[s, x], argTypes := #[32, 32] }) (base : Nat) (X : Nat → Prop) (v : Value) (R : List Rf) (hs : a.eval s = v) (hown : GrR w base X v R) (r : Rf) (ad : Option Addr) (cap g c : Nat) (hx : a.eval x = .slice (some ⟨g, 0, none⟩) 1 c)
    (hg : w.heap[g]? = some (.cells #[.string (bstr r.nm), .slice ad r.dat.length cap, .int .i64 (r.sure : Int)] 78 (0, 0))) (h1 : Bs w ad r.dat.length r.dat) (h6 : r.dat.length ≤ cap) (h2 : ∀ x, ad = some x → 0 < r.dat.length → X x.block) (hX : ∀ k, X k → k < base) (hn : R.length ≤ 1000000) (hbase : base ≤ w.heap.size)
    (h : ∀ v' w', GrR w' base X v' (R ++ [r]) → w.grownBy w' v.ownBlock → wpList Try.prog ops Q rest (a.put o.dst v') w') : wpList Try.prog ops Q (o :: rest) a w := by
  obtain ⟨i0, hi, hz0, hz1, hz2⟩ := info_parts info78
  obtain ⟨cs, ho1, hc⟩ := hown
  refine wpList_append_own_at w hgd s x 32 ho base 78 i0 _ 3 48 Try.underlying32 hi hz0 hz1 hz2 rfl (by decide) v R.length cs hs ho1 ⟨g, 0, none⟩ 1 c [.string (bstr r.nm), .slice ad r.dat.length cap, .int .i64 (r.sure : Int)] hx rfl (fun j u hj => ?_) (fun u hu => ?_) (by unfold maxLen; omega) (by omega) hbase fun v' w' g1 g2 _ _ => ?_
  · rw [Addr.add_lit, Nat.zero_add, cell_row hg]
    simpa using hj
  · simp only [List.mem_cons, List.not_mem_nil, or_false] at hu
    rcases hu with rfl | rfl | rfl <;> rfl
  · refine h v' w' ⟨_, by simpa using g1, ?_⟩ g2
    have hf : Fr (fun k => base ≤ k) w w' := fr_grown g2 _ fun i e => (ho1.lt i e).1
    exact fcs_snoc ⟨h1.fr hf fun x ex hl e => (by have := hX _ (h2 x ex hl); omega), h6⟩ h2 (fcs_fr hf (fun k hk e => by have := hX k hk; omega) hc)

def delR (nm : List UInt8) (R : List Rf) : List Rf := R.filter fun r => !(r.nm == nm)
theorem del_take (nm : List UInt8) (R : List Rf) (k : Nat) (h : k < R.length) : delR nm (R.take (k + 1)) = delR nm (R.take k) ++ (if R[k].nm == nm then [] else [R[k]]) := by
  unfold delR
  rw [List.take_succ_eq_append_getElem h, List.filter_append]
  congr 1
  rw [List.filter_cons]
  cases R[k].nm == nm <;> simp

theorem take_len (R : List Rf) (nm : List UInt8) (k : Nat) : (delR nm (R.take k)).length ≤ R.length := Nat.le_trans (List.length_filter_le _ _) (by simp; omega)

set_option maxHeartbeats 1000000 in
theorem without_d {w : World} {X : Nat → Prop} {R : List Rf} {fa : Option Addr} {fc : Nat} (hf : Fs w X fa R) (hX : ∀ k, X k → k < w.heap.size) (hn : R.length ≤ 1000000) (nm : List UInt8) :
    Calls Try.prog 66 #[.slice fa R.length fc, .string (bstr nm)] w fun e w' => ∃ v', e = .returned v' ∧ GrR w' w.heap.size X v' (delR nm R) ∧ Below w.heap.size w w' := by
  go_enter Try.func66, Try.ntmps66
  go_wp2
  go_loopw [5, 6] (fun v i wr => ∃ k : Nat, k ≤ R.length ∧ i = .int .i64 k ∧ GrR wr w.heap.size X v (delR nm (R.take k)) ∧ Below w.heap.size w wr) (fun _ i _ => R.length - (intOf i).toNat)
  case atStart => exact ⟨0, by omega, rfl, ⟨[], World.ownsRow_nil _ _ _ _, rfl⟩, Below.refl _ _⟩
  case round =>
    obtain ⟨k, hk, rfl, hg, hb⟩ := hrel
    by_cases hlt : k < R.length
    · have hf := hf.later hb
      obtain ⟨fb, rfl, _, hc⟩ := hf (by omega)
      obtain ⟨ad, cap, h1, h2, h3, h4, h6, h5⟩ := hc k hlt
      have hd := del_take nm R k hlt
      have hlen := take_len R nm k
      cases he : R[k].nm == nm with
      | true =>
        rw [he, if_pos rfl, List.append_nil] at hd
        clear hc h2 h3 h4 h5 h6
        go_wp2
        exact ⟨⟨k + 1, by omega, by go_num, by rw [hd]; exact hg, hb⟩, by simp [intOf]; omega⟩
      | false =>
        rw [he] at hd
        have hal : Below wr.heap.size wr (wr.alloc (.cells #[.string (bstr R[k].nm), .slice ad R[k].dat.length cap, .int .i64 (R[k].sure : Int)] 78)) := (Below.refl _ _).alloc (Nat.le_refl _) _
        have hbs := hb.size
        clear hc
        go_wp2_with (first
          | (at_builtin; refine wpList_app_file rfl (.tmp 20) (.tmp 25) rfl w.heap.size X _ (delR nm (R.take k)) rfl (hg.later hal) R[k] ad cap wr.heap.size 1 rfl (MapKept.heap_alloc wr _).1 (h4.later hal) h6 h5 hX (by omega) (by simp; omega) ?_; intro v' w' hg' hgr)
          | go_in)
        go_roundw
        case rel => exact ⟨k + 1, by omega, by go_num, by rw [hd]; exact hg', (hb.trans (hal.mono hbs)).grown hgr (by simp; omega) fun i e => (hg.own i e).1⟩
        case measure => simp [intOf]; omega
    · obtain rfl : k = R.length := by omega
      rw [List.take_length] at hg
      go_wp2
      go_ret
      exact ⟨_, rfl, hg, hb⟩
end Go.Proofs.Ytcmgpllnficmdaa

namespace Go.Proofs.Ytcmgpllnficmdaa
open Go.RowKit Go.Maps

/-- One file of a row is gone through: what is made so far, and whether the new one is in it. -/
def putSt (r : Rf) (s : List Rf × Bool) (x : Rf) : List Rf × Bool :=
  (bif s.2 || Op.bytesLess x.nm r.nm then bif x.nm == r.nm then s.1 else s.1 ++ [x] else bif x.nm == r.nm then s.1 ++ [r] else s.1 ++ [r] ++ [x],
   bif s.2 || Op.bytesLess x.nm r.nm then s.2 else true)
def putP (r : Rf) (R : List Rf) (k : Nat) : List Rf × Bool := (R.take k).foldl (putSt r) ([], false)
def putR (r : Rf) (R : List Rf) : List Rf := bif (putP r R R.length).2 then (putP r R R.length).1 else (putP r R R.length).1 ++ [r]
theorem putP_succ (r : Rf) (R : List Rf) (k : Nat) (h : k < R.length) : putP r R (k + 1) = putSt r (putP r R k) R[k] := by
  unfold putP
  rw [List.take_succ_eq_append_getElem h, List.foldl_append]; rfl
theorem putSt_len (r : Rf) (s : List Rf × Bool) (x : Rf) : (putSt r s x).1.length ≤ s.1.length + 2 := by
  unfold putSt
  cases s.2 || Op.bytesLess x.nm r.nm <;> cases x.nm == r.nm <;> simp
theorem putP_len (r : Rf) (R : List Rf) : ∀ k, k ≤ R.length → (putP r R k).1.length ≤ 2 * k
  | 0, _ => by simp [putP]
  | k + 1, h => by
    rw [putP_succ r R k h]
    have := putSt_len r (putP r R k) (R[k])
    have := putP_len r R k (by omega)
    omega

/-- A file's three cells, at an address. -/
structure C3 (w : World) (X : Nat → Prop) (g o : Nat) (x : Rf) (ad : Option Addr) (cap : Nat) : Prop where
  c0 : w.cell? ⟨g, o, none⟩ = some (.string (bstr x.nm))
  c1 : w.cell? ⟨g, o + 1, none⟩ = some (.slice ad x.dat.length cap)
  c2 : w.cell? ⟨g, o + 2, none⟩ = some (.int .i64 (x.sure : Int))
  bs : Bs w ad x.dat.length x.dat
  cp : x.dat.length ≤ cap
  bx : ∀ y, ad = some y → 0 < x.dat.length → X y.block
theorem C3.fr {S X : Nat → Prop} {w w' : World} {g o : Nat} {x : Rf} {ad : Option Addr} {cap : Nat} (h : C3 w X g o x ad cap) (f : Fr S w w') (hg : ¬ S g) (hX : ∀ k, X k → ¬ S k) : C3 w' X g o x ad cap :=
  ⟨cell_fr f hg h.c0, cell_fr f hg h.c1, cell_fr f hg h.c2, h.bs.fr f fun y e hl => hX _ (h.bx y e hl), h.cp, h.bx⟩
/-- What is known in the midst of put: the row so far, the new file, the file at hand. -/
structure PS (u : World) (B : Nat) (X : Nat → Prop) (r x : Rf) (ad ad' : Option Addr) (cap cap' fb o : Nat) (wr : World) (v : Value) (out : List Rf) : Prop where
  hg : GrR wr B X v out
  hb : Below B u wr
  sz : B ≤ wr.heap.size
  r3 : C3 wr X (B - 1) 0 r ad cap
  x3 : C3 wr X fb o x ad' cap'
theorem PS.fr {u wr w2 : World} {B : Nat} {X : Nat → Prop} {r x : Rf} {ad ad' : Option Addr} {cap cap' fb o : Nat} {v v2 : Value} {out out2 : List Rf} (h : PS u B X r x ad ad' cap cap' fb o wr v out) (f : Fr (fun i => B ≤ i) wr w2) (hg : GrR w2 B X v2 out2) (hB : 0 < B) (hX : ∀ k, X k → k < B) (hfb : fb < B) : PS u B X r x ad ad' cap cap' fb o w2 v2 out2 :=
  ⟨hg, h.hb.trans (f.below B h.sz fun _ e => e), Nat.le_trans h.sz f.size, h.r3.fr f (by omega) fun k hk => by have := hX k hk; omega, h.x3.fr f (by omega) fun k hk => by have := hX k hk; omega⟩
theorem PS.drew {u wr : World} {B : Nat} {X : Nat → Prop} {r x : Rf} {ad ad' : Option Addr} {cap cap' fb o : Nat} {v : Value} {out : List Rf} (h : PS u B X r x ad ad' cap cap' fb o wr v out) (n : Nat) : PS u B X r x ad ad' cap cap' fb o (wr.drewN n) v out :=
  ⟨h.hg.later (below_drewN wr n), h.hb.trans ((below_drewN wr n).mono h.sz), h.sz, h.r3.fr (fr_b (below_drewN wr n) fun _ => False) id fun _ _ => id, h.x3.fr (fr_b (below_drewN wr n) fun _ => False) id fun _ _ => id⟩

/-- One file more, which stands in a new block. -/
theorem app_file {w : World} {ops : Array Oper} {rest : List Oper} {o : Oper} {a : Act} {Q : Exit → Act → World → Prop} (hgd : o.guard = none) (s x : Operand)
    (ho : o.op = .call { callee := .builtin .append, args := #[s, x], argTypes := #[32, 32] }) (base : Nat) (X : Nat → Prop) (v : Value) (R : List Rf) (hs : a.eval s = v) (hown : GrR w base X v R) (r : Rf) (ad : Option Addr) (cap : Nat) (hx : a.eval x = .slice (some ⟨w.heap.size, 0, none⟩) 1 1)
    (h1 : Bs w ad r.dat.length r.dat) (h6 : r.dat.length ≤ cap) (h2 : ∀ x, ad = some x → 0 < r.dat.length → X x.block) (hX : ∀ k, X k → k < base) (hn : R.length ≤ 1000000) (hbase : base ≤ w.heap.size)
    (h : ∀ v' w', GrR w' base X v' (R ++ [r]) → Fr (fun i => base ≤ i) w w' → wpList Try.prog ops Q rest (a.put o.dst v') w') : wpList Try.prog ops Q (o :: rest) a (w.alloc (.cells #[.string (bstr r.nm), .slice ad r.dat.length cap, .int .i64 (r.sure : Int)] 78)) := by
  have hal : Below w.heap.size w (w.alloc (.cells #[.string (bstr r.nm), .slice ad r.dat.length cap, .int .i64 (r.sure : Int)] 78)) := (Below.refl _ _).alloc (Nat.le_refl _) _
  exact wpList_app_file hgd s x ho base X v R hs (hown.later hal) r ad cap w.heap.size 1 hx (MapKept.heap_alloc w _).1 (h1.later hal) h6 h2 hX hn (by simp; omega) fun v' w' g1 g2 =>
    h v' w' g1 ((fr_b hal _).trans (fr_grown g2 _ fun i e => (hown.own i e).1) fun _ _ e => e)

set_option maxHeartbeats 4000000 in
theorem put_d {w : World} {X : Nat → Prop} {R : List Rf} {fa : Option Addr} {fc : Nat} (hf : Fs w X fa R) (hX : ∀ k, X k → k < w.heap.size) (hn : R.length ≤ 400000) (r : Rf) (ad : Option Addr) (cap : Nat) (hbr : Bs w ad r.dat.length r.dat) (hcr : r.dat.length ≤ cap) (hxr : ∀ x, ad = some x → 0 < r.dat.length → X x.block) :
    Calls Try.prog 65 #[.slice fa R.length fc, .agg #[.string (bstr r.nm), .slice ad r.dat.length cap, .int .i64 (r.sure : Int)]] w fun e w' => ∃ v', e = .returned v' ∧ GrR w' (w.heap.size + 1) X v' (putR r R) ∧ Below w.heap.size w w' := by
  obtain ⟨u, hu⟩ : ∃ u, Hid (u = w.alloc (.cells #[.string (bstr r.nm), .slice ad r.dat.length cap, .int .i64 (r.sure : Int)] 78)) := ⟨_, hide1 rfl⟩
  have hbu : Below w.heap.size w u := by rw [hu.out]; exact (Below.refl _ _).alloc (Nat.le_refl _) _
  have hr : u.heap[w.heap.size]? = some (.cells #[.string (bstr r.nm), .slice ad r.dat.length cap, .int .i64 (r.sure : Int)] 78 (0, 0)) := by rw [hu.out]; exact (MapKept.heap_alloc w _).1
  have hus : Hid (u.heap.size = w.heap.size + 1) := hide1 (by rw [hu.out]; simp)
  have hX1 : ∀ k, X k → k < w.heap.size + 1 := fun k hk => by have := hX k hk; omega
  have hf := hf.later hbu
  have hr3 : C3 u X w.heap.size 0 r ad cap := ⟨cell_row hr 0, cell_row hr 1, cell_row hr 2, hbr.later hbu, hcr, hxr⟩
  clear hr hbr
  go_enter Try.func65, Try.ntmps65
  go_wp2
  rw [← hu.out]
  clear hu
  go_loopw [5, 6, 7] (fun v d i wr => ∃ k : Nat, k ≤ R.length ∧ i = .int .i64 k ∧ d = .bool (putP r R k).2 ∧ GrR wr (w.heap.size + 1) X v (putP r R k).1 ∧ Below (w.heap.size + 1) u wr) (fun _ _ i _ => R.length - (intOf i).toNat)
  case atStart => exact ⟨0, by omega, rfl, rfl, ⟨[], World.ownsRow_nil _ _ _ _, rfl⟩, Below.refl _ _⟩
  case round =>
    obtain ⟨k, hk, rfl, rfl, hg, hb⟩ := hrel
    have hb0 : Below u.heap.size u wr := by rw [hus.out]; exact hb
    have hsz : w.heap.size + 1 ≤ wr.heap.size := by have := hb.size; have := hus.out; omega
    have hpl := putP_len r R k hk
    have hr3 : C3 wr X w.heap.size 0 r ad cap := hr3.fr (fr_b hb0 fun _ => False) id fun _ _ => id
    by_cases hlt : k < R.length
    · have hf := hf.later hb0
      obtain ⟨fb, rfl, hxf, hc⟩ := hf (by omega)
      obtain ⟨ad', cap', h1, h2, h3, h4, h6, h5⟩ := hc k hlt
      have hstep := hide1 (putP_succ r R k hlt)
      obtain ⟨out, hout⟩ : ∃ out, Hid ((putP r R k).1 = out) := ⟨_, hide1 rfl⟩
      rw [hout.out] at hg hpl
      have hxf := hX1 fb hxf
      have ps : PS u (w.heap.size + 1) X r R[k] ad ad' cap cap' fb (k * 3) wr _ out := ⟨hg, hb, hsz, hr3, h1, h2, h3, h4, h6, h5⟩
      clear hc hf hb0 hg hr3 h1 h2 h3 h4 h5 h6 hsz hb hbu
      cases hd : (putP r R k).2 with
      | true =>
        cases he : R[k].nm == r.nm with
        | true =>
          have hnx : putP r R (k + 1) = (out, true) := by rw [hstep.out, putSt, hd, he, hout.out]; rfl
          obtain ⟨h1, h2, h3, _, _, _⟩ := ps.x3
          have c0 : wr.cell? ⟨w.heap.size, 0, none⟩ = some (.string (bstr r.nm)) := ps.r3.c0
          have c1 : wr.cell? ⟨w.heap.size, 1, none⟩ = some (.slice ad r.dat.length cap) := ps.r3.c1
          have c2 : wr.cell? ⟨w.heap.size, 2, none⟩ = some (.int .i64 (r.sure : Int)) := ps.r3.c2
          go_wp2
          go_quiet (fail)
          have ps := ps.drew nq
          clear c0 c1 c2 h1 h2 h3
          generalize wr.drewN nq = wq at ps ⊢
          obtain ⟨h1, h2, h3, _, _, _⟩ := ps.x3
          have c0 : wq.cell? ⟨w.heap.size, 0, none⟩ = some (.string (bstr r.nm)) := ps.r3.c0
          have c1 : wq.cell? ⟨w.heap.size, 1, none⟩ = some (.slice ad r.dat.length cap) := ps.r3.c1
          have c2 : wq.cell? ⟨w.heap.size, 2, none⟩ = some (.int .i64 (r.sure : Int)) := ps.r3.c2
          go_wp2
          go_quiet (fail)
          have ps := ps.drew nq
          clear c0 c1 c2 h1 h2 h3
          generalize wq.drewN nq = wz at ps ⊢
          go_wp2
          exact ⟨⟨k + 1, by omega, by go_num, by rw [hnx], by rw [hnx]; exact ps.hg, ps.hb⟩, by simp [intOf]; omega⟩
        | false =>
          have hnx : putP r R (k + 1) = (out ++ [R[k]], true) := by rw [hstep.out, putSt, hd, he, hout.out]; rfl
          obtain ⟨h1, h2, h3, _, _, _⟩ := ps.x3
          have c0 : wr.cell? ⟨w.heap.size, 0, none⟩ = some (.string (bstr r.nm)) := ps.r3.c0
          have c1 : wr.cell? ⟨w.heap.size, 1, none⟩ = some (.slice ad r.dat.length cap) := ps.r3.c1
          have c2 : wr.cell? ⟨w.heap.size, 2, none⟩ = some (.int .i64 (r.sure : Int)) := ps.r3.c2
          go_wp2
          go_quiet (fail)
          have ps := ps.drew nq
          clear c0 c1 c2 h1 h2 h3
          generalize wr.drewN nq = wq at ps ⊢
          obtain ⟨h1, h2, h3, _, _, _⟩ := ps.x3
          have c0 : wq.cell? ⟨w.heap.size, 0, none⟩ = some (.string (bstr r.nm)) := ps.r3.c0
          have c1 : wq.cell? ⟨w.heap.size, 1, none⟩ = some (.slice ad r.dat.length cap) := ps.r3.c1
          have c2 : wq.cell? ⟨w.heap.size, 2, none⟩ = some (.int .i64 (r.sure : Int)) := ps.r3.c2
          go_wp2
          go_quiet (fail)
          have ps := ps.drew nq
          clear c0 c1 c2 h1 h2 h3
          generalize wq.drewN nq = wz at ps ⊢
          obtain ⟨h1, h2, h3, _, _, _⟩ := ps.x3
          have c0 : wz.cell? ⟨w.heap.size, 0, none⟩ = some (.string (bstr r.nm)) := ps.r3.c0
          have c1 : wz.cell? ⟨w.heap.size, 1, none⟩ = some (.slice ad r.dat.length cap) := ps.r3.c1
          have c2 : wz.cell? ⟨w.heap.size, 2, none⟩ = some (.int .i64 (r.sure : Int)) := ps.r3.c2
          go_wp2_with (first
            | (at_builtin; refine app_file rfl (.tmp 38) (.tmp 43) rfl (w.heap.size + 1) X _ out rfl ps.hg R[k] ad' cap' rfl ps.x3.bs ps.x3.cp ps.x3.bx hX1 (by first | omega | (simp; omega)) ps.sz ?_; intro vwb wb hg2 hf2; have ps := ps.fr hf2 hg2 (by omega) hX1 hxf; clear hg2 hf2 c0 c1 c2 h1 h2 h3)
            | go_in)
          go_roundw
          case rel => exact ⟨k + 1, by omega, by go_num, by rw [hnx], by rw [hnx]; exact ps.hg, ps.hb⟩
          case measure => simp [intOf]; omega
      | false =>
        cases hl : Op.bytesLess R[k].nm r.nm with
        | true =>
          cases he : R[k].nm == r.nm with
          | true =>
            have hnx : putP r R (k + 1) = (out, false) := by rw [hstep.out, putSt, hd, he, hl, hout.out]; rfl
            obtain ⟨h1, h2, h3, _, _, _⟩ := ps.x3
            have c0 : wr.cell? ⟨w.heap.size, 0, none⟩ = some (.string (bstr r.nm)) := ps.r3.c0
            have c1 : wr.cell? ⟨w.heap.size, 1, none⟩ = some (.slice ad r.dat.length cap) := ps.r3.c1
            have c2 : wr.cell? ⟨w.heap.size, 2, none⟩ = some (.int .i64 (r.sure : Int)) := ps.r3.c2
            go_wp2
            go_quiet (fail)
            have ps := ps.drew nq
            clear c0 c1 c2 h1 h2 h3
            generalize wr.drewN nq = wq at ps ⊢
            obtain ⟨h1, h2, h3, _, _, _⟩ := ps.x3
            have c0 : wq.cell? ⟨w.heap.size, 0, none⟩ = some (.string (bstr r.nm)) := ps.r3.c0
            have c1 : wq.cell? ⟨w.heap.size, 1, none⟩ = some (.slice ad r.dat.length cap) := ps.r3.c1
            have c2 : wq.cell? ⟨w.heap.size, 2, none⟩ = some (.int .i64 (r.sure : Int)) := ps.r3.c2
            go_wp2
            go_quiet (fail)
            have ps := ps.drew nq
            clear c0 c1 c2 h1 h2 h3
            generalize wq.drewN nq = wz at ps ⊢
            go_wp2
            exact ⟨⟨k + 1, by omega, by go_num, by rw [hnx], by rw [hnx]; exact ps.hg, ps.hb⟩, by simp [intOf]; omega⟩
          | false =>
            have hnx : putP r R (k + 1) = (out ++ [R[k]], false) := by rw [hstep.out, putSt, hd, he, hl, hout.out]; rfl
            obtain ⟨h1, h2, h3, _, _, _⟩ := ps.x3
            have c0 : wr.cell? ⟨w.heap.size, 0, none⟩ = some (.string (bstr r.nm)) := ps.r3.c0
            have c1 : wr.cell? ⟨w.heap.size, 1, none⟩ = some (.slice ad r.dat.length cap) := ps.r3.c1
            have c2 : wr.cell? ⟨w.heap.size, 2, none⟩ = some (.int .i64 (r.sure : Int)) := ps.r3.c2
            go_wp2
            go_quiet (fail)
            have ps := ps.drew nq
            clear c0 c1 c2 h1 h2 h3
            generalize wr.drewN nq = wq at ps ⊢
            obtain ⟨h1, h2, h3, _, _, _⟩ := ps.x3
            have c0 : wq.cell? ⟨w.heap.size, 0, none⟩ = some (.string (bstr r.nm)) := ps.r3.c0
            have c1 : wq.cell? ⟨w.heap.size, 1, none⟩ = some (.slice ad r.dat.length cap) := ps.r3.c1
            have c2 : wq.cell? ⟨w.heap.size, 2, none⟩ = some (.int .i64 (r.sure : Int)) := ps.r3.c2
            go_wp2
            go_quiet (fail)
            have ps := ps.drew nq
            clear c0 c1 c2 h1 h2 h3
            generalize wq.drewN nq = wz at ps ⊢
            obtain ⟨h1, h2, h3, _, _, _⟩ := ps.x3
            have c0 : wz.cell? ⟨w.heap.size, 0, none⟩ = some (.string (bstr r.nm)) := ps.r3.c0
            have c1 : wz.cell? ⟨w.heap.size, 1, none⟩ = some (.slice ad r.dat.length cap) := ps.r3.c1
            have c2 : wz.cell? ⟨w.heap.size, 2, none⟩ = some (.int .i64 (r.sure : Int)) := ps.r3.c2
            go_wp2_with (first
              | (at_builtin; refine app_file rfl (.tmp 38) (.tmp 43) rfl (w.heap.size + 1) X _ out rfl ps.hg R[k] ad' cap' rfl ps.x3.bs ps.x3.cp ps.x3.bx hX1 (by first | omega | (simp; omega)) ps.sz ?_; intro vwb wb hg2 hf2; have ps := ps.fr hf2 hg2 (by omega) hX1 hxf; clear hg2 hf2 c0 c1 c2 h1 h2 h3)
              | go_in)
            go_roundw
            case rel => exact ⟨k + 1, by omega, by go_num, by rw [hnx], by rw [hnx]; exact ps.hg, ps.hb⟩
            case measure => simp [intOf]; omega
        | false =>
          cases he : R[k].nm == r.nm with
          | true =>
            have hnx : putP r R (k + 1) = (out ++ [r], true) := by rw [hstep.out, putSt, hd, he, hl, hout.out]; rfl
            obtain ⟨h1, h2, h3, _, _, _⟩ := ps.x3
            have c0 : wr.cell? ⟨w.heap.size, 0, none⟩ = some (.string (bstr r.nm)) := ps.r3.c0
            have c1 : wr.cell? ⟨w.heap.size, 1, none⟩ = some (.slice ad r.dat.length cap) := ps.r3.c1
            have c2 : wr.cell? ⟨w.heap.size, 2, none⟩ = some (.int .i64 (r.sure : Int)) := ps.r3.c2
            go_wp2
            go_quiet (fail)
            have ps := ps.drew nq
            clear c0 c1 c2 h1 h2 h3
            generalize wr.drewN nq = wq at ps ⊢
            obtain ⟨h1, h2, h3, _, _, _⟩ := ps.x3
            have c0 : wq.cell? ⟨w.heap.size, 0, none⟩ = some (.string (bstr r.nm)) := ps.r3.c0
            have c1 : wq.cell? ⟨w.heap.size, 1, none⟩ = some (.slice ad r.dat.length cap) := ps.r3.c1
            have c2 : wq.cell? ⟨w.heap.size, 2, none⟩ = some (.int .i64 (r.sure : Int)) := ps.r3.c2
            go_wp2_with (first
              | (at_builtin; refine app_file rfl (.tmp 26) (.tmp 28) rfl (w.heap.size + 1) X _ out rfl ps.hg r ad cap rfl ps.r3.bs ps.r3.cp ps.r3.bx hX1 (by first | omega | (simp; omega)) ps.sz ?_; intro vwa wa hg2 hf2; have ps := ps.fr hf2 hg2 (by omega) hX1 hxf; clear hg2 hf2 c0 c1 c2 h1 h2 h3)
              | go_in)
            obtain ⟨h1, h2, h3, _, _, _⟩ := ps.x3
            have c0 : wa.cell? ⟨w.heap.size, 0, none⟩ = some (.string (bstr r.nm)) := ps.r3.c0
            have c1 : wa.cell? ⟨w.heap.size, 1, none⟩ = some (.slice ad r.dat.length cap) := ps.r3.c1
            have c2 : wa.cell? ⟨w.heap.size, 2, none⟩ = some (.int .i64 (r.sure : Int)) := ps.r3.c2
            go_wp2
            go_quiet (fail)
            have ps := ps.drew nq
            clear c0 c1 c2 h1 h2 h3
            generalize wa.drewN nq = wz at ps ⊢
            go_wp2
            exact ⟨⟨k + 1, by omega, by go_num, by rw [hnx], by rw [hnx]; exact ps.hg, ps.hb⟩, by simp [intOf]; omega⟩
          | false =>
            have hnx : putP r R (k + 1) = (out ++ [r] ++ [R[k]], true) := by rw [hstep.out, putSt, hd, he, hl, hout.out]; rfl
            obtain ⟨h1, h2, h3, _, _, _⟩ := ps.x3
            have c0 : wr.cell? ⟨w.heap.size, 0, none⟩ = some (.string (bstr r.nm)) := ps.r3.c0
            have c1 : wr.cell? ⟨w.heap.size, 1, none⟩ = some (.slice ad r.dat.length cap) := ps.r3.c1
            have c2 : wr.cell? ⟨w.heap.size, 2, none⟩ = some (.int .i64 (r.sure : Int)) := ps.r3.c2
            go_wp2
            go_quiet (fail)
            have ps := ps.drew nq
            clear c0 c1 c2 h1 h2 h3
            generalize wr.drewN nq = wq at ps ⊢
            obtain ⟨h1, h2, h3, _, _, _⟩ := ps.x3
            have c0 : wq.cell? ⟨w.heap.size, 0, none⟩ = some (.string (bstr r.nm)) := ps.r3.c0
            have c1 : wq.cell? ⟨w.heap.size, 1, none⟩ = some (.slice ad r.dat.length cap) := ps.r3.c1
            have c2 : wq.cell? ⟨w.heap.size, 2, none⟩ = some (.int .i64 (r.sure : Int)) := ps.r3.c2
            go_wp2_with (first
              | (at_builtin; refine app_file rfl (.tmp 26) (.tmp 28) rfl (w.heap.size + 1) X _ out rfl ps.hg r ad cap rfl ps.r3.bs ps.r3.cp ps.r3.bx hX1 (by first | omega | (simp; omega)) ps.sz ?_; intro vwa wa hg2 hf2; have ps := ps.fr hf2 hg2 (by omega) hX1 hxf; clear hg2 hf2 c0 c1 c2 h1 h2 h3)
              | go_in)
            obtain ⟨h1, h2, h3, _, _, _⟩ := ps.x3
            have c0 : wa.cell? ⟨w.heap.size, 0, none⟩ = some (.string (bstr r.nm)) := ps.r3.c0
            have c1 : wa.cell? ⟨w.heap.size, 1, none⟩ = some (.slice ad r.dat.length cap) := ps.r3.c1
            have c2 : wa.cell? ⟨w.heap.size, 2, none⟩ = some (.int .i64 (r.sure : Int)) := ps.r3.c2
            go_wp2
            go_quiet (fail)
            have ps := ps.drew nq
            clear c0 c1 c2 h1 h2 h3
            generalize wa.drewN nq = wz at ps ⊢
            obtain ⟨h1, h2, h3, _, _, _⟩ := ps.x3
            have c0 : wz.cell? ⟨w.heap.size, 0, none⟩ = some (.string (bstr r.nm)) := ps.r3.c0
            have c1 : wz.cell? ⟨w.heap.size, 1, none⟩ = some (.slice ad r.dat.length cap) := ps.r3.c1
            have c2 : wz.cell? ⟨w.heap.size, 2, none⟩ = some (.int .i64 (r.sure : Int)) := ps.r3.c2
            go_wp2_with (first
              | (at_builtin; refine app_file rfl (.tmp 38) (.tmp 43) rfl (w.heap.size + 1) X _ (out ++ [r]) rfl ps.hg R[k] ad' cap' rfl ps.x3.bs ps.x3.cp ps.x3.bx hX1 (by first | omega | (simp; omega)) ps.sz ?_; intro vwb wb hg2 hf2; have ps := ps.fr hf2 hg2 (by omega) hX1 hxf; clear hg2 hf2 c0 c1 c2 h1 h2 h3)
              | go_in)
            go_roundw
            case rel => exact ⟨k + 1, by omega, by go_num, by rw [hnx], by rw [hnx]; exact ps.hg, ps.hb⟩
            case measure => simp [intOf]; omega
    · obtain rfl : k = R.length := by omega
      have hbw : ∀ {w2 : World}, Below (w.heap.size + 1) u w2 → Below w.heap.size w w2 := fun h => hbu.trans (h.mono (by omega))
      have hput : putR r R = bif (putP r R R.length).2 then (putP r R R.length).1 else (putP r R R.length).1 ++ [r] := rfl
      obtain ⟨out, hout⟩ : ∃ out, Hid ((putP r R R.length).1 = out) := ⟨_, hide1 rfl⟩
      rw [hout.out] at hg hpl hput
      cases hd : (putP r R R.length).2 with
      | true =>
        rw [hd] at hput
        have hput : putR r R = out := hput
        rw [← hput] at hg
        clear hput
        go_wp2
        go_ret
        exact ⟨_, rfl, hg, hbw hb⟩
      | false =>
        rw [hd] at hput
        have hput := hide1 (show putR r R = out ++ [r] from hput)
        obtain ⟨c0, c1', c2', b3, b5, b4⟩ := hr3
        have c1 : wr.cell? ⟨w.heap.size, 1, none⟩ = some (.slice ad r.dat.length cap) := c1'
        have c2 : wr.cell? ⟨w.heap.size, 2, none⟩ = some (.int .i64 (r.sure : Int)) := c2'
        clear c1' c2'
        go_wp2_with (first
          | (at_builtin; refine app_file rfl (.tmp 47) (.tmp 49) rfl (w.heap.size + 1) X _ out rfl hg r ad cap rfl b3 b5 b4 hX1 (by omega) hsz ?_; intro v2 w2 hg2 hf2)
          | go_in)
        go_ret
        rw [← hput.out] at hg2
        exact ⟨_, rfl, hg2, hbw (hb.trans (hf2.below _ hsz fun _ e => e))⟩
end Go.Proofs.Ytcmgpllnficmdaa

namespace Go.Proofs.Ytcmgpllnficmdaa
open Go.RowKit Go.Maps

theorem results_ct {fn : Func} {t u : Tmp} (h : fn.results = #[.cell t 34, .tmp u]) (tmps : Array Value) {w : World} {g : Nat} {M : Rd} {fa : Option Addr} {fc : Nat} (ht : tmps.getD t undef = pD g) (hg : w.heap[g]? = some (.cells (rcells M fa fc) 34 (0, 0))) :
    (results fn tmps).run Try.prog w = .ok (.tuple #[rval M fa fc, tmps.getD u undef]) w := by
  have hl := run_loadVar_row (P := Try.prog) w g 34 34 (rcells M fa fc) (0, 0) _ hg Try.underlying34 (by rfl) (by kernel_rfl)
  have ht2 : tmps[t]?.getD undef = pD g := by simpa using ht
  simp [results, h, ht2, asAddr, hl, Result.andThen]

theorem alloc2_at (w : World) (A B : Obj) : ((w.alloc A).alloc B).heap[w.heap.size + 1]? = some B := by
  have := (MapKept.heap_alloc (w.alloc A) B).1
  simpa using this
def gonM (M : Rd) : Rd := { M with gone := true }
def stpM (M : Rd) : Rd := { M with steps := M.steps + 1, left := if M.armed then M.left - 1 else M.left }
def canM (M : Rd) : Bool := !M.gone && !(M.armed && M.left == 0)
theorem step_r {w : World} {M : Rd} {fa : Option Addr} {fc : Nat} (hs : 0 ≤ M.steps ∧ M.steps < 1000000000) (hl : M.armed = true → 0 ≤ M.left ∧ M.left < 9223372036854775808) : Calls Try.prog 63 #[rval M fa fc] w fun e w' => e = .returned (.tuple #[rval (if canM M then stpM M else gonM M) fa fc, .bool (canM M)]) ∧ Below w.heap.size w w' := by
  obtain ⟨qu, st, lf, ar, go, fs⟩ := M
  obtain ⟨s1, s2⟩ := hs
  simp only at s1 s2 hl
  cases go with
  | true =>
    show Calls Try.prog 63 #[rval ⟨qu, st, lf, ar, true, fs⟩ fa fc] w fun e w' => e = .returned (.tuple #[rval ⟨qu, st, lf, ar, true, fs⟩ fa fc, .bool false]) ∧ Below w.heap.size w w'
    go_enter Try.func63, Try.ntmps63
    go_wp2
    refine bodyPost_ret (results_ct (M := ⟨qu, st, lf, ar, true, fs⟩) rfl _ rfl (alloc2_at _ _ _)) rfl ?_
    exact ⟨rfl, by go_grown⟩
  | false =>
    cases ar with
    | true =>
      obtain ⟨l1, l2⟩ := hl rfl
      by_cases h0 : lf = 0
      · subst h0
        show Calls Try.prog 63 #[rval ⟨qu, st, 0, true, false, fs⟩ fa fc] w fun e w' => e = .returned (.tuple #[rval ⟨qu, st, 0, true, true, fs⟩ fa fc, .bool false]) ∧ Below w.heap.size w w'
        go_enter Try.func63, Try.ntmps63
        go_wp2
        refine bodyPost_ret (results_ct (M := ⟨qu, st, 0, true, true, fs⟩) rfl _ rfl (alloc2_at _ _ _)) rfl ?_
        exact ⟨rfl, by go_grown⟩
      · have hc : canM ⟨qu, st, lf, true, false, fs⟩ = true := by simp [canM, h0]
        have h1 : (lf == 0) = false := by simpa using h0
        rw [hc]
        show Calls Try.prog 63 #[rval ⟨qu, st, lf, true, false, fs⟩ fa fc] w fun e w' => e = .returned (.tuple #[rval ⟨qu, st + 1, lf - 1, true, false, fs⟩ fa fc, .bool true]) ∧ Below w.heap.size w w'
        go_enter Try.func63, Try.ntmps63
        go_wp2
        refine bodyPost_ret (results_ct (M := ⟨qu, st + 1, lf - 1, true, false, fs⟩) rfl _ rfl (alloc2_at _ _ _)) rfl ?_
        exact ⟨rfl, by go_grown⟩
    | false =>
      show Calls Try.prog 63 #[rval ⟨qu, st, lf, false, false, fs⟩ fa fc] w fun e w' => e = .returned (.tuple #[rval ⟨qu, st + 1, lf, false, false, fs⟩ fa fc, .bool true]) ∧ Below w.heap.size w w'
      go_enter Try.func63, Try.ntmps63
      go_wp2
      refine bodyPost_ret (results_ct (M := ⟨qu, st + 1, lf, false, false, fs⟩) rfl _ rfl (alloc2_at _ _ _)) rfl ?_
      exact ⟨rfl, by go_grown⟩
end Go.Proofs.Ytcmgpllnficmdaa

namespace Go.Proofs.Ytcmgpllnficmdaa
open Go.RowKit Go.Maps

abbrev row6 (a b c d e f : Value) : Array Value := #[a, b, c, d, e, f]
/-- A row of six cells, cell by cell. -/
structure C6 (w : World) (g : Nat) (a b c d e f : Value) : Prop where
  c0 : w.cell? ⟨g, 0, none⟩ = some a
  c1 : w.cell? ⟨g, 1, none⟩ = some b
  c2 : w.cell? ⟨g, 2, none⟩ = some c
  c3 : w.cell? ⟨g, 3, none⟩ = some d
  c4 : w.cell? ⟨g, 4, none⟩ = some e
  c5 : w.cell? ⟨g, 5, none⟩ = some f
  f0 : w.frozen? ⟨g, 0, none⟩ = false
  f1 : w.frozen? ⟨g, 1, none⟩ = false
  f2 : w.frozen? ⟨g, 2, none⟩ = false
  f3 : w.frozen? ⟨g, 3, none⟩ = false
  f4 : w.frozen? ⟨g, 4, none⟩ = false
  f5 : w.frozen? ⟨g, 5, none⟩ = false
theorem c6_of {w : World} {g : Nat} {a b c d e f : Value} {t : TypeId} (h : w.heap[g]? = some (.cells (row6 a b c d e f) t (0, 0))) : C6 w g a b c d e f :=
  ⟨cell_row h 0, cell_row h 1, cell_row h 2, cell_row h 3, cell_row h 4, cell_row h 5, froz_row h 0, froz_row h 1, froz_row h 2, froz_row h 3, froz_row h 4, froz_row h 5⟩
abbrev set6 (w : World) (g : Nat) (a b c d e f : Value) : World := (((((w.setCell ⟨g, 0, none⟩ a).setCell ⟨g, 1, none⟩ b).setCell ⟨g, 2, none⟩ c).setCell ⟨g, 3, none⟩ d).setCell ⟨g, 4, none⟩ e).setCell ⟨g, 5, none⟩ f
theorem set6_wt {w : World} {g : Nat} {a b c d e f a' b' c' d' e' f' : Value} {t : TypeId} (h : w.heap[g]? = some (.cells (row6 a' b' c' d' e' f') t (0, 0))) : Wt w (set6 w g a b c d e f) g (row6 a b c d e f) t := by
  have := ((((((Wt.refl h).cell 0 a).cell 1 b).cell 2 c).cell 3 d).cell 4 e).cell 5 f
  simpa using this
abbrev zrow : Array Value := row6 (.int .i64 0) (.int .i64 0) (.int .i64 0) (.bool false) (.bool false) (.slice none 0 0)

/-- In a call of the document's: its disk in the first new block, its result in the second. -/
structure RB (w wr : World) (M : Rd) (fa : Option Addr) (fc : Nat) : Prop where
  r0 : wr.heap[w.heap.size]? = some (.cells (rcells M fa fc) 34 (0, 0))
  r1 : wr.heap[w.heap.size + 1]? = some (.cells zrow 34 (0, 0))
  hb : Below w.heap.size w wr
theorem RB.start (w : World) (M : Rd) (fa : Option Addr) (fc : Nat) : RB w ((w.alloc (.cells (rcells M fa fc) 34)).alloc (.cells zrow 34)) M fa fc := by
  refine ⟨?_, alloc2_at _ _ _, ((Below.refl _ _).alloc (Nat.le_refl _) _).alloc (by simp) _⟩
  rw [Below.heap_alloc _ _ _ (by simp)]; exact (MapKept.heap_alloc w _).1
theorem RB.lt {w wr : World} {M : Rd} {fa : Option Addr} {fc : Nat} (h : RB w wr M fa fc) : w.heap.size + 1 < wr.heap.size := (Array.getElem?_eq_some_iff.1 h.r1).1
theorem RB.later {w wr w2 : World} {M : Rd} {fa : Option Addr} {fc : Nat} (h : RB w wr M fa fc) (f : Below wr.heap.size wr w2) : RB w w2 M fa fc :=
  ⟨(f.block _ (by have := h.lt; omega)).trans h.r0, (f.block _ h.lt).trans h.r1, h.hb.trans (f.mono h.hb.size)⟩
theorem RB.set {w wr : World} {M : Rd} {fa : Option Addr} {fc : Nat} (h : RB w wr M fa fc) (M' : Rd) (fa' : Option Addr) (fc' : Nat) : RB w ((((((wr.setCell ⟨w.heap.size, 0, none⟩ (.int .i64 M'.quota)).setCell ⟨w.heap.size, 1, none⟩ (.int .i64 M'.steps)).setCell ⟨w.heap.size, 2, none⟩ (.int .i64 M'.left)).setCell ⟨w.heap.size, 3, none⟩ (.bool M'.armed)).setCell ⟨w.heap.size, 4, none⟩ (.bool M'.gone)).setCell ⟨w.heap.size, 5, none⟩ (.slice fa' M'.fs.length fc')) M' fa' fc' := by
  have hw := set6_wt (a := .int .i64 M'.quota) (b := .int .i64 M'.steps) (c := .int .i64 M'.left) (d := .bool M'.armed) (e := .bool M'.gone) (f := .slice fa' M'.fs.length fc') h.r0
  exact ⟨hw.row, (hw.block _ (by omega)).trans h.r1, h.hb.trans (hw.fr.below _ h.hb.size fun i e => by omega)⟩
theorem RB.set5 {w wr : World} {M : Rd} {fa : Option Addr} {fc : Nat} (h : RB w wr M fa fc) (fs' : List Rf) (fa' : Option Addr) (fc' : Nat) : RB w (wr.setCell ⟨w.heap.size, 5, none⟩ (.slice fa' fs'.length fc')) { M with fs := fs' } fa' fc' := by
  have hw := (Wt.refl h.r0).cell 5 (.slice fa' fs'.length fc')
  have e : (rcells M fa fc).setIfInBounds 5 (.slice fa' fs'.length fc') = rcells { M with fs := fs' } fa' fc' := by simp
  rw [e] at hw
  exact ⟨hw.row, (hw.block _ (by omega)).trans h.r1, h.hb.trans (hw.fr.below _ h.hb.size fun i e => by omega)⟩
/-- The result is laid. -/
theorem RB.fin {w wr : World} {M : Rd} {fa : Option Addr} {fc : Nat} (h : RB w wr M fa fc) : ((((((wr.setCell ⟨w.heap.size + 1, 0, none⟩ (.int .i64 M.quota)).setCell ⟨w.heap.size + 1, 1, none⟩ (.int .i64 M.steps)).setCell ⟨w.heap.size + 1, 2, none⟩ (.int .i64 M.left)).setCell ⟨w.heap.size + 1, 3, none⟩ (.bool M.armed)).setCell ⟨w.heap.size + 1, 4, none⟩ (.bool M.gone)).setCell ⟨w.heap.size + 1, 5, none⟩ (.slice fa M.fs.length fc)).heap[w.heap.size + 1]? = some (.cells (rcells M fa fc) 34 (0, 0)) ∧ Fr (· = w.heap.size + 1) wr ((((((wr.setCell ⟨w.heap.size + 1, 0, none⟩ (.int .i64 M.quota)).setCell ⟨w.heap.size + 1, 1, none⟩ (.int .i64 M.steps)).setCell ⟨w.heap.size + 1, 2, none⟩ (.int .i64 M.left)).setCell ⟨w.heap.size + 1, 3, none⟩ (.bool M.armed)).setCell ⟨w.heap.size + 1, 4, none⟩ (.bool M.gone)).setCell ⟨w.heap.size + 1, 5, none⟩ (.slice fa M.fs.length fc)) ∧ Below w.heap.size w ((((((wr.setCell ⟨w.heap.size + 1, 0, none⟩ (.int .i64 M.quota)).setCell ⟨w.heap.size + 1, 1, none⟩ (.int .i64 M.steps)).setCell ⟨w.heap.size + 1, 2, none⟩ (.int .i64 M.left)).setCell ⟨w.heap.size + 1, 3, none⟩ (.bool M.armed)).setCell ⟨w.heap.size + 1, 4, none⟩ (.bool M.gone)).setCell ⟨w.heap.size + 1, 5, none⟩ (.slice fa M.fs.length fc)) := by
  have hw := set6_wt (a := .int .i64 M.quota) (b := .int .i64 M.steps) (c := .int .i64 M.left) (d := .bool M.armed) (e := .bool M.gone) (f := .slice fa M.fs.length fc) h.r1
  exact ⟨hw.row, hw.fr, h.hb.trans (hw.fr.below _ h.hb.size fun i e => by omega)⟩

/-- A file whose bytes are all sure. -/
def syR (r : Rf) : Rf := { r with sure := r.dat.length }
section
variable {w : World} {X : Nat → Prop} {M : Rd} {fa : Option Addr} {fc : Nat} {nm : List UInt8}
theorem sync_r_n (hf : Fs w X fa M.fs) (hn : M.fs.length ≤ 400000) (hk : atR nm M.fs 0 = -1) :
    Calls Try.prog 34 #[rval M fa fc, .string (bstr nm)] w fun e w' => e = .returned (.tuple #[rval M fa fc, .int .i64 5]) ∧ Below w.heap.size w w' := by
  have rb := RB.start w M fa fc
  have hat := at_d (fc := fc) (hf.later rb.hb) (by omega) nm
  rw [hk] at hat
  go_enter Try.func34, Try.ntmps34
  go_wp2_with fail
  refine hat.mono ?_
  rintro e w1 ⟨rfl, hb1⟩
  have rb := rb.later hb1
  obtain ⟨c0, c1, c2, c3, c4, c5, f0, f1, f2, f3, f4, f5⟩ := c6_of rb.r0
  obtain ⟨d0, d1, d2, d3, d4, d5, g0, g1, g2, g3, g4, g5⟩ := c6_of rb.r1
  obtain ⟨e1, _, e2⟩ := rb.fin
  clear hat
  go_wp2
  refine bodyPost_ret (results_ct (M := M) rfl _ rfl e1) rfl ?_
  exact ⟨rfl, e2⟩
theorem sync_r_down (hf : Fs w X fa M.fs) (hn : M.fs.length ≤ 400000) (hs : 0 ≤ M.steps ∧ M.steps < 1000000000) (hl : M.armed = true → 0 ≤ M.left ∧ M.left < 9223372036854775808) {k : Nat} (hk : atR nm M.fs 0 = k) (hc : canM M = false) :
    Calls Try.prog 34 #[rval M fa fc, .string (bstr nm)] w fun e w' => e = .returned (.tuple #[rval (gonM M) fa fc, .int .i64 4]) ∧ Below w.heap.size w w' := by
  have rb := RB.start w M fa fc
  have hat := at_d (fc := fc) (hf.later rb.hb) (by omega) nm
  rw [hk] at hat
  have hst := fun w => step_r (w := w) (fa := fa) (fc := fc) hs hl
  rw [hc] at hst
  go_enter Try.func34, Try.ntmps34
  go_wp2_with fail
  refine hat.mono ?_
  rintro e w1 ⟨rfl, hb1⟩
  have rb := rb.later hb1
  clear hat
  obtain ⟨c0, c1, c2, c3, c4, c5, f0, f1, f2, f3, f4, f5⟩ := c6_of rb.r0
  go_wp2_with fail
  refine (hst _).mono ?_
  rintro e w2 ⟨rfl, hb2⟩
  clear c0 c1 c2 c3 c4 c5 f0 f1 f2 f3 f4 f5 hst
  have rb := rb.later hb2
  obtain ⟨c0, c1, c2, c3, c4, c5, f0, f1, f2, f3, f4, f5⟩ := c6_of rb.r0
  go_upto_region 5 with fail
  have rb := rb.set (gonM M) fa fc
  clear c0 c1 c2 c3 c4 c5 f0 f1 f2 f3 f4 f5
  generalize ((((((w2.setCell ⟨w.heap.size, 0, none⟩ (.int .i64 (gonM M).quota)).setCell ⟨w.heap.size, 1, none⟩ (.int .i64 (gonM M).steps)).setCell ⟨w.heap.size, 2, none⟩ (.int .i64 (gonM M).left)).setCell ⟨w.heap.size, 3, none⟩ (.bool (gonM M).armed)).setCell ⟨w.heap.size, 4, none⟩ (.bool (gonM M).gone)).setCell ⟨w.heap.size, 5, none⟩ (.slice fa (gonM M).fs.length fc)) = w3 at rb ⊢
  obtain ⟨c0, c1, c2, c3, c4, c5, f0, f1, f2, f3, f4, f5⟩ := c6_of rb.r0
  obtain ⟨d0, d1, d2, d3, d4, d5, g0, g1, g2, g3, g4, g5⟩ := c6_of rb.r1
  obtain ⟨e1, _, e2⟩ := rb.fin
  go_wp2
  refine bodyPost_ret (results_ct (M := gonM M) rfl _ rfl e1) rfl ?_
  exact ⟨rfl, e2⟩
end
end Go.Proofs.Ytcmgpllnficmdaa

namespace Go.Proofs.Ytcmgpllnficmdaa
open Go.RowKit Go.Maps

/-- What a call of the document's answers: a disk, an error's number. -/
def ROut (w : World) (X : Nat → Prop) (M' : Rd) (bad : Int) (e : Ending) (w' : World) : Prop := ∃ fa' fc', e = .returned (.tuple #[rval M' fa' fc', .int .i64 bad]) ∧ Fs w' (fun k => X k ∨ w.heap.size ≤ k) fa' M'.fs ∧ Below w.heap.size w w'
theorem ROut.of {w w' : World} {X : Nat → Prop} {M : Rd} {fa : Option Addr} {fc : Nat} {bad : Int} {e : Ending} (he : e = .returned (.tuple #[rval M fa fc, .int .i64 bad])) (hf : Fs w X fa M.fs) (hb : Below w.heap.size w w') : ROut w X M bad e w' := ⟨fa, fc, he, (hf.later hb).mono fun _ h => .inl h, hb⟩
theorem stp_fs (M : Rd) : (stpM M).fs = M.fs := rfl
section
variable {w : World} {X : Nat → Prop} {M : Rd} {fa : Option Addr} {fc : Nat} {nm : List UInt8}
/-- The row of files that put has made, laid into the disk. -/
theorem put_fin {w w4 w5 w6 : World} {B : Nat} {v : Value} {R : List Rf} {fa' : Option Addr} (hX : ∀ k, X k → k < w.heap.size) (hB : w.heap.size + 2 ≤ B) (hfs : Fs w4 (fun k => X k ∨ B ≤ k) fa' R) (f1 : Fr (· = w.heap.size) w4 w5) (f2 : Fr (· = w.heap.size + 1) w5 w6) (_ : v = v) : Fs w6 (fun k => X k ∨ w.heap.size ≤ k) fa' R := by
  have h1 := (hfs.fr f1 (by rintro k (h | h) (e : k = _); (have := hX k h; omega); omega)).fr f2 (by rintro k (h | h) (e : k = _); (have := hX k h; omega); omega)
  exact h1.mono fun k h => h.imp id fun h => by omega

set_option maxHeartbeats 1000000 in
theorem sync_r_ok (hf : Fs w X fa M.fs) (hX : ∀ k, X k → k < w.heap.size) (hn : M.fs.length ≤ 400000) (hs : 0 ≤ M.steps ∧ M.steps < 1000000000) (hl : M.armed = true → 0 ≤ M.left ∧ M.left < 9223372036854775808) {k : Nat} (hk : atR nm M.fs 0 = k) (hkl : k < M.fs.length) (hc : canM M = true) :
    Calls Try.prog 34 #[rval M fa fc, .string (bstr nm)] w (ROut w X { stpM M with fs := putR (syR M.fs[k]) M.fs } 0) := by
  have rb := RB.start w M fa fc
  have hat := at_d (fc := fc) (hf.later rb.hb) (by omega) nm
  rw [hk] at hat
  have hst := fun w => step_r (w := w) (fa := fa) (fc := fc) hs hl
  rw [hc] at hst
  go_enter Try.func34, Try.ntmps34
  go_wp2_with fail
  refine hat.mono ?_
  rintro e w1 ⟨rfl, hb1⟩
  have rb := rb.later hb1
  clear hat
  obtain ⟨c0, c1, c2, c3, c4, c5, f0, f1, f2, f3, f4, f5⟩ := c6_of rb.r0
  go_wp2_with fail
  refine (hst _).mono ?_
  rintro e w2 ⟨rfl, hb2⟩
  clear c0 c1 c2 c3 c4 c5 f0 f1 f2 f3 f4 f5 hst
  have rb := rb.later hb2
  obtain ⟨c0, c1, c2, c3, c4, c5, f0, f1, f2, f3, f4, f5⟩ := c6_of rb.r0
  go_upto_region 5 with fail
  have rb := rb.set (stpM M) fa fc
  clear c0 c1 c2 c3 c4 c5 f0 f1 f2 f3 f4 f5
  generalize ((((((w2.setCell ⟨w.heap.size, 0, none⟩ (.int .i64 (stpM M).quota)).setCell ⟨w.heap.size, 1, none⟩ (.int .i64 (stpM M).steps)).setCell ⟨w.heap.size, 2, none⟩ (.int .i64 (stpM M).left)).setCell ⟨w.heap.size, 3, none⟩ (.bool (stpM M).armed)).setCell ⟨w.heap.size, 4, none⟩ (.bool (stpM M).gone)).setCell ⟨w.heap.size, 5, none⟩ (.slice fa (stpM M).fs.length fc)) = w3 at rb ⊢
  have hf3 := hf.later rb.hb
  obtain ⟨fb, rfl, hxf, hcc⟩ := hf3 (by omega)
  obtain ⟨ad, cap, h1, h2, h3, h4, h6, h5⟩ := hcc k hkl
  have hal : Below w3.heap.size w3 (w3.alloc (.cells #[.string (bstr M.fs[k].nm), .slice ad M.fs[k].dat.length cap, .int .i64 (M.fs[k].dat.length : Int)] 78)) := (Below.refl _ _).alloc (Nat.le_refl _) _
  have hput := put_d (fc := fc) (hf3.later hal) (fun k hk => by have := hX k hk; have := hal.size; have := rb.lt; omega) hn (syR M.fs[k]) ad cap (h4.later hal) h6 h5
  have hszB : w.heap.size + 1 < w3.heap.size := rb.lt
  have hszC := hal.size
  clear hcc
  obtain ⟨c0, c1, c2, c3, c4, c5, f0, f1, f2, f3, f4, f5⟩ := c6_of rb.r0
  have a5 := cell_later hal c5
  go_wp2_with fail
  refine hput.mono ?_
  rintro e w4 ⟨v4, rfl, hg4, hb4⟩
  have rb := rb.later (hal.trans (hb4.mono hal.size))
  obtain ⟨fa4, fc4, rfl, hfs4⟩ := hg4.fs
  clear c0 c1 c2 c3 c4 c5 f0 f1 f2 f3 f4 f5 hput a5
  obtain ⟨c0, c1, c2, c3, c4, c5, f0, f1, f2, f3, f4, f5⟩ := c6_of rb.r0
  go_upto_region 10 with fail
  have rb5 := rb.set5 (putR (syR M.fs[k]) M.fs) fa4 fc4
  have f5' : Fr (· = w.heap.size) w4 (w4.setCell ⟨w.heap.size, 5, none⟩ (.slice fa4 (putR (syR M.fs[k]) M.fs).length fc4)) := ((Wt.refl rb.r0).cell 5 _).fr
  clear c0 c1 c2 c3 c4 c5 f0 f1 f2 f3 f4 f5 rb
  generalize w4.setCell ⟨w.heap.size, 5, none⟩ (.slice fa4 (putR (syR M.fs[k]) M.fs).length fc4) = w5 at rb5 f5' ⊢
  have rb := rb5
  clear rb5
  obtain ⟨c0, c1, c2, c3, c4, c5, f0, f1, f2, f3, f4, f5⟩ := c6_of rb.r0
  obtain ⟨d0, d1, d2, d3, d4, d5, g0, g1, g2, g3, g4, g5⟩ := c6_of rb.r1
  obtain ⟨e1, e3, e2⟩ := rb.fin
  have hfin := put_fin (v := .bool true) hX (by have := hszB; omega) hfs4 f5' e3 rfl
  go_wp2
  refine bodyPost_ret (results_ct (M := { stpM M with fs := putR (syR M.fs[k]) M.fs }) rfl _ rfl e1) rfl ?_
  exact ⟨fa4, fc4, rfl, hfin, e2⟩
end
end Go.Proofs.Ytcmgpllnficmdaa

namespace Go.Proofs.Ytcmgpllnficmdaa
open Go.RowKit Go.Maps

section
variable {w : World} {X : Nat → Prop} {M : Rd} {fa : Option Addr} {fc : Nat} {nm : List UInt8}

theorem drop_r_n (hf : Fs w X fa M.fs) (hn : M.fs.length ≤ 400000) (hk : atR nm M.fs 0 = -1) :
    Calls Try.prog 37 #[rval M fa fc, .string (bstr nm)] w (ROut w X M 5) := by
  have rb := RB.start w M fa fc
  have hat := at_d (fc := fc) (hf.later rb.hb) (by omega) nm
  rw [hk] at hat
  go_enter Try.func37, Try.ntmps37
  go_wp2_with fail
  refine hat.mono ?_
  rintro e w1 ⟨rfl, hb1⟩
  have rb := rb.later hb1
  clear hat
  obtain ⟨c0, c1, c2, c3, c4, c5, f0, f1, f2, f3, f4, f5⟩ := c6_of rb.r0
  obtain ⟨d0, d1, d2, d3, d4, d5, g0, g1, g2, g3, g4, g5⟩ := c6_of rb.r1
  obtain ⟨e1, e3, e2⟩ := rb.fin
  go_wp2
  refine bodyPost_ret (results_ct (M := M) rfl _ rfl e1) rfl ?_
  exact ROut.of rfl hf e2

theorem drop_r_down (hf : Fs w X fa M.fs) (hn : M.fs.length ≤ 400000) (hs : 0 ≤ M.steps ∧ M.steps < 1000000000) (hl : M.armed = true → 0 ≤ M.left ∧ M.left < 9223372036854775808) {k : Nat} (hk : atR nm M.fs 0 = k) (hc : canM M = false) :
    Calls Try.prog 37 #[rval M fa fc, .string (bstr nm)] w (ROut w X (gonM M) 4) := by
  have rb := RB.start w M fa fc
  have hat := at_d (fc := fc) (hf.later rb.hb) (by omega) nm
  rw [hk] at hat
  have hst := fun w => step_r (w := w) (fa := fa) (fc := fc) hs hl
  rw [hc] at hst
  go_enter Try.func37, Try.ntmps37
  go_wp2_with fail
  refine hat.mono ?_
  rintro e w1 ⟨rfl, hb1⟩
  have rb := rb.later hb1
  clear hat
  obtain ⟨c0, c1, c2, c3, c4, c5, f0, f1, f2, f3, f4, f5⟩ := c6_of rb.r0
  go_wp2_with fail
  refine (hst _).mono ?_
  rintro e w2 ⟨rfl, hb2⟩
  clear c0 c1 c2 c3 c4 c5 f0 f1 f2 f3 f4 f5 hst
  have rb := rb.later hb2
  obtain ⟨c0, c1, c2, c3, c4, c5, f0, f1, f2, f3, f4, f5⟩ := c6_of rb.r0
  go_upto_region 4 with fail
  have rb := rb.set (gonM M) fa fc
  clear c0 c1 c2 c3 c4 c5 f0 f1 f2 f3 f4 f5
  generalize ((((((w2.setCell ⟨w.heap.size, 0, none⟩ (.int .i64 (gonM M).quota)).setCell ⟨w.heap.size, 1, none⟩ (.int .i64 (gonM M).steps)).setCell ⟨w.heap.size, 2, none⟩ (.int .i64 (gonM M).left)).setCell ⟨w.heap.size, 3, none⟩ (.bool (gonM M).armed)).setCell ⟨w.heap.size, 4, none⟩ (.bool (gonM M).gone)).setCell ⟨w.heap.size, 5, none⟩ (.slice fa (gonM M).fs.length fc)) = w3 at rb ⊢
  obtain ⟨c0, c1, c2, c3, c4, c5, f0, f1, f2, f3, f4, f5⟩ := c6_of rb.r0
  obtain ⟨d0, d1, d2, d3, d4, d5, g0, g1, g2, g3, g4, g5⟩ := c6_of rb.r1
  obtain ⟨e1, e3, e2⟩ := rb.fin
  go_wp2
  refine bodyPost_ret (results_ct (M := gonM M) rfl _ rfl e1) rfl ?_
  exact ROut.of (M := gonM M) rfl hf e2

theorem drop_r_ok (hf : Fs w X fa M.fs) (hX : ∀ k, X k → k < w.heap.size) (hn : M.fs.length ≤ 400000) (hs : 0 ≤ M.steps ∧ M.steps < 1000000000) (hl : M.armed = true → 0 ≤ M.left ∧ M.left < 9223372036854775808) {k : Nat} (hk : atR nm M.fs 0 = k) (hc : canM M = true) :
    Calls Try.prog 37 #[rval M fa fc, .string (bstr nm)] w (ROut w X { stpM M with fs := delR nm M.fs } 0) := by
  have rb := RB.start w M fa fc
  have hat := at_d (fc := fc) (hf.later rb.hb) (by omega) nm
  rw [hk] at hat
  have hst := fun w => step_r (w := w) (fa := fa) (fc := fc) hs hl
  rw [hc] at hst
  go_enter Try.func37, Try.ntmps37
  go_wp2_with fail
  refine hat.mono ?_
  rintro e w1 ⟨rfl, hb1⟩
  have rb := rb.later hb1
  clear hat
  obtain ⟨c0, c1, c2, c3, c4, c5, f0, f1, f2, f3, f4, f5⟩ := c6_of rb.r0
  go_wp2_with fail
  refine (hst _).mono ?_
  rintro e w2 ⟨rfl, hb2⟩
  clear c0 c1 c2 c3 c4 c5 f0 f1 f2 f3 f4 f5 hst
  have rb := rb.later hb2
  obtain ⟨c0, c1, c2, c3, c4, c5, f0, f1, f2, f3, f4, f5⟩ := c6_of rb.r0
  go_upto_region 4 with fail
  have rb := rb.set (stpM M) fa fc
  clear c0 c1 c2 c3 c4 c5 f0 f1 f2 f3 f4 f5
  generalize ((((((w2.setCell ⟨w.heap.size, 0, none⟩ (.int .i64 (stpM M).quota)).setCell ⟨w.heap.size, 1, none⟩ (.int .i64 (stpM M).steps)).setCell ⟨w.heap.size, 2, none⟩ (.int .i64 (stpM M).left)).setCell ⟨w.heap.size, 3, none⟩ (.bool (stpM M).armed)).setCell ⟨w.heap.size, 4, none⟩ (.bool (stpM M).gone)).setCell ⟨w.heap.size, 5, none⟩ (.slice fa (stpM M).fs.length fc)) = w3 at rb ⊢
  have hf3 := hf.later rb.hb
  have hszB : w.heap.size + 1 < w3.heap.size := rb.lt
  have hwo := without_d (fc := fc) hf3 (fun k hk => by have := hX k hk; omega) (by omega) nm
  obtain ⟨c0, c1, c2, c3, c4, c5, f0, f1, f2, f3, f4, f5⟩ := c6_of rb.r0
  go_wp2_with fail
  refine hwo.mono ?_
  rintro e w4 ⟨v4, rfl, hg4, hb4⟩
  have rb := rb.later hb4
  obtain ⟨fa4, fc4, rfl, hfs4⟩ := hg4.fs
  clear c0 c1 c2 c3 c4 c5 f0 f1 f2 f3 f4 f5 hwo
  obtain ⟨c0, c1, c2, c3, c4, c5, f0, f1, f2, f3, f4, f5⟩ := c6_of rb.r0
  go_upto_region 7 with fail
  have rb5 := rb.set5 (delR nm M.fs) fa4 fc4
  have f5' : Fr (· = w.heap.size) w4 (w4.setCell ⟨w.heap.size, 5, none⟩ (.slice fa4 (delR nm M.fs).length fc4)) := ((Wt.refl rb.r0).cell 5 _).fr
  clear c0 c1 c2 c3 c4 c5 f0 f1 f2 f3 f4 f5 rb
  generalize w4.setCell ⟨w.heap.size, 5, none⟩ (.slice fa4 (delR nm M.fs).length fc4) = w5 at rb5 f5' ⊢
  have rb := rb5
  clear rb5
  obtain ⟨c0, c1, c2, c3, c4, c5, f0, f1, f2, f3, f4, f5⟩ := c6_of rb.r0
  obtain ⟨d0, d1, d2, d3, d4, d5, g0, g1, g2, g3, g4, g5⟩ := c6_of rb.r1
  obtain ⟨e1, e3, e2⟩ := rb.fin
  have hfin := put_fin (v := .bool true) hX (by omega) hfs4 f5' e3 rfl
  go_wp2
  refine bodyPost_ret (results_ct (M := { stpM M with fs := delR nm M.fs }) rfl _ rfl e1) rfl ?_
  exact ⟨fa4, fc4, rfl, hfin, e2⟩

theorem read_r_down (hg : M.gone = true) : Calls Try.prog 39 #[rval M fa fc, .string (bstr nm)] w fun e w' => e = .returned (.tuple #[.slice none 0 0, .int .i64 4]) ∧ Below w.heap.size w w' := by
  obtain ⟨qu, st, lf, ar, go, fs⟩ := M
  obtain rfl : go = true := hg
  go_enter Try.func39, Try.ntmps39
  go_wp2
  go_ret2
  exact ⟨rfl, by go_grown⟩
theorem box_at (w : World) (M : Rd) (fa : Option Addr) (fc : Nat) : (w.alloc (.cells (rcells M fa fc) 34)).heap[w.heap.size]? = some (.cells (rcells M fa fc) 34 (0, 0)) ∧ Below w.heap.size w (w.alloc (.cells (rcells M fa fc) 34)) := ⟨(MapKept.heap_alloc w _).1, (Below.refl _ _).alloc (Nat.le_refl _) _⟩
theorem read_r_n (hf : Fs w X fa M.fs) (hn : M.fs.length ≤ 400000) (hg : M.gone = false) (hk : atR nm M.fs 0 = -1) : Calls Try.prog 39 #[rval M fa fc, .string (bstr nm)] w fun e w' => e = .returned (.tuple #[.slice none 0 0, .int .i64 5]) ∧ Below w.heap.size w w' := by
  obtain ⟨qu, st, lf, ar, go, fs⟩ := M
  obtain rfl : go = false := hg
  obtain ⟨r0, hb⟩ := box_at w ⟨qu, st, lf, ar, false, fs⟩ fa fc
  have hat := at_d (fc := fc) (hf.later hb) (by simp only at hn ⊢; omega) nm
  rw [hk] at hat
  obtain ⟨c0, c1, c2, c3, c4, c5, f0, f1, f2, f3, f4, f5⟩ := c6_of r0
  go_enter Try.func39, Try.ntmps39
  go_wp2_with fail
  refine hat.mono ?_
  rintro e w1 ⟨rfl, hb1⟩
  clear c0 c1 c2 c3 c4 c5 f0 f1 f2 f3 f4 f5
  go_wp2
  go_ret2
  exact ⟨rfl, hb.trans (hb1.mono hb.size)⟩
theorem read_r_ok (hf : Fs w X fa M.fs) (hn : M.fs.length ≤ 400000) (hg : M.gone = false) {k : Nat} (hk : atR nm M.fs 0 = k) (hkl : k < M.fs.length) (hlen : M.fs[k].dat.length ≤ 100000000) : Calls Try.prog 39 #[rval M fa fc, .string (bstr nm)] w fun e w' => ∃ v', e = .returned (.tuple #[v', .int .i64 0]) ∧ w'.ownsRow w.heap.size 5 1 v' M.fs[k].dat.length (byteVals M.fs[k].dat) ∧ Below w.heap.size w w' := by
  obtain ⟨qu, st, lf, ar, go, fs⟩ := M
  obtain rfl : go = false := hg
  simp only at hkl hlen hn
  obtain ⟨r0, hb⟩ := box_at w ⟨qu, st, lf, ar, false, fs⟩ fa fc
  have hat := at_d (fc := fc) (hf.later hb) (by simp only; omega) nm
  rw [hk] at hat
  go_enter Try.func39, Try.ntmps39
  go_wp2_with fail
  refine hat.mono ?_
  rintro e w1 ⟨rfl, hb1⟩
  clear hat
  have hbw : Below w.heap.size w w1 := hb.trans (hb1.mono hb.size)
  have k0 : w1.heap[w.heap.size]? = some (.cells (rcells ⟨qu, st, lf, ar, false, fs⟩ fa fc) 34 (0, 0)) := (hb1.block _ (by simp)).trans r0
  have hf1 := hf.later hbw
  obtain ⟨fb, rfl, hxf, hcc⟩ := hf1 (by omega)
  obtain ⟨ad, cap, h1, h2, h3, h4, h6, h5⟩ := hcc k hkl
  have hal : Below w1.heap.size w1 (w1.alloc (.cells #[] 5)) := (Below.refl _ w1).alloc (Nat.le_refl _) _
  have c5 : (w1.alloc (.cells #[] 5)).cell? ⟨w.heap.size, 5, none⟩ = some (.slice (some ⟨fb, 0, none⟩) fs.length fc) := cell_later hal (cell_row k0 5)
  have h2 := cell_later hal h2
  have h4 := h4.later hal
  have hoe := own_empty w1 w.heap.size hbw.size
  have hbz := hbw.size
  clear hcc h1 h3 k0 r0 hb hb1
  go_wp2_with (first | (at_builtin; refine wpList_append_bs rfl (.tmp 14) (.tmp 20) rfl w.heap.size (.slice (some ⟨w1.heap.size, 0, none⟩) 0 0) 0 [] rfl hoe ad _ cap fs[k].dat rfl h4 (by omega) (by simp; omega) ?_; intro v2 w2 hown2 hg2 hk2) | go_in)
  go_ret2
  rw [Nat.zero_add] at hown2
  exact ⟨v2, rfl, hown2, (hbw.trans (hal.mono hbz)).grown hg2 (by simp; omega) fun i e => by cases e; exact hbz⟩
end
end Go.Proofs.Ytcmgpllnficmdaa

namespace Go.Proofs.Ytcmgpllnficmdaa
open Go.RowKit Go.Maps

section
variable {w : World} {X : Nat → Prop} {M : Rd} {fa : Option Addr} {fc : Nat} {nm : List UInt8}
/-- The cells of a file in a box. -/
abbrev fcell (r : Rf) (ad : Option Addr) (cap : Nat) : Array Value := #[.string (bstr r.nm), .slice ad r.dat.length cap, .int .i64 (r.sure : Int)]
/-- A box that is made beside the disk's. -/
theorem RB.box {w wr : World} {M : Rd} {fa : Option Addr} {fc : Nat} (h : RB w wr M fa fc) (o : Obj) : RB w (wr.alloc o) M fa fc := h.later ((Below.refl _ _).alloc (Nat.le_refl _) _)

theorem cut_r_n (hf : Fs w X fa M.fs) (hn : M.fs.length ≤ 400000) (n : Int) (hk : atR nm M.fs 0 = -1) :
    Calls Try.prog 35 #[rval M fa fc, .string (bstr nm), .int .i64 n] w (ROut w X M 5) := by
  have rb := RB.start w M fa fc
  have hat := at_d (fc := fc) (hf.later rb.hb) (by omega) nm
  rw [hk] at hat
  go_enter Try.func35, Try.ntmps35
  go_wp2_with fail
  refine hat.mono ?_
  rintro e w1 ⟨rfl, hb1⟩
  have rb := rb.later hb1
  clear hat
  obtain ⟨c0, c1, c2, c3, c4, c5, f0, f1, f2, f3, f4, f5⟩ := c6_of rb.r0
  obtain ⟨d0, d1, d2, d3, d4, d5, g0, g1, g2, g3, g4, g5⟩ := c6_of rb.r1
  obtain ⟨e1, e3, e2⟩ := rb.fin
  go_wp2
  refine bodyPost_ret (results_ct (M := M) rfl _ rfl e1) rfl ?_
  exact ROut.of rfl hf e2

theorem cut_r_neg (hf : Fs w X fa M.fs) (hn : M.fs.length ≤ 400000) {n : Int} {k : Nat} (hk : atR nm M.fs 0 = k) (hkl : k < M.fs.length) (hneg : n < 0) :
    Calls Try.prog 35 #[rval M fa fc, .string (bstr nm), .int .i64 n] w (ROut w X M 2) := by
  have rb := RB.start w M fa fc
  have hat := at_d (fc := fc) (hf.later rb.hb) (by omega) nm
  rw [hk] at hat
  go_enter Try.func35, Try.ntmps35
  go_wp2_with fail
  refine hat.mono ?_
  rintro e w1 ⟨rfl, hb1⟩
  have rb := rb.later hb1
  clear hat
  have hlt9 := rb.lt
  have hf1 := hf.later rb.hb
  obtain ⟨fb, rfl, hxf, hcc⟩ := hf1 (by omega)
  obtain ⟨ad, cap, h1, h2, h3, h4, h6, h5⟩ := hcc k hkl
  clear hcc
  obtain ⟨c0, c1, c2, c3, c4, c5, f0, f1, f2, f3, f4, f5⟩ := c6_of rb.r0
  go_upto_region 5 with fail
  have rb := rb.box (.cells (fcell M.fs[k] ad cap) 78)
  have hbx : (w1.alloc (.cells (fcell M.fs[k] ad cap) 78)).heap[w1.heap.size]? = some (.cells (fcell M.fs[k] ad cap) 78 (0, 0)) := (MapKept.heap_alloc w1 _).1
  have hlt9 : w.heap.size + 1 < w1.heap.size := hlt9
  have h4 := h4.later ((Below.refl _ w1).alloc (Nat.le_refl _) (.cells (fcell M.fs[k] ad cap) 78))
  clear c0 c1 c2 c3 c4 c5 f0 f1 f2 f3 f4 f5 h1 h2 h3
  generalize w1.alloc (.cells #[.string (bstr M.fs[k].nm), .slice ad M.fs[k].dat.length cap, .int .i64 (M.fs[k].sure : Int)] 78) = wb at rb hbx h4 ⊢
  have b0 : wb.cell? ⟨w1.heap.size, 0, none⟩ = some (.string (bstr M.fs[k].nm)) := cell_row hbx 0
  have b1 : wb.cell? ⟨w1.heap.size, 1, none⟩ = some (.slice ad M.fs[k].dat.length cap) := cell_row hbx 1
  have b2 : wb.cell? ⟨w1.heap.size, 2, none⟩ = some (.int .i64 (M.fs[k].sure : Int)) := cell_row hbx 2
  obtain ⟨c0, c1, c2, c3, c4, c5, f0, f1, f2, f3, f4, f5⟩ := c6_of rb.r0
  obtain ⟨d0, d1, d2, d3, d4, d5, g0, g1, g2, g3, g4, g5⟩ := c6_of rb.r1
  obtain ⟨e1, e3, e2⟩ := rb.fin
  go_wp2
  refine bodyPost_ret (results_ct (M := M) rfl _ rfl e1) rfl ?_
  exact ROut.of rfl hf e2

theorem cut_r_big (hf : Fs w X fa M.fs) (hn : M.fs.length ≤ 400000) {n : Int} {k : Nat} (hk : atR nm M.fs 0 = k) (hkl : k < M.fs.length) (hneg : ¬ n < 0) (hbig : (M.fs[k].dat.length : Int) < n) :
    Calls Try.prog 35 #[rval M fa fc, .string (bstr nm), .int .i64 n] w (ROut w X M 2) := by
  have rb := RB.start w M fa fc
  have hat := at_d (fc := fc) (hf.later rb.hb) (by omega) nm
  rw [hk] at hat
  go_enter Try.func35, Try.ntmps35
  go_wp2_with fail
  refine hat.mono ?_
  rintro e w1 ⟨rfl, hb1⟩
  have rb := rb.later hb1
  clear hat
  have hlt9 := rb.lt
  have hf1 := hf.later rb.hb
  obtain ⟨fb, rfl, hxf, hcc⟩ := hf1 (by omega)
  obtain ⟨ad, cap, h1, h2, h3, h4, h6, h5⟩ := hcc k hkl
  clear hcc
  obtain ⟨c0, c1, c2, c3, c4, c5, f0, f1, f2, f3, f4, f5⟩ := c6_of rb.r0
  go_upto_region 5 with fail
  have rb := rb.box (.cells (fcell M.fs[k] ad cap) 78)
  have hbx : (w1.alloc (.cells (fcell M.fs[k] ad cap) 78)).heap[w1.heap.size]? = some (.cells (fcell M.fs[k] ad cap) 78 (0, 0)) := (MapKept.heap_alloc w1 _).1
  have hlt9 : w.heap.size + 1 < w1.heap.size := hlt9
  have h4 := h4.later ((Below.refl _ w1).alloc (Nat.le_refl _) (.cells (fcell M.fs[k] ad cap) 78))
  clear c0 c1 c2 c3 c4 c5 f0 f1 f2 f3 f4 f5 h1 h2 h3
  generalize w1.alloc (.cells #[.string (bstr M.fs[k].nm), .slice ad M.fs[k].dat.length cap, .int .i64 (M.fs[k].sure : Int)] 78) = wb at rb hbx h4 ⊢
  have b0 : wb.cell? ⟨w1.heap.size, 0, none⟩ = some (.string (bstr M.fs[k].nm)) := cell_row hbx 0
  have b1 : wb.cell? ⟨w1.heap.size, 1, none⟩ = some (.slice ad M.fs[k].dat.length cap) := cell_row hbx 1
  have b2 : wb.cell? ⟨w1.heap.size, 2, none⟩ = some (.int .i64 (M.fs[k].sure : Int)) := cell_row hbx 2
  obtain ⟨c0, c1, c2, c3, c4, c5, f0, f1, f2, f3, f4, f5⟩ := c6_of rb.r0
  obtain ⟨d0, d1, d2, d3, d4, d5, g0, g1, g2, g3, g4, g5⟩ := c6_of rb.r1
  obtain ⟨e1, e3, e2⟩ := rb.fin
  go_wp2
  refine bodyPost_ret (results_ct (M := M) rfl _ rfl e1) rfl ?_
  exact ROut.of rfl hf e2

set_option maxHeartbeats 1000000 in
theorem cut_r_down (hf : Fs w X fa M.fs) (hn : M.fs.length ≤ 400000) (hs : 0 ≤ M.steps ∧ M.steps < 1000000000) (hl : M.armed = true → 0 ≤ M.left ∧ M.left < 9223372036854775808) {n : Int} {k : Nat} (hk : atR nm M.fs 0 = k) (hkl : k < M.fs.length) (hneg : ¬ n < 0) (hbig : n ≤ (M.fs[k].dat.length : Int)) (hc : canM M = false) :
    Calls Try.prog 35 #[rval M fa fc, .string (bstr nm), .int .i64 n] w (ROut w X (gonM M) 4) := by
  have rb := RB.start w M fa fc
  have hat := at_d (fc := fc) (hf.later rb.hb) (by omega) nm
  rw [hk] at hat
  have hst := fun w => step_r (w := w) (fa := fa) (fc := fc) hs hl
  rw [hc] at hst
  have hd : decide ((M.fs[k].dat.length : Int) < n) = false := by simp; omega
  go_enter Try.func35, Try.ntmps35
  go_wp2_with fail
  refine hat.mono ?_
  rintro e w1 ⟨rfl, hb1⟩
  have rb := rb.later hb1
  clear hat
  have hlt9 := rb.lt
  have hf1 := hf.later rb.hb
  obtain ⟨fb, rfl, hxf, hcc⟩ := hf1 (by omega)
  obtain ⟨ad, cap, h1, h2, h3, h4, h6, h5⟩ := hcc k hkl
  clear hcc
  obtain ⟨c0, c1, c2, c3, c4, c5, f0, f1, f2, f3, f4, f5⟩ := c6_of rb.r0
  go_upto_region 5 with fail
  have rb := rb.box (.cells (fcell M.fs[k] ad cap) 78)
  have hbx : (w1.alloc (.cells (fcell M.fs[k] ad cap) 78)).heap[w1.heap.size]? = some (.cells (fcell M.fs[k] ad cap) 78 (0, 0)) := (MapKept.heap_alloc w1 _).1
  have hlt9 : w.heap.size + 1 < w1.heap.size := hlt9
  have h4 := h4.later ((Below.refl _ w1).alloc (Nat.le_refl _) (.cells (fcell M.fs[k] ad cap) 78))
  clear c0 c1 c2 c3 c4 c5 f0 f1 f2 f3 f4 f5 h1 h2 h3
  generalize w1.alloc (.cells #[.string (bstr M.fs[k].nm), .slice ad M.fs[k].dat.length cap, .int .i64 (M.fs[k].sure : Int)] 78) = wb at rb hbx h4 ⊢
  have b0 : wb.cell? ⟨w1.heap.size, 0, none⟩ = some (.string (bstr M.fs[k].nm)) := cell_row hbx 0
  have b1 : wb.cell? ⟨w1.heap.size, 1, none⟩ = some (.slice ad M.fs[k].dat.length cap) := cell_row hbx 1
  have b2 : wb.cell? ⟨w1.heap.size, 2, none⟩ = some (.int .i64 (M.fs[k].sure : Int)) := cell_row hbx 2
  obtain ⟨c0, c1, c2, c3, c4, c5, f0, f1, f2, f3, f4, f5⟩ := c6_of rb.r0
  go_wp2_with fail
  refine (hst _).mono ?_
  rintro e w2 ⟨rfl, hb2⟩
  clear c0 c1 c2 c3 c4 c5 f0 f1 f2 f3 f4 f5 hst
  have rb := rb.later hb2
  obtain ⟨c0, c1, c2, c3, c4, c5, f0, f1, f2, f3, f4, f5⟩ := c6_of rb.r0
  go_upto_region 8 with fail
  have rb := rb.set (gonM M) (some ⟨fb, 0, none⟩) fc
  clear c0 c1 c2 c3 c4 c5 f0 f1 f2 f3 f4 f5
  generalize ((((((w2.setCell ⟨w.heap.size, 0, none⟩ (.int .i64 (gonM M).quota)).setCell ⟨w.heap.size, 1, none⟩ (.int .i64 (gonM M).steps)).setCell ⟨w.heap.size, 2, none⟩ (.int .i64 (gonM M).left)).setCell ⟨w.heap.size, 3, none⟩ (.bool (gonM M).armed)).setCell ⟨w.heap.size, 4, none⟩ (.bool (gonM M).gone)).setCell ⟨w.heap.size, 5, none⟩ (.slice (some ⟨fb, 0, none⟩) (gonM M).fs.length fc)) = w3 at rb ⊢
  obtain ⟨c0, c1, c2, c3, c4, c5, f0, f1, f2, f3, f4, f5⟩ := c6_of rb.r0
  obtain ⟨d0, d1, d2, d3, d4, d5, g0, g1, g2, g3, g4, g5⟩ := c6_of rb.r1
  obtain ⟨e1, e3, e2⟩ := rb.fin
  go_wp2
  refine bodyPost_ret (results_ct (M := gonM M) rfl _ rfl e1) rfl ?_
  exact ROut.of (M := gonM M) rfl hf e2
end
end Go.Proofs.Ytcmgpllnficmdaa

namespace Go.Proofs.Ytcmgpllnficmdaa
open Go.RowKit Go.Maps

def cutR (r : Rf) (size : Nat) : Rf := ⟨r.nm, r.dat.take size, min r.sure size⟩
section
variable {w : World} {X : Nat → Prop} {M : Rd} {fa : Option Addr} {fc : Nat} {nm : List UInt8}
theorem RB.other {w wr w2 : World} {M : Rd} {fa : Option Addr} {fc g : Nat} (h : RB w wr M fa fc) (f : Fr (· = g) wr w2) (h0 : g ≠ w.heap.size) (h1 : g ≠ w.heap.size + 1) (hg : w.heap.size ≤ g) : RB w w2 M fa fc :=
  ⟨(f.block _ (by have := h.lt; omega) h0.symm).trans h.r0, (f.block _ h.lt h1.symm).trans h.r1, h.hb.trans (f.below _ h.hb.size fun i e => by omega)⟩
theorem box2 {w w' : World} {g : Nat} {a b c x : Value} {t : TypeId} (h : Wt w w' g #[a, b, c] t) : Wt w (w'.setCell ⟨g, 1, none⟩ x) g #[a, x, c] t ∧ Wt w (w'.setCell ⟨g, 2, none⟩ x) g #[a, b, x] t ∧ Wt w (w'.setCell ⟨g, 0, none⟩ x) g #[x, b, c] t := by
  refine ⟨?_, ?_, ?_⟩
  · have := h.cell 1 x; simpa using this
  · have := h.cell 2 x; simpa using this
  · have := h.cell 0 x; simpa using this
theorem own_cap {w : World} {base n : Nat} {v : Value} {xs : List Value} {ad : Option Addr} {cap : Nat} (h : w.ownsRow base 5 1 v n xs) (hv : v = .slice ad n cap) : n ≤ cap ∧ ∀ x, ad = some x → base ≤ x.block := by
  rcases h.2 with ⟨e, hn⟩ | ⟨g, c, cur, e, hb, _, h4, _⟩
  · rw [hv] at e; cases e; exact ⟨by omega, fun x hx => by cases hx⟩
  · rw [hv] at e; cases e; exact ⟨h4, fun x hx => by cases hx; exact hb⟩

theorem put_fin2 {w w4 w5 w6 : World} {Y : Nat → Prop} {R : List Rf} {fa' : Option Addr} (hX : ∀ k, X k → k < w.heap.size) (hfs : Fs w4 Y fa' R) (hY : ∀ k, Y k → X k ∨ w.heap.size + 2 ≤ k) (f1 : Fr (· = w.heap.size) w4 w5) (f2 : Fr (· = w.heap.size + 1) w5 w6) : Fs w6 (fun k => X k ∨ w.heap.size ≤ k) fa' R := by
  have hne : ∀ k, Y k → k ≠ w.heap.size ∧ k ≠ w.heap.size + 1 := fun k h => by rcases hY k h with h | h; (have := hX k h; omega); omega
  exact ((hfs.fr f1 fun k h => (hne k h).1).fr f2 fun k h => (hne k h).2).mono fun k h => (hY k h).imp id fun h => by omega

theorem bs_own2 {w : World} {base n : Nat} {v : Value} {zs : List Int} (h : w.ownsRow base 5 1 v n (byteVals zs)) (hz : ∀ z ∈ zs, 0 ≤ z ∧ z < 256) : ∃ a cap, Bs w a n zs ∧ v = .slice a n cap := by
  obtain ⟨a, cap, h1, h2, _⟩ := bs_own h hz
  exact ⟨a, cap, h2, h1⟩

set_option maxHeartbeats 2000000 in
theorem cut_r_gt (hf : Fs w X fa M.fs) (hX : ∀ k, X k → k < w.heap.size) (hn : M.fs.length ≤ 400000) (hs : 0 ≤ M.steps ∧ M.steps < 1000000000) (hl : M.armed = true → 0 ≤ M.left ∧ M.left < 9223372036854775808) {size : Nat} {k : Nat} (hk : atR nm M.fs 0 = k) (hkl : k < M.fs.length) (hbig : size ≤ M.fs[k].dat.length) (hlen : M.fs[k].dat.length ≤ 100000000) (hgt : (size : Int) < M.fs[k].sure) (hc : canM M = true) :
    Calls Try.prog 35 #[rval M fa fc, .string (bstr nm), .int .i64 (size : Int)] w (ROut w X { stpM M with fs := putR (cutR M.fs[k] size) M.fs } 0) := by
  have rb := RB.start w M fa fc
  have hat := at_d (fc := fc) (hf.later rb.hb) (by omega) nm
  rw [hk] at hat
  have hst := fun w => step_r (w := w) (fa := fa) (fc := fc) hs hl
  rw [hc] at hst
  have hd : decide ((M.fs[k].dat.length : Int) < size) = false := by simp; omega
  go_enter Try.func35, Try.ntmps35
  go_wp2_with fail
  refine hat.mono ?_
  rintro e w1 ⟨rfl, hb1⟩
  have rb := rb.later hb1
  clear hat
  have hlt9 := rb.lt
  have hf1 := hf.later rb.hb
  obtain ⟨fb, rfl, hxf, hcc⟩ := hf1 (by omega)
  obtain ⟨ad, cap, h1, h2, h3, h4, h6, h5⟩ := hcc k hkl
  clear hcc
  obtain ⟨c0, c1, c2, c3, c4, c5, f0, f1, f2, f3, f4, f5⟩ := c6_of rb.r0
  go_upto_region 5 with fail
  have rb := rb.box (.cells (fcell M.fs[k] ad cap) 78)
  have hbx : (w1.alloc (.cells (fcell M.fs[k] ad cap) 78)).heap[w1.heap.size]? = some (.cells (fcell M.fs[k] ad cap) 78 (0, 0)) := (MapKept.heap_alloc w1 _).1
  have hlt9 : w.heap.size + 1 < w1.heap.size := hlt9
  have h4 := h4.later ((Below.refl _ w1).alloc (Nat.le_refl _) (.cells (fcell M.fs[k] ad cap) 78))
  clear c0 c1 c2 c3 c4 c5 f0 f1 f2 f3 f4 f5 h1 h2 h3
  generalize w1.alloc (.cells #[.string (bstr M.fs[k].nm), .slice ad M.fs[k].dat.length cap, .int .i64 (M.fs[k].sure : Int)] 78) = wb at rb hbx h4 ⊢
  have b0 : wb.cell? ⟨w1.heap.size, 0, none⟩ = some (.string (bstr M.fs[k].nm)) := cell_row hbx 0
  have b1 : wb.cell? ⟨w1.heap.size, 1, none⟩ = some (.slice ad M.fs[k].dat.length cap) := cell_row hbx 1
  have b2 : wb.cell? ⟨w1.heap.size, 2, none⟩ = some (.int .i64 (M.fs[k].sure : Int)) := cell_row hbx 2
  obtain ⟨c0, c1, c2, c3, c4, c5, f0, f1, f2, f3, f4, f5⟩ := c6_of rb.r0
  go_wp2_with fail
  refine (hst _).mono ?_
  rintro e w2 ⟨rfl, hb2⟩
  clear c0 c1 c2 c3 c4 c5 f0 f1 f2 f3 f4 f5 hst
  have rb := rb.later hb2
  have kx2 : w2.heap[w1.heap.size]? = some (.cells (fcell M.fs[k] ad cap) 78 (0, 0)) := (hb2.block _ (Array.getElem?_eq_some_iff.1 hbx).1).trans hbx
  have h42 := h4.later hb2
  obtain ⟨c0, c1, c2, c3, c4, c5, f0, f1, f2, f3, f4, f5⟩ := c6_of rb.r0
  go_upto_region 8 with fail
  have f23 := (set6_wt (a := .int .i64 (stpM M).quota) (b := .int .i64 (stpM M).steps) (c := .int .i64 (stpM M).left) (d := .bool (stpM M).armed) (e := .bool (stpM M).gone) (f := .slice (some ⟨fb, 0, none⟩) (stpM M).fs.length fc) rb.r0).fr
  have kx3 := (f23.block _ (Array.getElem?_eq_some_iff.1 kx2).1 (show w1.heap.size ≠ w.heap.size by omega)).trans kx2
  have h43 := h42.fr f23 (fun x ex hl e => by have := hX _ (h5 x ex hl); omega)
  simp only [set6] at kx3 h43
  clear f23 kx2 h42
  have rb := rb.set (stpM M) (some ⟨fb, 0, none⟩) fc
  clear c0 c1 c2 c3 c4 c5 f0 f1 f2 f3 f4 f5
  generalize ((((((w2.setCell ⟨w.heap.size, 0, none⟩ (.int .i64 (stpM M).quota)).setCell ⟨w.heap.size, 1, none⟩ (.int .i64 (stpM M).steps)).setCell ⟨w.heap.size, 2, none⟩ (.int .i64 (stpM M).left)).setCell ⟨w.heap.size, 3, none⟩ (.bool (stpM M).armed)).setCell ⟨w.heap.size, 4, none⟩ (.bool (stpM M).gone)).setCell ⟨w.heap.size, 5, none⟩ (.slice (some ⟨fb, 0, none⟩) (stpM M).fs.length fc)) = w3 at rb kx3 h43 ⊢
  clear b0 b1 b2 hbx h4
  have hf3 := hf.later rb.hb
  have hlt3 : w1.heap.size < w3.heap.size := (Array.getElem?_eq_some_iff.1 kx3).1
  have hal3 : Below w3.heap.size w3 (w3.alloc (.cells #[] 5)) := (Below.refl _ w3).alloc (Nat.le_refl _) _
  have hoe := own_empty w3 w3.heap.size (Nat.le_refl _)
  have h4e := (h43.less size hbig).later hal3
  have htb : ∀ z ∈ M.fs[k].dat.take size, 0 ≤ z ∧ z < 256 := fun z hz => h43.2.1 z (List.mem_of_mem_take hz)
  have ke3 : (w3.alloc (.cells #[] 5)).heap[w1.heap.size]? = some (.cells (fcell M.fs[k] ad cap) 78 (0, 0)) := (hal3.block _ hlt3).trans kx3
  have b1 : (w3.alloc (.cells #[] 5)).cell? ⟨w1.heap.size, 1, none⟩ = some (.slice ad M.fs[k].dat.length cap) := cell_row ke3 1
  have hszc : size ≤ cap := by omega
  obtain ⟨c0, c1, c2, c3, c4, c5, f0, f1, f2, f3, f4, f5⟩ := c6_of rb.r0
  go_upto_region 13 with ((at_builtin; refine wpList_append_bs rfl (.tmp 40) (.tmp 44) rfl w3.heap.size (.slice (some ⟨w3.heap.size, 0, none⟩) 0 0) 0 [] rfl hoe ad size cap (M.fs[k].dat.take size) rfl h4e (by omega) (by simp) ?_; intro v4 w4 hown4 hg4 hk4; rw [Nat.zero_add] at hown4; obtain ⟨va, vc, hbv, rfl⟩ := bs_own2 hown4 htb; have hb4 : Below w3.heap.size w3 w4 := hal3.grown hg4 (by simp) (fun k e => by cases e; exact Nat.le_refl _); have kx4 : w4.heap[w1.heap.size]? = some (.cells (fcell M.fs[k] ad cap) 78 (0, 0)) := (hb4.block _ hlt3).trans kx3; have b0 := cell_row kx4 0; have b1 := cell_row kx4 1; have b2 := cell_row kx4 2; have f1' := froz_row kx4 1; have f2' := froz_row kx4 2; simp only [List.getElem?_toArray, List.getElem?_cons_zero, List.getElem?_cons_succ] at b0 b1 b2))
  have rb := rb.later hb4
  have hw5 := (box2 (x := .int .i64 (size : Int)) (box2 (x := .slice va size vc) (Wt.refl kx4)).1).2.1
  have rb := rb.other hw5.fr (by omega) (by omega) (by omega)
  have hf5 := (hf3.later hb4).fr hw5.fr (fun k hk e => by have := hX k hk; omega)
  have hbv5 := hbv.fr hw5.fr (fun x ex hl e => by have := (own_cap hown4 rfl).2 x ex; omega)
  have hszv := (own_cap hown4 rfl).1
  have hx5 : ∀ x, va = some x → 0 < size → (X x.block ∨ w3.heap.size ≤ x.block) := fun x ex _ => .inr ((own_cap hown4 rfl).2 x ex)
  have hsz5 : w4.heap.size = ((w4.setCell ⟨w1.heap.size, 1, none⟩ (.slice va size vc)).setCell ⟨w1.heap.size, 2, none⟩ (.int .i64 (size : Int))).heap.size := hw5.size.symm
  have hown4lt : ∀ x, va = some x → x.block < w4.heap.size := fun x ex => (hown4.lt x.block (by rw [ex]; rfl)).2
  have kx5 := hw5.row
  clear c0 c1 c2 c3 c4 c5 f0 f1 f2 f3 f4 f5 b0 b1 b2 f1' f2' hw5 hg4 hk4 hown4 hbv kx4
  generalize ((w4.setCell ⟨w1.heap.size, 1, none⟩ (.slice va size vc)).setCell ⟨w1.heap.size, 2, none⟩ (.int .i64 (size : Int))) = w5 at rb hf5 hbv5 kx5 hsz5 ⊢
  have hr5 : (cutR M.fs[k] size).dat.length = size := by simp only [cutR, List.length_take]; omega
  have e5 : Hid (#[Value.string (bstr M.fs[k].nm), .slice va size vc, .int .i64 (size : Int)] = fcell (cutR M.fs[k] size) va vc) := hide1 (by
    unfold fcell
    rw [hr5]
    simp only [cutR]
    rw [show (((min M.fs[k].sure size : Nat)) : Int) = (size : Int) by omega])
  have hput := put_d (w := w5) (X := fun i => X i ∨ (w3.heap.size ≤ i ∧ i < w4.heap.size)) (fc := fc) (hf5.mono fun _ h => .inl h) (fun k hk => by rcases hk with hk | hk; (have := hX k hk; have := rb.lt; omega); omega) hn (cutR M.fs[k] size) va vc (by rw [hr5]; exact hbv5) (by rw [hr5]; exact hszv) (fun x ex hl => (hx5 x ex (by omega)).imp id fun h => ⟨h, hown4lt x ex⟩)
  have hszB : w.heap.size + 1 < w5.heap.size := rb.lt
  have b0 : w5.cell? ⟨w1.heap.size, 0, none⟩ = some (.string (bstr M.fs[k].nm)) := cell_row kx5 0
  have b1 : w5.cell? ⟨w1.heap.size, 1, none⟩ = some (.slice va size vc) := cell_row kx5 1
  have b2 : w5.cell? ⟨w1.heap.size, 2, none⟩ = some (.int .i64 (size : Int)) := cell_row kx5 2
  rw [show Value.agg #[.string (bstr (cutR M.fs[k] size).nm), .slice va (cutR M.fs[k] size).dat.length vc, .int .i64 ((cutR M.fs[k] size).sure : Int)] = .agg #[Value.string (bstr M.fs[k].nm), .slice va size vc, .int .i64 (size : Int)] from congrArg Value.agg e5.out.symm] at hput
  obtain ⟨c0, c1, c2, c3, c4, c5, f0, f1, f2, f3, f4, f5⟩ := c6_of rb.r0
  go_wp2_with fail
  refine hput.mono ?_
  rintro e w6 ⟨v6, rfl, hg6, hb6⟩
  have rb := rb.later hb6
  obtain ⟨fa6, fc6, rfl, hfs6⟩ := hg6.fs
  clear c0 c1 c2 c3 c4 c5 f0 f1 f2 f3 f4 f5 b0 b1 b2 hput
  obtain ⟨c0, c1, c2, c3, c4, c5, f0, f1, f2, f3, f4, f5⟩ := c6_of rb.r0
  go_upto_region 14 with fail
  have rb7 := rb.set5 (putR (cutR M.fs[k] size) M.fs) fa6 fc6
  have f7' : Fr (· = w.heap.size) w6 (w6.setCell ⟨w.heap.size, 5, none⟩ (.slice fa6 (putR (cutR M.fs[k] size) M.fs).length fc6)) := ((Wt.refl rb.r0).cell 5 _).fr
  clear c0 c1 c2 c3 c4 c5 f0 f1 f2 f3 f4 f5 rb
  generalize w6.setCell ⟨w.heap.size, 5, none⟩ (.slice fa6 (putR (cutR M.fs[k] size) M.fs).length fc6) = w7 at rb7 f7' ⊢
  have rb := rb7
  clear rb7
  obtain ⟨c0, c1, c2, c3, c4, c5, f0, f1, f2, f3, f4, f5⟩ := c6_of rb.r0
  obtain ⟨d0, d1, d2, d3, d4, d5, g0, g1, g2, g3, g4, g5⟩ := c6_of rb.r1
  obtain ⟨e1, e3, e2⟩ := rb.fin
  have hfin := put_fin2 hX hfs6 (by rintro k ((h | h) | h); exact .inl h; exact .inr (by omega); exact .inr (by omega)) f7' e3
  go_wp2
  refine bodyPost_ret (results_ct (M := { stpM M with fs := putR (cutR M.fs[k] size) M.fs }) rfl _ rfl e1) rfl ?_
  exact ⟨fa6, fc6, rfl, hfin, e2⟩

set_option maxHeartbeats 2000000 in
theorem cut_r_le (hf : Fs w X fa M.fs) (hX : ∀ k, X k → k < w.heap.size) (hn : M.fs.length ≤ 400000) (hs : 0 ≤ M.steps ∧ M.steps < 1000000000) (hl : M.armed = true → 0 ≤ M.left ∧ M.left < 9223372036854775808) {size : Nat} {k : Nat} (hk : atR nm M.fs 0 = k) (hkl : k < M.fs.length) (hbig : size ≤ M.fs[k].dat.length) (hlen : M.fs[k].dat.length ≤ 100000000) (hgt : (M.fs[k].sure : Int) ≤ size) (hc : canM M = true) :
    Calls Try.prog 35 #[rval M fa fc, .string (bstr nm), .int .i64 (size : Int)] w (ROut w X { stpM M with fs := putR (cutR M.fs[k] size) M.fs } 0) := by
  have rb := RB.start w M fa fc
  have hat := at_d (fc := fc) (hf.later rb.hb) (by omega) nm
  rw [hk] at hat
  have hst := fun w => step_r (w := w) (fa := fa) (fc := fc) hs hl
  rw [hc] at hst
  have hd : decide ((M.fs[k].dat.length : Int) < size) = false := by simp; omega
  go_enter Try.func35, Try.ntmps35
  go_wp2_with fail
  refine hat.mono ?_
  rintro e w1 ⟨rfl, hb1⟩
  have rb := rb.later hb1
  clear hat
  have hlt9 := rb.lt
  have hf1 := hf.later rb.hb
  obtain ⟨fb, rfl, hxf, hcc⟩ := hf1 (by omega)
  obtain ⟨ad, cap, h1, h2, h3, h4, h6, h5⟩ := hcc k hkl
  clear hcc
  obtain ⟨c0, c1, c2, c3, c4, c5, f0, f1, f2, f3, f4, f5⟩ := c6_of rb.r0
  go_upto_region 5 with fail
  have rb := rb.box (.cells (fcell M.fs[k] ad cap) 78)
  have hbx : (w1.alloc (.cells (fcell M.fs[k] ad cap) 78)).heap[w1.heap.size]? = some (.cells (fcell M.fs[k] ad cap) 78 (0, 0)) := (MapKept.heap_alloc w1 _).1
  have hlt9 : w.heap.size + 1 < w1.heap.size := hlt9
  have h4 := h4.later ((Below.refl _ w1).alloc (Nat.le_refl _) (.cells (fcell M.fs[k] ad cap) 78))
  clear c0 c1 c2 c3 c4 c5 f0 f1 f2 f3 f4 f5 h1 h2 h3
  generalize w1.alloc (.cells #[.string (bstr M.fs[k].nm), .slice ad M.fs[k].dat.length cap, .int .i64 (M.fs[k].sure : Int)] 78) = wb at rb hbx h4 ⊢
  have b0 : wb.cell? ⟨w1.heap.size, 0, none⟩ = some (.string (bstr M.fs[k].nm)) := cell_row hbx 0
  have b1 : wb.cell? ⟨w1.heap.size, 1, none⟩ = some (.slice ad M.fs[k].dat.length cap) := cell_row hbx 1
  have b2 : wb.cell? ⟨w1.heap.size, 2, none⟩ = some (.int .i64 (M.fs[k].sure : Int)) := cell_row hbx 2
  obtain ⟨c0, c1, c2, c3, c4, c5, f0, f1, f2, f3, f4, f5⟩ := c6_of rb.r0
  go_wp2_with fail
  refine (hst _).mono ?_
  rintro e w2 ⟨rfl, hb2⟩
  clear c0 c1 c2 c3 c4 c5 f0 f1 f2 f3 f4 f5 hst
  have rb := rb.later hb2
  have kx2 : w2.heap[w1.heap.size]? = some (.cells (fcell M.fs[k] ad cap) 78 (0, 0)) := (hb2.block _ (Array.getElem?_eq_some_iff.1 hbx).1).trans hbx
  have h42 := h4.later hb2
  obtain ⟨c0, c1, c2, c3, c4, c5, f0, f1, f2, f3, f4, f5⟩ := c6_of rb.r0
  go_upto_region 8 with fail
  have f23 := (set6_wt (a := .int .i64 (stpM M).quota) (b := .int .i64 (stpM M).steps) (c := .int .i64 (stpM M).left) (d := .bool (stpM M).armed) (e := .bool (stpM M).gone) (f := .slice (some ⟨fb, 0, none⟩) (stpM M).fs.length fc) rb.r0).fr
  have kx3 := (f23.block _ (Array.getElem?_eq_some_iff.1 kx2).1 (show w1.heap.size ≠ w.heap.size by omega)).trans kx2
  have h43 := h42.fr f23 (fun x ex hl e => by have := hX _ (h5 x ex hl); omega)
  simp only [set6] at kx3 h43
  clear f23 kx2 h42
  have rb := rb.set (stpM M) (some ⟨fb, 0, none⟩) fc
  clear c0 c1 c2 c3 c4 c5 f0 f1 f2 f3 f4 f5
  generalize ((((((w2.setCell ⟨w.heap.size, 0, none⟩ (.int .i64 (stpM M).quota)).setCell ⟨w.heap.size, 1, none⟩ (.int .i64 (stpM M).steps)).setCell ⟨w.heap.size, 2, none⟩ (.int .i64 (stpM M).left)).setCell ⟨w.heap.size, 3, none⟩ (.bool (stpM M).armed)).setCell ⟨w.heap.size, 4, none⟩ (.bool (stpM M).gone)).setCell ⟨w.heap.size, 5, none⟩ (.slice (some ⟨fb, 0, none⟩) (stpM M).fs.length fc)) = w3 at rb kx3 h43 ⊢
  clear b0 b1 b2 hbx h4
  have hf3 := hf.later rb.hb
  have hlt3 : w1.heap.size < w3.heap.size := (Array.getElem?_eq_some_iff.1 kx3).1
  have hal3 : Below w3.heap.size w3 (w3.alloc (.cells #[] 5)) := (Below.refl _ w3).alloc (Nat.le_refl _) _
  have hoe := own_empty w3 w3.heap.size (Nat.le_refl _)
  have h4e := (h43.less size hbig).later hal3
  have htb : ∀ z ∈ M.fs[k].dat.take size, 0 ≤ z ∧ z < 256 := fun z hz => h43.2.1 z (List.mem_of_mem_take hz)
  have ke3 : (w3.alloc (.cells #[] 5)).heap[w1.heap.size]? = some (.cells (fcell M.fs[k] ad cap) 78 (0, 0)) := (hal3.block _ hlt3).trans kx3
  have b1 : (w3.alloc (.cells #[] 5)).cell? ⟨w1.heap.size, 1, none⟩ = some (.slice ad M.fs[k].dat.length cap) := cell_row ke3 1
  have hszc : size ≤ cap := by omega
  obtain ⟨c0, c1, c2, c3, c4, c5, f0, f1, f2, f3, f4, f5⟩ := c6_of rb.r0
  go_upto_region 13 with ((at_builtin; refine wpList_append_bs rfl (.tmp 40) (.tmp 44) rfl w3.heap.size (.slice (some ⟨w3.heap.size, 0, none⟩) 0 0) 0 [] rfl hoe ad size cap (M.fs[k].dat.take size) rfl h4e (by omega) (by simp) ?_; intro v4 w4 hown4 hg4 hk4; rw [Nat.zero_add] at hown4; obtain ⟨va, vc, hbv, rfl⟩ := bs_own2 hown4 htb; have hb4 : Below w3.heap.size w3 w4 := hal3.grown hg4 (by simp) (fun k e => by cases e; exact Nat.le_refl _); have kx4 : w4.heap[w1.heap.size]? = some (.cells (fcell M.fs[k] ad cap) 78 (0, 0)) := (hb4.block _ hlt3).trans kx3; have b0 := cell_row kx4 0; have b1 := cell_row kx4 1; have b2 := cell_row kx4 2; have f1' := froz_row kx4 1; have f2' := froz_row kx4 2; simp only [List.getElem?_toArray, List.getElem?_cons_zero, List.getElem?_cons_succ] at b0 b1 b2))
  have rb := rb.later hb4
  have hw5 := (box2 (x := .slice va size vc) (Wt.refl kx4)).1
  have rb := rb.other hw5.fr (by omega) (by omega) (by omega)
  have hf5 := (hf3.later hb4).fr hw5.fr (fun k hk e => by have := hX k hk; omega)
  have hbv5 := hbv.fr hw5.fr (fun x ex hl e => by have := (own_cap hown4 rfl).2 x ex; omega)
  have hszv := (own_cap hown4 rfl).1
  have hx5 : ∀ x, va = some x → 0 < size → (X x.block ∨ w3.heap.size ≤ x.block) := fun x ex _ => .inr ((own_cap hown4 rfl).2 x ex)
  have hsz5 : w4.heap.size = (w4.setCell ⟨w1.heap.size, 1, none⟩ (.slice va size vc)).heap.size := hw5.size.symm
  have hown4lt : ∀ x, va = some x → x.block < w4.heap.size := fun x ex => (hown4.lt x.block (by rw [ex]; rfl)).2
  have kx5 := hw5.row
  clear c0 c1 c2 c3 c4 c5 f0 f1 f2 f3 f4 f5 b0 b1 b2 f1' f2' hw5 hg4 hk4 hown4 hbv kx4
  generalize (w4.setCell ⟨w1.heap.size, 1, none⟩ (.slice va size vc)) = w5 at rb hf5 hbv5 kx5 hsz5 ⊢
  have hr5 : (cutR M.fs[k] size).dat.length = size := by simp only [cutR, List.length_take]; omega
  have e5 : Hid (#[Value.string (bstr M.fs[k].nm), .slice va size vc, .int .i64 (M.fs[k].sure : Int)] = fcell (cutR M.fs[k] size) va vc) := hide1 (by
    unfold fcell
    rw [hr5]
    simp only [cutR]
    rw [show (((min M.fs[k].sure size : Nat)) : Int) = (M.fs[k].sure : Int) by omega])
  have hput := put_d (w := w5) (X := fun i => X i ∨ (w3.heap.size ≤ i ∧ i < w4.heap.size)) (fc := fc) (hf5.mono fun _ h => .inl h) (fun k hk => by rcases hk with hk | hk; (have := hX k hk; have := rb.lt; omega); omega) hn (cutR M.fs[k] size) va vc (by rw [hr5]; exact hbv5) (by rw [hr5]; exact hszv) (fun x ex hl => (hx5 x ex (by omega)).imp id fun h => ⟨h, hown4lt x ex⟩)
  have hszB : w.heap.size + 1 < w5.heap.size := rb.lt
  have b0 : w5.cell? ⟨w1.heap.size, 0, none⟩ = some (.string (bstr M.fs[k].nm)) := cell_row kx5 0
  have b1 : w5.cell? ⟨w1.heap.size, 1, none⟩ = some (.slice va size vc) := cell_row kx5 1
  have b2 : w5.cell? ⟨w1.heap.size, 2, none⟩ = some (.int .i64 (M.fs[k].sure : Int)) := cell_row kx5 2
  rw [show Value.agg #[.string (bstr (cutR M.fs[k] size).nm), .slice va (cutR M.fs[k] size).dat.length vc, .int .i64 ((cutR M.fs[k] size).sure : Int)] = .agg #[Value.string (bstr M.fs[k].nm), .slice va size vc, .int .i64 (M.fs[k].sure : Int)] from congrArg Value.agg e5.out.symm] at hput
  obtain ⟨c0, c1, c2, c3, c4, c5, f0, f1, f2, f3, f4, f5⟩ := c6_of rb.r0
  go_wp2_with fail
  refine hput.mono ?_
  rintro e w6 ⟨v6, rfl, hg6, hb6⟩
  have rb := rb.later hb6
  obtain ⟨fa6, fc6, rfl, hfs6⟩ := hg6.fs
  clear c0 c1 c2 c3 c4 c5 f0 f1 f2 f3 f4 f5 b0 b1 b2 hput
  obtain ⟨c0, c1, c2, c3, c4, c5, f0, f1, f2, f3, f4, f5⟩ := c6_of rb.r0
  go_upto_region 14 with fail
  have rb7 := rb.set5 (putR (cutR M.fs[k] size) M.fs) fa6 fc6
  have f7' : Fr (· = w.heap.size) w6 (w6.setCell ⟨w.heap.size, 5, none⟩ (.slice fa6 (putR (cutR M.fs[k] size) M.fs).length fc6)) := ((Wt.refl rb.r0).cell 5 _).fr
  clear c0 c1 c2 c3 c4 c5 f0 f1 f2 f3 f4 f5 rb
  generalize w6.setCell ⟨w.heap.size, 5, none⟩ (.slice fa6 (putR (cutR M.fs[k] size) M.fs).length fc6) = w7 at rb7 f7' ⊢
  have rb := rb7
  clear rb7
  obtain ⟨c0, c1, c2, c3, c4, c5, f0, f1, f2, f3, f4, f5⟩ := c6_of rb.r0
  obtain ⟨d0, d1, d2, d3, d4, d5, g0, g1, g2, g3, g4, g5⟩ := c6_of rb.r1
  obtain ⟨e1, e3, e2⟩ := rb.fin
  have hfin := put_fin2 hX hfs6 (by rintro k ((h | h) | h); exact .inl h; exact .inr (by omega); exact .inr (by omega)) f7' e3
  go_wp2
  refine bodyPost_ret (results_ct (M := { stpM M with fs := putR (cutR M.fs[k] size) M.fs }) rfl _ rfl e1) rfl ?_
  exact ⟨fa6, fc6, rfl, hfin, e2⟩
end
end Go.Proofs.Ytcmgpllnficmdaa

namespace Go.Proofs.Ytcmgpllnficmdaa
open Go.RowKit Go.Maps

theorem bstr_list (l : List UInt8) : (bstr l).data.toList = l := rfl
theorem bdF1 (s : ByteArray) (w : World) : (Instr.build 78 #[(0, .string s)]).run Try.prog w = .ok (.agg #[.string s, .slice none 0 0, .int .i64 0]) w := by kernel_rfl
section
variable {w : World} {X : Nat → Prop} {M : Rd} {fa : Option Addr} {fc : Nat} {nm : List UInt8}

theorem append_r_name (hf : Fs w X fa M.fs) {ab : Option Addr} {lb cb : Nat} (hnm : isName nm = false) :
    Calls Try.prog 33 #[rval M fa fc, .string (bstr nm), .slice ab lb cb] w (ROut w X M 5) := by
  have rb := RB.start w M fa fc
  have hna := named_r (bstr nm)
  rw [bstr_list, hnm] at hna
  go_enter Try.func33, Try.ntmps33
  go_wp2_with fail
  refine (hna _).mono ?_
  rintro e w1 ⟨rfl, rfl⟩
  obtain ⟨c0, c1, c2, c3, c4, c5, f0, f1, f2, f3, f4, f5⟩ := c6_of rb.r0
  obtain ⟨d0, d1, d2, d3, d4, d5, g0, g1, g2, g3, g4, g5⟩ := c6_of rb.r1
  obtain ⟨e1, e3, e2⟩ := rb.fin
  clear hna
  generalize (w.alloc (.cells (rcells M fa fc) 34)).alloc (.cells zrow 34) = w1 at *
  go_wp2
  refine bodyPost_ret (results_ct (M := M) rfl _ rfl e1) rfl ?_
  exact ROut.of rfl hf e2

theorem append_r_full (hf : Fs w X fa M.fs) (hn : M.fs.length ≤ 400000) (hq : 0 ≤ M.quota ∧ M.quota ≤ 16777216) (hu : usedR M.fs ≤ 16777216) {ab : Option Addr} {lb cb : Nat} (hnm : isName nm = true) (hfull : M.quota - usedR M.fs < (lb : Int)) :
    Calls Try.prog 33 #[rval M fa fc, .string (bstr nm), .slice ab lb cb] w (ROut w X M 3) := by
  have rb := RB.start w M fa fc
  have hna := named_r (bstr nm)
  rw [bstr_list, hnm] at hna
  have hu0 := usedR_nn M.fs
  have hwr : IntKind.i64.wrap (M.quota - usedR M.fs) = M.quota - usedR M.fs := by go_unwrap
  go_enter Try.func33, Try.ntmps33
  go_wp2_with fail
  refine (hna _).mono ?_
  rintro e w1 ⟨rfl, rfl⟩
  clear hna
  go_upto_region 3 with fail
  have hf1 := hf.later rb.hb
  generalize (w.alloc (.cells (rcells M fa fc) 34)).alloc (.cells zrow 34) = w1 at *
  have hus := used_r (w := w1.drew) (fc := fc) (hf1.later ((Below.refl _ _).drew)) (by omega) (by omega)
  have rbd := rb.later ((Below.refl _ w1).drew)
  obtain ⟨c0, c1, c2, c3, c4, c5, f0, f1, f2, f3, f4, f5⟩ := c6_of rb.r0
  go_cut [22] from 15 (fun s22 wx => s22 = .bool true ∧ RB w wx M fa fc)
  case first =>
    go_region_with (go_at_call 43; refine hus.mono ?_; rintro e w2 ⟨rfl, hb2⟩; have rb2 := rbd.later hb2; have c0' := cell_row rb2.r0 0; simp only [List.getElem?_toArray, List.getElem?_cons_zero] at c0')
    all_goals (go_wp2_with fail; go_meet)
    all_goals exact ⟨rfl, rb2⟩
  case rest =>
    obtain ⟨rfl, rb⟩ := hcut
    clear c0 c1 c2 c3 c4 c5 f0 f1 f2 f3 f4 f5 rbd hus hf1
    obtain ⟨c0, c1, c2, c3, c4, c5, f0, f1, f2, f3, f4, f5⟩ := c6_of rb.r0
    obtain ⟨d0, d1, d2, d3, d4, d5, g0, g1, g2, g3, g4, g5⟩ := c6_of rb.r1
    obtain ⟨e1, e3, e2⟩ := rb.fin
    go_wp2
    refine bodyPost_ret (results_ct (M := M) rfl _ rfl e1) rfl ?_
    exact ROut.of rfl hf e2

theorem append_r_down (hf : Fs w X fa M.fs) (hn : M.fs.length ≤ 400000) (hs : 0 ≤ M.steps ∧ M.steps < 1000000000) (hl : M.armed = true → 0 ≤ M.left ∧ M.left < 9223372036854775808) (hq : 0 ≤ M.quota ∧ M.quota ≤ 16777216) (hu : usedR M.fs ≤ 16777216) {ab : Option Addr} {lb cb : Nat} (hnm : isName nm = true) (hroom : (lb : Int) ≤ M.quota - usedR M.fs) (hc : canM M = false) :
    Calls Try.prog 33 #[rval M fa fc, .string (bstr nm), .slice ab lb cb] w (ROut w X (gonM M) 4) := by
  have rb := RB.start w M fa fc
  have hna := named_r (bstr nm)
  rw [bstr_list, hnm] at hna
  have hu0 := usedR_nn M.fs
  have hwr : IntKind.i64.wrap (M.quota - usedR M.fs) = M.quota - usedR M.fs := by go_unwrap
  have hd : decide (M.quota - usedR M.fs < (lb : Int)) = false := by simp; omega
  have hst := fun w => step_r (w := w) (fa := fa) (fc := fc) hs hl
  rw [hc] at hst
  go_enter Try.func33, Try.ntmps33
  go_wp2_with fail
  refine (hna _).mono ?_
  rintro e w1 ⟨rfl, rfl⟩
  clear hna
  go_upto_region 3 with fail
  have hf1 := hf.later rb.hb
  generalize (w.alloc (.cells (rcells M fa fc) 34)).alloc (.cells zrow 34) = w1 at *
  have hus := used_r (w := w1.drew) (fc := fc) (hf1.later ((Below.refl _ _).drew)) (by omega) (by omega)
  have rbd := rb.later ((Below.refl _ w1).drew)
  obtain ⟨c0, c1, c2, c3, c4, c5, f0, f1, f2, f3, f4, f5⟩ := c6_of rb.r0
  go_cut [22] from 15 (fun s22 wx => s22 = .bool false ∧ RB w wx M fa fc)
  case first =>
    go_region_with (go_at_call 43; refine hus.mono ?_; rintro e w2 ⟨rfl, hb2⟩; have rb2 := rbd.later hb2; have c0' := cell_row rb2.r0 0; simp only [List.getElem?_toArray, List.getElem?_cons_zero] at c0')
    all_goals (go_wp2_with fail; go_meet)
    all_goals exact ⟨rfl, rb2⟩
  case rest =>
    obtain ⟨rfl, rb⟩ := hcut
    clear c0 c1 c2 c3 c4 c5 f0 f1 f2 f3 f4 f5 rbd hus hf1
    obtain ⟨c0, c1, c2, c3, c4, c5, f0, f1, f2, f3, f4, f5⟩ := c6_of rb.r0
    go_wp2_with fail
    refine (hst _).mono ?_
    rintro e wy ⟨rfl, hby⟩
    clear c0 c1 c2 c3 c4 c5 f0 f1 f2 f3 f4 f5 hst
    have rb := rb.later hby
    obtain ⟨c0, c1, c2, c3, c4, c5, f0, f1, f2, f3, f4, f5⟩ := c6_of rb.r0
    go_upto_region 6 with fail
    have rb := rb.set (gonM M) fa fc
    clear c0 c1 c2 c3 c4 c5 f0 f1 f2 f3 f4 f5
    generalize ((((((wy.setCell ⟨w.heap.size, 0, none⟩ (.int .i64 (gonM M).quota)).setCell ⟨w.heap.size, 1, none⟩ (.int .i64 (gonM M).steps)).setCell ⟨w.heap.size, 2, none⟩ (.int .i64 (gonM M).left)).setCell ⟨w.heap.size, 3, none⟩ (.bool (gonM M).armed)).setCell ⟨w.heap.size, 4, none⟩ (.bool (gonM M).gone)).setCell ⟨w.heap.size, 5, none⟩ (.slice fa (gonM M).fs.length fc)) = w3 at rb ⊢
    obtain ⟨c0, c1, c2, c3, c4, c5, f0, f1, f2, f3, f4, f5⟩ := c6_of rb.r0
    obtain ⟨d0, d1, d2, d3, d4, d5, g0, g1, g2, g3, g4, g5⟩ := c6_of rb.r1
    obtain ⟨e1, e3, e2⟩ := rb.fin
    go_wp2
    refine bodyPost_ret (results_ct (M := gonM M) rfl _ rfl e1) rfl ?_
    exact ROut.of (M := gonM M) rfl hf e2
end
end Go.Proofs.Ytcmgpllnficmdaa

namespace Go.Proofs.Ytcmgpllnficmdaa
open Go.RowKit Go.Maps

def appR (r : Rf) (zs : List Int) : Rf := ⟨r.nm, r.dat ++ zs, r.sure⟩
section
variable {w : World} {X : Nat → Prop} {M : Rd} {fa : Option Addr} {fc : Nat} {nm : List UInt8}

set_option maxHeartbeats 2000000 in
theorem append_r_old (hf : Fs w X fa M.fs) (hX : ∀ k, X k → k < w.heap.size) (hn : M.fs.length ≤ 400000) (hs : 0 ≤ M.steps ∧ M.steps < 1000000000) (hl : M.armed = true → 0 ≤ M.left ∧ M.left < 9223372036854775808) (hq : 0 ≤ M.quota ∧ M.quota ≤ 16777216) (hu : usedR M.fs ≤ 16777216) {ab : Option Addr} {lb cb : Nat} {zs : List Int} (hbs : Bs w ab lb zs) (hnm : isName nm = true) (hroom : (lb : Int) ≤ M.quota - usedR M.fs) {k : Nat} (hk : atR nm M.fs 0 = k) (hkl : k < M.fs.length) (hlen : M.fs[k].dat.length ≤ 100000000) (hc : canM M = true) :
    Calls Try.prog 33 #[rval M fa fc, .string (bstr nm), .slice ab lb cb] w (ROut w X { stpM M with fs := putR (appR M.fs[k] zs) M.fs } 0) := by
  have rb := RB.start w M fa fc
  have hna := named_r (bstr nm)
  rw [bstr_list, hnm] at hna
  have hu0 := usedR_nn M.fs
  have hwr : IntKind.i64.wrap (M.quota - usedR M.fs) = M.quota - usedR M.fs := by go_unwrap
  have hd : decide (M.quota - usedR M.fs < (lb : Int)) = false := by simp; omega
  have hst := fun w => step_r (w := w) (fa := fa) (fc := fc) hs hl
  rw [hc] at hst
  go_enter Try.func33, Try.ntmps33
  go_wp2_with fail
  refine (hna _).mono ?_
  rintro e w1 ⟨rfl, rfl⟩
  clear hna
  go_upto_region 3 with fail
  have hf1 := hf.later rb.hb
  generalize (w.alloc (.cells (rcells M fa fc) 34)).alloc (.cells zrow 34) = w1 at *
  have hus := used_r (w := w1.drew) (fc := fc) (hf1.later ((Below.refl _ _).drew)) (by omega) (by omega)
  have rbd := rb.later ((Below.refl _ w1).drew)
  obtain ⟨c0, c1, c2, c3, c4, c5, f0, f1, f2, f3, f4, f5⟩ := c6_of rb.r0
  go_cut [22] from 15 (fun s22 wx => s22 = .bool false ∧ RB w wx M fa fc)
  case first =>
    go_region_with (go_at_call 43; refine hus.mono ?_; rintro e w2 ⟨rfl, hb2⟩; have rb2 := rbd.later hb2; have c0' := cell_row rb2.r0 0; simp only [List.getElem?_toArray, List.getElem?_cons_zero] at c0')
    all_goals (go_wp2_with fail; go_meet)
    all_goals exact ⟨rfl, rb2⟩
  case rest =>
    obtain ⟨rfl, rb⟩ := hcut
    clear c0 c1 c2 c3 c4 c5 f0 f1 f2 f3 f4 f5 rbd hus hf1
    obtain ⟨c0, c1, c2, c3, c4, c5, f0, f1, f2, f3, f4, f5⟩ := c6_of rb.r0
    go_wp2_with fail
    refine (hst _).mono ?_
    rintro e wy ⟨rfl, hby⟩
    clear c0 c1 c2 c3 c4 c5 f0 f1 f2 f3 f4 f5 hst
    have rb := rb.later hby
    obtain ⟨c0, c1, c2, c3, c4, c5, f0, f1, f2, f3, f4, f5⟩ := c6_of rb.r0
    go_upto_region 6 with fail
    have rb := rb.set (stpM M) fa fc
    clear c0 c1 c2 c3 c4 c5 f0 f1 f2 f3 f4 f5
    generalize ((((((wy.setCell ⟨w.heap.size, 0, none⟩ (.int .i64 (stpM M).quota)).setCell ⟨w.heap.size, 1, none⟩ (.int .i64 (stpM M).steps)).setCell ⟨w.heap.size, 2, none⟩ (.int .i64 (stpM M).left)).setCell ⟨w.heap.size, 3, none⟩ (.bool (stpM M).armed)).setCell ⟨w.heap.size, 4, none⟩ (.bool (stpM M).gone)).setCell ⟨w.heap.size, 5, none⟩ (.slice fa (stpM M).fs.length fc)) = w3 at rb ⊢
    have hn' : (stpM M).fs.length ≤ 1000000 := by show M.fs.length ≤ _; omega
    have hk' : atR nm (stpM M).fs 0 = (k : Int) := hk
    have hbd := bdF1 (bstr nm)
    have hlt3 := rb.lt
    have rb := rb.box (.cells #[.string (bstr nm), .slice none 0 0, .int .i64 0] 78)
    have hat := at_d (M := stpM M) (fc := fc) (hf.later rb.hb) hn' nm
    rw [hk'] at hat
    have kx := (MapKept.heap_alloc w3 (.cells #[.string (bstr nm), .slice none 0 0, .int .i64 0] 78)).1
    obtain ⟨c0, c1, c2, c3, c4, c5, f0, f1, f2, f3, f4, f5⟩ := c6_of rb.r0
    go_wp2_with fail
    refine hat.mono ?_
    rintro e w9 ⟨rfl, hb9⟩
    have rb := rb.later hb9
    have kx := (hb9.block _ (by simp)).trans kx
    clear c0 c1 c2 c3 c4 c5 f0 f1 f2 f3 f4 f5 hat hbd
    have hf9 := hf.later rb.hb
    obtain ⟨fb, rfl, hxf, hcc⟩ := hf9 (by omega)
    obtain ⟨adv, capv, h1, h2, h3, h4, h6, h5⟩ := hcc k hkl
    have b0 : w9.cell? ⟨w3.heap.size, 0, none⟩ = some (.string (bstr nm)) := cell_row kx 0
    have b1 : w9.cell? ⟨w3.heap.size, 1, none⟩ = some (.slice none 0 0) := cell_row kx 1
    have b2 : w9.cell? ⟨w3.heap.size, 2, none⟩ = some (.int .i64 0) := cell_row kx 2
    have q0 := froz_row kx 0
    have q1 := froz_row kx 1
    have q2 := froz_row kx 2
    obtain ⟨c0, c1, c2, c3, c4, c5, f0, f1, f2, f3, f4, f5⟩ := c6_of rb.r0
    go_upto_region 12 with fail
    have hwv := (((Wt.refl kx).cell 0 (.string (bstr M.fs[k].nm))).cell 1 (.slice adv M.fs[k].dat.length capv)).cell 2 (.int .i64 (M.fs[k].sure : Int))
    have ev : (((#[.string (bstr nm), .slice none 0 0, .int .i64 0] : Array Value).setIfInBounds 0 (.string (bstr M.fs[k].nm))).setIfInBounds 1 (.slice adv M.fs[k].dat.length capv)).setIfInBounds 2 (.int .i64 (M.fs[k].sure : Int)) = fcell M.fs[k] adv capv := by simp
    rw [ev] at hwv
    have rb := rb.other hwv.fr (by omega) (by omega) (by omega)
    have kxv := hwv.row
    have h4v := h4.fr hwv.fr (fun x ex hl e => by have := hX _ (h5 x ex hl); omega)
    have hfv := hf9.fr hwv.fr (fun k hk e => by have := hX k hk; omega)
    clear c0 c1 c2 c3 c4 c5 f0 f1 f2 f3 f4 f5 b0 b1 b2 q0 q1 q2 ev hwv h1 h2 h3 h4 hcc hf9 kx
    generalize ((w9.setCell ⟨w3.heap.size, 0, none⟩ (.string (bstr M.fs[k].nm))).setCell ⟨w3.heap.size, 1, none⟩ (.slice adv M.fs[k].dat.length capv)).setCell ⟨w3.heap.size, 2, none⟩ (.int .i64 (M.fs[k].sure : Int)) = wv at rb kxv h4v hfv ⊢
    have hltv : w3.heap.size < wv.heap.size := (Array.getElem?_eq_some_iff.1 kxv).1
    have halv : Below wv.heap.size wv (wv.alloc (.cells #[] 5)) := (Below.refl _ wv).alloc (Nat.le_refl _) _
    have hoe := own_empty wv wv.heap.size (Nat.le_refl _)
    have h4e := h4v.later halv
    have hbsv := hbs.later rb.hb
    have kev := (halv.block _ hltv).trans kxv
    have b1 : (wv.alloc (.cells #[] 5)).cell? ⟨w3.heap.size, 1, none⟩ = some (.slice adv M.fs[k].dat.length capv) := cell_row kev 1
    have htz : ∀ z ∈ M.fs[k].dat ++ zs, 0 ≤ z ∧ z < 256 := fun z hz => by rcases List.mem_append.1 hz with h | h; exact h4v.2.1 z h; exact hbs.2.1 z h
    obtain ⟨c0, c1, c2, c3, c4, c5, f0, f1, f2, f3, f4, f5⟩ := c6_of rb.r0
    go_upto_region 13 with (first | (at_builtin; refine wpList_append_bs rfl (.tmp 44) (.tmp 46) rfl wv.heap.size (.slice (some ⟨wv.heap.size, 0, none⟩) 0 0) 0 [] rfl hoe adv M.fs[k].dat.length capv M.fs[k].dat rfl h4e (by omega) (by simp) ?_; intro v4 w4 hown4 hg4 hk4; have hb4 : Below wv.heap.size wv w4 := halv.grown hg4 (by simp) (fun k e => by cases e; exact Nat.le_refl _); have hbs4 := hbsv.later hb4) | (at_builtin; refine wpList_append_bs rfl (.tmp 47) (.tmp 48) rfl wv.heap.size v4 (0 + M.fs[k].dat.length) ([] ++ byteVals M.fs[k].dat) rfl hown4 ab lb cb zs rfl hbs4 (by omega) (by have := hb4.size; omega) ?_; intro v5 w5 hown5 hg5 hk5; have hown5 : w5.ownsRow wv.heap.size 5 1 v5 (M.fs[k].dat.length + lb) (byteVals (M.fs[k].dat ++ zs)) := (by have h := hown5; rw [Nat.zero_add, List.nil_append, byteVals_app] at h; exact h); obtain ⟨va, vc, hbv, rfl⟩ := bs_own2 hown5 htz; have hb5 : Below wv.heap.size wv w5 := hb4.grown hg5 hb4.size (fun k e => (hown4.lt k e).1); have kx5 := (hb5.block _ hltv).trans kxv; have f1' := froz_row kx5 1; have d1' := cell_row kx5 1; simp only [List.getElem?_toArray, List.getElem?_cons_zero, List.getElem?_cons_succ] at d1'))
    have rb := rb.later hb5
    have hw6 := (box2 (x := .slice va (M.fs[k].dat.length + lb) vc) (Wt.refl kx5)).1
    have rb := rb.other hw6.fr (by omega) (by omega) (by omega)
    have hf6 := (hfv.later hb5).fr hw6.fr (fun k hk e => by have := hX k hk; omega)
    have hbv6 := hbv.fr hw6.fr (fun x ex hl e => by have := (own_cap hown5 rfl).2 x ex; omega)
    have hszv := (own_cap hown5 rfl).1
    have hx6 : ∀ x, va = some x → 0 < (M.fs[k].dat.length + lb) → (X x.block ∨ wv.heap.size ≤ x.block) := fun x ex _ => .inr ((own_cap hown5 rfl).2 x ex)
    have hsz6 : w5.heap.size = (w5.setCell ⟨w3.heap.size, 1, none⟩ (.slice va (M.fs[k].dat.length + lb) vc)).heap.size := hw6.size.symm
    have hown5lt : ∀ x, va = some x → x.block < w5.heap.size := fun x ex => (hown5.lt x.block (by rw [ex]; rfl)).2
    have kx6 := hw6.row
    clear c0 c1 c2 c3 c4 c5 f0 f1 f2 f3 f4 f5 b1 f1' d1' hw6 hg5 hk5 hown5 hbv kx5 hg4 hk4 hown4
    generalize w5.setCell ⟨w3.heap.size, 1, none⟩ (.slice va (M.fs[k].dat.length + lb) vc) = w6 at rb hf6 hbv6 kx6 hsz6 ⊢
    have hr6 : (appR M.fs[k] zs).dat.length = (M.fs[k].dat.length + lb) := by simp only [appR, List.length_append]; rw [hbs.1]
    have hput := put_d (w := w6) (X := fun i => X i ∨ (wv.heap.size ≤ i ∧ i < w5.heap.size)) (fc := fc) (hf6.mono fun _ h => .inl h) (fun k hk => by rcases hk with hk | hk; (have := hX k hk; have := rb.lt; omega); omega) hn (appR M.fs[k] zs) va vc (by rw [hr6]; exact hbv6) (by rw [hr6]; exact hszv) (fun x ex hl => (hx6 x ex (by omega)).imp id fun h => ⟨h, hown5lt x ex⟩)
    rw [hr6] at hput
    have hszB : w.heap.size + 1 < w6.heap.size := rb.lt
    have b0 : w6.cell? ⟨w3.heap.size, 0, none⟩ = some (.string (bstr M.fs[k].nm)) := cell_row kx6 0
    have b1 : w6.cell? ⟨w3.heap.size, 1, none⟩ = some (.slice va (M.fs[k].dat.length + lb) vc) := cell_row kx6 1
    have b2 : w6.cell? ⟨w3.heap.size, 2, none⟩ = some (.int .i64 (M.fs[k].sure : Int)) := cell_row kx6 2
    obtain ⟨c0, c1, c2, c3, c4, c5, f0, f1, f2, f3, f4, f5⟩ := c6_of rb.r0
    go_wp2_with fail
    refine hput.mono ?_
    rintro e w7 ⟨v7, rfl, hg7, hb7⟩
    have rb := rb.later hb7
    obtain ⟨fa7, fc7, rfl, hfs7⟩ := hg7.fs
    clear c0 c1 c2 c3 c4 c5 f0 f1 f2 f3 f4 f5 b0 b1 b2 hput
    obtain ⟨c0, c1, c2, c3, c4, c5, f0, f1, f2, f3, f4, f5⟩ := c6_of rb.r0
    go_upto_region 14 with fail
    have rb8 := rb.set5 (putR (appR M.fs[k] zs) M.fs) fa7 fc7
    have f8' : Fr (· = w.heap.size) w7 (w7.setCell ⟨w.heap.size, 5, none⟩ (.slice fa7 (putR (appR M.fs[k] zs) M.fs).length fc7)) := ((Wt.refl rb.r0).cell 5 _).fr
    clear c0 c1 c2 c3 c4 c5 f0 f1 f2 f3 f4 f5 rb
    generalize w7.setCell ⟨w.heap.size, 5, none⟩ (.slice fa7 (putR (appR M.fs[k] zs) M.fs).length fc7) = w8 at rb8 f8' ⊢
    have rb := rb8
    clear rb8
    obtain ⟨c0, c1, c2, c3, c4, c5, f0, f1, f2, f3, f4, f5⟩ := c6_of rb.r0
    obtain ⟨d0, d1, d2, d3, d4, d5, g0, g1, g2, g3, g4, g5⟩ := c6_of rb.r1
    obtain ⟨e1, e3, e2⟩ := rb.fin
    have hfin := put_fin2 hX hfs7 (by rintro k ((h | h) | h); exact .inl h; exact .inr (by omega); exact .inr (by omega)) f8' e3
    go_wp2
    refine bodyPost_ret (results_ct (M := { stpM M with fs := putR (appR M.fs[k] zs) M.fs }) rfl _ rfl e1) rfl ?_
    exact ⟨fa7, fc7, rfl, hfin, e2⟩

set_option maxHeartbeats 2000000 in
theorem append_r_new (hf : Fs w X fa M.fs) (hX : ∀ k, X k → k < w.heap.size) (hn : M.fs.length ≤ 400000) (hs : 0 ≤ M.steps ∧ M.steps < 1000000000) (hl : M.armed = true → 0 ≤ M.left ∧ M.left < 9223372036854775808) (hq : 0 ≤ M.quota ∧ M.quota ≤ 16777216) (hu : usedR M.fs ≤ 16777216) {ab : Option Addr} {lb cb : Nat} {zs : List Int} (hbs : Bs w ab lb zs) (hnm : isName nm = true) (hroom : (lb : Int) ≤ M.quota - usedR M.fs) (hk : atR nm M.fs 0 = -1) (hc : canM M = true) :
    Calls Try.prog 33 #[rval M fa fc, .string (bstr nm), .slice ab lb cb] w (ROut w X { stpM M with fs := putR (appR (Rf.mk nm [] 0) zs) M.fs } 0) := by
  obtain ⟨r0, hr0⟩ : ∃ r0 : Rf, Hid (r0 = Rf.mk nm [] 0) := ⟨_, hide1 rfl⟩
  rw [← hr0.out]
  have rb := RB.start w M fa fc
  have hna := named_r (bstr nm)
  rw [bstr_list, hnm] at hna
  have hu0 := usedR_nn M.fs
  have hwr : IntKind.i64.wrap (M.quota - usedR M.fs) = M.quota - usedR M.fs := by go_unwrap
  have hd : decide (M.quota - usedR M.fs < (lb : Int)) = false := by simp; omega
  have hst := fun w => step_r (w := w) (fa := fa) (fc := fc) hs hl
  rw [hc] at hst
  go_enter Try.func33, Try.ntmps33
  go_wp2_with fail
  refine (hna _).mono ?_
  rintro e w1 ⟨rfl, rfl⟩
  clear hna
  go_upto_region 3 with fail
  have hf1 := hf.later rb.hb
  generalize (w.alloc (.cells (rcells M fa fc) 34)).alloc (.cells zrow 34) = w1 at *
  have hus := used_r (w := w1.drew) (fc := fc) (hf1.later ((Below.refl _ _).drew)) (by omega) (by omega)
  have rbd := rb.later ((Below.refl _ w1).drew)
  obtain ⟨c0, c1, c2, c3, c4, c5, f0, f1, f2, f3, f4, f5⟩ := c6_of rb.r0
  go_cut [22] from 15 (fun s22 wx => s22 = .bool false ∧ RB w wx M fa fc)
  case first =>
    go_region_with (go_at_call 43; refine hus.mono ?_; rintro e w2 ⟨rfl, hb2⟩; have rb2 := rbd.later hb2; have c0' := cell_row rb2.r0 0; simp only [List.getElem?_toArray, List.getElem?_cons_zero] at c0')
    all_goals (go_wp2_with fail; go_meet)
    all_goals exact ⟨rfl, rb2⟩
  case rest =>
    obtain ⟨rfl, rb⟩ := hcut
    clear c0 c1 c2 c3 c4 c5 f0 f1 f2 f3 f4 f5 rbd hus hf1
    obtain ⟨c0, c1, c2, c3, c4, c5, f0, f1, f2, f3, f4, f5⟩ := c6_of rb.r0
    go_wp2_with fail
    refine (hst _).mono ?_
    rintro e wy ⟨rfl, hby⟩
    clear c0 c1 c2 c3 c4 c5 f0 f1 f2 f3 f4 f5 hst
    have rb := rb.later hby
    obtain ⟨c0, c1, c2, c3, c4, c5, f0, f1, f2, f3, f4, f5⟩ := c6_of rb.r0
    go_upto_region 6 with fail
    have rb := rb.set (stpM M) fa fc
    clear c0 c1 c2 c3 c4 c5 f0 f1 f2 f3 f4 f5
    generalize ((((((wy.setCell ⟨w.heap.size, 0, none⟩ (.int .i64 (stpM M).quota)).setCell ⟨w.heap.size, 1, none⟩ (.int .i64 (stpM M).steps)).setCell ⟨w.heap.size, 2, none⟩ (.int .i64 (stpM M).left)).setCell ⟨w.heap.size, 3, none⟩ (.bool (stpM M).armed)).setCell ⟨w.heap.size, 4, none⟩ (.bool (stpM M).gone)).setCell ⟨w.heap.size, 5, none⟩ (.slice fa (stpM M).fs.length fc)) = w3 at rb ⊢
    have hn' : (stpM M).fs.length ≤ 1000000 := by show M.fs.length ≤ _; omega
    have hk' : atR nm (stpM M).fs 0 = -1 := hk
    have hbd := bdF1 (bstr nm)
    have hlt3 := rb.lt
    have rb := rb.box (.cells #[.string (bstr nm), .slice none 0 0, .int .i64 0] 78)
    have hat := at_d (M := stpM M) (fc := fc) (hf.later rb.hb) hn' nm
    rw [hk'] at hat
    have kx := (MapKept.heap_alloc w3 (.cells #[.string (bstr nm), .slice none 0 0, .int .i64 0] 78)).1
    obtain ⟨c0, c1, c2, c3, c4, c5, f0, f1, f2, f3, f4, f5⟩ := c6_of rb.r0
    go_wp2_with fail
    refine hat.mono ?_
    rintro e w9 ⟨rfl, hb9⟩
    have rb := rb.later hb9
    have kx := (hb9.block _ (by simp)).trans kx
    clear c0 c1 c2 c3 c4 c5 f0 f1 f2 f3 f4 f5 hat hbd
    have hfv := hf.later rb.hb
    obtain ⟨c0, c1, c2, c3, c4, c5, f0, f1, f2, f3, f4, f5⟩ := c6_of rb.r0
    go_upto_region 12 with fail
    clear c0 c1 c2 c3 c4 c5 f0 f1 f2 f3 f4 f5
    obtain ⟨adv, had⟩ : ∃ adv : Option Addr, Hid (adv = none) := ⟨_, hide1 rfl⟩
    obtain ⟨capv, hca⟩ : ∃ capv : Nat, Hid (capv = 0) := ⟨_, hide1 rfl⟩
    have kxv : w9.heap[w3.heap.size]? = some (.cells (fcell r0 adv capv) 78 (0, 0)) := by rw [had.out, hca.out, hr0.out]; exact kx
    have h4v : Bs w9 adv r0.dat.length r0.dat := by rw [hr0.out]; exact ⟨rfl, fun z hz => by simp at hz, fun h => by simp at h⟩
    have hlen : r0.dat.length ≤ 100000000 := by rw [hr0.out]; exact Nat.zero_le _
    clear kx
    generalize w9 = wv at *
    have hltv : w3.heap.size < wv.heap.size := (Array.getElem?_eq_some_iff.1 kxv).1
    have halv : Below wv.heap.size wv (wv.alloc (.cells #[] 5)) := (Below.refl _ wv).alloc (Nat.le_refl _) _
    have hoe := own_empty wv wv.heap.size (Nat.le_refl _)
    have h4e := h4v.later halv
    have hbsv := hbs.later rb.hb
    have kev := (halv.block _ hltv).trans kxv
    have b1 : (wv.alloc (.cells #[] 5)).cell? ⟨w3.heap.size, 1, none⟩ = some (.slice adv r0.dat.length capv) := cell_row kev 1
    have htz : ∀ z ∈ r0.dat ++ zs, 0 ≤ z ∧ z < 256 := fun z hz => by rcases List.mem_append.1 hz with h | h; exact h4v.2.1 z h; exact hbs.2.1 z h
    obtain ⟨c0, c1, c2, c3, c4, c5, f0, f1, f2, f3, f4, f5⟩ := c6_of rb.r0
    go_upto_region 13 with (first | (at_builtin; refine wpList_append_bs rfl (.tmp 44) (.tmp 46) rfl wv.heap.size (.slice (some ⟨wv.heap.size, 0, none⟩) 0 0) 0 [] rfl hoe adv r0.dat.length capv r0.dat rfl h4e (by omega) (by simp) ?_; intro v4 w4 hown4 hg4 hk4; have hb4 : Below wv.heap.size wv w4 := halv.grown hg4 (by simp) (fun k e => by cases e; exact Nat.le_refl _); have hbs4 := hbsv.later hb4) | (at_builtin; refine wpList_append_bs rfl (.tmp 47) (.tmp 48) rfl wv.heap.size v4 (0 + r0.dat.length) ([] ++ byteVals r0.dat) rfl hown4 ab lb cb zs rfl hbs4 (by omega) (by have := hb4.size; omega) ?_; intro v5 w5 hown5 hg5 hk5; have hown5 : w5.ownsRow wv.heap.size 5 1 v5 (r0.dat.length + lb) (byteVals (r0.dat ++ zs)) := (by have h := hown5; rw [Nat.zero_add, List.nil_append, byteVals_app] at h; exact h); obtain ⟨va, vc, hbv, rfl⟩ := bs_own2 hown5 htz; have hb5 : Below wv.heap.size wv w5 := hb4.grown hg5 hb4.size (fun k e => (hown4.lt k e).1); have kx5 := (hb5.block _ hltv).trans kxv; have f1' := froz_row kx5 1; have d1' := cell_row kx5 1; simp only [List.getElem?_toArray, List.getElem?_cons_zero, List.getElem?_cons_succ] at d1'))
    have rb := rb.later hb5
    have hw6 := (box2 (x := .slice va (r0.dat.length + lb) vc) (Wt.refl kx5)).1
    have rb := rb.other hw6.fr (by omega) (by omega) (by omega)
    have hf6 := (hfv.later hb5).fr hw6.fr (fun k hk e => by have := hX k hk; omega)
    have hbv6 := hbv.fr hw6.fr (fun x ex hl e => by have := (own_cap hown5 rfl).2 x ex; omega)
    have hszv := (own_cap hown5 rfl).1
    have hx6 : ∀ x, va = some x → 0 < (r0.dat.length + lb) → (X x.block ∨ wv.heap.size ≤ x.block) := fun x ex _ => .inr ((own_cap hown5 rfl).2 x ex)
    have hsz6 : w5.heap.size = (w5.setCell ⟨w3.heap.size, 1, none⟩ (.slice va (r0.dat.length + lb) vc)).heap.size := hw6.size.symm
    have hown5lt : ∀ x, va = some x → x.block < w5.heap.size := fun x ex => (hown5.lt x.block (by rw [ex]; rfl)).2
    have kx6 := hw6.row
    clear c0 c1 c2 c3 c4 c5 f0 f1 f2 f3 f4 f5 b1 f1' d1' hw6 hg5 hk5 hown5 hbv kx5 hg4 hk4 hown4
    generalize w5.setCell ⟨w3.heap.size, 1, none⟩ (.slice va (r0.dat.length + lb) vc) = w6 at rb hf6 hbv6 kx6 hsz6 ⊢
    have hr6 : (appR r0 zs).dat.length = (r0.dat.length + lb) := by simp only [appR, List.length_append]; rw [hbs.1]
    have hput := put_d (w := w6) (X := fun i => X i ∨ (wv.heap.size ≤ i ∧ i < w5.heap.size)) (fc := fc) (hf6.mono fun _ h => .inl h) (fun k hk => by rcases hk with hk | hk; (have := hX k hk; have := rb.lt; omega); omega) hn (appR r0 zs) va vc (by rw [hr6]; exact hbv6) (by rw [hr6]; exact hszv) (fun x ex hl => (hx6 x ex (by omega)).imp id fun h => ⟨h, hown5lt x ex⟩)
    rw [hr6] at hput
    have hszB : w.heap.size + 1 < w6.heap.size := rb.lt
    have b0 : w6.cell? ⟨w3.heap.size, 0, none⟩ = some (.string (bstr r0.nm)) := cell_row kx6 0
    have b1 : w6.cell? ⟨w3.heap.size, 1, none⟩ = some (.slice va (r0.dat.length + lb) vc) := cell_row kx6 1
    have b2 : w6.cell? ⟨w3.heap.size, 2, none⟩ = some (.int .i64 (r0.sure : Int)) := cell_row kx6 2
    obtain ⟨c0, c1, c2, c3, c4, c5, f0, f1, f2, f3, f4, f5⟩ := c6_of rb.r0
    go_wp2_with fail
    refine hput.mono ?_
    rintro e w7 ⟨v7, rfl, hg7, hb7⟩
    have rb := rb.later hb7
    obtain ⟨fa7, fc7, rfl, hfs7⟩ := hg7.fs
    clear c0 c1 c2 c3 c4 c5 f0 f1 f2 f3 f4 f5 b0 b1 b2 hput
    obtain ⟨c0, c1, c2, c3, c4, c5, f0, f1, f2, f3, f4, f5⟩ := c6_of rb.r0
    go_upto_region 14 with fail
    have rb8 := rb.set5 (putR (appR r0 zs) M.fs) fa7 fc7
    have f8' : Fr (· = w.heap.size) w7 (w7.setCell ⟨w.heap.size, 5, none⟩ (.slice fa7 (putR (appR r0 zs) M.fs).length fc7)) := ((Wt.refl rb.r0).cell 5 _).fr
    clear c0 c1 c2 c3 c4 c5 f0 f1 f2 f3 f4 f5 rb
    generalize w7.setCell ⟨w.heap.size, 5, none⟩ (.slice fa7 (putR (appR r0 zs) M.fs).length fc7) = w8 at rb8 f8' ⊢
    have rb := rb8
    clear rb8
    obtain ⟨c0, c1, c2, c3, c4, c5, f0, f1, f2, f3, f4, f5⟩ := c6_of rb.r0
    obtain ⟨d0, d1, d2, d3, d4, d5, g0, g1, g2, g3, g4, g5⟩ := c6_of rb.r1
    obtain ⟨e1, e3, e2⟩ := rb.fin
    have hfin := put_fin2 hX hfs7 (by rintro k ((h | h) | h); exact .inl h; exact .inr (by omega); exact .inr (by omega)) f8' e3
    go_wp2
    refine bodyPost_ret (results_ct (M := { stpM M with fs := putR (appR r0 zs) M.fs }) rfl _ rfl e1) rfl ?_
    exact ⟨fa7, fc7, rfl, hfin, e2⟩
end
end Go.Proofs.Ytcmgpllnficmdaa

namespace Go.Proofs.Ytcmgpllnficmdaa
open Go.RowKit Go.Maps

def renR (r : Rf) (tn : List UInt8) : Rf := ⟨tn, r.dat, r.dat.length⟩
/-- .. in blocks that are there. -/
theorem Fs.own {w : World} {X : Nat → Prop} {base : Nat} {R : List Rf} {fa : Option Addr} {fc : Nat} (h : Fs w (fun k => X k ∨ base ≤ k) fa R) (hg : GrR w base X (.slice fa R.length fc) R) : Fs w (fun k => X k ∨ (base ≤ k ∧ k < w.heap.size)) fa R := fun hl => by
  obtain ⟨fb, e, hb, hc⟩ := h hl
  have hlt : ∀ i, (Value.slice fa R.length fc).ownBlock = some i → base ≤ i ∧ i < w.heap.size := hg.own
  obtain ⟨cs, ho, hcs⟩ := hg
  refine ⟨fb, e, .inr (hlt fb (by rw [e]; rfl)), fun i hi => ?_⟩
  obtain ⟨ad, c', b1, b2, b3, b4, b5⟩ := fcs_at hcs i hi
  obtain ⟨ad', cap', h1, h2, h3, h4, h6, h5⟩ := hc i hi
  refine ⟨ad', cap', h1, h2, h3, h4, h6, fun x ex hl => ?_⟩
  rcases h5 x ex hl with h | h
  · exact .inl h
  · refine .inr ⟨h, ?_⟩
    obtain ⟨bb, off, e2, hcell⟩ := h4.2.2 hl
    rw [ex] at e2; cases e2
    exact cell_lt (hcell 0 hl)
section
variable {w : World} {X : Nat → Prop} {M : Rd} {fa : Option Addr} {fc : Nat} {nm tn : List UInt8}

theorem ren_r_n (hf : Fs w X fa M.fs) (hn : M.fs.length ≤ 400000) (hk : atR nm M.fs 0 = -1) :
    Calls Try.prog 36 #[rval M fa fc, .string (bstr nm), .string (bstr tn)] w (ROut w X M 5) := by
  have rb := RB.start w M fa fc
  have hat := at_d (fc := fc) (hf.later rb.hb) (by omega) nm
  rw [hk] at hat
  go_enter Try.func36, Try.ntmps36
  go_wp2_with fail
  refine hat.mono ?_
  rintro e w1 ⟨rfl, hb1⟩
  have rb := rb.later hb1
  clear hat
  obtain ⟨c0, c1, c2, c3, c4, c5, f0, f1, f2, f3, f4, f5⟩ := c6_of rb.r0
  obtain ⟨d0, d1, d2, d3, d4, d5, g0, g1, g2, g3, g4, g5⟩ := c6_of rb.r1
  obtain ⟨e1, e3, e2⟩ := rb.fin
  go_wp2
  refine bodyPost_ret (results_ct (M := M) rfl _ rfl e1) rfl ?_
  exact ROut.of rfl hf e2

theorem ren_r_name (hf : Fs w X fa M.fs) (hn : M.fs.length ≤ 400000) {k : Nat} (hk : atR nm M.fs 0 = k) (htn : isName tn = false) :
    Calls Try.prog 36 #[rval M fa fc, .string (bstr nm), .string (bstr tn)] w (ROut w X M 5) := by
  have rb := RB.start w M fa fc
  have hat := at_d (fc := fc) (hf.later rb.hb) (by omega) nm
  rw [hk] at hat
  go_enter Try.func36, Try.ntmps36
  go_wp2_with fail
  refine hat.mono ?_
  rintro e w1 ⟨rfl, hb1⟩
  have rb := rb.later hb1
  clear hat
  have hna := named_r (bstr tn)
  rw [bstr_list, htn] at hna
  go_wp2_with fail
  refine (hna _).mono ?_
  rintro e w1 ⟨rfl, rfl⟩
  clear hna
  obtain ⟨c0, c1, c2, c3, c4, c5, f0, f1, f2, f3, f4, f5⟩ := c6_of rb.r0
  obtain ⟨d0, d1, d2, d3, d4, d5, g0, g1, g2, g3, g4, g5⟩ := c6_of rb.r1
  obtain ⟨e1, e3, e2⟩ := rb.fin
  go_wp2
  refine bodyPost_ret (results_ct (M := M) rfl _ rfl e1) rfl ?_
  exact ROut.of rfl hf e2

theorem ren_r_down (hf : Fs w X fa M.fs) (hn : M.fs.length ≤ 400000) (hs : 0 ≤ M.steps ∧ M.steps < 1000000000) (hl : M.armed = true → 0 ≤ M.left ∧ M.left < 9223372036854775808) (htn : isName tn = true) {k : Nat} (hk : atR nm M.fs 0 = k) (hc : canM M = false) :
    Calls Try.prog 36 #[rval M fa fc, .string (bstr nm), .string (bstr tn)] w (ROut w X (gonM M) 4) := by
  have rb := RB.start w M fa fc
  have hat := at_d (fc := fc) (hf.later rb.hb) (by omega) nm
  rw [hk] at hat
  have hst := fun w => step_r (w := w) (fa := fa) (fc := fc) hs hl
  rw [hc] at hst
  go_enter Try.func36, Try.ntmps36
  go_wp2_with fail
  refine hat.mono ?_
  rintro e w1 ⟨rfl, hb1⟩
  have rb := rb.later hb1
  clear hat
  have hna := named_r (bstr tn)
  rw [bstr_list, htn] at hna
  go_wp2_with fail
  refine (hna _).mono ?_
  rintro e w1 ⟨rfl, rfl⟩
  clear hna
  obtain ⟨c0, c1, c2, c3, c4, c5, f0, f1, f2, f3, f4, f5⟩ := c6_of rb.r0
  go_wp2_with fail
  refine (hst _).mono ?_
  rintro e w2 ⟨rfl, hb2⟩
  clear c0 c1 c2 c3 c4 c5 f0 f1 f2 f3 f4 f5 hst
  have rb := rb.later hb2
  obtain ⟨c0, c1, c2, c3, c4, c5, f0, f1, f2, f3, f4, f5⟩ := c6_of rb.r0
  go_upto_region 5 with fail
  have rb := rb.set (gonM M) fa fc
  clear c0 c1 c2 c3 c4 c5 f0 f1 f2 f3 f4 f5
  generalize ((((((w2.setCell ⟨w.heap.size, 0, none⟩ (.int .i64 (gonM M).quota)).setCell ⟨w.heap.size, 1, none⟩ (.int .i64 (gonM M).steps)).setCell ⟨w.heap.size, 2, none⟩ (.int .i64 (gonM M).left)).setCell ⟨w.heap.size, 3, none⟩ (.bool (gonM M).armed)).setCell ⟨w.heap.size, 4, none⟩ (.bool (gonM M).gone)).setCell ⟨w.heap.size, 5, none⟩ (.slice fa (gonM M).fs.length fc)) = w3 at rb ⊢
  obtain ⟨c0, c1, c2, c3, c4, c5, f0, f1, f2, f3, f4, f5⟩ := c6_of rb.r0
  obtain ⟨d0, d1, d2, d3, d4, d5, g0, g1, g2, g3, g4, g5⟩ := c6_of rb.r1
  obtain ⟨e1, e3, e2⟩ := rb.fin
  go_wp2
  refine bodyPost_ret (results_ct (M := gonM M) rfl _ rfl e1) rfl ?_
  exact ROut.of (M := gonM M) rfl hf e2

set_option maxHeartbeats 2000000 in
theorem ren_r_ok (hf : Fs w X fa M.fs) (hX : ∀ k, X k → k < w.heap.size) (hn : M.fs.length ≤ 400000) (hs : 0 ≤ M.steps ∧ M.steps < 1000000000) (hl : M.armed = true → 0 ≤ M.left ∧ M.left < 9223372036854775808) (htn : isName tn = true) {k : Nat} (hk : atR nm M.fs 0 = k) (hkl : k < M.fs.length) (hc : canM M = true) :
    Calls Try.prog 36 #[rval M fa fc, .string (bstr nm), .string (bstr tn)] w (ROut w X { stpM M with fs := putR (renR M.fs[k] tn) (delR nm M.fs) } 0) := by
  have rb := RB.start w M fa fc
  have hat := at_d (fc := fc) (hf.later rb.hb) (by omega) nm
  rw [hk] at hat
  have hst := fun w => step_r (w := w) (fa := fa) (fc := fc) hs hl
  rw [hc] at hst
  go_enter Try.func36, Try.ntmps36
  go_wp2_with fail
  refine hat.mono ?_
  rintro e w1 ⟨rfl, hb1⟩
  have rb := rb.later hb1
  clear hat
  have hna := named_r (bstr tn)
  rw [bstr_list, htn] at hna
  go_wp2_with fail
  refine (hna _).mono ?_
  rintro e w1 ⟨rfl, rfl⟩
  clear hna
  obtain ⟨c0, c1, c2, c3, c4, c5, f0, f1, f2, f3, f4, f5⟩ := c6_of rb.r0
  go_wp2_with fail
  refine (hst _).mono ?_
  rintro e w2 ⟨rfl, hb2⟩
  clear c0 c1 c2 c3 c4 c5 f0 f1 f2 f3 f4 f5 hst
  have rb := rb.later hb2
  obtain ⟨c0, c1, c2, c3, c4, c5, f0, f1, f2, f3, f4, f5⟩ := c6_of rb.r0
  go_upto_region 5 with fail
  have rb := rb.set (stpM M) fa fc
  clear c0 c1 c2 c3 c4 c5 f0 f1 f2 f3 f4 f5
  generalize ((((((w2.setCell ⟨w.heap.size, 0, none⟩ (.int .i64 (stpM M).quota)).setCell ⟨w.heap.size, 1, none⟩ (.int .i64 (stpM M).steps)).setCell ⟨w.heap.size, 2, none⟩ (.int .i64 (stpM M).left)).setCell ⟨w.heap.size, 3, none⟩ (.bool (stpM M).armed)).setCell ⟨w.heap.size, 4, none⟩ (.bool (stpM M).gone)).setCell ⟨w.heap.size, 5, none⟩ (.slice fa (stpM M).fs.length fc)) = w3 at rb ⊢
  have hf3 := hf.later rb.hb
  obtain ⟨fb, rfl, hxf, hcc⟩ := hf3 (by omega)
  obtain ⟨ad, cap, h1, h2, h3, h4, h6, h5⟩ := hcc k hkl
  clear hcc
  have hlt3 := rb.lt
  obtain ⟨c0, c1, c2, c3, c4, c5, f0, f1, f2, f3, f4, f5⟩ := c6_of rb.r0
  go_upto_region 10 with fail
  have rb := rb.box (.cells (fcell (renR M.fs[k] tn) ad cap) 78)
  have kx := (MapKept.heap_alloc w3 (.cells (fcell (renR M.fs[k] tn) ad cap) 78)).1
  have hal : Below w3.heap.size w3 (w3.alloc (.cells (fcell (renR M.fs[k] tn) ad cap) 78)) := (Below.refl _ _).alloc (Nat.le_refl _) _
  have h4 := h4.later hal
  have hf4 := hf3.later hal
  clear c0 c1 c2 c3 c4 c5 f0 f1 f2 f3 f4 f5 h1 h2 h3
  have e4 : Obj.cells (fcell (renR M.fs[k] tn) ad cap) 78 = .cells #[.string (bstr tn), .slice ad M.fs[k].dat.length cap, .int .i64 (M.fs[k].dat.length : Int)] 78 := rfl
  rw [e4] at rb kx h4 hf4 hal
  clear e4
  generalize w3.alloc (.cells #[.string (bstr tn), .slice ad M.fs[k].dat.length cap, .int .i64 (M.fs[k].dat.length : Int)] 78) = w4 at rb kx h4 hf4 hal ⊢
  have hszB : w.heap.size + 1 < w4.heap.size := rb.lt
  have hwo := without_d (w := w4.drew) (fc := fc) (hf4.later (Below.refl _ _).drew) (fun k hk => by have := hX k hk; show k < w4.heap.size; omega) (by omega) nm
  have b0 : w4.cell? ⟨w3.heap.size, 0, none⟩ = some (.string (bstr tn)) := cell_row kx 0
  have b1 : w4.cell? ⟨w3.heap.size, 1, none⟩ = some (.slice ad M.fs[k].dat.length cap) := cell_row kx 1
  have b2 : w4.cell? ⟨w3.heap.size, 2, none⟩ = some (.int .i64 (M.fs[k].dat.length : Int)) := cell_row kx 2
  have rbd := rb.later ((Below.refl _ w4).drew)
  have hlk : w3.heap.size < w4.heap.size := (Array.getElem?_eq_some_iff.1 kx).1
  obtain ⟨c0, c1, c2, c3, c4, c5, f0, f1, f2, f3, f4, f5⟩ := c6_of rb.r0
  go_cut [] from 41 (fun wx => ∃ fa' fc', RB w wx { stpM M with fs := putR (renR M.fs[k] tn) (delR nm M.fs) } fa' fc' ∧ Fs wx (fun k => X k ∨ w.heap.size + 2 ≤ k) fa' (putR (renR M.fs[k] tn) (delR nm M.fs)))
  case first =>
    go_region_with (first | (go_at_call 66; refine hwo.mono ?_; rintro e w5 ⟨v5, rfl, hg5, hb5⟩; have rb5 := rbd.later hb5; have kx5 : w5.heap[w3.heap.size]? = some (.cells #[.string (bstr tn), .slice ad M.fs[k].dat.length cap, .int .i64 (M.fs[k].dat.length : Int)] 78 (0, 0)) := (hb5.block _ hlk).trans kx; have b0' := cell_row kx5 0; have b1' := cell_row kx5 1; have b2' := cell_row kx5 2; simp only [List.getElem?_toArray, List.getElem?_cons_zero, List.getElem?_cons_succ] at b0' b1' b2'; obtain ⟨fa5, fc5, rfl, hfs5⟩ := hg5.fs; have h45 := h4.later (show Below w4.heap.size w4 w5 from ⟨hb5.os, hb5.tape, hb5.output, hb5.size, hb5.block⟩); have hlen5 : (delR nm M.fs).length ≤ 400000 := Nat.le_trans (List.length_filter_le _ _) hn; have hput := put_d (w := w5) (X := fun i => X i ∨ (w4.heap.size ≤ i ∧ i < w5.heap.size)) (fc := fc5) (Fs.own hfs5 hg5) (fun k hk => by (rcases hk with hk | hk; (have := hX k hk; have := rb5.lt; omega); omega)) hlen5 (renR M.fs[k] tn) ad cap h45 h6 (fun x ex hl => .inl (h5 x ex hl))) | (go_at_call 65; refine hput.mono ?_; rintro e w6 ⟨v6, rfl, hg6, hb6⟩; have rb6 := rb5.later hb6; obtain ⟨fa6, fc6, rfl, hfs6⟩ := hg6.fs; have c5' := cell_row rb6.r0 5; have f5' := froz_row rb6.r0 5; simp only [List.getElem?_toArray, List.getElem?_cons_zero, List.getElem?_cons_succ] at c5'; have rb7 := rb6.set5 (putR (renR M.fs[k] tn) (delR nm M.fs)) fa6 fc6; have hfs7 := hfs6.fr ((Wt.refl rb6.r0).cell 5 (.slice fa6 (putR (renR M.fs[k] tn) (delR nm M.fs)).length fc6)).fr (by (rintro k ((h | h) | h) (e : k = _); (have := hX k h; omega); (have := rb5.lt; omega); (have := rb5.lt; omega))); have hfs8 := hfs7.mono (Y := fun k => X k ∨ w.heap.size + 2 ≤ k) (by (rintro k ((h | h) | h); exact .inl h; exact .inr (by omega); (have := rb5.lt; exact .inr (by omega))))))
    all_goals (go_wp2_with fail; go_meet)
    all_goals exact ⟨fa6, fc6, rb7, hfs8⟩
  case rest =>
    obtain ⟨fa6, fc6, rb, hfs6⟩ := hcut
    clear c0 c1 c2 c3 c4 c5 f0 f1 f2 f3 f4 f5 b0 b1 b2 rbd hwo
    obtain ⟨c0, c1, c2, c3, c4, c5, f0, f1, f2, f3, f4, f5⟩ := c6_of rb.r0
    obtain ⟨d0, d1, d2, d3, d4, d5, g0, g1, g2, g3, g4, g5⟩ := c6_of rb.r1
    obtain ⟨e1, e3, e2⟩ := rb.fin
    have hfin := (hfs6.fr e3 (by rintro k (h | h) (e : k = _); (have := hX k h; omega); omega)).mono (Y := fun k => X k ∨ w.heap.size ≤ k) fun k h => h.imp id fun h => by omega
    go_wp2
    refine bodyPost_ret (results_ct (M := { stpM M with fs := putR (renR M.fs[k] tn) (delR nm M.fs) }) rfl _ rfl e1) rfl ?_
    exact ⟨fa6, fc6, rfl, hfin, e2⟩
end
end Go.Proofs.Ytcmgpllnficmdaa

namespace Go.Proofs.Ytcmgpllnficmdaa
open Go.RowKit Go.Maps

theorem num_0 (w : World) : Calls Try.prog 31 #[.nilIface] w fun e w' => e = .returned (.int .i64 0) ∧ w' = w := by
  go_enter Try.func31, Try.ntmps31
  go_wp2
  go_ret
  exact ⟨rfl, rfl⟩
theorem same_d {w : World} {a b : Option Addr} {la ca lb cb : Nat} {x y : List Int} (hx : Bs w a la x) (hy : Bs w b lb y) :
    Calls Try.prog 40 #[.slice a la ca, .slice b lb cb] w fun e w' => e = .returned (.bool (decide (x = y))) ∧ w' = w := by
  have k1 := conv_bs hx ca
  have k2 := conv_bs hy cb
  go_enter Try.func40, Try.ntmps40
  go_wp2
  rw [str_beq hx.2.1 hy.2.1]
  go_ret
  exact ⟨rfl, rfl⟩

/-- A block of bytes that may be written: so many of them at its head. -/
def Wr8 (w : World) (g n : Nat) : Prop := ∃ cur, w.heap[g]? = some (.cells cur 5 (0, 0)) ∧ ∀ j, j < n → ∃ z : Nat, z < 256 ∧ cur[j]? = some (.int .u8 (z : Int))
theorem Wr8.fr {S : Nat → Prop} {w w' : World} {g n : Nat} (h : Wr8 w g n) (f : Fr S w w') (hn : ¬ S g) : Wr8 w' g n := by
  obtain ⟨cur, h1, h2⟩ := h
  exact ⟨cur, (f.block g (Array.getElem?_eq_some_iff.1 h1).1 hn).trans h1, h2⟩
theorem wr_own {w : World} {base n : Nat} {v : Value} {zs : List Int} (h : w.ownsRow base 5 1 v n (byteVals zs)) (hz : ∀ z ∈ zs, 0 ≤ z ∧ z < 256) : (v = .slice none 0 0 ∧ n = 0) ∨ ∃ g cap, v = .slice (some ⟨g, 0, none⟩) n cap ∧ base ≤ g ∧ Wr8 w g n := by
  have hl : zs.length = n := by have := h.1; simpa [byteVals] using this
  rcases h.2 with ⟨rfl, rfl⟩ | ⟨g, cap, cur, rfl, hb, hg, hnc, hcm, hcs, ht⟩
  · exact .inl ⟨rfl, rfl⟩
  · refine .inr ⟨g, cap, rfl, hb, cur, hg, fun j hj => ?_⟩
    have h1 : cur[j]? = (byteVals zs)[j]? := by
      rw [← ht, List.getElem?_take_of_lt (by omega)]; simp
    have hj2 : j < zs.length := by omega
    have hb2 := hz zs[j] (List.getElem_mem hj2)
    refine ⟨zs[j].toNat, by omega, ?_⟩
    rw [h1]
    simp [byteVals, hj2]
    omega

theorem over_d {w : World} {g n cap : Nat} (h : Wr8 w g n) (hn : n ≤ 100000000) :
    Calls Try.prog 41 #[.slice (some ⟨g, 0, none⟩) n cap] w fun e w' => e = .returned (.tuple #[]) ∧ Fr (· = g) w w' := by
  go_enter Try.func41, Try.ntmps41
  go_wp2
  go_loopw [5] (fun i wr => ∃ k : Nat, k ≤ n ∧ i = .int .i64 k ∧ Wr8 wr g n ∧ Fr (· = g) w wr) (fun i _ => n - (intOf i).toNat)
  case atStart => exact ⟨0, by omega, rfl, h, Fr.refl _ w⟩
  case round =>
    obtain ⟨k, hk, rfl, h8, hf⟩ := hrel
    by_cases hlt : k < n
    · obtain ⟨cur, h1, h2⟩ := h8
      obtain ⟨z, hz, h3⟩ := h2 k hlt
      have c0 : wr.cell? ⟨g, k, none⟩ = some (.int .u8 (z : Int)) := by rw [cell_row h1 k]; exact h3
      have f0 := froz_row h1 k
      have hx1 := bits_lo_u8 .xor (z : Int) 255
      have hx2 := bits_hi_u8 .xor (z : Int) 255
      generalize hx0 : bits .xor .u8 (z : Int) 255 = x at *
      obtain ⟨y, rfl⟩ : ∃ y : Nat, x = (y : Int) := ⟨x.toNat, by omega⟩
      replace hx0 := hide1 hx0
      have hw := (Wt.refl h1).cell k (.int .u8 (y : Int))
      have h8 : Wr8 (wr.setCell ⟨g, k, none⟩ (.int .u8 (y : Int))) g n := ⟨_, hw.row, fun j hj => by
        by_cases e : j = k
        · subst e
          refine ⟨y, by omega, ?_⟩
          have := (Array.getElem?_eq_some_iff.1 h3).1
          simp [this]
        · obtain ⟨z', hz', h3'⟩ := h2 j hj
          refine ⟨z', hz', ?_⟩
          rw [Array.getElem?_setIfInBounds_ne (by omega)]; exact h3'⟩
      have hf2 := hf.trans hw.fr fun _ _ e => e
      clear h2 h3 h1 hw
      go_wp2_with fail
      rw [hx0.out]
      exact ⟨⟨k + 1, by omega, by go_num, h8, hf2⟩, by simp [intOf]; omega⟩
    · obtain rfl : k = n := by omega
      go_wp2
      go_end0
      exact ⟨rfl, hf⟩
theorem over_0 {w : World} {a : Option Addr} {cap : Nat} :
    Calls Try.prog 41 #[.slice a 0 cap] w fun e w' => e = .returned (.tuple #[]) ∧ w' = w := by
  go_enter Try.func41, Try.ntmps41
  go_wp2
  go_loopw [5] (fun i wr => i = .int .i64 0 ∧ wr = w) (fun _ _ => 0)
  case atStart => exact ⟨rfl, rfl⟩
  case round =>
    obtain ⟨rfl, rfl⟩ := hrel
    go_wp2
    go_end0
    exact ⟨rfl, rfl⟩

/-- A copy with its two marks. -/
def Kpt (w : World) (g len cap : Nat) (zs : List Int) : Prop :=
  zs.length = len ∧ (∀ z ∈ zs, 0 ≤ z ∧ z < 256) ∧ len + 2 ≤ cap ∧ cap ≤ maxLen ∧ Wr8 w g (len + 2) ∧ ∀ j, j < len + 2 → w.cell? ⟨g, j, none⟩ = some (.int .u8 ((zs ++ [165, 90]).getD j 0))
theorem Kpt.fr {S : Nat → Prop} {w w' : World} {g len cap : Nat} {zs : List Int} (h : Kpt w g len cap zs) (f : Fr S w w') (hn : ¬ S g) : Kpt w' g len cap zs :=
  ⟨h.1, h.2.1, h.2.2.1, h.2.2.2.1, h.2.2.2.2.1.fr f hn, fun j hj => cell_fr f hn (h.2.2.2.2.2 j hj)⟩
theorem Kpt.bs {w : World} {g len cap : Nat} {zs : List Int} (h : Kpt w g len cap zs) : Bs w (some ⟨g, 0, none⟩) len zs := by
  obtain ⟨h1, h2, _, _, _, h5⟩ := h
  refine ⟨h1, h2, fun _ => ⟨g, 0, rfl, fun i hi => ?_⟩⟩
  rw [Nat.zero_add, h5 i (by omega)]
  simp [List.getD_eq_getElem?_getD, List.getElem?_append, show i < zs.length by omega]
theorem bs_two (w : World) : Bs (w.alloc (.cells #[.int .u8 165, .int .u8 90] 5)) (some ⟨w.heap.size, 0, none⟩) 2 [165, 90] := bs_new w [165, 90] (0, 0) (by decide)
theorem copy_end {w : World} {base : Nat} {v : Value} {len : Nat} {zs : List Int} (hz : ∀ z ∈ zs, 0 ≤ z ∧ z < 256) (h : w.ownsRow base 5 1 v (0 + len + 2) ([] ++ byteVals zs ++ byteVals [165, 90])) :
    ∃ g cap, v = .slice (some ⟨g, 0, none⟩) (len + 2) cap ∧ base ≤ g ∧ len + 2 ≤ cap ∧ cap ≤ maxLen ∧ Wr8 w g (len + 2) ∧ ∀ j, j < len + 2 → w.cell? ⟨g, j, none⟩ = some (.int .u8 ((zs ++ [165, 90]).getD j 0)) := by
  have e : [] ++ byteVals zs ++ byteVals [165, 90] = byteVals (zs ++ [165, 90]) := by simp [byteVals]
  rw [e, Nat.zero_add] at h
  have hz2 : ∀ z ∈ zs ++ [165, 90], 0 ≤ z ∧ z < 256 := fun z hm => by
    rcases List.mem_append.1 hm with hm | hm
    · exact hz z hm
    · simp at hm; omega
  obtain ⟨hv, h0⟩ | ⟨g, cap, hv, hb, hw⟩ := wr_own h hz2
  · omega
  · obtain ⟨a, cap2, hv2, hbs, _⟩ := bs_own h hz2
    rw [hv] at hv2
    cases hv2
    obtain ⟨h1, h2⟩ := own_cap h hv
    have hm : cap ≤ maxLen := by
      rcases h.2 with ⟨e, _⟩ | ⟨g', cap', cur, e, _, _, _, h4, _⟩
      · rw [hv] at e; cases e
      · rw [hv] at e; cases e; exact h4
    refine ⟨g, cap, hv, hb, h1, hm, hw, fun j hj => ?_⟩
    obtain ⟨b, off, e, hc⟩ := hbs.2.2 (by omega)
    cases e
    have := hc j hj
    rwa [Nat.zero_add] at this

set_option maxHeartbeats 400000 in
theorem copy_d (a : Option Addr) (len cap : Nat) (zs : List Int) (w : World) (hb : Bs w a len zs) (hm : len ≤ 1000000) :
    Calls Try.prog 32 #[.slice a len cap] w fun e w' => ∃ g cap', e = .returned (.slice (some ⟨g, 0, none⟩) len cap') ∧ w.heap.size ≤ g ∧ Kpt w' g len cap' zs ∧ Below w.heap.size w w' := by
  obtain ⟨i0, hi, hz0, hz1, hz2⟩ := info_parts info5
  obtain ⟨w1, hmk, hown0, hg0⟩ := run_make_own (P := Try.prog) w w.heap.size 35 5 i0 (.int .u8 0) 1 Try.underlying35 hi hz0 hz1 .i64 .i64 (len + 2) (by rw [hz2]; omega) (by unfold maxLen; omega) (Nat.le_refl _)
  have ec : ((len + 2 : Nat) : Int) = (len : Int) + 2 := by omega
  rw [ec] at hmk
  have hb1 : Below w.heap.size w w1 := (Below.refl _ _).grown hg0 (Nat.le_refl _) (fun k e => by cases e)
  have hbs1 := hb.later hb1
  clear ec hi hz0 hz1 hz2 hg0
  go_enter Try.func32, Try.ntmps32
  go_wp2_with (first
    | (at_builtin; refine wpList_append_bs rfl (.tmp 6) (.tmp 7) rfl w.heap.size (.slice (some ⟨w.heap.size, 0, none⟩) 0 (len + 2)) 0 [] rfl hown0 a len cap zs rfl hbs1 (by omega) hb1.size ?_; intro v2 w2 hown2 hg2 _; have hb2 := hb1.grown hg2 hb1.size (fun k e => (hown0.lt k e).1); clear hown0 hg2)
    | (at_builtin; refine wpList_append_bs rfl (.tmp 8) (.tmp 9) rfl w.heap.size v2 (0 + len) ([] ++ byteVals zs) rfl (hown2.alloc _) _ 2 2 [165, 90] rfl (bs_two _) (by omega) (by have := hb2.size; simp; omega) ?_; intro v3 w3 hown3 hg3 _; have hb3 : Below w.heap.size w w3 := (hb2.alloc hb2.size _).grown hg3 (by have := hb2.size; simp; omega) (fun k e => (hown2.lt k e).1); have hx3 := copy_end hb.2.1 hown3; obtain ⟨g, cap3, hv3, hgb, hcap3, hm3, hw3, hc3⟩ := hx3; clear hown2 hg3 hown3))
  go_ret
  exact ⟨g, cap3, rfl, hgb, ⟨hb.1, hb.2.1, hcap3, hm3, hw3, hc3⟩, hb3⟩

set_option maxHeartbeats 400000 in
set_option maxRecDepth 100000 in
theorem kept_d (g len cap : Nat) (a : Option Addr) (cap' : Nat) (zs : List Int) (w : World) (hk : Kpt w g len cap zs) (hb : Bs w a len zs) :
    Calls Try.prog 42 #[.slice (some ⟨g, 0, none⟩) len cap, .slice a len cap'] w fun e w' => e = .returned (.bool true) ∧ w' = w := by
  have k1 := conv_bs hk.bs cap
  have k2 := conv_bs hb cap'
  obtain ⟨h1, h2, h3, h4, _, h5⟩ := hk
  unfold maxLen at h4
  have c1 : w.cell? ⟨g, len, none⟩ = some (.int .u8 165) := by
    have := h5 len (by omega)
    simpa [List.getD_eq_getElem?_getD, List.getElem?_append, h1] using this
  have c2 : w.cell? ⟨g, len + 1, none⟩ = some (.int .u8 90) := by
    have := h5 (len + 1) (by omega)
    simpa [List.getD_eq_getElem?_getD, List.getElem?_append, h1] using this
  clear h5
  go_enter Try.func42, Try.ntmps42
  go_wp2
  go_ret
  exact ⟨rfl, rfl⟩
end Go.Proofs.Ytcmgpllnficmdaa

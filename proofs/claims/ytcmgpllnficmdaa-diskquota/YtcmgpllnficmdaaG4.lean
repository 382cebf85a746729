/- L15, LT, LS, DC, DC2, DC3, L17, L18, L19, L20, L21: laid together. -/
import Derived.Deep.RegionHeld3
import Derived.BigRegion
import Derived.Test.YtcmgpllnficmdaaG3
namespace Go.Proofs.Ytcmgpllnficmdaa
open Go.RowKit Go.Maps

variable {w : World} {base b : Nat} {D : Dsk} {X : Nat → Prop} {M : Rd} {fa : Option Addr} {fc : Nat} {nm tn : List UInt8} {n : Int} {ab : Option Addr} {lb cb : Nat} {zs : List Int}

/-- How much a disk may grow by one act. -/
def Lim (D D' : Dsk) : Prop := D'.quota = D.quota ∧ D'.fs.length ≤ D.fs.length + 1 ∧ D'.steps ≤ D.steps + 1
/-- What do answers, whatever the act. -/
def DoO (w : World) (base b : Nat) (D : Dsk) (M : Rd) (e : Ending) (w' : World) : Prop :=
  ∃ D' n M' n' sm fa' fc' X', Lim D D' ∧ (Eqv D M → n' = n ∧ sm = true ∧ Eqv D' M') ∧ e = .returned (.tuple #[rval M' fa' fc', .int .i64 n, .int .i64 n', .bool sm]) ∧ DkAt w' base b D' ∧ Fs w' X' fa' M'.fs ∧ (∀ k, X' k → k < w'.heap.size ∧ ¬ fp b D' k) ∧ Fr (fp b D) w w' ∧ Grow w b D D'
theorem lim_of {D D' : Dsk} {no n : Int} {ok : Dsk → Prop} (h : Oo D no ok D' n) (hok : ok D' → Lim D D') : Lim D D' := by
  rcases h with ⟨_, rfl, _⟩ | ⟨_, _, rfl, _⟩ | ⟨_, _, ho, _⟩
  · exact ⟨rfl, by omega, by omega⟩
  · exact ⟨rfl, by simp [goned], by simp only [goned]; omega⟩
  · exact hok ho
theorem doo_of {R : Dsk → Int → Prop} {R' : Rd → Int → Prop} (hl : ∀ D' n, R D' n → Lim D D') (he : ∀ D' n M' n' w', DkAt w' base b D' → R D' n → R' M' n' → Eqv D M → n' = n ∧ Eqv D' M') (e : Ending) (w' : World) (h : DOut w base b D R R' e w') : DoO w base b D M e w' := by
  obtain ⟨D', n, M', n', fa', fc', X', h1, h2, h3, h4, h5, h6, h7, h8⟩ := h
  refine ⟨D', n, M', n', true, fa', fc', X', hl D' n h1, fun hE => ?_, h3, h4, h5, h6, h7, h8⟩
  obtain ⟨a1, a2⟩ := he D' n M' n' w' h4 h1 h2 hE
  exact ⟨a1, rfl, a2⟩
theorem do_all (h : DkAt w base b D) (hf : Fs w X fa M.fs) (hX : ∀ k, X k → k < w.heap.size ∧ ¬ fp b D k) (hM : MOk M) (hMs : ∀ r ∈ M.fs, r.sure ≤ r.dat.length) (hst : D.steps < 1000000000) (hlen : D.fs.length < 1000000) (hbase : base ≤ w.heap.size) (hbs : Bs w ab lb zs) (hab : ∀ x, ab = some x → 0 < lb → ¬ fp b D x.block) (hm : lb ≤ 1000000) (hnm : nm.length ≤ 1000000) (htn : tn.length ≤ 1000000) (hn : n < 9223372036854775808) (kd : Int) :
    Calls Try.prog 13 #[pD b, rval M fa fc, .agg (opc kd nm tn n ab lb cb)] w (DoO w base b D M) := by
  have hlf : D.armed = true → 0 ≤ D.left := fun ha => (h.lf ha).1
  by_cases k1 : kd = 1
  · subst k1
    refine (do_append h hf hX hM hst hlen hbase hbs hab hm hnm htn).mono (doo_of (fun D' n h1 => lim_of h1 fun ho => ?_) fun D' n M' n' w' hd h1 h2 hE => eq_step hE hlf h1 h2 (eq_noApp hE h lb) fun _ ho hm => eq_app hE h hd ho hm)
    rcases ho with ⟨p, v, _, rfl⟩ | ⟨_, q, v, rfl⟩
    · exact ⟨rfl, by simp [stepd], by simp [stepd]⟩
    · exact ⟨rfl, putF_len _ _ _, by simp [stepd]⟩
  by_cases k2 : kd = 2
  · subst k2
    refine (do_sync h hf hX hM hst hlen hbase hbs hab hm hnm htn).mono (doo_of (fun D' n h1 => lim_of h1 fun ho => ?_) fun D' n M' n' w' hd h1 h2 hE => eq_step hE hlf h1 h2 (eq_noNm hE) fun _ ho hm => eq_sync hE h ho hm)
    obtain ⟨p, _, rfl⟩ := ho
    exact ⟨rfl, by simp [syncd, stepd], by simp [syncd, stepd]⟩
  by_cases k3 : kd = 3
  · subst k3
    refine (do_cut h hf hX hM hst hlen hbase hbs hab hm hnm htn).mono (doo_of (fun D' n h1 => lim_of h1 fun ho => ?_) fun D' k M' n' w' hd h1 h2 hE => eq_step hE hlf h1 h2 (eq_noCut hE n) fun _ ho hm => eq_cut hE h ho hm)
    obtain ⟨p, v, _, rfl⟩ := ho
    exact ⟨rfl, by simp [cutD, stepd], by simp [cutD, stepd]⟩
  by_cases k4 : kd = 4
  · subst k4
    refine (do_rename h hf hX hM hst hlen hbase hbs hab hm hnm htn).mono (doo_of (fun D' n h1 => lim_of h1 fun ho => ?_) fun D' n M' n' w' hd h1 h2 hE => eq_step hE hlf h1 h2 (eq_noRen hE) fun _ ho hm => eq_ren hE h ho hm)
    obtain ⟨p, _, rfl⟩ := ho
    exact ⟨rfl, Nat.le_trans (putF_len _ _ _) (Nat.succ_le_succ (List.length_filter_le _ _)), by simp [renD, stepd]⟩
  by_cases k5 : kd = 5
  · subst k5
    refine (do_drop h hf hX hM hst hlen hbase hbs hab hm hnm htn).mono (doo_of (fun D' n h1 => lim_of h1 fun ho => ?_) fun D' n M' n' w' hd h1 h2 hE => eq_step hE hlf h1 h2 (eq_noNm hE) fun _ ho hm => eq_drop hE ho hm)
    obtain ⟨p, _, rfl⟩ := ho
    exact ⟨rfl, Nat.le_succ_of_le (List.length_filter_le _ _), by simp [dropD, stepd]⟩
  by_cases k7 : kd = 7
  · subst k7
    by_cases hneg : n < 0
    · refine (do_armN h hf hX hbs hab hm hneg).mono (doo_of (fun D' n h1 => ?_) fun D' n M' n' w' hd h1 h2 hE => ?_)
      · obtain ⟨rfl, _⟩ := h1
        exact ⟨rfl, by omega, by omega⟩
      · obtain ⟨rfl, rfl⟩ := h1
        obtain ⟨rfl, rfl⟩ := h2
        exact ⟨rfl, hE⟩
    · refine (do_armP h hf hX hbs hab hm ⟨by omega, hn⟩).mono (doo_of (fun D' n h1 => ?_) fun D' n M' n' w' hd h1 h2 hE => ?_)
      · obtain ⟨rfl, _⟩ := h1
        exact ⟨rfl, by simp [armD], by simp only [armD]; omega⟩
      · obtain ⟨rfl, rfl⟩ := h1
        obtain ⟨rfl, rfl⟩ := h2
        exact ⟨rfl, eq_arm hE _⟩
  by_cases k8 : kd = 8
  · subst k8
    refine (do_crash h hf hX hM.n (fun r hr => ⟨hMs r hr, hM.d r hr⟩) hbs hab hm).mono (doo_of (fun D' n h1 => ?_) fun D' n M' n' w' hd h1 h2 hE => ?_)
    · obtain ⟨⟨D1, hc, rfl⟩, _⟩ := h1
      have e := hc.1
      exact ⟨by rw [e]; rfl, by show D1.fs.length ≤ _; rw [e]; simp, by show D1.steps ≤ _; rw [e]; simp only; omega⟩
    · obtain ⟨⟨D1, hc, rfl⟩, rfl⟩ := h1
      obtain ⟨rfl, rfl⟩ := h2
      exact ⟨rfl, eq_crash hE h hc⟩
  refine (do_read h hf hM hbs hm hnm k1 k2 k3 k4 k5 k7 k8).mono ?_
  rintro e w1 ⟨ys, n1, ys', n', hR, hR2, he, hb⟩
  refine ⟨D, n1, M, n', _, fa, fc, X, ⟨rfl, by omega, by omega⟩, fun hE => ?_, he, h.later hb, hf.later hb, fun k hk => ⟨Nat.lt_of_lt_of_le (hX k hk).1 hb.size, (hX k hk).2⟩, fr_b hb _, grow_self⟩
  obtain ⟨a1, a2⟩ := eq_read hE hR hR2
  exact ⟨a1, by rw [a2]; simp, hE⟩
theorem Eqv.sur (h : Eqv D M) (hd : DkAt w base b D) : ∀ r ∈ M.fs, r.sure ≤ r.dat.length := fun r hr => by
  rw [h.fs] at hr
  obtain ⟨p, hp, rfl⟩ := List.mem_map.1 hr
  exact (hd.fil p hp).sur
end Go.Proofs.Ytcmgpllnficmdaa

namespace Go.Proofs.Ytcmgpllnficmdaa
open Go.RowKit Go.Maps

variable {w w' : World} {base : Nat}

/-- A row of texts in memory. -/
def Tx (w : World) (a : Option Addr) (l : List (List UInt8)) : Prop := 0 < l.length → ∃ g off, a = some ⟨g, off, none⟩ ∧ ∀ i (h : i < l.length), w.cell? ⟨g, off + i, none⟩ = some (.string (bstr l[i]))
theorem TxAt.form {v : Value} {l : List (List UInt8)} (h : TxAt w base v l) : ∃ a cap, v = .slice a l.length cap ∧ Tx w a l ∧ ∀ g, a = some g → base ≤ g.block ∧ g.block < w.heap.size := by
  unfold TxAt at h
  have hlt := h.lt
  have hh := h
  rcases h.2 with ⟨rfl, e⟩ | ⟨g, cap, cur, rfl, h2, h3, h4⟩
  · exact ⟨none, 0, by rw [e], fun hp => by omega, fun g e => by cases e⟩
  · refine ⟨_, cap, rfl, fun _ => ⟨g, 0, rfl, fun i hi => ?_⟩, fun x e => by cases e; exact hlt g rfl⟩
    have := World.ownsRow.cellAt hh i (by omega)
    rw [Nat.zero_add, this]
    simp [hi]
theorem Tx.later {a : Option Addr} {l : List (List UInt8)} (h : Tx w a l) (hb : Below w.heap.size w w') : Tx w' a l := fun hp => by
  obtain ⟨g, off, e, hc⟩ := h hp
  exact ⟨g, off, e, fun i hi => cell_later hb (hc i hi)⟩
theorem TxAt.later {v : Value} {l : List (List UInt8)} (h : TxAt w base v l) (hb : Below w.heap.size w w') : TxAt w' base v l := row_fr h (fr_b hb fun _ => False) fun _ _ => id
set_option maxHeartbeats 1000000 in
theorem texts_d {a b : Option Addr} {ca cb : Nat} {l : List (List UInt8)} (h : Tx w a l) (h' : Tx w b l) (hl : l.length ≤ 1000000) :
    Calls Try.prog 19 #[.slice a l.length ca, .slice b l.length cb] w fun e w' => e = .returned (.bool true) ∧ ∃ n, w' = w.drewN n := by
  go_enter Try.func19, Try.ntmps19
  go_wp2
  go_loopw [5, 13] (fun _ i wr => ∃ k n : Nat, k ≤ l.length ∧ i = .int .i64 k ∧ wr = w.drewN n) (fun _ i _ => l.length - (intOf i).toNat)
  case atStart => exact ⟨0, 0, by omega, rfl, rfl⟩
  case round =>
    obtain ⟨k, n, hk, rfl, rfl⟩ := hrel
    by_cases hlt : k < l.length
    · obtain ⟨g, off, rfl, hc⟩ := h (by omega)
      obtain ⟨g', off', rfl, hc'⟩ := h' (by omega)
      have c1 := hc k hlt
      have c2 := hc' k hlt
      clear hc hc' h h'
      generalize l[k] = x at *
      go_wp2_with fail
      go_quiet (fail)
      go_wp2
      exact ⟨⟨k + 1, _, by omega, by go_num, rfl⟩, by simp [intOf]; omega⟩
    · obtain rfl : k = l.length := by omega
      go_wp2
      go_ret
      exact ⟨rfl, _, rfl⟩
end Go.Proofs.Ytcmgpllnficmdaa

namespace Go.Proofs.Ytcmgpllnficmdaa
open Go.RowKit Go.Maps

variable {w w' : World} {base b : Nat} {D : Dsk}

theorem DkAt.short (h : DkAt w base b D) {p : Fn} (hp : p ∈ D.fs) : (bstr p.1).size ≤ maxLen := by
  have := strKeys_le h.map Try.underlying9 p.1 (by rw [keys_dm]; exact List.mem_map.2 ⟨p, hp, rfl⟩)
  exact this
theorem DkAt.find (h : DkAt w base b D) {p : Fn} (hp : p ∈ D.fs) : findF p.1 D.fs = some p := by
  cases hf : findF p.1 D.fs with
  | none =>
    unfold findF at hf
    rw [List.find?_eq_none] at hf
    exact absurd (hf p hp) (by simp)
  | some q => rw [names_inj h.nd (find_mem hf).1 hp (find_mem hf).2]
theorem info9 : (Try.prog.info? 9).map (fun i => (i.zero, i.size, i.bytes)) = some (some (.string ⟨#[]⟩), 1, 16) := by kernel_rfl
/-- One text more, at the operation. -/
theorem wpList_app_tx {w : World} {ops : Array Oper} {rest : List Oper} {o : Oper} {a : Act} {Q : Exit → Act → World → Prop} (hgd : o.guard = none) (s x : Operand)
    (ho : o.op = .call { callee := .builtin .append, args := #[s, x], argTypes := #[46, 46] }) (base : Nat) (v : Value) (l : List (List UInt8)) (hs : a.eval s = v) (hown : TxAt w base v l) (nm : List UInt8) (g c : Nat) (hx : a.eval x = .slice (some ⟨g, 0, none⟩) 1 c)
    (hg : w.heap[g]? = some (.cells #[.string (bstr nm)] 9 (0, 0))) (hn : l.length ≤ 1000000) (hbase : base ≤ w.heap.size)
    (h : ∀ v' w', TxAt w' base v' (l ++ [nm]) → w.grownBy w' v.ownBlock → wpList Try.prog ops Q rest (a.put o.dst v') w') : wpList Try.prog ops Q (o :: rest) a w := by
  obtain ⟨i0, hi, hz0, hz1, hz2⟩ := info_parts info9
  refine wpList_append_own_at w hgd s x 46 ho base 9 i0 _ 1 16 Try.underlying46 hi hz0 hz1 hz2 rfl (by decide) v l.length _ hs hown ⟨g, 0, none⟩ 1 c [.string (bstr nm)] hx rfl (fun j u hj => ?_) (fun u hu => ?_) (by unfold maxLen; omega) (by omega) hbase fun v' w' g1 g2 _ _ => ?_
  · rw [Addr.add_lit, Nat.zero_add, cell_row hg]
    simpa using hj
  · simp only [List.mem_cons, List.not_mem_nil, or_false] at hu
    rw [hu]; rfl
  · refine h v' w' ?_ g2
    unfold TxAt
    simpa using g1
theorem tx_cells {v : Value} {l : List (List UInt8)} (h : TxAt w base v l) {k : Nat} (hk : v.ownBlock = some k) : ∃ cur, w.heap[k]? = some (.cells cur 9 (0, 0)) := by
  rcases h.2 with ⟨rfl, _⟩ | ⟨g, cap, cur, rfl, _, h3, _⟩
  · cases hk
  · cases hk; exact ⟨cur, h3⟩
theorem TxAt.formN {v : Value} {l : List (List UInt8)} {n : Nat} (h : TxAt w base v l) (hn : l.length = n) : ∃ a cap, v = .slice a n cap ∧ Tx w a l := by
  obtain ⟨a, cap, h1, h2, _⟩ := h.form
  exact ⟨a, cap, by rw [h1, hn], h2⟩
theorem take_names {fs : List Fn} {k : Nat} (h : k < fs.length) : (fs.take (k + 1)).map (·.1) = (fs.take k).map (·.1) ++ [fs[k].1] := by
  rw [List.take_succ_eq_append_getElem h, List.map_append]; rfl
theorem six_later {W w' w'' : World} {g : Nat} {v0 v1 v2 v3 v4 v5 : Value} (h : w'.cell? ⟨g, 0, none⟩ = some v0 ∧ w'.cell? ⟨g, 1, none⟩ = some v1 ∧ w'.cell? ⟨g, 2, none⟩ = some v2 ∧ w'.cell? ⟨g, 3, none⟩ = some v3 ∧ w'.cell? ⟨g, 4, none⟩ = some v4 ∧ w'.cell? ⟨g, 5, none⟩ = some v5 ∧ Hid (Below W.heap.size W w')) (hb : Below w'.heap.size w' w'') :
    w''.cell? ⟨g, 0, none⟩ = some v0 ∧ w''.cell? ⟨g, 1, none⟩ = some v1 ∧ w''.cell? ⟨g, 2, none⟩ = some v2 ∧ w''.cell? ⟨g, 3, none⟩ = some v3 ∧ w''.cell? ⟨g, 4, none⟩ = some v4 ∧ w''.cell? ⟨g, 5, none⟩ = some v5 ∧ Hid (Below W.heap.size W w'') := by
  obtain ⟨h0, h1, h2, h3, h4, h5, h6⟩ := h
  exact ⟨cell_later hb h0, cell_later hb h1, cell_later hb h2, cell_later hb h3, cell_later hb h4, cell_later hb h5, hide1 (h6.out.trans (hb.mono h6.out.size))⟩
theorem six_out {W w' : World} {g : Nat} {v0 v1 v2 v3 v4 v5 : Value} (h : w'.cell? ⟨g, 0, none⟩ = some v0 ∧ w'.cell? ⟨g, 1, none⟩ = some v1 ∧ w'.cell? ⟨g, 2, none⟩ = some v2 ∧ w'.cell? ⟨g, 3, none⟩ = some v3 ∧ w'.cell? ⟨g, 4, none⟩ = some v4 ∧ w'.cell? ⟨g, 5, none⟩ = some v5 ∧ Hid (Below W.heap.size W w')) : Below W.heap.size W w' := h.2.2.2.2.2.2.out
theorem calls_below {f : Nat} {args : Array Value} {v : Value} (h : Calls Try.prog f args w fun e w' => e = .returned v ∧ w' = w) : Calls Try.prog f args w fun e w' => e = .returned v ∧ Below w.heap.size w w' := h.mono fun e w' ⟨h1, h2⟩ => ⟨h1, by rw [h2]; exact Below.refl _ _⟩
theorem calls_drew {f : Nat} {args : Array Value} {v : Value} (h : Calls Try.prog f args w fun e w' => e = .returned v ∧ ∃ n, w' = w.drewN n) : Calls Try.prog f args w fun e w' => e = .returned v ∧ Below w.heap.size w w' := h.mono fun e w' ⟨h1, n, h2⟩ => ⟨h1, by rw [h2]; exact below_drewN w n⟩

set_option maxHeartbeats 4000000 in
set_option maxRecDepth 100000 in
theorem stands_d {X : Nat → Prop} {M : Rd} {fa : Option Addr} {fc : Nat} (h : DkAt w base b D) (hE : Eqv D M) (hf : Fs w X fa M.fs) (hlen : D.fs.length ≤ 100000) :
    Calls Try.prog 14 #[pD b, rval M fa fc] w fun e w' => e = .returned (.bool true) ∧ Below w.heap.size w w' := by
  have hMn : M.fs.length = D.fs.length := by rw [hE.fs]; simp [viewF]
  have hat : ∀ k (hk : k < M.fs.length) (hk' : k < D.fs.length), M.fs[k] = fileR D.ct D.fs[k] := by
    have hfs := hE.fs
    intro k hk hk'
    have : M.fs[k]? = (viewF D.fs D.ct)[k]? := by rw [hfs]
    rw [List.getElem?_eq_getElem hk] at this
    unfold viewF at this
    rw [List.getElem?_map, List.getElem?_eq_getElem hk'] at this
    simpa using this
  have hu0 := eq_used hE h
  have hq0 := h.qt
  obtain ⟨Mq, Ms, Ml, Ma, Mg, Mf⟩ := M
  obtain ⟨e0, e1, e2, e3, e4, e5⟩ := hE
  clear e0 e4
  simp only at hMn hat hu0 hf e1 e2 e3 e5
  subst e1 e2 e3 e5
  show Calls Try.prog _ #[pD b, .agg #[.int .i64 D.quota, .int .i64 D.steps, .int .i64 Ml, .bool D.armed, .bool D.gone, .slice fa Mf.length fc]] w _
  have hus : ∀ w', Below w.heap.size w w' → Calls Try.prog 43 #[.agg #[.int .i64 D.quota, .int .i64 D.steps, .int .i64 Ml, .bool D.armed, .bool D.gone, .slice fa Mf.length fc]] w' fun e w'' => e = .returned (.int .i64 D.used) ∧ Below w'.heap.size w' w'' := fun w' hb' => by
    have := used_r (M := ⟨D.quota, D.steps, Ml, D.armed, D.gone, Mf⟩) (fc := fc) (hf.later hb') (by simp only; omega) (by simp only; rw [hu0]; omega)
    simp only at this
    rwa [hu0] at this
  obtain ⟨u, hu⟩ : ∃ u, Hid (u = (w.alloc (.cells #[.int .i64 D.quota, .int .i64 D.steps, .int .i64 Ml, .bool D.armed, .bool D.gone, .slice fa Mf.length fc] 34)).alloc (.cells #[] 9)) := ⟨_, hide1 rfl⟩
  have hb : Below w.heap.size w u := by rw [hu.out]; exact ((Below.refl _ _).alloc (Nat.le_refl _) _).alloc (by simp) _
  have hr : u.heap[w.heap.size]? = some (.cells #[.int .i64 D.quota, .int .i64 D.steps, .int .i64 Ml, .bool D.armed, .bool D.gone, .slice fa Mf.length fc] 34 (0, 0)) := by rw [hu.out, Below.heap_alloc _ _ _ (by simp)]; exact (MapKept.heap_alloc w _).1
  have hx0 : TxAt u w.heap.size (.slice (some ⟨w.heap.size + 1, 0, none⟩) 0 0) [] := by
    rw [hu.out]
    refine ⟨rfl, .inr ⟨_, 0, #[], rfl, by omega, ?_, Nat.le_refl _, Nat.zero_le _, rfl, rfl⟩⟩
    have := (MapKept.heap_alloc (w.alloc (.cells #[.int .i64 D.quota, .int .i64 D.steps, .int .i64 Ml, .bool D.armed, .bool D.gone, .slice fa Mf.length fc] 34)) (.cells #[] 9)).1
    simpa using this
  have c5 : u.cell? ⟨w.heap.size, 5, none⟩ = some (.slice fa Mf.length fc) := cell_row hr 5
  have hh := hide1 h
  have hD := hide1 hat
  have hMn' := hide1 hMn
  clear h hat hu0 hq0 hMn
  go_enter Try.func14, Try.ntmps14
  go_wp2
  rw [← hu.out]
  clear hu c5
  go_loopw [5, 14] (fun v i wr => ∃ k : Nat, k ≤ Mf.length ∧ i = .int .i64 k ∧ TxAt wr w.heap.size v ((D.fs.take k).map (·.1)) ∧ wr.heap[w.heap.size]? = some (.cells #[.int .i64 D.quota, .int .i64 D.steps, .int .i64 Ml, .bool D.armed, .bool D.gone, .slice fa Mf.length fc] 34 (0, 0)) ∧ Below w.heap.size w wr) (fun _ i _ => Mf.length - (intOf i).toNat)
  case atStart => exact ⟨0, by omega, rfl, hx0, hr, hb⟩
  case round =>
    clear hb hr hx0
    obtain ⟨k, hk, rfl, hT, hr, hb⟩ := hrel
    by_cases hlt : k < Mf.length
    · have hlt' : k < D.fs.length := by have := hMn'.out; omega
      have hp : D.fs[k] ∈ D.fs := List.getElem_mem hlt'
      have hfk := hD.out k hlt hlt'
      obtain ⟨fb, rfl, _, hc⟩ := hf (by omega)
      obtain ⟨ad, cap, h1, h2, h3, h4, _, _⟩ := hc k hlt
      rw [hfk] at h1 h2 h3 h4
      replace h1 : w.cell? ⟨fb, k * 3, none⟩ = some (.string (bstr D.fs[k].1)) := h1
      replace h2 : w.cell? ⟨fb, k * 3 + 1, none⟩ = some (.slice ad (D.ct D.fs[k].2).dat.length cap) := h2
      replace h3 : w.cell? ⟨fb, k * 3 + 2, none⟩ = some (.int .i64 ((D.ct D.fs[k].2).sure : Int)) := h3
      replace h4 : Bs w ad (D.ct D.fs[k].2).dat.length (D.ct D.fs[k].2).dat := h4
      replace h1 := cell_later hb h1
      replace h2 := cell_later hb h2
      replace h3 := cell_later hb h3
      have hds : (bstr D.fs[k].1).size ≤ maxLen := hh.out.short hp
      have hdf : findF (bstr D.fs[k].1).data.toList D.fs = some D.fs[k] := hh.out.find hp
      have hnx := hide1 (take_names hlt')
      have hlen' : ((D.fs.take k).map (·.1)).length ≤ 1000000 := by simp; omega
      generalize D.fs[k] = p at *
      clear hc hfk hp
      have hal : Below wr.heap.size wr (wr.alloc (.cells #[.string (bstr p.1), .slice ad (D.ct p.2).dat.length cap, .int .i64 ((D.ct p.2).sure : Int)] 78)) := (Below.refl _ _).alloc (Nat.le_refl _) _
      have kx := (MapKept.heap_alloc wr (.cells #[.string (bstr p.1), .slice ad (D.ct p.2).dat.length cap, .int .i64 ((D.ct p.2).sure : Int)] 78)).1
      go_upto_region 5 with fail
      have hbb : Below w.heap.size w (wr.alloc (.cells #[.string (bstr p.1), .slice ad (D.ct p.2).dat.length cap, .int .i64 ((D.ct p.2).sure : Int)] 78)) := hb.alloc hb.size _
      have hTb := hT.later hal
      have hrb := (hal.block _ (Array.getElem?_eq_some_iff.1 hr).1).trans hr
      have hwr := hb.size
      have hltb : wr.heap.size < (wr.alloc (.cells #[.string (bstr p.1), .slice ad (D.ct p.2).dat.length cap, .int .i64 ((D.ct p.2).sure : Int)] 78)).heap.size := by simp
      have hne := hT.lt
      clear hT hr hb h1 h2 h3 hal
      generalize wr.alloc (.cells #[.string (bstr p.1), .slice ad (D.ct p.2).dat.length cap, .int .i64 ((D.ct p.2).sure : Int)] 78) = wb at kx hbb hTb hrb hltb ⊢
      have y0 : wb.cell? ⟨wr.heap.size, 0, none⟩ = some (.string (bstr p.1)) := cell_row kx 0
      have hal2 : Below wb.heap.size wb (wb.alloc (.cells #[.string (bstr p.1)] 9)) := (Below.refl _ _).alloc (Nat.le_refl _) _
      have hbb2 := hbb.size
      go_wp2_with (first
        | (at_builtin; go_loud (refine wpList_app_tx rfl (.tmp 18) (.tmp 21) rfl w.heap.size _ _ rfl (hTb.later hal2) p.1 wb.heap.size 1 rfl (MapKept.heap_alloc wb _).1 hlen' (by simp; omega) ?_); intro v5 w5 hT5 hg5)
        | go_in)
      have f5 : Fr (fun i => _ = some i) wb w5 := (fr_b hal2 _).trans (fr_grown hg5 _ fun i e => e) fun _ _ e => e
      have hb5 : Below w.heap.size w w5 := hbb.trans (f5.below _ hbb.size fun i e => (hne i e).1)
      have hx5 : w5.heap[wr.heap.size]? = some (.cells #[.string (bstr p.1), .slice ad (D.ct p.2).dat.length cap, .int .i64 ((D.ct p.2).sure : Int)] 78 (0, 0)) := (f5.block _ hltb fun e => by have := (hne _ e).2; omega).trans kx
      have hr5 : w5.heap[w.heap.size]? = some (.cells #[.int .i64 D.quota, .int .i64 D.steps, .int .i64 Ml, .bool D.armed, .bool D.gone, .slice (some ⟨fb, 0, none⟩) Mf.length fc] 34 (0, 0)) := by
        refine (f5.block _ (Array.getElem?_eq_some_iff.1 hrb).1 fun e => ?_).trans hrb
        obtain ⟨cur, hcu⟩ := tx_cells hTb e
        rw [hrb] at hcu
        injection hcu with hcu
        injection hcu with _ hcu
        cases hcu
      rw [← hnx.out] at hT5
      have h5 := hh.out.later hb5
      have hsu : ∀ n, Calls Try.prog 22 #[pD b, .string (bstr p.1)] (w5.drewN n) fun e w' => e = .returned (.int .i64 ((D.ct p.2).sure : Int)) ∧ w' = w5.drewN n := fun n => sure_s (h5.later (below_drewN w5 n)) hds hdf
      have hrd : ∀ n, Calls Try.prog 21 #[pD b, .string (bstr p.1)] (w5.drewN n) (RdOut (w5.drewN n) eV (RdO D (bstr p.1).data.toList)) := fun n => read_all (h5.later (below_drewN w5 n)) hds
      have h45 := h4.later hb5
      have x0 : w5.cell? ⟨wr.heap.size, 0, none⟩ = some (.string (bstr p.1)) := cell_row hx5 0
      have x1 : w5.cell? ⟨wr.heap.size, 1, none⟩ = some (.slice ad (D.ct p.2).dat.length cap) := cell_row hx5 1
      have x2 : w5.cell? ⟨wr.heap.size, 2, none⟩ = some (.int .i64 ((D.ct p.2).sure : Int)) := cell_row hx5 2
      clear f5 hg5 hal2 y0 hltb hrb hTb hbb kx hne h4
      go_quiet ((go_at_call 22; refine Calls.quiet_of_same (hsu _)))
      go_wp2_with fail
      refine (hrd _).mono ?_
      rintro e w6 ⟨bv, ys, n1, hR, rfl, hov, hyb, hb6⟩
      have hb6' : Below w5.heap.size w5 w6 := (below_drewN w5 _).trans (hb6.mono (by simp))
      have z1 := cell_later hb6' x1
      have hr6 := (hb6'.block _ (Array.getElem?_eq_some_iff.1 hr5).1).trans hr5
      have z4 : w6.cell? ⟨w.heap.size, 4, none⟩ = some (.bool D.gone) := cell_row hr6 4
      have hT6 := hT5.later hb6'
      have hb06 : Below w.heap.size w w6 := hb5.trans (hb6'.mono hb5.size)
      have h46 := h45.later hb6'
      obtain ⟨va, vc, hvb, rfl⟩ := bs_own2 hov hyb
      clear hsu hrd x0 x1 x2 hb6 hb6' h45 hr5 hT5 hb5 hx5
      rcases Bool.eq_false_or_eq_true D.gone with hg | hg
      · replace hg := hide1 hg
        rw [hg.out] at z4
        clear hR hov hvb h46
        go_wp2
        exact ⟨⟨k + 1, by omega, by go_num, hT6, hr6, hb06⟩, by simp [intOf]; omega⟩
      · replace hg := hide1 hg
        rw [hg.out] at z4
        rcases hR with ⟨e, _⟩ | ⟨_, e, _⟩ | ⟨e9, p', e, rfl, rfl⟩
        · rw [hg.out] at e; cases e
        · rw [hdf] at e; cases e
        · rw [hdf] at e
          obtain rfl : p = p' := by injection e
          have hsm := same_d (ca := vc) (cb := cap) hvb h46
          rw [decide_eq_true rfl] at hsm
          have e0 : eV 0 = .nilIface := rfl
          rw [e0]
          clear hov hvb h46 e0 e9 e
          go_wp2_with fail
          refine hsm.mono ?_
          rintro e w6 ⟨rfl, rfl⟩
          go_wp2
          exact ⟨⟨k + 1, by omega, by go_num, hT6, hr6, hb06⟩, by simp [intOf]; omega⟩
    · obtain rfl : k = Mf.length := by omega
      rw [hMn'.out, List.take_length] at hT
      have hW := hh.out.later hb
      have hNm : ∀ w', Below wr.heap.size wr w' → Calls Try.prog 20 #[pD b] w' fun e w'' => ∃ v, e = .returned v ∧ TxAt w'' w'.heap.size v (D.fs.map (·.1)) ∧ Below w'.heap.size w' w'' := fun w' hb' => names_d (hW.later hb') (by omega)
      obtain ⟨ta, tc, rfl, hTx⟩ := hT.formN (List.length_map ..)
      have hTe : ∀ w' a' c', Below wr.heap.size wr w' → Tx w' a' (D.fs.map (·.1)) → Calls Try.prog 19 #[.slice a' D.fs.length c', .slice ta D.fs.length tc] w' fun e w'' => e = .returned (.bool true) ∧ Below w'.heap.size w' w'' := fun w' a' c' hb' hx => by
        have h9 := texts_d (ca := c') (cb := tc) hx (hTx.later hb') (by simp; omega)
        rw [List.length_map] at h9
        exact calls_drew h9
      have hUp : ∀ w', Below wr.heap.size wr w' → Calls Try.prog 24 #[pD b] w' fun e w'' => e = .returned (.int .i64 D.used) ∧ Below w'.heap.size w' w'' := fun w' hb' => calls_below (used_d (hW.later hb'))
      have hUr := fun (w' : World) (hb' : Below wr.heap.size wr w') => hus w' (hb.trans (hb'.mono hb.size))
      have hFp : ∀ w', Below wr.heap.size wr w' → Calls Try.prog 30 #[pD b] w' fun e w'' => e = .returned (.int .i64 (D.quota - D.used)) ∧ Below w'.heap.size w' w'' := fun w' hb' => calls_drew (free_d (hW.later hb'))
      have hSp : ∀ w', Below wr.heap.size wr w' → Calls Try.prog 16 #[pD b] w' fun e w'' => e = .returned (.int .i64 D.steps) ∧ Below w'.heap.size w' w'' := fun w' hb' => calls_below (steps_d (hW.later hb'))
      have hDp : ∀ w', Below wr.heap.size wr w' → Calls Try.prog 18 #[pD b] w' fun e w'' => e = .returned (.bool D.gone) ∧ Below w'.heap.size w' w'' := fun w' hb' => calls_below (down_d (hW.later hb'))
      have hmx : Try.prog.follows .mixedOrders = true := by kernel_rfl
      have z0 : wr.cell? ⟨w.heap.size, 0, none⟩ = some (.int .i64 D.quota) := cell_row hr 0
      have z1 : wr.cell? ⟨w.heap.size, 1, none⟩ = some (.int .i64 D.steps) := cell_row hr 1
      have z2 : wr.cell? ⟨w.heap.size, 2, none⟩ = some (.int .i64 Ml) := cell_row hr 2
      have z3 : wr.cell? ⟨w.heap.size, 3, none⟩ = some (.bool D.armed) := cell_row hr 3
      have z4 : wr.cell? ⟨w.heap.size, 4, none⟩ = some (.bool D.gone) := cell_row hr 4
      have z5 : wr.cell? ⟨w.heap.size, 5, none⟩ = some (.slice fa Mf.length fc) := cell_row hr 5
      have hqs := hW.qt
      have hqu := lens_nn D.fs D.ct
      rw [← hW.usd] at hqu
      have hwrap : IntKind.i64.wrap (D.quota - D.used) = D.quota - D.used := by go_unwrap
      clear hh hT hTx hr hW hus hf hD
      go_wp2_with fail
      go_region_held3 (fun w' => w'.cell? ⟨w.heap.size, 0, none⟩ = some (.int .i64 D.quota) ∧ w'.cell? ⟨w.heap.size, 1, none⟩ = some (.int .i64 D.steps) ∧ w'.cell? ⟨w.heap.size, 2, none⟩ = some (.int .i64 Ml) ∧ w'.cell? ⟨w.heap.size, 3, none⟩ = some (.bool D.armed) ∧ w'.cell? ⟨w.heap.size, 4, none⟩ = some (.bool D.gone) ∧ w'.cell? ⟨w.heap.size, 5, none⟩ = some (.slice fa Mf.length fc) ∧ Hid (Below wr.heap.size wr w'))
        (first | assumption | exact ⟨z0, z1, z2, z3, z4, z5, hide1 ((Below.refl _ _).drew)⟩ | exact six_later ‹_› ‹_›)
        (first
          | (go_at_call 20; refine (hNm _ (six_out ‹_›)).mono ?_; rintro e wx ⟨nv, rfl, hnt, hbx⟩; obtain ⟨na, nc, rfl, hnx⟩ := hnt.formN (List.length_map ..))
          | (go_at_call 19; refine (hTe _ _ _ (six_out ‹_›) hnx).mono ?_; rintro e wx ⟨rfl, hbx⟩)
          | (go_at_call 24; refine (hUp _ (six_out ‹_›)).mono ?_; rintro e wx ⟨rfl, hbx⟩)
          | (go_at_call 43; refine (hUr _ (six_out ‹_›)).mono ?_; rintro e wx ⟨rfl, hbx⟩)
          | (go_at_call 30; refine (hFp _ (six_out ‹_›)).mono ?_; rintro e wx ⟨rfl, hbx⟩)
          | (go_at_call 16; refine (hSp _ (six_out ‹_›)).mono ?_; rintro e wx ⟨rfl, hbx⟩)
          | (go_at_call 18; refine (hDp _ (six_out ‹_›)).mono ?_; rintro e wx ⟨rfl, hbx⟩))
      have hS := (by assumption : wx.cell? ⟨w.heap.size, 0, none⟩ = some (.int .i64 D.quota) ∧ wx.cell? ⟨w.heap.size, 1, none⟩ = some (.int .i64 D.steps) ∧ wx.cell? ⟨w.heap.size, 2, none⟩ = some (.int .i64 Ml) ∧ wx.cell? ⟨w.heap.size, 3, none⟩ = some (.bool D.armed) ∧ wx.cell? ⟨w.heap.size, 4, none⟩ = some (.bool D.gone) ∧ wx.cell? ⟨w.heap.size, 5, none⟩ = some (.slice fa Mf.length fc) ∧ Hid (Below wr.heap.size wr wx))
      have hfin : Below w.heap.size w wx := hb.trans ((six_out hS).mono hb.size)
      clear hNm hTe hUp hUr hFp hSp hDp
      go_wp2
      go_ret
      exact ⟨rfl, hfin⟩
end Go.Proofs.Ytcmgpllnficmdaa

namespace Go.Proofs.Ytcmgpllnficmdaa
open Go.RowKit Go.Maps

variable {w w' : World} {base b : Nat} {D : Dsk}

theorem clone_any {q : Nat} {c : Fc} (hf : FlAt w base q c) (hlen : c.dat.length ≤ 100000000) {a : Option Addr} {cap : Nat} (hv : c.v = .slice a c.dat.length cap) :
    Calls Try.prog 50 #[.slice a c.dat.length cap] w fun e w' => ∃ v', e = .returned v' ∧ w'.ownsRow w.heap.size 5 1 v' c.dat.length (byteVals c.dat) ∧ Below w.heap.size w w' := by
  obtain ⟨a', cap', hv', hbs, hform⟩ := bs_own hf.dat hf.byt
  rw [hv] at hv'
  cases hv'
  rcases hform with ⟨rfl, e1, rfl⟩ | ⟨g, rfl⟩
  · rw [e1]
    refine (clone_nil w).mono ?_
    rintro e w1 ⟨rfl, rfl⟩
    refine ⟨_, rfl, ?_, Below.refl _ _⟩
    have : c.dat = [] := List.eq_nil_of_length_eq_zero e1
    rw [this]
    exact World.ownsRow_nil _ _ _ _
  · exact clone_some hbs hlen
/-- What copying a file answers. -/
def FCp (w : World) (c : Fc) (e : Ending) (w' : World) : Prop := ∃ q v, e = .returned (pD q) ∧ w.heap.size ≤ q ∧ FlAt w' w.heap.size q ⟨c.dat, c.sure, v⟩ ∧ Below w.heap.size w w'
theorem fcp_end {n : Nat} {w1 : World} {q : Nat} {c : Fc} {v1 : Value} (hf : FlAt w base q c) (h1 : w1.ownsRow (w.drewN n).heap.size 5 1 v1 c.dat.length (byteVals c.dat)) (hb : Below (w.drewN n).heap.size (w.drewN n) w1) : FCp w c (.returned (pD w1.heap.size)) (w1.alloc (.cells #[v1, .int .i64 (c.sure : Int)] 90)) := by
  have hs : (w.drewN n).heap.size = w.heap.size := by simp
  rw [hs] at h1 hb
  have hb0 : Below w.heap.size w w1 := ⟨hb.os, hb.tape, hb.output, hb.size, hb.block⟩
  have hal : Below w1.heap.size w1 (w1.alloc (.cells #[v1, .int .i64 (c.sure : Int)] 90)) := (Below.refl _ _).alloc (Nat.le_refl _) _
  exact ⟨w1.heap.size, v1, rfl, hb0.size, ⟨(MapKept.heap_alloc w1 _).1, hb0.size, row_fr h1 (fr_b hal fun _ => False) fun _ _ => id, hf.byt, hf.sur⟩, hb0.alloc hb0.size _⟩
theorem bdFl (va : Option Addr) (l c : Nat) (x : Int) (w : World) : (Instr.build 90 #[(0, .slice va l c), (1, .int .i64 x)]).run Try.prog w = .ok (.agg #[.slice va l c, .int .i64 x]) w := by kernel_rfl
set_option maxHeartbeats 1000000 in
theorem fcopy_d {q : Nat} {c : Fc} (hf : FlAt w base q c) (hlen : c.dat.length ≤ 100000000) : Calls Try.prog 44 #[pD q] w (FCp w c) := by
  obtain ⟨a, cap, hv, hbs, _⟩ := bs_own hf.dat hf.byt
  have hrow := hf.row
  have hlt := (Array.getElem?_eq_some_iff.1 hrow).1
  have c0 : w.cell? ⟨q, 0, none⟩ = some (.slice a c.dat.length cap) := by rw [← hv]; exact cell_row hrow 0
  have c1 : w.cell? ⟨q, 1, none⟩ = some (.int .i64 (c.sure : Int)) := cell_row hrow 1
  have hcl : ∀ n, Calls Try.prog 50 #[.slice a c.dat.length cap] (w.drewN n) fun e w' => ∃ v', e = .returned v' ∧ w'.ownsRow (w.drewN n).heap.size 5 1 v' c.dat.length (byteVals c.dat) ∧ Below (w.drewN n).heap.size (w.drewN n) w' :=
    fun n => clone_any (hf.fr (fr_b (below_drewN w n) fun _ => False) id fun _ _ => id) hlen hv
  have hbd := bdFl
  have hend := fun (n : Nat) (w1 : World) (v1 : Value) => fcp_end (n := n) (w1 := w1) (v1 := v1) hf
  clear hf hbs hv
  go_enter Try.func44, Try.ntmps44
  go_wp2_with fail
  go_region_with (go_at_call 50; refine (hcl _).mono ?_; rintro e w1 ⟨v1, rfl, ho1, hb1⟩; obtain ⟨va, vc, rfl⟩ := row_form ho1; have d1 : w1.cell? ⟨q, 1, none⟩ = some (.int .i64 (c.sure : Int)) := (World.cell?_of_block (hb1.block q (by simpa using hlt))).trans c1)
  all_goals (go_wp2; go_ret; exact hend _ _ _ ho1 hb1)
end Go.Proofs.Ytcmgpllnficmdaa

namespace Go.Proofs.Ytcmgpllnficmdaa
open Go.RowKit Go.Maps

variable {w w' : World} {base b : Nat} {D : Dsk}

theorem FlAt.low {q base' : Nat} {c : Fc} (h : FlAt w base q c) (hb : base' ≤ base) : FlAt w base' q c := ⟨h.row, Nat.le_trans hb h.ge, own_mono h.dat hb, h.byt, h.sur⟩
def RiseR (R : List Rf) : Prop := R.Pairwise fun p q => bytesBefore p.nm q.nm = true
theorem Rise.view {fs : List Fn} (h : Rise fs) (ct : Nat → Fc) : RiseR (viewF fs ct) := List.pairwise_map.2 h
theorem RiseR.nodup {R : List Rf} (h : RiseR R) : R.Nodup := by
  unfold RiseR at h
  refine List.Pairwise.imp ?_ h
  intro p q hb e
  exact before_ne hb (congrArg Rf.nm e)
theorem rise_ext {R R' : List Rf} (h : RiseR R) (h' : RiseR R') (hm : ∀ r, r ∈ R ↔ r ∈ R') : R = R' := by
  refine List.Perm.eq_of_pairwise (le := fun p q : Rf => bytesBefore p.nm q.nm = true) (fun a b _ _ h1 h2 => ?_) h h' ((List.perm_ext_iff_of_nodup h.nodup h'.nodup).2 hm)
  rw [before_asymm h1] at h2; cases h2

/-- On the way through the files: those that are gone through are in the copy. -/
structure CpI (w wr : World) (base b b2 m2 r : Nat) (D : Dsk) (fs2 : List Fn) (ct2 : Nat → Fc) (left : Lit → Bool) (cnt : Nat) : Prop where
  rg : wr.ranges Try.prog 9 fElem D.bm r D.fs.length (dm D.fs) left cnt
  src : DkAt wr base b D
  row : wr.heap[b2]? = some (.cells (rowD { D with bm := m2 }) 64 (0, 0))
  map : wr.ownsMap Try.prog 9 fElem m2 fs2.length (dm fs2)
  fil : ∀ p ∈ fs2, FlAt wr w.heap.size p.2 (ct2 p.2)
  inj : ∀ p ∈ fs2, ∀ p' ∈ fs2, p.2 = p'.2 → p = p'
  sep : ∀ p ∈ fs2, ∀ p' ∈ fs2, ∀ k, (ct2 p.2).v.ownBlock = some k → (ct2 p'.2).v.ownBlock = some k → p = p'
  mem : ∀ p ∈ fs2, left (.string p.1) = false ∧ ∃ p0 ∈ D.fs, p0.1 = p.1 ∧ (ct2 p.2).dat = (D.ct p0.2).dat ∧ (ct2 p.2).sure = (D.ct p0.2).sure
  got : ∀ p ∈ D.fs, left (.string p.1) = false → ∃ p2 ∈ fs2, p2.1 = p.1
  bel : Below w.heap.size w wr
  len : fs2.length + cnt ≤ D.fs.length

theorem CpI.next {wr w1 w2 w3 : World} {b2 m2 r cnt cnt1 q : Nat} {v : Value} {fs2 : List Fn} {ct2 : Nat → Fc} {left left1 : Lit → Bool} (h : CpI w wr base b b2 m2 r D fs2 ct2 left cnt) (h0 : DkAt w base b D) (e1 : b2 = w.heap.size + 1) (e2 : m2 = w.heap.size) (e3 : r = w.heap.size + 2) {p : Fn} (hp : p ∈ D.fs) (hl : left (.string p.1) = true) (hl1 : ∀ x, left1 (.string x) = (left (.string x) && !(x == p.1)))
    (hrg : w1.ranges Try.prog 9 fElem D.bm r D.fs.length (dm D.fs) left1 cnt1) (hg1 : Fr (· = r) wr w1) (hq : w1.heap.size ≤ q) (hF : FlAt w2 w1.heap.size q ⟨(D.ct p.2).dat, (D.ct p.2).sure, v⟩) (hb2 : Below w1.heap.size w1 w2) (hmap : w3.ownsMap Try.prog 9 fElem m2 (putF p.1 q fs2).length (dm (putF p.1 q fs2))) (hf3 : Fr (· = m2) w2 w3) (hcnt : cnt1 < cnt) :
    CpI w w3 base b b2 m2 r D (putF p.1 q fs2) (updC ct2 q ⟨(D.ct p.2).dat, (D.ct p.2).sure, v⟩) left1 cnt1 := by
  have hlt := fp_lt h0
  have hno : findF p.1 fs2 = none := by
    unfold findF
    rw [List.find?_eq_none]
    intro x hx e
    have e : x.1 = p.1 := by simpa using e
    have := (h.mem x hx).1
    rw [e, hl] at this; cases this
  have hperm : (putF p.1 q fs2).Perm ((p.1, q) :: fs2) := by
    have := insF_perm (p.1, q) (delF p.1 fs2)
    unfold putF
    rw [del_none hno] at this ⊢
    exact this
  have hmem : ∀ x, x ∈ putF p.1 q fs2 → x = (p.1, q) ∨ x ∈ fs2 := fun x hx => by
    have := hperm.mem_iff.1 hx
    simpa using this
  have hs1 := hg1.size
  have hs2 := hb2.size
  have hblt : b2 < wr.heap.size := (Array.getElem?_eq_some_iff.1 h.row).1
  have hr := h.rg.lt
  have f13 : Fr (· = m2) w1 w3 := (fr_b hb2 _).trans hf3 fun _ _ e => e
  have fr3 : Fr (fun k => k = r ∨ k = m2) wr w3 := (hg1.mono fun _ _ e => .inl e).trans f13 fun _ _ e => .inr e
  have hol : ∀ x ∈ fs2, x.2 < wr.heap.size := fun x hx => (Array.getElem?_eq_some_iff.1 (h.fil x hx).row).1
  have hok : ∀ x ∈ fs2, ∀ k, (ct2 x.2).v.ownBlock = some k → k < wr.heap.size := fun x hx k hk => ((h.fil x hx).dat.lt k hk).2
  have hnew : ∀ k, v.ownBlock = some k → w1.heap.size ≤ k := fun k hk => (hF.dat.lt k hk).1
  have hct : ∀ x ∈ fs2, updC ct2 q ⟨(D.ct p.2).dat, (D.ct p.2).sure, v⟩ x.2 = ct2 x.2 := fun x hx => updC_o _ _ (by have := hol x hx; omega)
  have hcq : updC ct2 q ⟨(D.ct p.2).dat, (D.ct p.2).sure, v⟩ q = ⟨(D.ct p.2).dat, (D.ct p.2).sure, v⟩ := updC_s _ _ _
  have hnb : ∀ x ∈ fs2, x.2 ≠ r ∧ x.2 ≠ m2 := fun x hx => ⟨fun e => ne_iter h.rg (h.fil x hx).row e.symm, fun e => ne_map (h.fil x hx).row h.map e.symm⟩
  have hno2 : ∀ x ∈ fs2, ∀ k, (ct2 x.2).v.ownBlock = some k → k ≠ r ∧ k ≠ m2 := fun x hx k hk => by
    obtain ⟨cur, hc⟩ := own_cells (h.fil x hx).dat hk
    exact ⟨fun e => ne_iter h.rg hc e.symm, fun e => ne_map hc h.map e.symm⟩
  refine ⟨?_, ?_, ?_, hmap, ?_, ?_, ?_, ?_, ?_, ?_, ?_⟩
  · refine ranges_fr hrg f13 ?_ (by omega)
    have := hlt D.bm (.inr (.inl rfl)); omega
  · exact h.src.fr fr3 fun k hk e => by have := hlt k hk; omega
  · exact (fr3.block b2 hblt (by omega)).trans h.row
  · intro x hx
    rcases hmem x hx with rfl | hx
    · show FlAt w3 w.heap.size q (updC ct2 q _ q)
      rw [hcq]
      have hw := h.bel.size
      refine (hF.low (by omega)).fr hf3 (by omega) fun k hk => ?_
      have := hnew k hk
      omega
    · rw [hct x hx]
      exact (h.fil x hx).fr fr3 (fun e => by have := hnb x hx; omega) fun k hk e => by have := hno2 x hx k hk; omega
  · intro x hx y hy e
    rcases hmem x hx with rfl | hx <;> rcases hmem y hy with rfl | hy
    · rfl
    · have := hol y hy
      simp only at e
      omega
    · have := hol x hx
      simp only at e
      omega
    · exact h.inj x hx y hy e
  · intro x hx y hy k e e'
    rcases hmem x hx with rfl | hx <;> rcases hmem y hy with rfl | hy
    · rfl
    · rw [hct y hy] at e'
      have e : (updC ct2 q ⟨(D.ct p.2).dat, (D.ct p.2).sure, v⟩ q).v.ownBlock = some k := e
      rw [hcq] at e
      have := hnew k e
      have := hok y hy k e'
      omega
    · rw [hct x hx] at e
      have e' : (updC ct2 q ⟨(D.ct p.2).dat, (D.ct p.2).sure, v⟩ q).v.ownBlock = some k := e'
      rw [hcq] at e'
      have := hnew k e'
      have := hok x hx k e
      omega
    · rw [hct x hx] at e
      rw [hct y hy] at e'
      exact h.sep x hx y hy k e e'
  · intro x hx
    rcases hmem x hx with rfl | hx
    · refine ⟨by rw [hl1]; simp, p, hp, rfl, ?_⟩
      show (updC ct2 q _ q).dat = _ ∧ (updC ct2 q _ q).sure = _
      rw [hcq]
      exact ⟨rfl, rfl⟩
    · rw [hct x hx]
      exact ⟨by rw [hl1, (h.mem x hx).1]; rfl, (h.mem x hx).2⟩
  · intro x hx hxl
    rw [hl1] at hxl
    by_cases e : x.1 = p.1
    · exact ⟨(p.1, q), hperm.mem_iff.2 List.mem_cons_self, e.symm⟩
    · have e2 : (x.1 == p.1) = false := by simpa using e
      rw [e2] at hxl
      simp only [Bool.not_false, Bool.and_true] at hxl
      obtain ⟨y, hy, hy2⟩ := h.got x hx hxl
      exact ⟨y, hperm.mem_iff.2 (List.mem_cons_of_mem _ hy), hy2⟩
  · exact h.bel.trans (fr3.below _ h.bel.size fun i e => by omega)
  · rw [hperm.length_eq, List.length_cons]
    have := h.len
    omega

/-- Another disk that stands as this one. -/
structure Twin (D D2 : Dsk) : Prop where
  st : D2.steps = D.steps
  lf : D2.left = D.left
  ar : D2.armed = D.armed
  go : D2.gone = D.gone
  qu : D2.quota = D.quota
  us : D2.used = D.used
  vw : viewF D2.fs D2.ct = viewF D.fs D.ct
theorem CpI.fin {wr : World} {b2 m2 r cnt : Nat} {fs2 : List Fn} {ct2 : Nat → Fc} {left : Lit → Bool} (h : CpI w wr base b b2 m2 r D fs2 ct2 left cnt) (e1 : b2 = w.heap.size + 1) (e2 : m2 = w.heap.size) (hl : ∀ k, left k = false) :
    Twin D { D with bm := m2, fs := fs2, ct := ct2 } ∧ DkAt wr w.heap.size b2 { D with bm := m2, fs := fs2, ct := ct2 } := by
  have hrs : Rise fs2 := by
    obtain ⟨es, clock, _, F, _, e⟩ := h.map
    have hs := Maps.sorted_sorted law9.one _ (Maps.fit_keys F) (Maps.fit_apart law9 F)
    unfold dm at e
    injection e with e
    rw [← e, List.pairwise_map] at hs
    exact hs
  have hv : viewF fs2 ct2 = viewF D.fs D.ct := by
    refine rise_ext (hrs.view ct2) (h.src.rise.view D.ct) fun x => ?_
    unfold viewF
    simp only [List.mem_map]
    constructor
    · rintro ⟨p, hp, rfl⟩
      obtain ⟨_, p0, hp0, a1, a2, a3⟩ := h.mem p hp
      exact ⟨p0, hp0, by unfold fileR; rw [a1, a2, a3]⟩
    · rintro ⟨p0, hp0, rfl⟩
      obtain ⟨p, hp, a0⟩ := h.got p0 hp0 (hl _)
      obtain ⟨_, p1, hp1, a1, a2, a3⟩ := h.mem p hp
      obtain rfl := names_inj h.src.nd hp1 hp0 (a1.trans a0)
      exact ⟨p, hp, by unfold fileR; rw [a1, a2, a3]⟩
  refine ⟨⟨rfl, rfl, rfl, rfl, rfl, rfl, hv⟩, h.row, by omega, h.map, by simp only; omega, h.fil, h.inj, h.sep, ?_, h.src.qt, h.src.st, h.src.lf⟩
  show D.used = lens fs2 ct2
  rw [← used_view, hv, used_view, h.src.usd]
end Go.Proofs.Ytcmgpllnficmdaa

namespace Go.Proofs.Ytcmgpllnficmdaa
open Go.RowKit Go.Maps

variable {w w' : World} {base b : Nat} {D : Dsk}

theorem bdCp (s l : Int) (a g : Bool) (q u : Int) (m : Nat) (w : World) : (Instr.build 64 #[(0, .agg #[.int .i64 s, .int .i64 l, .bool a, .bool g]), (1, .int .i64 q), (2, .int .i64 u), (3, .map (some m))]).run Try.prog w = .ok (.agg #[.int .i64 s, .int .i64 l, .bool a, .bool g, .int .i64 q, .int .i64 u, .map (some m)]) w := by kernel_rfl
theorem mkmap_n (n : Int) (w : World) : (Instr.makeMap 60 (some (.int .i64 n))).run Try.prog w = .ok (.map (some w.heap.size)) (w.alloc (.map #[] 0)) := by
  simp [Instr.makeMap, run_underlying Try.underlying60, asInt, Result.andThen]
  rfl
/-- What Copy answers. -/
def CpO (w : World) (D : Dsk) (e : Ending) (w' : World) : Prop := ∃ b2 D2, e = .returned (pD b2) ∧ Twin D D2 ∧ DkAt w' w.heap.size b2 D2 ∧ Below w.heap.size w w'
theorem upd_m {bm n : Nat} {fs : List Fn} (hown : w.ownsMap Try.prog 9 fElem bm n (dm fs)) (hn : n < maxLen) {s : ByteArray} (hs : s.size ≤ maxLen) (q : Nat) :
    ∃ w2, (Instr.mapUpdate 60 (.map (some bm)) (.string s) (.pointer (some ⟨q, 0, none⟩))).run Try.prog w = .ok () w2 ∧ w2.ownsMap Try.prog 9 fElem bm (putF s.data.toList q fs).length (dm (putF s.data.toList q fs)) ∧ Fr (· = bm) w w2 := by
  obtain ⟨w2, h1, h2, h3⟩ := hown.update (key := .string s) (val := pD q) (kl := .string s.data.toList) (d := .lit (.int .i64 (q : Int))) (ps := []) law9 Try.underlying60 hn (key9 hs) rfl
  rw [put_dm] at h2
  exact ⟨w2, h1, owns_len h2, fr_grown h3 _ fun i e => by cases e; rfl⟩
set_option maxHeartbeats 4000000 in
theorem copy_dk (h : DkAt w base b D) (hfl : D.fs.length ≤ 1000000) : Calls Try.prog 15 #[pD b] w (CpO w D) := by
  have c0 : w.cell? ⟨b, 0, none⟩ = some (.int .i64 D.steps) := cell_row h.row 0
  have c1 : w.cell? ⟨b, 1, none⟩ = some (.int .i64 D.left) := cell_row h.row 1
  have c2 : w.cell? ⟨b, 2, none⟩ = some (.bool D.armed) := cell_row h.row 2
  have c3 : w.cell? ⟨b, 3, none⟩ = some (.bool D.gone) := cell_row h.row 3
  have c4 : w.cell? ⟨b, 4, none⟩ = some (.int .i64 D.quota) := cell_row h.row 4
  have c5 : w.cell? ⟨b, 5, none⟩ = some (.int .i64 D.used) := cell_row h.row 5
  have c6 : w.cell? ⟨b, 6, none⟩ = some (.map (some D.bm)) := cell_row h.row 6
  have hln : ∀ (ty : TypeId), (Builtin.len_ #[60] ty #[.map (some D.bm)]).run Try.prog w.drew = .ok (.int .i64 (Maps.size (dm D.fs))) w.drew := fun ty => World.ownsMap.len (World.ownsMap.drew h.map) Try.underlying60 ty
  have hblt : b < w.heap.size := (Array.getElem?_eq_some_iff.1 h.row).1
  have hrow1 : (w.alloc (.map #[] 0)).heap[b]? = some (.cells (rowD D) 64 (0, 0)) := (Below.heap_alloc _ _ b hblt).trans h.row
  have a0 : (w.alloc (.map #[] 0)).cell? ⟨b, 0, none⟩ = some (.int .i64 D.steps) := cell_row hrow1 0
  have a1 : (w.alloc (.map #[] 0)).cell? ⟨b, 1, none⟩ = some (.int .i64 D.left) := cell_row hrow1 1
  have a2 : (w.alloc (.map #[] 0)).cell? ⟨b, 2, none⟩ = some (.bool D.armed) := cell_row hrow1 2
  have a3 : (w.alloc (.map #[] 0)).cell? ⟨b, 3, none⟩ = some (.bool D.gone) := cell_row hrow1 3
  have a4 : (w.alloc (.map #[] 0)).cell? ⟨b, 4, none⟩ = some (.int .i64 D.quota) := cell_row hrow1 4
  have a5 : (w.alloc (.map #[] 0)).cell? ⟨b, 5, none⟩ = some (.int .i64 D.used) := cell_row hrow1 5
  have a6 : (w.alloc (.map #[] 0)).cell? ⟨b, 6, none⟩ = some (.map (some D.bm)) := cell_row hrow1 6
  have hbd := bdCp
  have hmk := mkmap_n
  have hh := hide1 h
  clear h
  go_enter Try.func15, Try.ntmps15
  go_wp2_with fail
  go_region
  have h := hh.out
  have hlt := fp_lt h
  have hu : Hid (∃ u, u = ((w.alloc (.map #[] 0)).alloc (.cells #[.int .i64 D.steps, .int .i64 D.left, .bool D.armed, .bool D.gone, .int .i64 D.quota, .int .i64 D.used, .map (some w.heap.size)] 64)).drew) := hide1 ⟨_, rfl⟩
  have hB2 : Below w.heap.size w ((w.alloc (.map #[] 0)).alloc (.cells #[.int .i64 D.steps, .int .i64 D.left, .bool D.armed, .bool D.gone, .int .i64 D.quota, .int .i64 D.used, .map (some w.heap.size)] 64)).drew := (((Below.refl _ w).alloc (Nat.le_refl _) _).alloc (by simp) _).drew
  have hr2 : ((w.alloc (.map #[] 0)).alloc (.cells #[.int .i64 D.steps, .int .i64 D.left, .bool D.armed, .bool D.gone, .int .i64 D.quota, .int .i64 D.used, .map (some w.heap.size)] 64)).drew.heap[w.heap.size + 1]? = some (.cells (rowD { D with bm := w.heap.size }) 64 (0, 0)) := by
    have h9 := (MapKept.heap_alloc (w.alloc (.map #[] 0)) (.cells #[.int .i64 D.steps, .int .i64 D.left, .bool D.armed, .bool D.gone, .int .i64 D.quota, .int .i64 D.used, .map (some w.heap.size)] 64)).1
    have e9 : (w.alloc (.map #[] 0)).heap.size = w.heap.size + 1 := by simp
    rw [e9] at h9
    exact h9
  have hm2 : ((w.alloc (.map #[] 0)).alloc (.cells #[.int .i64 D.steps, .int .i64 D.left, .bool D.armed, .bool D.gone, .int .i64 D.quota, .int .i64 D.used, .map (some w.heap.size)] 64)).drew.ownsMap Try.prog 9 fElem w.heap.size 0 (dm []) := World.ownsMap.drew ((World.ownsMap_made w Try.prog 9 fElem).alloc _)
  have hz2 : ((w.alloc (.map #[] 0)).alloc (.cells #[.int .i64 D.steps, .int .i64 D.left, .bool D.armed, .bool D.gone, .int .i64 D.quota, .int .i64 D.used, .map (some w.heap.size)] 64)).drew.heap.size = w.heap.size + 2 := by simp
  clear c0 c1 c2 c3 c4 c5 c6 hln hrow1 a0 a1 a2 a3 a4 a5 a6 hbd hmk hu hh
  generalize ((w.alloc (.map #[] 0)).alloc (.cells #[.int .i64 D.steps, .int .i64 D.left, .bool D.armed, .bool D.gone, .int .i64 D.quota, .int .i64 D.used, .map (some w.heap.size)] 64)).drew = W2 at hB2 hr2 hm2 hz2 ⊢
  have h2 := h.later hB2
  have c6 : W2.cell? ⟨b, 6, none⟩ = some (.map (some D.bm)) := cell_row h2.row 6
  replace hz2 := hide1 hz2
  go_wp2_with (first
    | (at_range; refine wpList_range_own _ rfl _ 60 rfl 9 80 law9 Try.underlying60 _ D.bm D.fs.length _ rfl h2.map ?_; intro w0 hrg0 hg0 hs0)
    | go_in)
  rw [hz2.out] at hrg0 ⊢
  go_frame
  go_loopw [4, 5] (fun _ _ wr => ∃ left cnt fs2 ct2, CpI w wr base b (w.heap.size + 1) w.heap.size (w.heap.size + 2) D fs2 ct2 left cnt) (fun _ _ wr => wr.rangeLeft D.bm (w.heap.size + 2))
  case atStart =>
    have f0 : Fr (fun _ => False) W2 w0 := fr_grown hg0 _ fun i e => by cases e
    refine ⟨_, _, [], fun _ => fc0, hrg0, h2.fr f0 fun _ _ => id, (f0.block _ (Array.getElem?_eq_some_iff.1 hr2).1 id).trans hr2, owns_fr hm2 f0 id, ?_, ?_, ?_, ?_, ?_, ?_, ?_⟩
    · intro p hp; cases hp
    · intro p hp; cases hp
    · intro p hp; cases hp
    · intro p hp; cases hp
    · intro p hp hl
      exfalso
      have : Maps.has (dm D.fs) (.string p.1) = true := by
        show (D.fs.map encE).any _ = true
        rw [List.any_eq_true]
        exact ⟨encE p, List.mem_map.2 ⟨p, hp, rfl⟩, by simp [encE, Lit.sameKey]⟩
      rw [this] at hl; cases hl
    · exact hB2.trans (f0.below _ hB2.size fun _ => False.elim)
    · rw [size_dm]; simp
  case round =>
    obtain ⟨left, cnt, fs2, ct2, hI⟩ := hrel
    go_wp2_with (first
      | (at_next; refine wpList_next_ranges _ rfl _ rfl 9 law9 fElem encStr mkV invK9 invV9 D.bm (w.heap.size + 2) D.fs.length _ _ _ rfl hI.rg ?_ ?_)
      | go_in)
    · intro _ hl0
      have hfin := hI.fin rfl rfl hl0
      have hbel := hI.bel
      clear hI h h2
      go_wp2
      go_ret
      exact ⟨_, _, rfl, hfin.1, hfin.2, hbel⟩
    · intro x c kl yd yp w1 cnt1 hkey hlk hv hat hrg1 hlt1 hg1 hs1 hen
      clear hs1
      obtain ⟨p, hp, rfl, rfl, rfl⟩ := entry_fs hkey hv hat
      have hfr1 : Fr (· = w.heap.size + 2) _ w1 := fr_grown hg1 _ fun i e => by cases e; rfl
      have hsrc1 : DkAt w1 base b D := hI.src.fr hfr1 fun k hk e => by have := hlt k hk; omega
      have hlen := len_le hsrc1 hp
      have hq := hsrc1.qt
      have hf := hsrc1.fil p hp
      have hrow1 : w1.heap[w.heap.size + 1]? = some (.cells (rowD { D with bm := w.heap.size }) 64 (0, 0)) := (hfr1.block _ (Array.getElem?_eq_some_iff.1 hI.row).1 (by omega)).trans hI.row
      have u6 : w1.cell? ⟨w.heap.size + 1, 6, none⟩ = some (.map (some w.heap.size)) := cell_row hrow1 6
      have hb2l : w.heap.size + 1 < w1.heap.size := (Array.getElem?_eq_some_iff.1 hrow1).1
      have hmp1 : w1.ownsMap Try.prog 9 fElem w.heap.size fs2.length (dm fs2) := owns_fr hI.map hfr1 (by omega)
      have hll := hI.len
      have hcr : Calls Try.prog 44 #[pD p.2] w1.drew (FCp w1.drew (D.ct p.2)) := fcopy_d (w := w1.drew) ⟨hf.row, hf.ge, hf.dat, hf.byt, hf.sur⟩ (by omega)
      have hnext := fun (w2 w3 : World) (q : Nat) (v : Value) (hq : w1.heap.size ≤ q) (hF : FlAt w2 w1.heap.size q ⟨(D.ct p.2).dat, (D.ct p.2).sure, v⟩) (hb2 : Below w1.heap.size w1 w2) (hmap : w3.ownsMap Try.prog 9 fElem w.heap.size (putF p.1 q fs2).length (dm (putF p.1 q fs2))) (hf3 : Fr (· = w.heap.size) w2 w3) => hI.next h rfl rfl rfl hp hlk (left1 := fun z => left z && !z.sameKey (.string p.1)) (fun _ => rfl) hrg1 hfr1 hq hF hb2 hmap hf3 hlt1
      have hmeas : ∀ W fs3 ct3, CpI w W base b (w.heap.size + 1) w.heap.size (w.heap.size + 2) D fs3 ct3 (fun z => left z && !z.sameKey (.string p.1)) cnt1 → W.rangeLeft D.bm (w.heap.size + 2) < wr.rangeLeft D.bm (w.heap.size + 2) := fun W fs3 ct3 h2 => by rw [h2.rg.left_eq, hI.rg.left_eq]; exact hlt1
      have hks : (⟨p.1.toArray⟩ : ByteArray).size ≤ maxLen := by
        obtain ⟨x', ex, _, hx'⟩ := Maps.keyOf_str Try.underlying9 hkey
        obtain rfl := encStr_inj ex
        exact hx'
      clear hI hat hrg1 hlt1 hfr1 hsrc1 hlen hq hf hkey hv hg1 h h2 c6
      simp only [mkV] at hen
      go_wp2
      go_region_with (go_at_call 44; refine hcr.mono ?_; rintro e w2 ⟨q, v, rfl, hq, hF, hb2⟩; have hb2' : Below w1.heap.size w1 w2 := ⟨hb2.os, hb2.tape, hb2.output, hb2.size, hb2.block⟩; have v6 : w2.cell? ⟨w.heap.size + 1, 6, none⟩ = some (.map (some w.heap.size)) := (World.cell?_of_block (hb2'.block _ hb2l)).trans u6; obtain ⟨w3, hmu, hown3, hf3⟩ := upd_m (owns_below hmp1 hb2') (by unfold maxLen; omega) hks q; have hI2 := hnext w2 w3 q v hq hF hb2' hown3 hf3; clear hnext hF hb2 hb2' hown3 hf3)
      all_goals go_roundw
      all_goals first | exact ⟨_, _, _, _, _, _, _, _, _, _, _, _, _, _, ⟨_, _, _, _, hI2⟩, rfl⟩ | exact hmeas _ _ _ hI2
end Go.Proofs.Ytcmgpllnficmdaa

namespace Go.Proofs.Ytcmgpllnficmdaa
open Go.RowKit Go.Maps

variable {w wr : World} {base b m : Nat} {D : Dsk} {M : Rd} {fa : Option Addr} {fc : Nat} {X : Nat → Prop}

/-- A block that is no part of a disk: it has another type. -/
theorem DkAt.apart (h : DkAt w base b D) {c : Array Value} {t : TypeId} {f : Nat × Nat} (hm : w.heap[m]? = some (.cells c t f)) (h1 : t ≠ 64) (h2 : t ≠ 90) (h3 : t ≠ 5) : ∀ k, fp b D k → k ≠ m := by
  rintro k (e | e | ⟨p, hp, e⟩ | ⟨p, hp, e⟩) rfl
  · subst e
    rw [h.row] at hm
    cases hm; exact h1 rfl
  · subst e
    obtain ⟨es, cl, hb, _⟩ := h.map
    rw [hb] at hm; cases hm
  · subst e
    rw [(h.fil p hp).row] at hm
    cases hm; exact h2 rfl
  · obtain ⟨cur, hc⟩ := own_cells (h.fil p hp).dat e
    rw [hc] at hm
    cases hm; exact h3 rfl
theorem Fs.apart {R : List Rf} (h : Fs w X fa R) {fa' : Option Addr} {fc' : Nat} (hm : w.heap[m]? = some (.cells (rcells M fa' fc') 34 (0, 0))) : Fs w (fun k => X k ∧ k ≠ m) fa R := fun hp => by
  obtain ⟨fb, e, hx, hc⟩ := h hp
  refine ⟨fb, e, ⟨hx, ?_⟩, fun i hi => ?_⟩
  · rintro rfl
    obtain ⟨_, _, h1, _⟩ := hc 0 hp
    have h2 := cell_row hm 0
    rw [Nat.zero_mul] at h1
    rw [h1] at h2
    cases h2
  · obtain ⟨ad, cap, h1, h2, h3, h4, h5, h6⟩ := hc i hi
    refine ⟨ad, cap, h1, h2, h3, h4, h5, fun x ex hl => ⟨h6 x ex hl, ?_⟩⟩
    rintro rfl
    obtain ⟨b', off, e', hcc⟩ := h4.2.2 hl
    rw [ex] at e'
    cases e'
    have g1 := hcc 0 hl
    have g2 := cell_row hm (off + 0)
    rw [g1] at g2
    match off, g2 with
    | 0, g2 => cases g2
    | 1, g2 => cases g2
    | 2, g2 => cases g2
    | 3, g2 => cases g2
    | 4, g2 => cases g2
    | 5, g2 => cases g2
    | n + 6, g2 => simp at g2
/-- On the way: the program's disk, the document's in its box m. -/
structure Side (w wr : World) (base b m k : Nat) (D : Dsk) (M : Rd) (fa : Option Addr) (fc : Nat) (X : Nat → Prop) : Prop where
  dk : DkAt wr base b D
  eq : Eqv D M
  fs : Fs wr X fa M.fs
  hX : ∀ i, X i → i < wr.heap.size ∧ ¬ fp b D i
  row : wr.heap[m]? = some (.cells (rcells M fa fc) 34 (0, 0))
  len : D.fs.length ≤ k
  stp : D.steps ≤ k
  bel : Below w.heap.size w wr
theorem Side.later {k : Nat} (h : Side w wr base b m k D M fa fc X) {w' : World} (hb : Below wr.heap.size wr w') : Side w w' base b m k D M fa fc X :=
  ⟨h.dk.later hb, h.eq, h.fs.later hb, fun i hi => ⟨Nat.lt_of_lt_of_le (h.hX i hi).1 hb.size, (h.hX i hi).2⟩, (hb.block _ (Array.getElem?_eq_some_iff.1 h.row).1).trans h.row, h.len, h.stp, h.bel.trans (hb.mono h.bel.size)⟩
/-- What do answers where both stand alike. -/
def DoE (w : World) (base b : Nat) (D : Dsk) (e : Ending) (w' : World) : Prop :=
  ∃ D' n M' fa' fc' X', Lim D D' ∧ Eqv D' M' ∧ e = .returned (.tuple #[rval M' fa' fc', .int .i64 n, .int .i64 n, .bool true]) ∧ DkAt w' base b D' ∧ Fs w' X' fa' M'.fs ∧ (∀ k, X' k → k < w'.heap.size ∧ ¬ fp b D' k) ∧ Fr (fp b D) w w' ∧ Grow w b D D'
theorem Side.do {k : Nat} (h : Side w wr base b m k D M fa fc X) (hk : k ≤ 1000) (hbase : base ≤ wr.heap.size) {nm tn : List UInt8} {n : Int} {ab : Option Addr} {lb cb : Nat} {zs : List Int} (hbs : Bs wr ab lb zs) (hab : ∀ x, ab = some x → 0 < lb → ¬ fp b D x.block) (hm : lb ≤ 1000000) (hnm : nm.length ≤ 1000000) (htn : tn.length ≤ 1000000) (hn : n < 9223372036854775808) (kd : Int) :
    Calls Try.prog 13 #[pD b, rval M fa fc, .agg (opc kd nm tn n ab lb cb)] wr (DoE wr base b D) := by
  have h1 := h.len
  have h2 := h.stp
  refine (do_all h.dk h.fs h.hX (h.eq.ok h.dk (by omega) (by omega)) (h.eq.sur h.dk) (by omega) (by omega) hbase hbs hab hm hnm htn hn kd).mono ?_
  rintro e w' ⟨D', n1, M', n', sm, fa', fc', X', a1, a2, rfl, a4⟩
  obtain ⟨rfl, rfl, a5⟩ := a2 h.eq
  exact ⟨D', _, M', fa', fc', X', a1, a5, rfl, a4⟩
/-- The document's disk is stored in its box. -/
theorem Side.store {w5 w6 : World} {k : Nat} (h : Side w wr base b m k D M fa fc X) {D' : Dsk} {M' : Rd} {fa' : Option Addr} {fc' : Nat} {X' : Nat → Prop} (hw : w.heap.size ≤ base) (h1 : Lim D D') (h2 : Eqv D' M') (h3 : DkAt w5 base b D') (h4 : Fs w5 X' fa' M'.fs) (h5 : ∀ k, X' k → k < w5.heap.size ∧ ¬ fp b D' k) (h6 : Fr (fp b D) wr w5) (hm : w.heap.size ≤ m) (hs : Wt w5 w6 m (rcells M' fa' fc') 34) :
    Side w w6 base b m (k + 1) D' M' fa' fc' (fun i => X' i ∧ i ≠ m) := by
  have hap := h.dk.apart h.row (by decide) (by decide) (by decide)
  have hr5 : w5.heap[m]? = some (.cells (rcells M fa fc) 34 (0, 0)) := (h6.block m (Array.getElem?_eq_some_iff.1 h.row).1 fun e => hap m e rfl).trans h.row
  have hap' := h3.apart hr5 (by decide) (by decide) (by decide)
  refine ⟨h3.fr hs.fr fun i hi => hap' i hi, h2, (h4.apart hr5).fr hs.fr fun i hi => hi.2, fun i hi => ⟨Nat.lt_of_lt_of_le (h5 i hi.1).1 (Nat.le_of_eq hs.size.symm), (h5 i hi.1).2⟩, hs.row, ?_, ?_, ?_⟩
  · have := h.len; have := h1.2.1; omega
  · have := h.stp; have := h1.2.2; omega
  · have hg := fp_ge h.dk
    exact (h.bel.trans (h6.below _ h.bel.size fun i e => by have := hg i e; omega)).trans (hs.fr.below _ (Nat.le_trans h.bel.size h6.size) fun i e => by omega)
theorem view_new (q : Int) (bm : Nat) : Eqv (newD q bm) ⟨q, 0, 0, false, false, []⟩ := ⟨rfl, rfl, rfl, rfl, (fun h => by cases h), rfl⟩
end Go.Proofs.Ytcmgpllnficmdaa

namespace Go.Proofs.Ytcmgpllnficmdaa
open Go.RowKit Go.Maps

theorem bdM (q : Int) (w : World) : (Instr.build 34 #[(0, .int .i64 q)]).run Try.prog w = .ok (rval ⟨q, 0, 0, false, false, []⟩ none 0) w := by kernel_rfl
set_option maxHeartbeats 4000000 in
set_option maxRecDepth 100000 in
theorem plays_walk {w : World} {sa : Option Addr} {os : List OpD} {sc : Nat} (h : OpsAt w sa os) (hn : os.length ≤ maxLen) (hnn : ∀ o ∈ os, o.n < 9223372036854775808) (q : Int) :
    Calls Try.prog 3 #[.int .i64 q, .slice sa os.length sc] w fun e w' => e = .returned (.bool true) ∧ Below w.heap.size w w' := by
  go_enter Try.func3, Try.ntmps3
  go_wp2_with fail
  refine (alive_t w).mono ?_
  rintro e w1 ⟨rfl, hb1⟩
  go_wp2_with fail
  refine (large_d (h.later hb1) hn).mono ?_
  rintro e w2 ⟨bl, rfl, hbl, hb2⟩
  have hb2 : Below w.heap.size w w2 := hb1.trans (hb2.mono hb1.size)
  clear hb1
  cases bl with
  | true =>
    clear hbl
    go_wp2
    go_ret
    exact ⟨rfl, hb2⟩
  | false =>
    obtain ⟨h81, hsm⟩ := hbl rfl
    clear hbl
    by_cases hq : q < 0 ∨ 16777216 < q
    · have hnw := new_no w2 q hq
      go_wp2_with fail
      refine hnw.mono ?_
      rintro e w3 ⟨rfl, rfl⟩
      clear hnw
      rcases Int.lt_or_le q 0 with hq0 | hq0
      · clear hq
        go_wp2_with fail
        refine (is_e 2 (by decide) _).mono ?_
        rintro e w4 ⟨rfl, rfl⟩
        go_wp2
        go_ret
        exact ⟨rfl, hb2⟩
      · have hq1 : 16777216 < q := by omega
        clear hq
        go_wp2_with fail
        refine (is_e 2 (by decide) _).mono ?_
        rintro e w4 ⟨rfl, rfl⟩
        go_wp2
        go_ret
        exact ⟨rfl, hb2⟩
    · have hq0 : 0 ≤ q := by omega
      have hq1 : q ≤ 16777216 := by omega
      have hnw := new_ok w2 q hq0 hq1
      have hbd := bdM q
      clear hq
      go_wp2_with fail
      refine hnw.mono ?_
      rintro e w3 ⟨rfl, hD, hb3⟩
      clear hnw
      have hw2 := hb2.size
      have hb03 : Below w.heap.size w w3 := hb2.trans (hb3.mono hb2.size)
      have h23 := hb3.size
      have hal : Below w3.heap.size w3 (w3.alloc (.cells (rcells ⟨q, 0, 0, false, false, []⟩ none 0) 34)) := (Below.refl _ _).alloc (Nat.le_refl _) _
      have hS0 : Side w (w3.alloc (.cells (rcells ⟨q, 0, 0, false, false, []⟩ none 0) 34)) w2.heap.size (w2.heap.size + 1) w3.heap.size 0 (newD q w2.heap.size) ⟨q, 0, 0, false, false, []⟩ none 0 (fun _ => False) :=
        ⟨hD.later hal, view_new _ _, (fun hp => absurd hp (by simp)), (fun _ => False.elim), (MapKept.heap_alloc w3 _).1, Nat.le_refl _, Int.le_refl _, hb03.alloc hb03.size _⟩
      clear hb2 hb3 hb03 hal hD
      go_wp2
      go_loopw [41] (fun i wr => ∃ (k : Nat) (D : Dsk) (M : Rd) (fa : Option Addr) (fc : Nat) (X : Nat → Prop), k ≤ os.length ∧ i = .int .i64 k ∧ Side w wr w2.heap.size (w2.heap.size + 1) w3.heap.size k D M fa fc X) (fun i _ => os.length - (intOf i).toNat)
      case atStart => exact ⟨0, _, _, _, _, _, by omega, rfl, hS0⟩
      case round =>
        clear hS0
        obtain ⟨k, D, M, fa, fc, X, hk, rfl, hS⟩ := hrel
        by_cases hlt : k < os.length
        · obtain ⟨sb, off, rfl, hc⟩ := h (by omega)
          obtain ⟨z1, z2, z3⟩ := hsm os[k] (List.getElem_mem hlt)
          have z4 := hnn os[k] (List.getElem_mem hlt)
          obtain ⟨ab, cb, h0, h1, h2, h3, h4, q5⟩ := hc k hlt
          have hbw := hS.bel
          replace h0 := cell_later hbw h0
          replace h1 := cell_later hbw h1
          replace h2 := cell_later hbw h2
          replace h3 := cell_later hbw h3
          replace h4 := cell_later hbw h4
          have h5 := q5.later hbw
          have hlx := bs_lt q5
          have hwr := hbw.size
          clear hbw q5
          have hal : Below wr.heap.size wr (wr.alloc (.cells (opc os[k].kd os[k].nm os[k].tn os[k].n ab os[k].dat.length cb) 37)) := (Below.refl _ _).alloc (Nat.le_refl _) _
          have kx := (MapKept.heap_alloc wr (.cells (opc os[k].kd os[k].nm os[k].tn os[k].n ab os[k].dat.length cb) 37)).1
          clear hc
          go_upto_region 14 with fail
          have hS1 := hS.later hal
          have h51 := h5.later hal
          have hszb := hal.size
          clear hal hS h5
          generalize wr.alloc (.cells (opc os[k].kd os[k].nm os[k].tn os[k].n ab os[k].dat.length cb) 37) = wb at kx hS1 h51 hszb ⊢
          have x0 : wb.cell? ⟨wr.heap.size, 0, none⟩ = some (.int .i64 os[k].kd) := cell_row kx 0
          have x1 : wb.cell? ⟨wr.heap.size, 1, none⟩ = some (.string (bstr os[k].nm)) := cell_row kx 1
          have x2 : wb.cell? ⟨wr.heap.size, 2, none⟩ = some (.string (bstr os[k].tn)) := cell_row kx 2
          have x3 : wb.cell? ⟨wr.heap.size, 3, none⟩ = some (.int .i64 os[k].n) := cell_row kx 3
          have x4 : wb.cell? ⟨wr.heap.size, 4, none⟩ = some (.slice ab os[k].dat.length cb) := cell_row kx 4
          clear h0 h1 h2 h3 h4 kx
          have hfg := fp_ge hS1.dk
          have hblt := fp_lt hS1.dk _ (.inl rfl)
          obtain ⟨c0, c1, c2, c3, c4, c5, f0, f1, f2, f3, f4, f5⟩ := c6_of hS1.row
          have hdo := hS1.do (n := os[k].n) (cb := cb) (by omega) (by omega) h51 (fun x ex hl e => by have := hlx x ex hl; have := hfg _ e; omega) (by omega) (show os[k].nm.length ≤ 1000000 by omega) (show os[k].tn.length ≤ 1000000 by omega) z4 os[k].kd
          go_wp2_with fail
          refine hdo.mono ?_
          rintro e w5 ⟨D', n, M', fa', fc', X', hL, hE5, rfl, hD5, hF5, hX5, hFr, hG⟩
          clear hdo x0 x1 x2 x3 x4 c0 c1 c2 c3 c4 c5 f0 f1 f2 f3 f4 f5 h51
          have hal5 : Below w5.heap.size w5 (w5.alloc (.cells #[.int .i64 M'.quota, .int .i64 M'.steps, .int .i64 M'.left, .bool M'.armed, .bool M'.gone, .slice fa' M'.fs.length fc'] 34)) := (Below.refl _ _).alloc (Nat.le_refl _) _
          have hap := hS1.dk.apart hS1.row (by decide) (by decide) (by decide)
          have hr5 : w5.heap[w3.heap.size]? = some (.cells (rcells M fa fc) 34 (0, 0)) := (hFr.block _ (Array.getElem?_eq_some_iff.1 hS1.row).1 fun e => hap _ e rfl).trans hS1.row
          have hr5a := (hal5.block _ (Array.getElem?_eq_some_iff.1 hr5).1).trans hr5
          obtain ⟨c0, c1, c2, c3, c4, c5, f0, f1, f2, f3, f4, f5⟩ := c6_of hr5a
          have hs6 : Wt (w5.alloc (.cells #[.int .i64 M'.quota, .int .i64 M'.steps, .int .i64 M'.left, .bool M'.armed, .bool M'.gone, .slice fa' M'.fs.length fc'] 34)) (((((((w5.alloc (.cells #[.int .i64 M'.quota, .int .i64 M'.steps, .int .i64 M'.left, .bool M'.armed, .bool M'.gone, .slice fa' M'.fs.length fc'] 34)).setCell ⟨w3.heap.size, 0, none⟩ (.int .i64 M'.quota)).setCell ⟨w3.heap.size, 1, none⟩ (.int .i64 M'.steps)).setCell ⟨w3.heap.size, 2, none⟩ (.int .i64 M'.left)).setCell ⟨w3.heap.size, 3, none⟩ (.bool M'.armed)).setCell ⟨w3.heap.size, 4, none⟩ (.bool M'.gone)).setCell ⟨w3.heap.size, 5, none⟩ (.slice fa' M'.fs.length fc')) w3.heap.size (rcells M' fa' fc') 34 := set6_wt (a := .int .i64 M'.quota) (b := .int .i64 M'.steps) (c := .int .i64 M'.left) (d := .bool M'.armed) (e := .bool M'.gone) (f := .slice fa' M'.fs.length fc') hr5a
          have hS6 := hS1.store hw2 hL hE5 (hD5.later hal5) (hF5.later hal5) (fun i hi => ⟨Nat.lt_of_lt_of_le (hX5 i hi).1 hal5.size, (hX5 i hi).2⟩) (hFr.trans (fr_b hal5 _) fun _ _ e => e) (by omega) hs6
          go_upto_region 16 with fail
          clear hs6 c0 c1 c2 c3 c4 c5 f0 f1 f2 f3 f4 f5 hr5a hr5 hal5 hD5 hF5 hX5 hFr hG hS1 hap
          generalize ((((((w5.alloc (.cells #[.int .i64 M'.quota, .int .i64 M'.steps, .int .i64 M'.left, .bool M'.armed, .bool M'.gone, .slice fa' M'.fs.length fc'] 34)).setCell ⟨w3.heap.size, 0, none⟩ (.int .i64 M'.quota)).setCell ⟨w3.heap.size, 1, none⟩ (.int .i64 M'.steps)).setCell ⟨w3.heap.size, 2, none⟩ (.int .i64 M'.left)).setCell ⟨w3.heap.size, 3, none⟩ (.bool M'.armed)).setCell ⟨w3.heap.size, 4, none⟩ (.bool M'.gone)).setCell ⟨w3.heap.size, 5, none⟩ (.slice fa' M'.fs.length fc') = w6 at hS6 ⊢
          obtain ⟨c0, c1, c2, c3, c4, c5, _⟩ := c6_of hS6.row
          have hln := hS6.len
          have hst := stands_d (fc := fc') hS6.dk hS6.eq hS6.fs (by omega)
          go_wp2_with fail
          refine hst.mono ?_
          rintro e w7 ⟨rfl, hb7⟩
          have hS7 := hS6.later hb7
          clear hst hS6 c0 c1 c2 c3 c4 c5
          go_wp2
          exact ⟨⟨k + 1, _, _, _, _, _, by omega, by go_num, hS7⟩, by simp [intOf]; omega⟩
        · obtain rfl : k = os.length := by omega
          obtain ⟨c0, c1, c2, c3, c4, c5, _⟩ := c6_of hS.row
          have hln := hS.len
          have hbl := hS.bel
          have hst := stands_d (fc := fc) hS.dk hS.eq hS.fs (by omega)
          go_wp2_with fail
          refine hst.mono ?_
          rintro e w7 ⟨rfl, hb7⟩
          clear hst hS c0 c1 c2 c3 c4 c5
          go_wp2
          go_ret
          exact ⟨rfl, hbl.trans (hb7.mono hbl.size)⟩
end Go.Proofs.Ytcmgpllnficmdaa

namespace Go.Proofs.Ytcmgpllnficmdaa
open Go.RowKit Go.Maps

theorem bdM2 (w : World) : (Instr.build 34 #[(0, .int .i64 2000)]).run Try.prog w = .ok (rval ⟨2000, 0, 0, false, false, []⟩ none 0) w := by kernel_rfl
theorem Twin.eq {D D2 : Dsk} {M : Rd} (h : Twin D D2) (hE : Eqv D M) : Eqv D2 M := ⟨hE.fs.trans h.vw.symm, hE.q.trans h.qu.symm, hE.s.trans h.st.symm, hE.a.trans h.ar.symm, fun ha => (hE.l (h.ar.symm.trans ha)).trans h.lf.symm, hE.g.trans h.go.symm⟩
theorem Twin.len {D D2 : Dsk} (h : Twin D D2) : D2.fs.length = D.fs.length := by
  have := congrArg List.length h.vw
  simpa [viewF] using this
set_option maxHeartbeats 8000000 in
set_option maxRecDepth 100000 in
theorem copies_walk {w : World} {sa ta : Option Addr} {os ot : List OpD} {sc tc : Nat} (h : OpsAt w sa os) (hn : os.length ≤ maxLen) (hnn : ∀ o ∈ os, o.n < 9223372036854775808) (ht : OpsAt w ta ot) (htn : ot.length ≤ maxLen) (hnt : ∀ o ∈ ot, o.n < 9223372036854775808) :
    Calls Try.prog 6 #[.slice sa os.length sc, .slice ta ot.length tc] w fun e w' => e = .returned (.bool true) ∧ Below w.heap.size w w' := by
  go_enter Try.func6, Try.ntmps6
  go_wp2_with fail
  refine (alive_t w).mono ?_
  rintro e w1 ⟨rfl, hb1⟩
  go_wp2_with fail
  refine (large_d (h.later hb1) hn).mono ?_
  rintro e w2 ⟨bl, rfl, hbl, hb2⟩
  have hb2 : Below w.heap.size w w2 := hb1.trans (hb2.mono hb1.size)
  clear hb1
  cases bl with
  | true =>
    clear hbl
    go_wp2
    go_ret
    exact ⟨rfl, hb2⟩
  | false =>
  obtain ⟨h81, hsm⟩ := hbl rfl
  clear hbl
  go_wp2_with fail
  refine (large_d (ht.later hb2) htn).mono ?_
  rintro e w2b ⟨bl, rfl, hbl, hb2b⟩
  have hb2 : Below w.heap.size w w2b := hb2.trans (hb2b.mono hb2.size)
  clear hb2b
  cases bl with
  | true =>
    clear hbl
    go_wp2
    go_ret
    exact ⟨rfl, hb2⟩
  | false =>
  obtain ⟨t81, htm⟩ := hbl rfl
  clear hbl
  have hnw := new_ok w2b 2000 (by decide) (by decide)
  have hbd := bdM2
  go_wp2_with fail
  refine hnw.mono ?_
  rintro e w3 ⟨rfl, hD, hb3⟩
  clear hnw
  have hw2 := hb2.size
  have hb03 : Below w.heap.size w w3 := hb2.trans (hb3.mono hb2.size)
  have h23 := hb3.size
  have hal : Below w3.heap.size w3 (w3.alloc (.cells (rcells ⟨2000, 0, 0, false, false, []⟩ none 0) 34)) := (Below.refl _ _).alloc (Nat.le_refl _) _
  have hS0 : Side w (w3.alloc (.cells (rcells ⟨2000, 0, 0, false, false, []⟩ none 0) 34)) w2b.heap.size (w2b.heap.size + 1) w3.heap.size 0 (newD 2000 w2b.heap.size) ⟨2000, 0, 0, false, false, []⟩ none 0 (fun _ => False) :=
    ⟨hD.later hal, view_new _ _, (fun hp => absurd hp (by simp)), (fun _ => False.elim), (MapKept.heap_alloc w3 _).1, Nat.le_refl _, Int.le_refl _, hb03.alloc hb03.size _⟩
  clear hb2 hb3 hb03 hal hD
  go_wp2
  go_loopw [31] (fun i wr => ∃ (k : Nat) (D : Dsk) (M : Rd) (fa : Option Addr) (fc : Nat) (X : Nat → Prop), k ≤ os.length ∧ i = .int .i64 k ∧ Side w wr w2b.heap.size (w2b.heap.size + 1) w3.heap.size k D M fa fc X) (fun i _ => os.length - (intOf i).toNat)
  case atStart => exact ⟨0, _, _, _, _, _, by omega, rfl, hS0⟩
  case round =>
    clear hS0
    obtain ⟨k, D, M, fa, fc, X, hk, rfl, hS⟩ := hrel
    by_cases hlt : k < os.length
    · obtain ⟨sb, off, rfl, hc⟩ := h (by omega)
      obtain ⟨z1, z2, z3⟩ := hsm os[k] (List.getElem_mem hlt)
      have z4 := hnn os[k] (List.getElem_mem hlt)
      obtain ⟨ab, cb, h0, h1, h2, h3, h4, q5⟩ := hc k hlt
      have hbw := hS.bel
      replace h0 := cell_later hbw h0
      replace h1 := cell_later hbw h1
      replace h2 := cell_later hbw h2
      replace h3 := cell_later hbw h3
      replace h4 := cell_later hbw h4
      have h5 := q5.later hbw
      have hlx := bs_lt q5
      have hwr := hbw.size
      clear hbw q5
      have hal : Below wr.heap.size wr (wr.alloc (.cells (opc os[k].kd os[k].nm os[k].tn os[k].n ab os[k].dat.length cb) 37)) := (Below.refl _ _).alloc (Nat.le_refl _) _
      have kx := (MapKept.heap_alloc wr (.cells (opc os[k].kd os[k].nm os[k].tn os[k].n ab os[k].dat.length cb) 37)).1
      clear hc
      go_upto_region 12 with fail
      have hS1 := hS.later hal
      have h51 := h5.later hal
      have hszb := hal.size
      clear hal hS h5
      generalize wr.alloc (.cells (opc os[k].kd os[k].nm os[k].tn os[k].n ab os[k].dat.length cb) 37) = wb at kx hS1 h51 hszb ⊢
      have x0 : wb.cell? ⟨wr.heap.size, 0, none⟩ = some (.int .i64 os[k].kd) := cell_row kx 0
      have x1 : wb.cell? ⟨wr.heap.size, 1, none⟩ = some (.string (bstr os[k].nm)) := cell_row kx 1
      have x2 : wb.cell? ⟨wr.heap.size, 2, none⟩ = some (.string (bstr os[k].tn)) := cell_row kx 2
      have x3 : wb.cell? ⟨wr.heap.size, 3, none⟩ = some (.int .i64 os[k].n) := cell_row kx 3
      have x4 : wb.cell? ⟨wr.heap.size, 4, none⟩ = some (.slice ab os[k].dat.length cb) := cell_row kx 4
      clear h0 h1 h2 h3 h4 kx
      have hfg := fp_ge hS1.dk
      have hblt := fp_lt hS1.dk _ (.inl rfl)
      obtain ⟨c0, c1, c2, c3, c4, c5, f0, f1, f2, f3, f4, f5⟩ := c6_of hS1.row
      have hdo := hS1.do (n := os[k].n) (cb := cb) (by omega) (by omega) h51 (fun x ex hl e => by have := hlx x ex hl; have := hfg _ e; omega) (by omega) (show os[k].nm.length ≤ 1000000 by omega) (show os[k].tn.length ≤ 1000000 by omega) z4 os[k].kd
      go_wp2_with fail
      refine hdo.mono ?_
      rintro e w5 ⟨D', n, M', fa', fc', X', hL, hE5, rfl, hD5, hF5, hX5, hFr, hG⟩
      clear hdo x0 x1 x2 x3 x4 c0 c1 c2 c3 c4 c5 f0 f1 f2 f3 f4 f5 h51
      have hap := hS1.dk.apart hS1.row (by decide) (by decide) (by decide)
      have hr5 : w5.heap[w3.heap.size]? = some (.cells (rcells M fa fc) 34 (0, 0)) := (hFr.block _ (Array.getElem?_eq_some_iff.1 hS1.row).1 fun e => hap _ e rfl).trans hS1.row
      obtain ⟨c0, c1, c2, c3, c4, c5, f0, f1, f2, f3, f4, f5⟩ := c6_of hr5
      have hs6 : Wt w5 ((((((w5.setCell ⟨w3.heap.size, 0, none⟩ (.int .i64 M'.quota)).setCell ⟨w3.heap.size, 1, none⟩ (.int .i64 M'.steps)).setCell ⟨w3.heap.size, 2, none⟩ (.int .i64 M'.left)).setCell ⟨w3.heap.size, 3, none⟩ (.bool M'.armed)).setCell ⟨w3.heap.size, 4, none⟩ (.bool M'.gone)).setCell ⟨w3.heap.size, 5, none⟩ (.slice fa' M'.fs.length fc')) w3.heap.size (rcells M' fa' fc') 34 := set6_wt (a := .int .i64 M'.quota) (b := .int .i64 M'.steps) (c := .int .i64 M'.left) (d := .bool M'.armed) (e := .bool M'.gone) (f := .slice fa' M'.fs.length fc') hr5
      have hS6 := hS1.store hw2 hL hE5 hD5 hF5 hX5 hFr (by omega) hs6
      go_upto_region 13 with fail
      clear hs6 c0 c1 c2 c3 c4 c5 f0 f1 f2 f3 f4 f5 hr5 hD5 hF5 hX5 hFr hG hS1 hap
      generalize (((((w5.setCell ⟨w3.heap.size, 0, none⟩ (.int .i64 M'.quota)).setCell ⟨w3.heap.size, 1, none⟩ (.int .i64 M'.steps)).setCell ⟨w3.heap.size, 2, none⟩ (.int .i64 M'.left)).setCell ⟨w3.heap.size, 3, none⟩ (.bool M'.armed)).setCell ⟨w3.heap.size, 4, none⟩ (.bool M'.gone)).setCell ⟨w3.heap.size, 5, none⟩ (.slice fa' M'.fs.length fc') = w6 at hS6 ⊢
      go_wp2
      exact ⟨⟨k + 1, _, _, _, _, _, by omega, by go_num, hS6⟩, by simp [intOf]; omega⟩
    · obtain rfl : k = os.length := by omega
      obtain ⟨wo, rfl⟩ : ∃ wo, wo = wr := ⟨_, rfl⟩
      have hln := hS.len
      have hst := hS.stp
      have hcp := copy_dk hS.dk (by omega)
      clear h hsm hnn hbd
      go_wp2_with fail
      refine hcp.mono ?_
      rintro e wc ⟨b2, D2, rfl, hTw, hD2, hbc⟩
      clear hcp
      have hSc := hS.later hbc
      have hfl := fp_lt hS.dk
      have hwr := hS.bel.size
      have hwc := hbc.size
      have hgw := hSc.bel.size
      obtain ⟨c0, c1, c2, c3, c4, c5, _⟩ := c6_of hSc.row
      have hal : Below wc.heap.size wc (wc.alloc (.cells #[.int .i64 M.quota, .int .i64 M.steps, .int .i64 M.left, .bool M.armed, .bool M.gone, .slice fa M.fs.length fc] 34)) := (Below.refl _ _).alloc (Nat.le_refl _) _
      have hT0 : Side wo (wc.alloc (.cells #[.int .i64 M.quota, .int .i64 M.steps, .int .i64 M.left, .bool M.armed, .bool M.gone, .slice fa M.fs.length fc] 34)) wo.heap.size b2 wc.heap.size os.length D2 M fa fc X :=
        ⟨hD2.later hal, hTw.eq hS.eq, hSc.fs.later hal, fun i hi => ⟨Nat.lt_of_lt_of_le (hSc.hX i hi).1 hal.size, fun e => by have := (hS.hX i hi).1; have := fp_ge hD2 i e; omega⟩, (MapKept.heap_alloc wc _).1, by rw [hTw.len]; exact hln, by rw [hTw.st]; exact hst, hbc.alloc hbc.size _⟩
      have htr : OpsAt wo ta ot := ht.later hS.bel
      have HS := hide1 hS
      clear hS hSc hal hD2 hbc hfl ht
      go_wp2
      clear c0 c1 c2 c3 c4 c5
      go_loopw [50] (fun i wr => ∃ (k : Nat) (E : Dsk) (L : Rd) (ga : Option Addr) (gc : Nat) (Y : Nat → Prop), k ≤ ot.length ∧ i = .int .i64 k ∧ Side wo wr wo.heap.size b2 wc.heap.size (os.length + k) E L ga gc Y) (fun i _ => ot.length - (intOf i).toNat)
      case atStart => exact ⟨0, _, _, _, _, _, by omega, rfl, hT0⟩
      case round =>
        clear hT0
        obtain ⟨j, E, L, ga, gc, Y, hj, rfl, hT⟩ := hrel
        by_cases hlj : j < ot.length
        · obtain ⟨sb, off, rfl, hc⟩ := htr (by omega)
          obtain ⟨z1, z2, z3⟩ := htm ot[j] (List.getElem_mem hlj)
          have z4 := hnt ot[j] (List.getElem_mem hlj)
          obtain ⟨ab, cb, h0, h1, h2, h3, h4, q5⟩ := hc j hlj
          have hbw := hT.bel
          replace h0 := cell_later hbw h0
          replace h1 := cell_later hbw h1
          replace h2 := cell_later hbw h2
          replace h3 := cell_later hbw h3
          replace h4 := cell_later hbw h4
          have h5 := q5.later hbw
          have hlx := bs_lt q5
          have hwr := hbw.size
          clear hbw q5
          have hal : Below wr.heap.size wr (wr.alloc (.cells (opc ot[j].kd ot[j].nm ot[j].tn ot[j].n ab ot[j].dat.length cb) 37)) := (Below.refl _ _).alloc (Nat.le_refl _) _
          have kx := (MapKept.heap_alloc wr (.cells (opc ot[j].kd ot[j].nm ot[j].tn ot[j].n ab ot[j].dat.length cb) 37)).1
          clear hc
          go_upto_region 19 with fail
          have hT1 := hT.later hal
          have h51 := h5.later hal
          have hszb := hal.size
          clear hal hT h5
          generalize wr.alloc (.cells (opc ot[j].kd ot[j].nm ot[j].tn ot[j].n ab ot[j].dat.length cb) 37) = wb at kx hT1 h51 hszb ⊢
          have x0 : wb.cell? ⟨wr.heap.size, 0, none⟩ = some (.int .i64 ot[j].kd) := cell_row kx 0
          have x1 : wb.cell? ⟨wr.heap.size, 1, none⟩ = some (.string (bstr ot[j].nm)) := cell_row kx 1
          have x2 : wb.cell? ⟨wr.heap.size, 2, none⟩ = some (.string (bstr ot[j].tn)) := cell_row kx 2
          have x3 : wb.cell? ⟨wr.heap.size, 3, none⟩ = some (.int .i64 ot[j].n) := cell_row kx 3
          have x4 : wb.cell? ⟨wr.heap.size, 4, none⟩ = some (.slice ab ot[j].dat.length cb) := cell_row kx 4
          clear h0 h1 h2 h3 h4 kx
          have hfg := fp_ge hT1.dk
          have hblt := fp_lt hT1.dk _ (.inl rfl)
          obtain ⟨c0, c1, c2, c3, c4, c5, f0, f1, f2, f3, f4, f5⟩ := c6_of hT1.row
          have hdo := hT1.do (n := ot[j].n) (cb := cb) (by omega) (by omega) h51 (fun x ex hl e => by have := hlx x ex hl; have := hfg _ e; omega) (by omega) (show ot[j].nm.length ≤ 1000000 by omega) (show ot[j].tn.length ≤ 1000000 by omega) z4 ot[j].kd
          go_wp2_with fail
          refine hdo.mono ?_
          rintro e w5 ⟨D', n, L', ga', gc', X', hL, hE5, rfl, hD5, hF5, hX5, hFr, hG⟩
          clear hdo x0 x1 x2 x3 x4 c0 c1 c2 c3 c4 c5 f0 f1 f2 f3 f4 f5 h51
          have hap := hT1.dk.apart hT1.row (by decide) (by decide) (by decide)
          have hr5 : w5.heap[wc.heap.size]? = some (.cells (rcells L ga gc) 34 (0, 0)) := (hFr.block _ (Array.getElem?_eq_some_iff.1 hT1.row).1 fun e => hap _ e rfl).trans hT1.row
          obtain ⟨c0, c1, c2, c3, c4, c5, f0, f1, f2, f3, f4, f5⟩ := c6_of hr5
          have hs6 : Wt w5 ((((((w5.setCell ⟨wc.heap.size, 0, none⟩ (.int .i64 L'.quota)).setCell ⟨wc.heap.size, 1, none⟩ (.int .i64 L'.steps)).setCell ⟨wc.heap.size, 2, none⟩ (.int .i64 L'.left)).setCell ⟨wc.heap.size, 3, none⟩ (.bool L'.armed)).setCell ⟨wc.heap.size, 4, none⟩ (.bool L'.gone)).setCell ⟨wc.heap.size, 5, none⟩ (.slice ga' L'.fs.length gc')) wc.heap.size (rcells L' ga' gc') 34 := set6_wt (a := .int .i64 L'.quota) (b := .int .i64 L'.steps) (c := .int .i64 L'.left) (d := .bool L'.armed) (e := .bool L'.gone) (f := .slice ga' L'.fs.length gc') hr5
          have hT6 := hT1.store (Nat.le_refl _) hL hE5 hD5 hF5 hX5 hFr (by omega) hs6
          go_upto_region 20 with fail
          clear hs6 c0 c1 c2 c3 c4 c5 f0 f1 f2 f3 f4 f5 hr5 hD5 hF5 hX5 hFr hG hT1 hap
          generalize (((((w5.setCell ⟨wc.heap.size, 0, none⟩ (.int .i64 L'.quota)).setCell ⟨wc.heap.size, 1, none⟩ (.int .i64 L'.steps)).setCell ⟨wc.heap.size, 2, none⟩ (.int .i64 L'.left)).setCell ⟨wc.heap.size, 3, none⟩ (.bool L'.armed)).setCell ⟨wc.heap.size, 4, none⟩ (.bool L'.gone)).setCell ⟨wc.heap.size, 5, none⟩ (.slice ga' L'.fs.length gc') = w6 at hT6 ⊢
          go_wp2
          exact ⟨⟨j + 1, _, _, _, _, _, by omega, by go_num, hT6⟩, by simp [intOf]; omega⟩
        · obtain rfl : j = ot.length := by omega
          have hS := HS.out
          have hS2 : Side w wr w2b.heap.size (w2b.heap.size + 1) w3.heap.size os.length D M fa fc X := hS.later hT.bel
          obtain ⟨c0, c1, c2, c3, c4, c5, _⟩ := c6_of hS2.row
          obtain ⟨d0, d1, d2, d3, d4, d5, _⟩ := c6_of hT.row
          have hl2 := hT.len
          have hbl := hS2.bel
          have hs1 := stands_d (fc := fc) hS2.dk hS2.eq hS2.fs (by omega)
          go_wp2_with fail
          refine hs1.mono ?_
          rintro e w7 ⟨rfl, hb7⟩
          have hT7 := hT.later hb7
          clear hs1 hS2 hS c0 c1 c2 c3 c4 c5 d0 d1 d2 d3 d4 d5
          obtain ⟨d0, d1, d2, d3, d4, d5, _⟩ := c6_of hT7.row
          have hs2 := stands_d (fc := gc) hT7.dk hT7.eq hT7.fs (by omega)
          go_wp2_with fail
          refine hs2.mono ?_
          rintro e w8 ⟨rfl, hb8⟩
          clear hs2 hT hT7 d0 d1 d2 d3 d4 d5
          go_wp2
          go_ret
          have hb78 : Below w.heap.size w w7 := hbl.trans (hb7.mono hbl.size)
          exact ⟨rfl, hb78.trans (hb8.mono hb78.size)⟩
end Go.Proofs.Ytcmgpllnficmdaa

namespace Go.Proofs.Ytcmgpllnficmdaa
open Go.RowKit Go.Maps

theorem twin_names {D D2 : Dsk} (h : Twin D D2) : D2.fs.map (·.1) = D.fs.map (·.1) := by
  have := congrArg (List.map Rf.nm) h.vw
  simpa [viewF, fileR, Function.comp_def] using this
theorem twin_file {D D2 : Dsk} (h : Twin D D2) {w' : World} {base' b' : Nat} (hd2 : DkAt w' base' b' D2) {p : Fn} (hp : p ∈ D.fs) : ∃ p2 ∈ D2.fs, p2.1 = p.1 ∧ findF p.1 D2.fs = some p2 ∧ (D2.ct p2.2).dat = (D.ct p.2).dat := by
  have hm : fileR D.ct p ∈ viewF D2.fs D2.ct := by rw [h.vw]; exact List.mem_map.2 ⟨p, hp, rfl⟩
  obtain ⟨p2, hp2, e⟩ := List.mem_map.1 hm
  have e1 : p2.1 = p.1 := congrArg Rf.nm e
  exact ⟨p2, hp2, e1, by rw [← e1]; exact hd2.find hp2, congrArg Rf.dat e⟩
theorem keep_all {c : Fc} (h : c.dat.length ≤ 16777216) : keepN c 1073741824 = c.dat.length := by
  unfold keepN
  rw [if_neg (by omega)]
/-- What the two disks hold behind the crash: of each file of the one what is left, of the other all. -/
structure Two (w wr : World) (base b base2 b2 : Nat) (fs : List Fn) (D E : Dsk) : Prop where
  d1 : DkAt wr base b D
  d2 : DkAt wr base2 b2 E
  g1 : D.gone = false
  g2 : E.gone = false
  fl : D.fs = fs
  fi : ∀ p ∈ fs, ∃ p2 dat k, findF p.1 D.fs = some p ∧ findF p.1 E.fs = some p2 ∧ (E.ct p2.2).dat = dat ∧ k ≤ dat.length ∧ (D.ct p.2).dat = dat.take k ∧ (D.ct p.2).sure = k
  bel : Below w.heap.size w wr
theorem Two.later {w wr w' : World} {base b base2 b2 : Nat} {fs : List Fn} {D E : Dsk} (h : Two w wr base b base2 b2 fs D E) (hb : Below wr.heap.size wr w') : Two w w' base b base2 b2 fs D E :=
  ⟨h.d1.later hb, h.d2.later hb, h.g1, h.g2, h.fl, h.fi, h.bel.trans (hb.mono h.bel.size)⟩
theorem rd_ok {D : Dsk} {nm : List UInt8} {ys : List Int} {n : Int} {p : Fn} (h : RdO D nm ys n) (hg : D.gone = false) (hf : findF nm D.fs = some p) : ys = (D.ct p.2).dat ∧ n = 0 := by
  rcases h with ⟨h1, _⟩ | ⟨_, h1, _⟩ | ⟨_, p', h1, h2, h3⟩
  · rw [hg] at h1; cases h1
  · rw [hf] at h1; cases h1
  · rw [hf] at h1
    cases h1
    exact ⟨h2, h3⟩
set_option maxHeartbeats 8000000 in
set_option maxRecDepth 100000 in
theorem keeps_walk {w : World} {sa : Option Addr} {os : List OpD} {sc : Nat} (h : OpsAt w sa os) (hn : os.length ≤ maxLen) (hnn : ∀ o ∈ os, o.n < 9223372036854775808) (q keep : Int) :
    Calls Try.prog 4 #[.int .i64 q, .slice sa os.length sc, .int .i64 keep] w fun e w' => e = .returned (.bool true) ∧ Below w.heap.size w w' := by
  go_enter Try.func4, Try.ntmps4
  go_wp2_with fail
  refine (alive_t w).mono ?_
  rintro e w1 ⟨rfl, hb1⟩
  go_wp2_with fail
  refine (large_d (h.later hb1) hn).mono ?_
  rintro e w2 ⟨bl, rfl, hbl, hb2⟩
  have hb2 : Below w.heap.size w w2 := hb1.trans (hb2.mono hb1.size)
  clear hb1
  cases bl with
  | true =>
    clear hbl
    go_wp2
    go_ret
    exact ⟨rfl, hb2⟩
  | false =>
  obtain ⟨h81, hsm⟩ := hbl rfl
  clear hbl
  by_cases hq : q < 0 ∨ 16777216 < q
  · have hnw := new_no w2 q hq
    clear hq
    go_wp2_with fail
    refine hnw.mono ?_
    rintro e w3 ⟨rfl, rfl⟩
    clear hnw
    go_wp2_with fail
    refine (is_e 2 (by decide) _).mono ?_
    rintro e w4 ⟨rfl, rfl⟩
    go_wp2
    go_ret
    exact ⟨rfl, hb2⟩
  have hq0 : 0 ≤ q := by omega
  have hq1 : q ≤ 16777216 := by omega
  have hnw := new_ok w2 q hq0 hq1
  have hbd := bdM q
  clear hq
  go_wp2_with fail
  refine hnw.mono ?_
  rintro e w3 ⟨rfl, hD, hb3⟩
  clear hnw
  have hw2 := hb2.size
  have hb03 : Below w.heap.size w w3 := hb2.trans (hb3.mono hb2.size)
  have h23 := hb3.size
  have hal : Below w3.heap.size w3 (w3.alloc (.cells (rcells ⟨q, 0, 0, false, false, []⟩ none 0) 34)) := (Below.refl _ _).alloc (Nat.le_refl _) _
  have hS0 : Side w (w3.alloc (.cells (rcells ⟨q, 0, 0, false, false, []⟩ none 0) 34)) w2.heap.size (w2.heap.size + 1) w3.heap.size 0 (newD q w2.heap.size) ⟨q, 0, 0, false, false, []⟩ none 0 (fun _ => False) :=
    ⟨hD.later hal, view_new _ _, (fun hp => absurd hp (by simp)), (fun _ => False.elim), (MapKept.heap_alloc w3 _).1, Nat.le_refl _, Int.le_refl _, hb03.alloc hb03.size _⟩
  clear hb2 hb3 hb03 hal hD
  go_wp2
  go_loopw [37] (fun i wr => ∃ (k : Nat) (D : Dsk) (M : Rd) (fa : Option Addr) (fc : Nat) (X : Nat → Prop), k ≤ os.length ∧ i = .int .i64 k ∧ Side w wr w2.heap.size (w2.heap.size + 1) w3.heap.size k D M fa fc X) (fun i _ => os.length - (intOf i).toNat)
  case atStart => exact ⟨0, _, _, _, _, _, by omega, rfl, hS0⟩
  case round =>
    clear hS0
    obtain ⟨k, D, M, fa, fc, X, hk, rfl, hS⟩ := hrel
    by_cases hlt : k < os.length
    · obtain ⟨sb, off, rfl, hc⟩ := h (by omega)
      obtain ⟨z1, z2, z3⟩ := hsm os[k] (List.getElem_mem hlt)
      have z4 := hnn os[k] (List.getElem_mem hlt)
      obtain ⟨ab, cb, h0, h1, h2, h3, h4, q5⟩ := hc k hlt
      have hbw := hS.bel
      replace h0 := cell_later hbw h0
      replace h1 := cell_later hbw h1
      replace h2 := cell_later hbw h2
      replace h3 := cell_later hbw h3
      replace h4 := cell_later hbw h4
      have h5 := q5.later hbw
      have hlx := bs_lt q5
      have hwr := hbw.size
      clear hbw q5
      have hal : Below wr.heap.size wr (wr.alloc (.cells (opc os[k].kd os[k].nm os[k].tn os[k].n ab os[k].dat.length cb) 37)) := (Below.refl _ _).alloc (Nat.le_refl _) _
      have kx := (MapKept.heap_alloc wr (.cells (opc os[k].kd os[k].nm os[k].tn os[k].n ab os[k].dat.length cb) 37)).1
      clear hc
      go_upto_region 12 with fail
      have hS1 := hS.later hal
      have h51 := h5.later hal
      have hszb := hal.size
      clear hal hS h5
      generalize wr.alloc (.cells (opc os[k].kd os[k].nm os[k].tn os[k].n ab os[k].dat.length cb) 37) = wb at kx hS1 h51 hszb ⊢
      have x0 : wb.cell? ⟨wr.heap.size, 0, none⟩ = some (.int .i64 os[k].kd) := cell_row kx 0
      have x1 : wb.cell? ⟨wr.heap.size, 1, none⟩ = some (.string (bstr os[k].nm)) := cell_row kx 1
      have x2 : wb.cell? ⟨wr.heap.size, 2, none⟩ = some (.string (bstr os[k].tn)) := cell_row kx 2
      have x3 : wb.cell? ⟨wr.heap.size, 3, none⟩ = some (.int .i64 os[k].n) := cell_row kx 3
      have x4 : wb.cell? ⟨wr.heap.size, 4, none⟩ = some (.slice ab os[k].dat.length cb) := cell_row kx 4
      clear h0 h1 h2 h3 h4 kx
      have hfg := fp_ge hS1.dk
      have hblt := fp_lt hS1.dk _ (.inl rfl)
      obtain ⟨c0, c1, c2, c3, c4, c5, f0, f1, f2, f3, f4, f5⟩ := c6_of hS1.row
      have hdo := hS1.do (n := os[k].n) (cb := cb) (by omega) (by omega) h51 (fun x ex hl e => by have := hlx x ex hl; have := hfg _ e; omega) (by omega) (show os[k].nm.length ≤ 1000000 by omega) (show os[k].tn.length ≤ 1000000 by omega) z4 os[k].kd
      go_wp2_with fail
      refine hdo.mono ?_
      rintro e w5 ⟨D', n, M', fa', fc', X', hL, hE5, rfl, hD5, hF5, hX5, hFr, hG⟩
      clear hdo x0 x1 x2 x3 x4 c0 c1 c2 c3 c4 c5 f0 f1 f2 f3 f4 f5 h51
      have hap := hS1.dk.apart hS1.row (by decide) (by decide) (by decide)
      have hr5 : w5.heap[w3.heap.size]? = some (.cells (rcells M fa fc) 34 (0, 0)) := (hFr.block _ (Array.getElem?_eq_some_iff.1 hS1.row).1 fun e => hap _ e rfl).trans hS1.row
      obtain ⟨c0, c1, c2, c3, c4, c5, f0, f1, f2, f3, f4, f5⟩ := c6_of hr5
      have hs6 : Wt w5 ((((((w5.setCell ⟨w3.heap.size, 0, none⟩ (.int .i64 M'.quota)).setCell ⟨w3.heap.size, 1, none⟩ (.int .i64 M'.steps)).setCell ⟨w3.heap.size, 2, none⟩ (.int .i64 M'.left)).setCell ⟨w3.heap.size, 3, none⟩ (.bool M'.armed)).setCell ⟨w3.heap.size, 4, none⟩ (.bool M'.gone)).setCell ⟨w3.heap.size, 5, none⟩ (.slice fa' M'.fs.length fc')) w3.heap.size (rcells M' fa' fc') 34 := set6_wt (a := .int .i64 M'.quota) (b := .int .i64 M'.steps) (c := .int .i64 M'.left) (d := .bool M'.armed) (e := .bool M'.gone) (f := .slice fa' M'.fs.length fc') hr5
      have hS6 := hS1.store hw2 hL hE5 hD5 hF5 hX5 hFr (by omega) hs6
      go_upto_region 13 with fail
      clear hs6 c0 c1 c2 c3 c4 c5 f0 f1 f2 f3 f4 f5 hr5 hD5 hF5 hX5 hFr hG hS1 hap
      generalize (((((w5.setCell ⟨w3.heap.size, 0, none⟩ (.int .i64 M'.quota)).setCell ⟨w3.heap.size, 1, none⟩ (.int .i64 M'.steps)).setCell ⟨w3.heap.size, 2, none⟩ (.int .i64 M'.left)).setCell ⟨w3.heap.size, 3, none⟩ (.bool M'.armed)).setCell ⟨w3.heap.size, 4, none⟩ (.bool M'.gone)).setCell ⟨w3.heap.size, 5, none⟩ (.slice fa' M'.fs.length fc') = w6 at hS6 ⊢
      go_wp2
      exact ⟨⟨k + 1, _, _, _, _, _, by omega, by go_num, hS6⟩, by simp [intOf]; omega⟩
    · obtain rfl : k = os.length := by omega
      obtain ⟨wo, rfl⟩ : ∃ wo, wo = wr := ⟨_, rfl⟩
      have hln := hS.len
      have hdo := hS.dk
      have hcp := copy_dk hS.dk (by omega)
      have hbo := hS.bel
      clear h hsm hnn hbd hS
      go_wp2_with fail
      refine hcp.mono ?_
      rintro e wc ⟨b2, D2, rfl, hTw, hD2, hbc⟩
      clear hcp
      have hdc := hdo.later hbc
      go_wp2_with fail
      refine (steps_d hdc).mono ?_
      rintro e wc ⟨rfl, rfl⟩
      go_wp2_with fail
      refine (crash_pa hdc keep).mono ?_
      rintro e w5 ⟨D5, ⟨D1, hC1, e5⟩, rfl, hD5, hF5, hG5⟩
      have hfl := fp_lt hdo
      have hfg := fp_ge hdo
      have hg2 := fp_ge hD2
      have hwo := hbo.size
      have hwc := hbc.size
      have hl2c := fp_lt hD2
      have hle : ∀ i, fp (w2.heap.size + 1) D5 i → ¬ fp b2 D2 i := fun i h1 h2 => by
        have := hg2 i h2
        have := hl2c i h2
        rcases hG5 i h1 with h3 | h3
        · have := hfl i h3; omega
        · omega
      have hE5 : DkAt w5 wo.heap.size b2 D2 := hD2.fr hF5 fun i hi e => by have := hg2 i hi; have := hfl i e; omega
      have hb05 : Below w.heap.size w w5 := (hbo.trans (hbc.mono hwo)).trans (hF5.below _ (by omega) fun i e => by have := hfg i e; omega)
      have eg : D5.gone = false := by rw [e5]; rfl
      have es : D5.steps = D.steps := by rw [e5]; show D1.steps = D.steps; rw [hC1.1]
      have ef : D5.fs = D.fs := by rw [e5]; show D1.fs = D.fs; rw [hC1.1]
      have ec : ∀ p ∈ D.fs, (D5.ct p.2).dat = (D.ct p.2).dat.take (keepN (D.ct p.2) (mx keep)) ∧ (D5.ct p.2).sure = keepN (D.ct p.2) (mx keep) := fun p hp => by rw [e5]; exact hC1.2 p hp
      have hks : ∀ p ∈ D.fs, keepN (D.ct p.2) (mx keep) ≤ (D.ct p.2).dat.length := fun p hp => keepN_le _ _ (hdo.fil p hp).sur
      have htf := fun (p : Fn) (hp : p ∈ D.fs) => twin_file hTw hD2 hp
      have hnm := twin_names hTw
      have hl2 : D2.fs.length ≤ 1000000 := by rw [hTw.len]; omega
      have hn1 : D5.fs.map (·.1) = D.fs.map (·.1) := by rw [ef]
      have hn5 := fun (w' : World) (hb' : Below w5.heap.size w5 w') => names_d (hD5.later hb') (by rw [ef]; omega)
      have hn2 := fun (w' : World) (hb' : Below w5.heap.size w5 w') => names_d (hE5.later hb') hl2
      rw [hn1] at hn5
      rw [hnm] at hn2
      have hdn := down_d hD5
      rw [eg] at hdn
      have hsp := steps_d hD5
      rw [es] at hsp
      replace eg := hide1 eg
      replace ef := hide1 ef
      replace e5 := hide1 e5
      replace ec := hide1 ec
      replace hks := hide1 hks
      replace htf := hide1 htf
      have HTw := hide1 hTw
      have Hdo := hide1 hdo
      clear hF5 hG5 hC1 hTw hD2 hdc hdo hbc hbo es hnm hn1
      go_wp2_with fail
      refine hdn.mono ?_
      rintro e w5 ⟨rfl, rfl⟩
      go_wp2_with fail
      refine hsp.mono ?_
      rintro e w5 ⟨rfl, rfl⟩
      go_wp2_with fail
      refine (hn5 _ (Below.refl _ _)).mono ?_
      rintro e w6 ⟨v6, rfl, hx6, hb6⟩
      go_wp2_with fail
      refine (hn2 _ hb6).mono ?_
      rintro e w7 ⟨v7, rfl, hx7, hb7⟩
      have hx67 := hx6.later hb7
      obtain ⟨a6, c6, rfl, ht6⟩ := hx67.formN (List.length_map ..)
      obtain ⟨a7, c7, rfl, ht7⟩ := hx7.formN (List.length_map ..)
      have htx := texts_d (ca := c6) (cb := c7) ht6 ht7 (by simp; omega)
      rw [List.length_map] at htx
      have hb57 : Below w5.heap.size w5 w7 := hb6.trans (hb7.mono hb6.size)
      clear hn5 hn2 hdn hsp hx6 hx7 hx67 hb6 hb7 ht6 ht7
      go_wp2_with fail
      refine htx.mono ?_
      rintro e w8 ⟨rfl, n8, rfl⟩
      clear htx
      have hb58 : Below w5.heap.size w5 (w7.drewN n8) := hb57.trans ((below_drewN w7 n8).mono hb57.size)
      have hcr := crash_pa (hE5.later hb58) 1073741824
      have hD58 := hD5.later hb58
      have hb08 : Below w.heap.size w (w7.drewN n8) := hb05.trans (hb58.mono hb05.size)
      have hs58 := hb58.size
      have hge := fp_ge hE5
      have hq5 := hE5.qt
      have hll : ∀ p ∈ D2.fs, (D2.ct p.2).dat.length ≤ 16777216 := fun p hp => by have := len_le hE5 hp; omega
      have hfd : ∀ p ∈ D.fs, findF p.1 D5.fs = some p := fun p hp => hD5.find (by rw [ef.out]; exact hp)
      clear hE5 hD5 hb58 hb57 hb05
      generalize w7.drewN n8 = w8 at *
      go_wp2_with fail
      refine hcr.mono ?_
      rintro e w9 ⟨E9, ⟨E1, hC2, e9⟩, rfl, hE9, hF9, hG9⟩
      have hD9 := hD58.fr hF9 hle
      have eg9 : E9.gone = false := by rw [e9]; rfl
      have ef9 : E9.fs = D2.fs := by rw [e9]; show E1.fs = D2.fs; rw [hC2.1]
      have hw8 := hb08.size
      have hT9 : Two w9 w9 w2.heap.size (w2.heap.size + 1) wo.heap.size b2 D.fs D5 E9 := by
        refine ⟨hD9, hE9, eg.out, eg9, ef.out, fun p hp => ?_, Below.refl _ _⟩
        obtain ⟨p2, hp2, e1, e2, e3⟩ := htf.out p hp
        refine ⟨p2, (D.ct p.2).dat, keepN (D.ct p.2) (mx keep), hfd p hp, by rw [ef9]; exact e2, ?_, hks.out p hp, (ec.out p hp).1, (ec.out p hp).2⟩
        have hm : mx 1073741824 = 1073741824 := rfl
        have h9 := (hC2.2 p2 hp2).1
        rw [hm, keep_all (hll p2 hp2), List.take_length] at h9
        rw [e9]
        exact h9.trans e3
      have hb09 : Below w.heap.size w w9 := hb08.trans (hF9.below _ hw8 fun i e => by have := hge i e; omega)
      have hnm := names_d hD9 (by rw [ef.out]; omega)
      rw [ef.out] at hnm
      clear hcr hC2 hF9 hG9 hE9 hD9 hD58 hle hge hb08 e9 eg9 ef9 hll hfd hq5
      go_wp2_with fail
      refine hnm.mono ?_
      rintro e w10 ⟨v10, rfl, hx10, hb10⟩
      obtain ⟨a10, c10, rfl, ht10⟩ := hx10.formN (List.length_map ..)
      have hT10 := hT9.later hb10
      have hT11 : Two w10 w10 w2.heap.size (w2.heap.size + 1) wo.heap.size b2 D.fs D5 E9 := ⟨hT10.d1, hT10.d2, hT10.g1, hT10.g2, hT10.fl, hT10.fi, Below.refl _ _⟩
      have hb010 : Below w.heap.size w w10 := hb09.trans (hb10.mono hb09.size)
      clear hnm hT9 hT10 hx10 hb10 hb09
      go_wp2
      go_loopw [79] (fun i wr => ∃ k : Nat, k ≤ D.fs.length ∧ i = .int .i64 k ∧ Two w10 wr w2.heap.size (w2.heap.size + 1) wo.heap.size b2 D.fs D5 E9) (fun i _ => D.fs.length - (intOf i).toNat)
      case atStart => exact ⟨0, by omega, rfl, hT11⟩
      case round =>
        clear hT11
        obtain ⟨k, hk, rfl, hT⟩ := hrel
        by_cases hlt : k < D.fs.length
        · have hp : D.fs[k] ∈ D.fs := List.getElem_mem hlt
          obtain ⟨g, off, rfl, hcc⟩ := ht10 (by simp; omega)
          have hc := cell_later hT.bel (hcc k (by simpa using hlt))
          rw [List.getElem_map] at hc
          obtain ⟨p2, dat, kk, f1, f2, e1, hkk, e2, e3⟩ := hT.fi _ hp
          have hds : (bstr D.fs[k].1).size ≤ maxLen := Hdo.out.short hp
          have r1 := read_all hT.d2 hds
          have hq := hT.d2.qt
          have hlen := len_le hT.d2 (find_mem f2).1
          rw [e1] at hlen
          have h25 : dat.length ≤ 16777216 := by omega
          generalize D.fs[k] = p at *
          clear hcc hq hlen
          go_wp2_with fail
          refine r1.mono ?_
          rintro e w11 ⟨va, ys, n1, hR, rfl, hov, hyb, hb11⟩
          obtain ⟨rfl, rfl⟩ := rd_ok hR hT.g2 f2
          rw [e1] at hov hyb
          obtain ⟨aa, ca, hva, rfl⟩ := bs_own2 hov hyb
          have hca : dat.length ≤ ca := (own_cap hov rfl).1
          have hT1 := hT.later hb11
          have r2 := read_all hT1.d1 hds
          clear r1 hR hov
          go_wp2_with fail
          refine r2.mono ?_
          rintro e w12 ⟨vb, ys, n2, hR, rfl, hov, hyb2, hb12⟩
          obtain ⟨rfl, rfl⟩ := rd_ok hR hT1.g1 f1
          rw [e2] at hov hyb2
          have hkl : (dat.take kk).length = kk := by simp; omega
          rw [hkl] at hov
          obtain ⟨ab, cb, hvb, rfl⟩ := bs_own2 hov hyb2
          have hT2 := hT1.later hb12
          have hva2 := hva.later hb12
          have k1 : ∀ n, (convert 35 9 (.slice aa kk ca)).run Try.prog (w12.drewN n) = .ok (.string (strOfNums (dat.take kk))) (w12.drewN n) := fun n => conv_bs ((hva2.less kk hkk).later (below_drewN w12 n)) ca
          have k2 : ∀ n, (convert 35 9 (.slice ab kk cb)).run Try.prog (w12.drewN n) = .ok (.string (strOfNums (dat.take kk))) (w12.drewN n) := fun n => conv_bs (hvb.later (below_drewN w12 n)) cb
          have hsu : ∀ n, Calls Try.prog 22 #[pD (w2.heap.size + 1), .string (bstr p.1)] (w12.drewN n) fun e w' => e = .returned (.int .i64 (kk : Int)) ∧ w' = w12.drewN n := fun n => by
            have := sure_s (hT2.d1.later (below_drewN w12 n)) hds f1
            rwa [e3] at this
          have e0 : eV 0 = .nilIface := rfl
          have hle1 : (kk : Int) ≤ (dat.length : Int) := by omega
          have hle2 : (kk : Int) ≤ (ca : Int) := by omega
          rw [e0]
          generalize strOfNums (dat.take kk) = ss at *
          clear r2 hR hov hva hva2 hvb hyb hyb2 hT hT1 e0 hkl
          go_upto_region 25 with fail
          go_quiet ((go_at_call 22; refine Calls.quiet_of_same (hsu _)))
          have hT3 := hT2.later (below_drewN w12 nq)
          go_wp2
          exact ⟨⟨k + 1, by omega, by go_num, hT3⟩, by simp [intOf]; omega⟩
        · obtain rfl : k = D.fs.length := by omega
          have hbl := hT.bel
          go_wp2
          go_ret
          exact ⟨rfl, hb010.trans (hbl.mono hb010.size)⟩
end Go.Proofs.Ytcmgpllnficmdaa

namespace Go.Proofs.Ytcmgpllnficmdaa
open Go.RowKit Go.Maps

theorem lens_take {fs : List Fn} (ct : Nat → Fc) {k : Nat} (h : k < fs.length) : lens (fs.take (k + 1)) ct = lens (fs.take k) ct + (ct fs[k].2).dat.length := by
  unfold lens
  rw [List.take_succ_eq_append_getElem h, List.map_append, List.sum_append]
  simp
theorem lens_le (fs : List Fn) (ct : Nat → Fc) (k : Nat) : lens (fs.take k) ct ≤ lens fs ct := by
  have h1 : lens fs ct = lens (fs.take k) ct + lens (fs.drop k) ct := by
    unfold lens
    rw [← List.sum_append, ← List.map_append, List.take_append_drop]
  have := lens_nn (fs.drop k) ct
  omega
theorem new_mok {q : Int} (h0 : 0 ≤ q) (h1 : q ≤ 16777216) : MOk ⟨q, 0, 0, false, false, []⟩ := ⟨by simp, by simp, (fun h => by cases h), ⟨h0, h1⟩, by simp [usedR], by simp⟩
/-- A disk on the way. -/
structure Alone (w wr : World) (base b k : Nat) (q : Int) (D : Dsk) : Prop where
  dk : DkAt wr base b D
  qu : D.quota = q
  len : D.fs.length ≤ k
  stp : D.steps ≤ k
  bel : Below w.heap.size w wr
theorem Alone.later {w wr w' : World} {base b k : Nat} {q : Int} {D : Dsk} (h : Alone w wr base b k q D) (hb : Below wr.heap.size wr w') : Alone w w' base b k q D :=
  ⟨h.dk.later hb, h.qu, h.len, h.stp, h.bel.trans (hb.mono h.bel.size)⟩
/-- A disk and its copy with all that was. -/
structure Whole2 (w wr : World) (base b base2 b2 : Nat) (D E : Dsk) : Prop where
  d1 : DkAt wr base b D
  d2 : DkAt wr base2 b2 E
  g2 : E.gone = false
  fi : ∀ p ∈ D.fs, ∃ p2, findF p.1 E.fs = some p2 ∧ (E.ct p2.2).dat = (D.ct p.2).dat
  bel : Below w.heap.size w wr
theorem Whole2.later {w wr w' : World} {base b base2 b2 : Nat} {D E : Dsk} (h : Whole2 w wr base b base2 b2 D E) (hb : Below wr.heap.size wr w') : Whole2 w w' base b base2 b2 D E :=
  ⟨h.d1.later hb, h.d2.later hb, h.g2, h.fi, h.bel.trans (hb.mono h.bel.size)⟩
theorem rise_at {fs : List Fn} (h : Rise fs) {k : Nat} (hk : k < fs.length) (h0 : 0 < k) : Op.bytesLess (fs[k - 1]'(by omega)).1 fs[k].1 = true := by
  rw [less_before]
  exact List.pairwise_iff_getElem.1 h (k - 1) k (by omega) hk (by omega)
set_option maxHeartbeats 8000000 in
set_option maxRecDepth 100000 in
theorem quota_walk {w : World} {sa : Option Addr} {os : List OpD} {sc : Nat} (h : OpsAt w sa os) (hn : os.length ≤ maxLen) (hnn : ∀ o ∈ os, o.n < 9223372036854775808) (q : Int) :
    Calls Try.prog 8 #[.int .i64 q, .slice sa os.length sc] w fun e w' => e = .returned (.bool true) ∧ Below w.heap.size w w' := by
  go_enter Try.func8, Try.ntmps8
  go_wp2_with fail
  refine (alive_t w).mono ?_
  rintro e w1 ⟨rfl, hb1⟩
  go_wp2_with fail
  refine (large_d (h.later hb1) hn).mono ?_
  rintro e w2 ⟨bl, rfl, hbl, hb2⟩
  have hb2 : Below w.heap.size w w2 := hb1.trans (hb2.mono hb1.size)
  clear hb1
  cases bl with
  | true =>
    clear hbl
    go_wp2
    go_ret
    exact ⟨rfl, hb2⟩
  | false =>
  obtain ⟨h81, hsm⟩ := hbl rfl
  clear hbl
  by_cases hq : q < 0
  · go_wp2
    go_ret
    exact ⟨rfl, hb2⟩
  by_cases hq' : 16777216 < q
  · have hq0 : 0 ≤ q := by omega
    clear hq
    go_wp2
    go_ret
    exact ⟨rfl, hb2⟩
  have hq0 : 0 ≤ q := by omega
  have hq1 : q ≤ 16777216 := by omega
  have hnw := new_ok w2 q hq0 hq1
  have hbd := bdM q
  have hmo := new_mok hq0 hq1
  clear hq hq'
  go_wp2_with fail
  refine hnw.mono ?_
  rintro e w3 ⟨rfl, hD, hb3⟩
  clear hnw
  have hw2 := hb2.size
  have hb03 : Below w.heap.size w w3 := hb2.trans (hb3.mono hb2.size)
  have h23 := hb3.size
  have hS0 : Alone w w3 w2.heap.size (w2.heap.size + 1) 0 q (newD q w2.heap.size) := ⟨hD, rfl, Nat.le_refl _, Int.le_refl _, hb03⟩
  clear hb2 hb3 hb03 hD
  go_wp2
  go_loopw [37] (fun i wr => ∃ (k : Nat) (D : Dsk), k ≤ os.length ∧ i = .int .i64 k ∧ Alone w wr w2.heap.size (w2.heap.size + 1) k q D) (fun i _ => os.length - (intOf i).toNat)
  case atStart => exact ⟨0, _, by omega, rfl, hS0⟩
  case round =>
    clear hS0
    obtain ⟨k, D, hk, rfl, hS⟩ := hrel
    by_cases hlt : k < os.length
    · obtain ⟨sb, off, rfl, hc⟩ := h (by omega)
      obtain ⟨z1, z2, z3⟩ := hsm os[k] (List.getElem_mem hlt)
      have z4 := hnn os[k] (List.getElem_mem hlt)
      obtain ⟨ab, cb, h0, h1, h2, h3, h4, q5⟩ := hc k hlt
      have hbw := hS.bel
      replace h0 := cell_later hbw h0
      replace h1 := cell_later hbw h1
      replace h2 := cell_later hbw h2
      replace h3 := cell_later hbw h3
      replace h4 := cell_later hbw h4
      have h5 := q5.later hbw
      have hlx := bs_lt q5
      have hwr := hbw.size
      clear hbw q5
      have hal : Below wr.heap.size wr (wr.alloc (.cells (opc os[k].kd os[k].nm os[k].tn os[k].n ab os[k].dat.length cb) 37)) := (Below.refl _ _).alloc (Nat.le_refl _) _
      have kx := (MapKept.heap_alloc wr (.cells (opc os[k].kd os[k].nm os[k].tn os[k].n ab os[k].dat.length cb) 37)).1
      clear hc
      go_upto_region 11 with fail
      have hS1 := hS.later hal
      have h51 := h5.later hal
      have hszb := hal.size
      clear hal hS h5
      generalize wr.alloc (.cells (opc os[k].kd os[k].nm os[k].tn os[k].n ab os[k].dat.length cb) 37) = wb at kx hS1 h51 hszb ⊢
      have x0 : wb.cell? ⟨wr.heap.size, 0, none⟩ = some (.int .i64 os[k].kd) := cell_row kx 0
      have x1 : wb.cell? ⟨wr.heap.size, 1, none⟩ = some (.string (bstr os[k].nm)) := cell_row kx 1
      have x2 : wb.cell? ⟨wr.heap.size, 2, none⟩ = some (.string (bstr os[k].tn)) := cell_row kx 2
      have x3 : wb.cell? ⟨wr.heap.size, 3, none⟩ = some (.int .i64 os[k].n) := cell_row kx 3
      have x4 : wb.cell? ⟨wr.heap.size, 4, none⟩ = some (.slice ab os[k].dat.length cb) := cell_row kx 4
      clear h0 h1 h2 h3 h4 kx
      have hfg := fp_ge hS1.dk
      have hblt := fp_lt hS1.dk _ (.inl rfl)
      have hl1 := hS1.len
      have hs1 := hS1.stp
      have hdo := do_all (M := ⟨q, 0, 0, false, false, []⟩) (fa := none) (fc := 0) (X := fun _ => False) (n := os[k].n) (cb := cb) hS1.dk (fun hp => absurd hp (by simp)) (fun _ => False.elim) hmo (by simp) (by omega) (by omega) (by omega) h51 (fun x ex hl e => by have := hlx x ex hl; have := hfg _ e; omega) (by omega) (show os[k].nm.length ≤ 1000000 by omega) (show os[k].tn.length ≤ 1000000 by omega) z4 os[k].kd
      go_wp2_with fail
      refine hdo.mono ?_
      rintro e w5 ⟨D', n, M', n', sm, fa', fc', X', hL, _, rfl, hD5, _, _, hFr, _⟩
      clear hdo x0 x1 x2 x3 x4 h51
      have hS5 : Alone w w5 w2.heap.size (w2.heap.size + 1) (k + 1) q D' := ⟨hD5, hL.1.trans hS1.qu, by have := hL.2.1; omega, by have := hL.2.2; omega, hS1.bel.trans (hFr.below _ hS1.bel.size fun i e => by have := hfg i e; omega)⟩
      clear hS1 hD5 hFr hfg hblt hl1 hs1
      have hl5 := hS5.len
      have hcp := copy_dk hS5.dk (by omega)
      go_wp2_with fail
      refine hcp.mono ?_
      rintro e wc ⟨b2, D2, rfl, hTw, hD2, hbc⟩
      clear hcp
      have hSc := hS5.later hbc
      have hcr := crash_pa hD2 1073741824
      have hfl := fp_lt hS5.dk
      have hg2 := fp_ge hD2
      have hl2 := fp_lt hD2
      have hq2 := hD2.qt
      have hll : ∀ p ∈ D2.fs, (D2.ct p.2).dat.length ≤ 16777216 := fun p hp => by have := len_le hD2 hp; omega
      have htf := fun (p : Fn) (hp : p ∈ D'.fs) => twin_file hTw hD2 hp
      go_wp2_with fail
      refine hcr.mono ?_
      rintro e w9 ⟨E9, ⟨E1, hC2, e9⟩, rfl, hE9, hF9, hG9⟩
      clear hcr
      have hD9 := hSc.dk.fr hF9 fun i hi e => by have := hfl i hi; have := hg2 i e; omega
      have hwc := hbc.size
      have hw5 := hS5.bel.size
      have hb09 : Below w.heap.size w w9 := hSc.bel.trans (hF9.below _ hSc.bel.size fun i e => by have := hg2 i e; omega)
      have hW9 : Whole2 w9 w9 w2.heap.size (w2.heap.size + 1) w5.heap.size b2 D' E9 := by
        refine ⟨hD9, hE9, by rw [e9]; rfl, fun p hp => ?_, Below.refl _ _⟩
        obtain ⟨p2, hp2, e1, e2, e3⟩ := htf p hp
        have ef9 : E9.fs = D2.fs := by rw [e9]; show E1.fs = D2.fs; rw [hC2.1]
        refine ⟨p2, by rw [ef9]; exact e2, ?_⟩
        have hm : mx 1073741824 = 1073741824 := rfl
        have h9 := (hC2.2 p2 hp2).1
        rw [hm, keep_all (hll p2 hp2), List.take_length] at h9
        rw [e9]
        exact h9.trans e3
      have hqu := hS5.qu
      have hst5 := hS5.stp
      have hrs := hD9.rise
      have hnm := names_d hD9 (by omega)
      clear hC2 hF9 hG9 hE9 hD9 hSc hD2 hTw htf hll e9 hS5 hfl hg2 hl2 hbc
      go_wp2_with fail
      refine hnm.mono ?_
      rintro e w10 ⟨v10, rfl, hx10, hb10⟩
      obtain ⟨a10, c10, rfl, ht10⟩ := hx10.formN (List.length_map ..)
      have hT10 := hW9.later hb10
      have hT11 : Whole2 w10 w10 w2.heap.size (w2.heap.size + 1) w5.heap.size b2 D' E9 := ⟨hT10.d1, hT10.d2, hT10.g2, hT10.fi, Below.refl _ _⟩
      have hb010 : Below w.heap.size w w10 := hb09.trans (hb10.mono hb09.size)
      have hus := hT10.d1.usd
      have hqq := hT10.d1.qt
      clear hnm hW9 hT10 hx10 hb10 hb09
      go_wp2
      go_loopw [9, 59] (fun s i wr => ∃ j : Nat, j ≤ D'.fs.length ∧ i = .int .i64 j ∧ s = .int .i64 (lens (D'.fs.take j) D'.ct) ∧ Whole2 w10 wr w2.heap.size (w2.heap.size + 1) w5.heap.size b2 D' E9) (fun _ i _ => D'.fs.length - (intOf i).toNat)
      case atStart => exact ⟨0, by omega, rfl, rfl, hT11⟩
      case round =>
        clear hT11
        obtain ⟨j, hj, rfl, rfl, hT⟩ := hrel
        by_cases hlj : j < D'.fs.length
        · have hp : D'.fs[j] ∈ D'.fs := List.getElem_mem hlj
          obtain ⟨g, off, rfl, hcc⟩ := ht10 (by simp; omega)
          have hc := cell_later hT.bel (hcc j (by simpa using hlj))
          rw [List.getElem_map] at hc
          obtain ⟨p2, f2, e1⟩ := hT.fi _ hp
          have f1 := hT.d1.find hp
          have hds : (bstr D'.fs[j].1).size ≤ maxLen := hT.d1.short hp
          have r1 := read_all hT.d2 hds
          have hsur := (hT.d1.fil _ hp).sur
          have hlt1 := lens_take D'.ct hlj
          have hle1 := lens_le D'.fs D'.ct (j + 1)
          have hnn1 := lens_nn (D'.fs.take j) D'.ct
          rw [hlt1, ← hus] at hle1
          have hpre : Hid (0 < j → ∃ nm : List UInt8, w10.cell? ⟨g, off + (j - 1), none⟩ = some (.string (bstr nm)) ∧ Op.bytesLess nm D'.fs[j].1 = true) := hide1 fun h0 => ⟨_, by have := hcc (j - 1) (by simp; omega); rw [List.getElem_map] at this; exact this, rise_at hrs hlj h0⟩
          generalize D'.fs[j] = p at *
          generalize lens (D'.fs.take j) D'.ct = su at *
          clear hcc
          go_wp2_with fail
          refine r1.mono ?_
          rintro e w11 ⟨va, ys, n1, hR, rfl, hov, hyb, hb11⟩
          obtain ⟨rfl, rfl⟩ := rd_ok hR hT.g2 f2
          rw [e1] at hov hyb
          obtain ⟨aa, ca, hva, rfl⟩ := bs_own2 hov hyb
          have hT1 := hT.later hb11
          have hsu := sure_s hT1.d1 hds f1
          have e0 : eV 0 = .nilIface := rfl
          rw [e0]
          have hA : ((D'.ct p.2).sure : Int) ≤ ((D'.ct p.2).dat.length : Int) := by omega
          have hB : (0 : Int) ≤ ((D'.ct p.2).sure : Int) := by omega
          have hb101 := hT1.bel
          clear r1 hR hov hva hyb hT e0 hc f2 e1
          go_wp2_with fail
          refine hsu.mono ?_
          rintro e w11 ⟨rfl, rfl⟩
          go_wp2_with fail
          refine hsu.mono ?_
          rintro e w11 ⟨rfl, rfl⟩
          clear hsu
          by_cases h0 : (0 : Int) < (j : Int)
          · obtain ⟨nm, hc1, hls⟩ := hpre.out (by omega)
            have hc2 := cell_later hb101 hc1
            have hj1 : ((j - 1 : Nat) : Int) = (j : Int) - 1 := by omega
            clear hpre hc1
            go_wp2
            exact ⟨⟨j + 1, by omega, by go_num, by rw [hlt1], hT1⟩, by simp [intOf]; omega⟩
          · clear hpre
            go_wp2
            exact ⟨⟨j + 1, by omega, by go_num, by rw [hlt1], hT1⟩, by simp [intOf]; omega⟩
        · obtain rfl : j = D'.fs.length := by omega
          have hfu : lens (D'.fs.take D'.fs.length) D'.ct = D'.used := by rw [List.take_length]; exact hus.symm
          have hsv : Alone w wr w2.heap.size (w2.heap.size + 1) (k + 1) q D' := ⟨hT.d1, hqu, hl5, hst5, hb010.trans (hT.bel.mono hb010.size)⟩
          have hu1 := used_d hT.d1
          have hfr := free_d hT.d1
          rw [hqu] at hfr
          have hnn2 := lens_nn D'.fs D'.ct
          rw [← hus] at hnn2
          have hA : D'.used ≤ q := by rw [← hqu]; exact hqq.1
          clear hT hus
          rw [hfu] at *
          generalize D'.used = us at *
          go_wp2_with fail
          refine hu1.mono ?_
          rintro e w12 ⟨rfl, rfl⟩
          go_wp2_with fail
          refine hu1.mono ?_
          rintro e w12 ⟨rfl, rfl⟩
          go_wp2_with fail
          refine hfr.mono ?_
          rintro e w12 ⟨rfl, n12, rfl⟩
          have hsv2 := hsv.later (below_drewN _ n12)
          clear hu1 hfr hsv
          go_wp2
          exact ⟨⟨k + 1, D', by omega, by go_num, hsv2⟩, by simp [intOf]; omega⟩
    · obtain rfl : k = os.length := by omega
      have hbl := hS.bel
      go_wp2
      go_ret
      exact ⟨rfl, hbl⟩
end Go.Proofs.Ytcmgpllnficmdaa

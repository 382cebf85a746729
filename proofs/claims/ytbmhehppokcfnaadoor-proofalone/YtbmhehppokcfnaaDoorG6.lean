/- PRM, LAb, LAc, LAd, PRL, PRK, PRf, PHd, PRA, PRN, PRO, PRc, PRD, PRQ: laid together. -/
import Derived.Test.YtbmhehppokcfnaaDoorG5
namespace Go.Proofs.YtbmhehppokcfnaaDoor
open Go.RowKit Sh

theorem wayN_fuel : ∀ (q q' i f e : Nat), e - f ≤ q → e - f ≤ q' → wayN q i f e = wayN q' i f e
  | 0, q', i, f, e, h, _ => by rw [wayN_0 (by omega), wayN_0 (by omega)]
  | q + 1, 0, i, f, e, _, h => by rw [wayN_0 (by omega), wayN_0 (by omega)]
  | q + 1, q' + 1, i, f, e, h, h' => by
    rcases Nat.lt_or_ge (f + 1) e with hl | hl
    · have hc := cut_in (n := e - f) (by omega)
      rw [wayN_s hl, wayN_s hl, wayN_fuel q q' i (f + cut (e - f)) e (by omega) (by omega), wayN_fuel q q' i f (f + cut (e - f)) (by omega) (by omega)]
    · rw [wayN_0 hl, wayN_0 hl]
def sh (s : Nat) (c : Cu) : Cu := ⟨c.f + s, c.a + s, c.e + s, c.r⟩
theorem wayN_sh (s : Nat) : ∀ (q i f e : Nat), wayN q (i + s) (f + s) (e + s) = (wayN q i f e).map (sh s)
  | 0, _, _, _ => rfl
  | q + 1, i, f, e => by
    rcases Nat.lt_or_ge (f + 1) e with hl | hl
    · rw [wayN_s hl, wayN_s (by omega), show e + s - (f + s) = e - f by omega, show f + s + cut (e - f) = f + cut (e - f) + s by omega, wayN_sh s q i (f + cut (e - f)) e, wayN_sh s q i f (f + cut (e - f)), List.map_cons]
      by_cases h : f + cut (e - f) ≤ i
      · rw [if_pos (by omega), if_pos h, decide_eq_true h, decide_eq_true (by omega : f + cut (e - f) + s ≤ i + s)]; rfl
      · rw [if_neg (by omega), if_neg h, decide_eq_false h, decide_eq_false (by omega : ¬ f + cut (e - f) + s ≤ i + s)]; rfl
    · rw [wayN_0 hl, wayN_0 (by omega)]; rfl
theorem way_1 (i : Nat) : way i 1 = [] := wayN_0 (by omega)
theorem way_lo {i n : Nat} (hn : 2 ≤ n) (h : i < cut n) : way i n = ⟨0, cut n, n, false⟩ :: way i (cut n) := by
  have hc := cut_in hn
  unfold way
  obtain ⟨m, rfl⟩ : ∃ m, n = m + 1 := ⟨n - 1, by omega⟩
  rw [wayN_s (by omega), if_neg (by simp; omega), decide_eq_false (by simp; omega)]
  simp only [Nat.sub_zero, Nat.zero_add]
  rw [wayN_fuel m (cut (m + 1)) i 0 (cut (m + 1)) (by omega) (by omega)]
theorem way_hi {i n : Nat} (hn : 2 ≤ n) (h : cut n ≤ i) : way i n = ⟨0, cut n, n, true⟩ :: (way (i - cut n) (n - cut n)).map (sh (cut n)) := by
  have hc := cut_in hn
  unfold way
  obtain ⟨m, rfl⟩ : ∃ m, n = m + 1 := ⟨n - 1, by omega⟩
  rw [wayN_s (by omega), if_pos (by simp; omega), decide_eq_true (by simp; omega)]
  simp only [Nat.sub_zero, Nat.zero_add]
  rw [wayN_fuel m (m + 1 - cut (m + 1)) i (cut (m + 1)) (m + 1) (by omega) (by omega)]
  have := wayN_sh (cut (m + 1)) (m + 1 - cut (m + 1)) (i - cut (m + 1)) 0 (m + 1 - cut (m + 1))
  rw [show i - cut (m + 1) + cut (m + 1) = i by omega, Nat.zero_add, show m + 1 - cut (m + 1) + cut (m + 1) = m + 1 by omega] at this
  rw [this]
theorem part_sh (L : List (Nat → Nat)) (s f e : Nat) : part L (f + s) (e + s) = part (L.drop s) f e := by
  unfold part
  rw [List.take_drop, List.drop_drop, Nat.add_comm s e, Nat.add_comm s f]
theorem asd_sh (L : List (Nat → Nat)) (s : Nat) (c : Cu) : asd L (sh s c) = asd (L.drop s) c := by
  unfold asd sh
  cases c.r
  · simp only [Bool.false_eq_true, if_false]; rw [part_sh]
  · simp only [if_true]; rw [part_sh]
theorem part_lo {L : List (Nat → Nat)} {k f e : Nat} (h : e ≤ k) : part (L.take k) f e = part L f e := by
  unfold part; rw [List.take_take, Nat.min_eq_left h]
theorem asd_lo {L : List (Nat → Nat)} {k : Nat} {c : Cu} (h : CuOk k c) : asd (L.take k) c = asd L c := by
  obtain ⟨h1, h2, h3⟩ := h
  unfold asd
  rw [part_lo (by omega), part_lo h3]
theorem asl_map (L : List (Nat → Nat)) (s : Nat) (xs : List Cu) : asl L (xs.map (sh s)) = asl (L.drop s) xs := by
  unfold asl
  rw [← List.map_reverse, List.map_map]
  exact List.map_congr_left fun c _ => asd_sh L s c
theorem asl_cons (L : List (Nat → Nat)) (c : Cu) (xs : List Cu) : asl L (c :: xs) = asl L xs ++ [asd L c] := by unfold asl; simp
theorem asl_lo {L : List (Nat → Nat)} {i n : Nat} (hL : L.length = n) (hn : 2 ≤ n) (h : i < cut n) : asl L (way i n) = asl (L.take (cut n)) (way i (cut n)) ++ [root (L.drop (cut n))] := by
  have hc := cut_in hn
  rw [way_lo hn h, asl_cons]
  congr 1
  · unfold asl
    exact List.map_congr_left fun c hc' => (asd_lo (way_ok i (cut n) c (List.mem_reverse.1 hc'))).symm
  · unfold asd part
    simp only [Bool.false_eq_true, if_false]
    rw [List.take_of_length_le (by omega)]
theorem asl_hi {L : List (Nat → Nat)} {i n : Nat} (hn : 2 ≤ n) (h : cut n ≤ i) : asl L (way i n) = asl (L.drop (cut n)) (way (i - cut n) (n - cut n)) ++ [root (L.take (cut n))] := by
  rw [way_hi hn h, asl_cons, asl_map]
  congr 1
theorem comeL_map (s : Nat) : ∀ (cs : List Cu) (ps : List (Nat → Nat)) (F : Nat → Nat), comeL (cs.map (sh s)) ps F = comeL cs ps F
  | [], [], _ => rfl
  | [], _ :: _, _ => rfl
  | _ :: _, [], _ => rfl
  | c :: cs, p :: ps, F => comeL_map s cs ps (jn c.r F p)
theorem asl_len (L : List (Nat → Nat)) (xs : List Cu) : (asl L xs).length = xs.length := by unfold asl; simp
/-- What a path comes to, by the document's recursion. -/
theorem come_lo {i n : Nat} {ps : List (Nat → Nat)} {p F : Nat → Nat} (hn : 2 ≤ n) (h : i < cut n) (hl : ps.length = (way i (cut n)).length) : comeL (way i n).reverse (ps ++ [p]) F = nd (comeL (way i (cut n)).reverse ps F) p := by
  rw [way_lo hn h, List.reverse_cons, comeL_snoc _ _ _ _ _ (by rw [List.length_reverse]; exact hl.symm)]; rfl
theorem come_hi {i n : Nat} {ps : List (Nat → Nat)} {p F : Nat → Nat} (hn : 2 ≤ n) (h : cut n ≤ i) (hl : ps.length = (way (i - cut n) (n - cut n)).length) : comeL (way i n).reverse (ps ++ [p]) F = nd p (comeL (way (i - cut n) (n - cut n)).reverse ps F) := by
  rw [way_hi hn h, List.reverse_cons, comeL_snoc _ _ _ _ _ (by rw [List.length_reverse, List.length_map]; exact hl.symm), ← List.map_reverse, comeL_map]; rfl
theorem come_root : ∀ (n i : Nat) (L : List (Nat → Nat)), L.length = n → i < n → comeL (way i n).reverse (asl L (way i n)) (L.getD i fun _ => 0) = root L := by
  intro n
  induction n using Nat.strongRecOn with
  | ind n ih =>
    intro i L hL hi
    rcases Nat.lt_or_ge n 2 with h2 | h2
    · obtain rfl : n = 1 := by omega
      obtain rfl : i = 0 := by omega
      obtain ⟨x, rfl⟩ : ∃ x, L = [x] := List.length_eq_one_iff.1 hL
      rw [way_1, root_1]; rfl
    · have hc := cut_in h2
      rw [root_n (by omega), hL]
      rcases Nat.lt_or_ge i (cut n) with h | h
      · rw [asl_lo hL h2 h, come_lo h2 h (by rw [asl_len]), ← ih (cut n) hc.2.1 i (L.take (cut n)) (by rw [List.length_take]; omega) h]
        congr 2
        simp [List.getD_eq_getElem?_getD, h]
      · rw [asl_hi h2 h, come_hi h2 h (by rw [asl_len]), ← ih (n - cut n) (by omega) (i - cut n) (L.drop (cut n)) (by rw [List.length_drop]; omega) (by omega)]
        congr 2
        simp [List.getD_eq_getElem?_getD, List.getElem?_drop, show cut n + (i - cut n) = i by omega]
theorem way_len_lo {i n : Nat} (hn : 2 ≤ n) (h : i < cut n) : (way i n).length = 1 + (way i (cut n)).length := by rw [way_lo hn h, List.length_cons]; omega
theorem way_len_hi {i n : Nat} (hn : 2 ≤ n) (h : cut n ≤ i) : (way i n).length = 1 + (way (i - cut n) (n - cut n)).length := by rw [way_hi hn h, List.length_cons, List.length_map]; omega
end Go.Proofs.YtbmhehppokcfnaaDoor

namespace Go.Proofs.YtbmhehppokcfnaaDoor
open Go.RowKit Sh

/-- The same 32 bytes. -/
def Eq32 (F G : Nat → Nat) : Prop := ∀ i, i < 32 → F i = G i
theorem eq_root : ∀ (n : Nat) (L M : List (Nat → Nat)), L.length = n → M.length = n → (∀ i, i < n → Eq32 (L.getD i fun _ => 0) (M.getD i fun _ => 0)) → Eq32 (root L) (root M) := by
  intro n
  induction n using Nat.strongRecOn with
  | ind n ih =>
    intro L M hL hM h
    rcases Nat.lt_or_ge n 2 with h2 | h2
    · rcases Nat.lt_or_ge n 1 with h1 | h1
      · obtain rfl := List.eq_nil_of_length_eq_zero (show L.length = 0 by omega)
        obtain rfl := List.eq_nil_of_length_eq_zero (show M.length = 0 by omega)
        exact fun _ _ => rfl
      · obtain ⟨x, rfl⟩ : ∃ x, L = [x] := List.length_eq_one_iff.1 (by omega)
        obtain ⟨y, rfl⟩ : ∃ y, M = [y] := List.length_eq_one_iff.1 (by omega)
        rw [root_1, root_1]
        exact h 0 (by omega)
    · have hk := cut_in h2
      have g : ∀ (N : List (Nat → Nat)) (i k : Nat), (N.drop k).getD i (fun _ => 0) = N.getD (k + i) fun _ => 0 := fun N i k => by simp [List.getD_eq_getElem?_getD, List.getElem?_drop]
      have g2 : ∀ (N : List (Nat → Nat)) (i k : Nat), i < k → (N.take k).getD i (fun _ => 0) = N.getD i fun _ => 0 := fun N i k hi => by simp [List.getD_eq_getElem?_getD, hi]
      have e1 := ih (cut n) hk.2.1 (L.take (cut n)) (M.take (cut n)) (by rw [List.length_take]; omega) (by rw [List.length_take]; omega) (fun i hi => by rw [g2 _ _ _ hi, g2 _ _ _ hi]; exact h i (by omega))
      have e2 := ih (n - cut n) (by omega) (L.drop (cut n)) (M.drop (cut n)) (by rw [List.length_drop]; omega) (by rw [List.length_drop]; omega) (fun i hi => by rw [g, g]; exact h _ (by omega))
      rw [root_n (l := L) (by omega), root_n (l := M) (by omega), hL, hM]
      have : nd (root (L.take (cut n))) (root (L.drop (cut n))) = nd (root (M.take (cut n))) (root (M.drop (cut n))) := by
        refine dg_cong fun i hi => ?_
        unfold txt
        by_cases c0 : i = 0
        · rw [if_pos c0, if_pos c0]
        · rw [if_neg c0, if_neg c0]
          by_cases c1 : i < 33
          · rw [if_pos c1, if_pos c1, e1 (i - 1) (by omega)]
          · rw [if_neg c1, if_neg c1, e2 (i - 33) (by omega)]
      rw [this]
      exact fun _ _ => rfl
/-- The texts of digests of two that go into a row's digest. -/
def texts (l : List (Nat → Nat)) : List (Nat → Nat) :=
  if _h : l.length < 2 then [] else texts (l.take (cut l.length)) ++ texts (l.drop (cut l.length)) ++ [txt (root (l.take (cut l.length))) (root (l.drop (cut l.length)))]
termination_by l.length
decreasing_by
  · have := cut_in (n := l.length) (by omega); rw [List.length_take]; omega
  · have := cut_in (n := l.length) (by omega); rw [List.length_drop]; omega
theorem texts_s {l : List (Nat → Nat)} (h : l.length < 2) : texts l = [] := by rw [texts, dif_pos h]
theorem texts_n {l : List (Nat → Nat)} (h : 2 ≤ l.length) : texts l = texts (l.take (cut l.length)) ++ texts (l.drop (cut l.length)) ++ [txt (root (l.take (cut l.length))) (root (l.drop (cut l.length)))] := by
  rw [texts, dif_neg (by omega)]
theorem texts_len : ∀ (n : Nat) (l : List (Nat → Nat)), l.length = n → (texts l).length ≤ n := by
  intro n
  induction n using Nat.strongRecOn with
  | ind n ih =>
    intro l hl
    rcases Nat.lt_or_ge n 2 with h2 | h2
    · rw [texts_s (by omega)]; simp
    · have hk := cut_in h2
      rw [texts_n (by omega), hl]
      have a := ih (cut n) hk.2.1 (l.take (cut n)) (by rw [List.length_take]; omega)
      have b := ih (n - cut n) (by omega) (l.drop (cut n)) (by rw [List.length_drop]; omega)
      have c : n - 1 < n := by omega
      simp only [List.length_append, List.length_cons, List.length_nil]
      have key : ∀ (m : Nat) (k : List (Nat → Nat)), m < n → k.length = m → 1 ≤ m → (texts k).length ≤ m - 1 ∨ (texts k).length ≤ m := fun m k hm hk' _ => .inr (ih m hm k hk')
      have t1 : ∀ (m : Nat) (k : List (Nat → Nat)), k.length = m → 1 ≤ m → (texts k).length + 1 ≤ m := by
        intro m
        induction m using Nat.strongRecOn with
        | ind m ih2 =>
          intro k hk' h1
          rcases Nat.lt_or_ge m 2 with h3 | h3
          · rw [texts_s (by omega)]; simpa using h1
          · have hq := cut_in h3
            rw [texts_n (by omega), hk']
            have a := ih2 (cut m) hq.2.1 (k.take (cut m)) (by rw [List.length_take]; omega) (by omega)
            have b := ih2 (m - cut m) (by omega) (k.drop (cut m)) (by rw [List.length_drop]; omega) (by omega)
            simp only [List.length_append, List.length_cons, List.length_nil]
            omega
      have a1 := t1 (cut n) (l.take (cut n)) (by rw [List.length_take]; omega) (by omega)
      have b1 := t1 (n - cut n) (l.drop (cut n)) (by rw [List.length_drop]; omega) (by omega)
      omega
theorem texts_lt : ∀ (n : Nat) (l : List (Nat → Nat)), l.length = n → (∀ F ∈ l, ∀ j, F j < 256) → ∀ T ∈ texts l, ∀ j, T j < 256 := by
  intro n
  induction n using Nat.strongRecOn with
  | ind n ih =>
    intro l hl hb T hT j
    rcases Nat.lt_or_ge n 2 with h2 | h2
    · rw [texts_s (by omega)] at hT; cases hT
    · have hk := cut_in h2
      rw [texts_n (by omega), hl] at hT
      have b1 : ∀ F ∈ l.take (cut n), ∀ j, F j < 256 := fun F hF => hb F (List.mem_of_mem_take hF)
      have b2 : ∀ F ∈ l.drop (cut n), ∀ j, F j < 256 := fun F hF => hb F (List.mem_of_mem_drop hF)
      rcases List.mem_append.1 hT with hT | hT
      · rcases List.mem_append.1 hT with hT | hT
        · exact ih (cut n) hk.2.1 _ (by rw [List.length_take]; omega) b1 T hT j
        · exact ih (n - cut n) (by omega) _ (by rw [List.length_drop]; omega) b2 T hT j
      · rw [List.mem_singleton] at hT
        rw [hT]
        unfold txt
        split
        · decide
        · split
          · exact root_lt _ _ rfl b1 _
          · exact root_lt _ _ rfl b2 _
/-- Two unlike texts with one digest. -/
def Clash (T U : Nat → Nat) : Prop := Eq32 (dg 65 T) (dg 65 U) ∧ ∃ i, i < 65 ∧ T i ≠ U i
theorem clash : ∀ (n : Nat) (L M : List (Nat → Nat)), L.length = n → M.length = n → Eq32 (root L) (root M) → (∃ i, i < n ∧ ¬ Eq32 (L.getD i fun _ => 0) (M.getD i fun _ => 0)) → ∃ T ∈ texts L, ∃ U ∈ texts M, Clash T U := by
  intro n
  induction n using Nat.strongRecOn with
  | ind n ih =>
    intro L M hL hM hr hd
    rcases Nat.lt_or_ge n 2 with h2 | h2
    · exfalso
      obtain ⟨i, hi, hne⟩ := hd
      obtain rfl : n = 1 := by omega
      obtain rfl : i = 0 := by omega
      obtain ⟨x, rfl⟩ : ∃ x, L = [x] := List.length_eq_one_iff.1 hL
      obtain ⟨y, rfl⟩ : ∃ y, M = [y] := List.length_eq_one_iff.1 hM
      rw [root_1, root_1] at hr
      exact hne hr
    · have hk := cut_in h2
      have g : ∀ (N : List (Nat → Nat)) (i k : Nat), (N.drop k).getD i (fun _ => 0) = N.getD (k + i) fun _ => 0 := fun N i k => by simp [List.getD_eq_getElem?_getD, List.getElem?_drop]
      have g2 : ∀ (N : List (Nat → Nat)) (i k : Nat), i < k → (N.take k).getD i (fun _ => 0) = N.getD i fun _ => 0 := fun N i k hi => by simp [List.getD_eq_getElem?_getD, hi]
      rw [texts_n (l := L) (by omega), texts_n (l := M) (by omega), hL, hM]
      rw [root_n (l := L) (by omega), root_n (l := M) (by omega), hL, hM] at hr
      generalize hA1 : root (L.take (cut n)) = A1 at *
      generalize hA2 : root (L.drop (cut n)) = A2 at *
      generalize hB1 : root (M.take (cut n)) = B1 at *
      generalize hB2 : root (M.drop (cut n)) = B2 at *
      by_cases hT : ∃ i, i < 65 ∧ txt A1 A2 i ≠ txt B1 B2 i
      · exact ⟨txt A1 A2, by simp, txt B1 B2, by simp, hr, hT⟩
      · have hTe : ∀ i, i < 65 → txt A1 A2 i = txt B1 B2 i := fun i hi => Classical.byContradiction fun h => hT ⟨i, hi, h⟩
        have e1 : Eq32 A1 B1 := fun i hi => by
          have := hTe (i + 1) (by omega)
          unfold txt at this
          rwa [if_neg (by omega), if_pos (by omega), if_neg (by omega), if_pos (by omega), show i + 1 - 1 = i by omega] at this
        have e2 : Eq32 A2 B2 := fun i hi => by
          have := hTe (i + 33) (by omega)
          unfold txt at this
          rwa [if_neg (by omega), if_neg (by omega), if_neg (by omega), if_neg (by omega), show i + 33 - 33 = i by omega] at this
        obtain ⟨i, hi, hne⟩ := hd
        rcases Nat.lt_or_ge i (cut n) with hc | hc
        · obtain ⟨T, hT1, U, hU1, hcl⟩ := ih (cut n) hk.2.1 (L.take (cut n)) (M.take (cut n)) (by rw [List.length_take]; omega) (by rw [List.length_take]; omega) (by rw [hA1, hB1]; exact e1) ⟨i, hc, by rw [g2 _ _ _ hc, g2 _ _ _ hc]; exact hne⟩
          exact ⟨T, by simp [hT1], U, by simp [hU1], hcl⟩
        · obtain ⟨T, hT1, U, hU1, hcl⟩ := ih (n - cut n) (by omega) (L.drop (cut n)) (M.drop (cut n)) (by rw [List.length_drop]; omega) (by rw [List.length_drop]; omega) (by rw [hA2, hB2]; exact e2) ⟨i - cut n, by omega, by rw [g, g, show cut n + (i - cut n) = i by omega]; exact hne⟩
          exact ⟨T, by simp [hT1], U, by simp [hU1], hcl⟩
end Go.Proofs.YtbmhehppokcfnaaDoor

namespace Go.Proofs.YtbmhehppokcfnaaDoor
open Go.RowKit Go.Maps Sh

/-- A text of 65 bytes in a block of its own. -/
def TxV (w : World) (B : Nat) (r : Value) (T : Nat → Nat) : Prop := ∃ b c cap, r = .slice (some ⟨b, 0, none⟩) 65 cap ∧ B ≤ b ∧ 65 ≤ cap ∧ w.heap[b]? = some (.cells c 5 (0, 0)) ∧ ∀ j, j < 65 → c[j]? = some (.int .u8 ((T j : Nat) : Int))
theorem tx_own {w : World} {base B : Nat} {v : Value} {T : Nat → Nat} (hB : B ≤ base) (h : w.ownsRow base 5 1 v 65 (bvs 65 T)) : TxV w B v T := by
  rcases h.2 with ⟨_, h0⟩ | ⟨q, cap, cur, rfl, hbq, hgq, hnc, hcm, hcs, hty⟩
  · exfalso; omega
  · refine ⟨q, cur, cap, rfl, by omega, hnc, hgq, fun j hj => ?_⟩
    have h1 := h.cellAt j (by omega)
    rw [bvs_get T hj] at h1
    rw [← h1, cell_of_row _ _ _ _ _ _ hgq]
theorem TxV.later {w w' : World} {B : Nat} {r : Value} {T : Nat → Nat} (h : TxV w B r T) (hb : Below w.heap.size w w') : TxV w' B r T := by
  obtain ⟨b, c, cap, e, h1, h2, h3, h4⟩ := h
  exact ⟨b, c, cap, e, h1, h2, (hb.block b (Array.getElem?_eq_some_iff.1 h3).1).trans h3, h4⟩
theorem TxV.mono {w : World} {B B' : Nat} {r : Value} {T : Nat → Nat} (h : TxV w B r T) (hB : B' ≤ B) : TxV w B' r T := by
  obtain ⟨b, c, cap, e, h1, h2, h3, h4⟩ := h
  exact ⟨b, c, cap, e, by omega, h2, h3, h4⟩
/-- .. where a row of slices has grown. -/
theorem TxV.grown {w w' : World} {B : Nat} {r : Value} {T : Nat → Nat} {o : Option Nat} (h : TxV w B r T) (hg : w.grownBy w' o) (ho : ∀ g, o = some g → ∃ c, w.heap[g]? = some (.cells c 79 (0, 0))) : TxV w' B r T := by
  obtain ⟨b, c, cap, e, h1, h2, h3, h4⟩ := h
  refine ⟨b, c, cap, e, h1, h2, ?_, h4⟩
  have hne : some b ≠ o := by
    intro e2
    obtain ⟨c2, hc2⟩ := ho b e2.symm
    rw [h3] at hc2
    cases hc2
  exact (hg.block b (Array.getElem?_eq_some_iff.1 h3).1 hne).trans h3
theorem TxV.bs {w : World} {B : Nat} {r : Value} {T : Nat → Nat} (h : TxV w B r T) (hT : ∀ i, T i < 256) : ∃ a cap, r = .slice a 65 cap ∧ Bs w a 65 T := by
  obtain ⟨b, c, cap, e, h1, h2, h3, h4⟩ := h
  refine ⟨_, cap, e, hT, fun _ => ⟨b, 0, rfl, fun i hi => ?_⟩⟩
  rw [cell_of_row _ _ _ _ _ _ h3, Nat.zero_add]
  exact h4 i hi
/-- Texts, in the order of a row of slices. -/
def TsAt (w : World) (B : Nat) (xs : List Value) (T : List (Nat → Nat)) : Prop := xs.length = T.length ∧ ∀ i, i < T.length → TxV w B (xs.getD i undef) (T.getD i fun _ => 0)
theorem TsAt.app {w : World} {B : Nat} {xs ys : List Value} {T U : List (Nat → Nat)} (h : TsAt w B xs T) (k : TsAt w B ys U) : TsAt w B (xs ++ ys) (T ++ U) := by
  refine ⟨by rw [List.length_append, List.length_append, h.1, k.1], fun i hi => ?_⟩
  rw [List.length_append] at hi
  rcases Nat.lt_or_ge i T.length with h1 | h1
  · have := h.2 i h1
    simp only [List.getD_eq_getElem?_getD] at this ⊢
    rw [List.getElem?_append_left (by rw [h.1]; exact h1), List.getElem?_append_left h1]
    exact this
  · have := k.2 (i - T.length) (by omega)
    simp only [List.getD_eq_getElem?_getD] at this ⊢
    rw [List.getElem?_append_right (by rw [h.1]; exact h1), List.getElem?_append_right h1, h.1]
    exact this
theorem TsAt.map {w w' : World} {B B' : Nat} {xs : List Value} {T : List (Nat → Nat)} (h : TsAt w B xs T) (f : ∀ {r T}, TxV w B r T → TxV w' B' r T) : TsAt w' B' xs T := ⟨h.1, fun i hi => f (h.2 i hi)⟩
theorem TsAt.one {w : World} {B : Nat} {r : Value} {T : Nat → Nat} (h : TxV w B r T) : TsAt w B [r] [T] := ⟨rfl, fun i hi => by
  obtain rfl : i = 0 := by simp at hi; omega
  exact h⟩
theorem TsAt.none (w : World) (B : Nat) : TsAt w B [] [] := ⟨rfl, fun i hi => absurd hi (by simp)⟩
theorem info_sl : (Tryd.prog.info? 79).map (fun i => (i.zero, i.size, i.bytes)) = some (some (.slice none 0 0), 1, 24) := by kernel_rfl
theorem TsAt.cells {w : World} {B : Nat} {xs : List Value} {T : List (Nat → Nat)} (h : TsAt w B xs T) : ∀ v ∈ xs, v.oneCell' = true := by
  intro v hv
  obtain ⟨i, hi, rfl⟩ := List.getElem_of_mem hv
  obtain ⟨b, c, cap, e, _⟩ := h.2 i (by rw [← h.1]; exact hi)
  rw [List.getD_eq_getElem?_getD, List.getElem?_eq_getElem hi, Option.getD_some] at e
  rw [e]; rfl
/-- Slices are put behind a row of slices of the call's own. -/
theorem run_append_sl (w : World) (base ty : Nat) (v : Value) (n : Nat) (xs : List Value) (hown : w.ownsRow base 79 1 v n xs) (u : Value) (m : Nat) (ys : List Value) (hu : w.ownsRow 0 79 1 u m ys) (h1 : ∀ y ∈ ys, y.oneCell' = true)
    (hbytes : n + m ≤ 1000000) (hbase : base ≤ w.heap.size) :
    ∃ v' w', (Builtin.append_ #[62, 62] ty #[v, u]).run Tryd.prog w = .ok v' w' ∧ w'.ownsRow base 79 1 v' (n + m) (xs ++ ys) ∧ w.grownBy w' v.ownBlock := by
  obtain ⟨i0, hi, hz0, hz1, hz2⟩ := info_parts info_sl
  rcases hu.2 with ⟨rfl, rfl⟩ | ⟨gu, cu, curu, rfl, _, hgu, hnu, _, hcsu, htu⟩
  · obtain rfl : ys = [] := List.eq_nil_of_length_eq_zero (by rw [hu.1])
    refine ⟨v, w, ?_, by simpa using hown, ⟨rfl, rfl, rfl, Nat.le_refl _, fun _ _ _ => rfl⟩⟩
    rcases hown.2 with ⟨rfl, rfl⟩ | ⟨g, cap, cur, rfl, _, _, hnc, _⟩
    · simp [Builtin.append_, run_underlying Tryd.underlying62, sizeOf, typeInfo, hi, Builtin.lenOf, Builtin.firstCells]
    · simp [Builtin.append_, run_underlying Tryd.underlying62, sizeOf, typeInfo, hi, Builtin.lenOf, Builtin.firstCells, hnc, storeCells]
  · have hnews : ∀ j x, ys[j]? = some x → w.cell? ((⟨gu, 0, none⟩ : Addr).add j) = some x := by
      intro j x hj
      rw [← htu, List.getElem?_take] at hj
      split at hj
      · rw [Addr.add_lit, cell_of_row _ _ _ _ _ _ hgu, Nat.zero_add, ← Array.getElem?_toList]; exact hj
      · cases hj
    obtain ⟨v', w', hr, h4, h5, _, h6⟩ := run_append_own_at (P := Tryd.prog) w base 62 ty 79 i0 _ 1 24 Tryd.underlying62 hi hz0 hz1 hz2 rfl (by decide) v n xs hown ⟨gu, 0, none⟩ m cu ys (by rw [hu.1]) hnews
      h1 (by unfold maxLen; omega) (by omega) hbase
    exact ⟨v', w', hr, h4, h5⟩
theorem step_append_sl {w : World} {ops : Array Oper} {o : Oper} {a : Act} {K : Act → World → Prop} {Q : Exit → Act → World → Prop} {E : Prop} (hgd : o.guard = none) (s x : Operand)
    (ho : o.op = .call { callee := .builtin .append, args := #[s, x], argTypes := #[62, 62] }) (base : Nat)
    (v : Value) (n : Nat) (xs : List Value) (hs : a.eval s = v) (hown : w.ownsRow base 79 1 v n xs) (u : Value) (m : Nat) (ys : List Value) (hx : a.eval x = u) (hu : w.ownsRow 0 79 1 u m ys) (h1 : ∀ y ∈ ys, y.oneCell' = true)
    (hbytes : n + m ≤ 1000000) (hbase : base ≤ w.heap.size)
    (h : ∀ v' w', w'.ownsRow base 79 1 v' (n + m) (xs ++ ys) → w.grownBy w' v.ownBlock → K (a.put o.dst v') w') : if Region.wanted o (yielded ops a.tmps) = true then Oper.wp Tryd.prog o a w K Q else E := by
  have hw : Region.wanted o (yielded ops a.tmps) = true := by simp [Region.wanted, hgd]
  rw [if_pos hw]
  obtain ⟨v', w', hr, h2, h3⟩ := run_append_sl w base o.type v n xs hown u m ys hu h1 hbytes hbase
  unfold Oper.wp execOp
  simp only [ho, resolve, invoke, builtin, Sem.run_bind, Sem.run_pure, Result.andThen_ok, List.map_toArray, List.map_cons, List.map_nil, hs, hx, hr]
  exact h v' w' h2 h3
/-- A call in a region that draws, whatever it answers. -/
theorem step_any1 {w : World} {ops : Array Oper} {o : Oper} {a : Act} {K : Act → World → Prop} {Q : Exit → Act → World → Prop} {E : Prop} (hgd : o.guard = none) (f : FuncId) (x : Operand) {tys : Array TypeId} (ho : o.op = .call { callee := .value (.func f), args := #[x], argTypes := tys }) {v : Value} {J : Value → World → Prop} (hx : a.eval x = v)
    (he : ∀ w, (callFunc f #[v]).run Tryd.prog w = .ok (.enter f #[v]) w) (hc : Calls Tryd.prog f #[v] w fun e w' => ∃ r, e = .returned r ∧ J r w') (h : ∀ r w', J r w' → K (a.put o.dst r) w') : if Region.wanted o (yielded ops a.tmps) = true then Oper.wp Tryd.prog o a w K Q else E := by
  have hw : Region.wanted o (yielded ops a.tmps) = true := by simp [Region.wanted, hgd]
  rw [if_pos hw]
  have hev : a.eval (.func f) = .func (.func f) #[] #[] := rfl
  have hv : #[x].map a.eval = #[v] := by simp [hx]
  unfold Oper.wp execOp
  simp only [ho, resolve, invoke, Sem.run_bind, hv, hev, Deferred.ofValue, Sem.run_pure, Result.andThen_ok, Array.append_empty, Array.empty_append, he, Oper.upon_enter]
  exact hc.mono (by rintro e w' ⟨r, rfl, hJ⟩; exact h r w' hJ)
theorem step_any2 {w : World} {ops : Array Oper} {o : Oper} {a : Act} {K : Act → World → Prop} {Q : Exit → Act → World → Prop} {E : Prop} (hgd : o.guard = none) (f : FuncId) (x y : Operand) {tys : Array TypeId} (ho : o.op = .call { callee := .value (.func f), args := #[x, y], argTypes := tys }) {v u : Value} {J : Value → World → Prop} (hx : a.eval x = v) (hy : a.eval y = u)
    (he : ∀ w, (callFunc f #[v, u]).run Tryd.prog w = .ok (.enter f #[v, u]) w) (hc : Calls Tryd.prog f #[v, u] w fun e w' => ∃ r, e = .returned r ∧ J r w') (h : ∀ r w', J r w' → K (a.put o.dst r) w') : if Region.wanted o (yielded ops a.tmps) = true then Oper.wp Tryd.prog o a w K Q else E := by
  have hw : Region.wanted o (yielded ops a.tmps) = true := by simp [Region.wanted, hgd]
  rw [if_pos hw]
  have hev : a.eval (.func f) = .func (.func f) #[] #[] := rfl
  have hv : #[x, y].map a.eval = #[v, u] := by simp [hx, hy]
  unfold Oper.wp execOp
  simp only [ho, resolve, invoke, Sem.run_bind, hv, hev, Deferred.ofValue, Sem.run_pure, Result.andThen_ok, Array.append_empty, Array.empty_append, he, Oper.upon_enter]
  exact hc.mono (by rintro e w' ⟨r, rfl, hJ⟩; exact h r w' hJ)
set_option maxHeartbeats 4000000 in
set_option maxRecDepth 100000 in
theorem text_h {F G : Nat → Nat} {W0 : World} (hF : ∀ i, F i < 256) (hG : ∀ i, G i < 256) : Calls Tryd.prog 51 #[.agg (ab 32 F), .agg (ab 32 G)] W0 fun e w' => ∃ r, e = .returned r ∧ TxV w' W0.heap.size r (txt F G) ∧ Below W0.heap.size W0 w' := by
  obtain ⟨A, hA⟩ : ∃ A, Hid (A = ab 32 F) := ⟨_, hide1 rfl⟩
  obtain ⟨B, hB⟩ : ∃ B, Hid (B = ab 32 G) := ⟨_, hide1 rfl⟩
  obtain ⟨T, hT⟩ : ∃ T, Hid (T = txt F G) := ⟨_, hide1 rfl⟩
  have hTl : ∀ i, T i < 256 := by rw [hT.out]; exact txt_b hF hG
  have hX1 : bvs 1 (fun _ => 1) ++ bvs 32 F = bvs 33 T := by
    rw [show bvs 1 (fun _ => 1) = bvs 1 T from bvs_cong fun i hi => by rw [hT.out]; unfold txt; rw [if_pos (by omega)]]
    exact bvs_app fun i hi => by rw [hT.out]; unfold txt; rw [if_neg (by omega), if_pos (by omega), show 1 + i - 1 = i by omega]
  have hX2 : bvs 33 T ++ bvs 32 G = bvs 65 T := bvs_app fun i hi => by rw [hT.out]; unfold txt; rw [if_neg (by omega), if_neg (by omega), show 33 + i - 33 = i by omega]
  rw [← hA.out, ← hB.out, ← hT.out]
  have bxA : ∀ w : World, (Instr.box 34 (.agg A)).run Tryd.prog w = .ok (.pointer (some ⟨w.heap.size, 0, none⟩)) (w.alloc (.cells A 34)) := fun w => bx_agg w
  have bxB : ∀ w : World, (Instr.box 34 (.agg B)).run Tryd.prog w = .ok (.pointer (some ⟨w.heap.size, 0, none⟩)) (w.alloc (.cells B 34)) := fun w => bx_agg w
  obtain ⟨w1, hw1⟩ : ∃ w1, Hid (w1 = (W0.alloc (.cells A 34)).alloc (.cells B 34)) := ⟨_, hide1 rfl⟩
  have h1 : Below W0.heap.size W0 w1 := by rw [hw1.out]; exact ((Below.refl _ _).alloc (Nat.le_refl _) _).alloc (by simp) _
  have rA : w1.heap[W0.heap.size]? = some (.cells A 34 (0, 0)) := by
    rw [hw1.out, Below.heap_alloc _ _ _ (by simp)]; exact (MapKept.heap_alloc W0 _).1
  have rB : w1.heap[W0.heap.size + 1]? = some (.cells B 34 (0, 0)) := by
    rw [hw1.out]
    have := (MapKept.heap_alloc (W0.alloc (.cells A 34)) (.cells B 34)).1
    rwa [show (W0.alloc (.cells A 34)).heap.size = W0.heap.size + 1 by simp] at this
  have bA : ∀ w', Below w1.heap.size w1 w' → Bs w' (some ⟨W0.heap.size, 0, none⟩) 32 F := fun w' hb => by
    have := bs_ab (off := 0) (n := 32) hF (by rw [hA.out] at rA; exact rA) (Nat.le_refl _)
    simpa using this.later hb
  have bB : ∀ w', Below w1.heap.size w1 w' → Bs w' (some ⟨W0.heap.size + 1, 0, none⟩) 32 G := fun w' hb => by
    have := bs_ab (off := 0) (n := 32) hG (by rw [hB.out] at rB; exact rB) (Nat.le_refl _)
    simpa using this.later hb
  have hs1 := h1.size
  have hoX : ∀ w' : World, w'.heap = (w1.alloc (.cells #[.int .u8 1] 5)).heap → w'.ownsRow w1.heap.size 5 1 (.slice (some ⟨w1.heap.size, 0, none⟩) 1 1) 1 (bvs 1 fun _ => 1) := fun w' hw => by
    have h := own_one w1 1
    exact ⟨h.1, by
      rcases h.2 with e | ⟨g, cap, cur, r1, r2, r3, r4⟩
      · exact .inl e
      · exact .inr ⟨g, cap, cur, r1, r2, by rw [hw]; exact r3, r4⟩⟩
  go_enter Tryd.func51, Tryd.ntmps51
  go_upto_region 1 with fail
  rw [← hw1.out]
  replace hoX := hide1 hoX
  clear bxA bxB rA rB
  go_region_law (first
    | (refine step_append_f rfl (.tmp 5) (.tmp 6) rfl w1.heap.size _ 1 _ (by first | (simp [Act.eval]; done) | (simp [Act.eval, Act.put]; done) | rfl) (hoX.out _ rfl) _ 32 32 F (by first | (simp [Act.eval]; done) | (simp [Act.eval, Act.put]; done) | rfl) (bA _ (((Below.refl _ _).alloc (Nat.le_refl _) _).drew)) (by omega) (by simp) ?_
       intro v1 w2 ho2 hg2 _
       rw [hX1] at ho2
       have hw2 := below_app (((Below.refl _ _).alloc (Nat.le_refl _) _).drew) (by simp) (hoX.out _ rfl) hg2
       obtain ⟨a1, c1, rfl, -, -⟩ := bs_own ho2 hTl
       have hs2 := hide1 hw2.size
       clear hg2)
    | (refine step_append_f rfl (.tmp 7) (.tmp 8) rfl w1.heap.size _ 33 _ (by first | (simp [Act.eval]; done) | (simp [Act.eval, Act.put]; done) | rfl) ho2 _ 32 32 G (by first | (simp [Act.eval]; done) | (simp [Act.eval, Act.put]; done) | rfl) (bB _ hw2) (by omega) hs2.out ?_
       intro v2 w3 ho3 hg3 _
       rw [hX2] at ho3
       have hw3 := below_app hw2 hs2.out ho2 hg3
       have ht3 := tx_own hs1 ho3
       have hf3 := h1.trans (hw3.mono hs1)
       replace ht3 := hide1 ht3
       replace hf3 := hide1 hf3
       clear hg3 ho3 ho2))
  all_goals
    go_wp2
    go_ret
    exact ⟨_, rfl, ht3.out, hf3.out⟩
end Go.Proofs.YtbmhehppokcfnaaDoor

namespace Go.Proofs.YtbmhehppokcfnaaDoor
open Go.RowKit Go.Maps Sh

/-- What Texts answers. -/
def TsO (W0 : World) (T : List (Nat → Nat)) (r : Value) (w' : World) : Prop := ∃ xs, w'.ownsRow W0.heap.size 79 1 r T.length xs ∧ TsAt w' W0.heap.size xs T ∧ Below W0.heap.size W0 w'
theorem own_any {w : World} {base : Nat} {e : TypeId} {v : Value} {n : Nat} {xs : List Value} (h : w.ownsRow base e 1 v n xs) : w.ownsRow 0 e 1 v n xs := by
  refine ⟨h.1, ?_⟩
  rcases h.2 with h2 | ⟨g, cap, cur, e1, _, r⟩
  · exact .inl h2
  · exact .inr ⟨g, cap, cur, e1, Nat.zero_le _, r⟩
theorem own_at {w w' : World} {base : Nat} {e : TypeId} {v : Value} {n : Nat} {xs : List Value} (h : w.ownsRow base e 1 v n xs) (hb : Below w.heap.size w w') : w'.ownsRow base e 1 v n xs := by
  refine ⟨h.1, ?_⟩
  rcases h.2 with h2 | ⟨g, cap, cur, e1, hb', hg, r⟩
  · exact .inl h2
  · exact .inr ⟨g, cap, cur, e1, hb', (hb.block g (Array.getElem?_eq_some_iff.1 hg).1).trans hg, r⟩
theorem own_mono {w : World} {base base' : Nat} {e : TypeId} {v : Value} {n : Nat} {xs : List Value} (h : w.ownsRow base e 1 v n xs) (hb : base' ≤ base) : w.ownsRow base' e 1 v n xs := by
  refine ⟨h.1, ?_⟩
  rcases h.2 with h2 | ⟨g, cap, cur, e1, hb', r⟩
  · exact .inl h2
  · exact .inr ⟨g, cap, cur, e1, by omega, r⟩
theorem own_ty {w : World} {base : Nat} {e : TypeId} {v : Value} {n : Nat} {xs : List Value} (h : w.ownsRow base e 1 v n xs) : ∀ g, v.ownBlock = some g → ∃ c, w.heap[g]? = some (.cells c e (0, 0)) := by
  intro g hg
  rcases h.2 with ⟨rfl, _⟩ | ⟨q, cap, cur, rfl, _, hq, _⟩
  · cases hg
  · cases hg; exact ⟨cur, hq⟩
set_option maxHeartbeats 4000000 in
set_option maxRecDepth 100000 in
theorem texts_2 {b off n cap : Nat} {W0 : World} {L : List (Nat → Nat)} (hL : L.length = n) (hn : 2 ≤ n) (hm : n ≤ 1000) (hcap : n ≤ cap) (hs : SsAt W0 (some ⟨b, off, none⟩) L)
    (hlo : ∀ w, Below W0.heap.size W0 w → Calls Tryd.prog 44 #[.slice (some ⟨b, off, none⟩) (cut n) cap] w fun e w' => ∃ r, e = .returned r ∧ TsO w (texts (L.take (cut n))) r w')
    (hhi : ∀ w, Below W0.heap.size W0 w → Calls Tryd.prog 44 #[.slice (some ⟨b, off + 32 * cut n, none⟩) (n - cut n) (cap - cut n)] w fun e w' => ∃ r, e = .returned r ∧ TsO w (texts (L.drop (cut n))) r w') :
    Calls Tryd.prog 44 #[.slice (some ⟨b, off, none⟩) n cap] W0 fun e w' => ∃ r, e = .returned r ∧ TsO W0 (texts L) r w' := by
  have hk := cut_in hn
  have ht := texts_n (l := L) (by omega)
  rw [hL] at ht
  have l1 : (L.take (cut n)).length = cut n := by rw [List.length_take]; omega
  have l2 : (L.drop (cut n)).length = n - cut n := by rw [List.length_drop]; omega
  have b1 := root_lt _ (L.take (cut n)) rfl (fun F hF => hs.1 F (List.mem_of_mem_take hF))
  have b2 := root_lt _ (L.drop (cut n)) rfl (fun F hF => hs.1 F (List.mem_of_mem_drop hF))
  have tl1 := texts_len _ (L.take (cut n)) l1
  have tl2 := texts_len _ (L.drop (cut n)) l2
  have r1 := fun w (hb : Below W0.heap.size W0 w) => root_r (cut n) (L.take (cut n)) _ cap w l1 (by omega) (hs.lo.later hb) (by omega)
  have r2 := fun w (hb : Below W0.heap.size W0 w) => root_r (n - cut n) (L.drop (cut n)) _ (cap - cut n) w l2 (by omega) (hs.hi.later hb) (by omega)
  have s1 := fun w => sl_lo (b := b) (off := off) (n := n) (cap := cap) (k := cut n) (by omega) hcap w
  have s2 := fun w => sl_hi (b := b) (off := off) (n := n) (cap := cap) (k := cut n) (by omega) hcap w
  have ck := cut_r (n : Int) (by omega)
  rw [Int.toNat_natCast] at ck
  generalize hA : root (L.take (cut n)) = A at *
  generalize hB : root (L.drop (cut n)) = B at *
  have tx := fun w => text_h (W0 := w) b1 b2
  generalize hU : txt A B = U at *
  generalize hT1 : texts (L.take (cut n)) = T1 at *
  generalize hT2 : texts (L.drop (cut n)) = T2 at *
  have hnl : ¬ ((n : Int) < 2) := by omega
  rw [ht]
  replace ht := hide1 ht
  replace hA := hide1 hA
  replace hB := hide1 hB
  replace hU := hide1 hU
  replace hT1 := hide1 hT1
  replace hT2 := hide1 hT2
  replace l1 := hide1 l1
  replace l2 := hide1 l2
  generalize cut n = k at *
  obtain ⟨hk1, hk2, hk3⟩ := hk
  go_enter Tryd.func44, Tryd.ntmps44
  go_wp2_with fail
  refine (ck _).mono ?_
  rintro e w1 ⟨rfl, rfl⟩
  go_wp2_with fail
  have hbd : Below w1.heap.size w1 w1.drew := (Below.refl _ _).drew
  go_region_law (first
    | (refine step_any1 rfl 44 (.tmp 13) rfl (by first | (simp [Act.eval]; done) | (simp [Act.eval, Act.put]; done) | rfl) (fun w => by kernel_rfl) (hlo _ hbd) ?_
       rintro q1 w2 ⟨xs, ho1, ht1, hb2⟩
       replace hb2 := hbd.trans (hb2.mono (Nat.le_refl _))
       replace ho1 := hide1 ho1
       replace ht1 := hide1 ht1)
    | (refine step_any1 rfl 44 (.tmp 17) rfl (by first | (simp [Act.eval]; done) | (simp [Act.eval, Act.put]; done) | rfl) (fun w => by kernel_rfl) (hhi _ hb2) ?_
       rintro q2 w3 ⟨ys, ho2, ht2, hb3⟩
       have hs2 := hb2.size
       have ho13 := own_at ho1.out hb3
       have ht13 := ht1.out.map fun h => h.later hb3
       have hb13 := hb2.trans (hb3.mono hs2)
       have ho2a := own_any ho2
       have ht2a := ht2.map fun h => h.mono hs2
       replace ho13 := hide1 ho13
       replace ho2a := hide1 ho2a
       replace ht13 := hide1 ht13
       replace ht2a := hide1 ht2a
       replace hs2 := hide1 hs2
       clear ho1 ht1 ho2 ht2 hb3 hb2)
    | (refine step_append_sl rfl (.tmp 14) (.tmp 18) rfl w1.heap.size _ T1.length xs (by first | (simp [Act.eval]; done) | (simp [Act.eval, Act.put]; done) | rfl) ho13.out _ T2.length ys (by first | (simp [Act.eval]; done) | (simp [Act.eval, Act.put]; done) | rfl) ho2a.out ht2a.out.cells (by omega) hb13.size ?_
       intro q3 w4 ho4 hg4
       have ht4 := (ht13.out.map fun h => h.grown hg4 (own_ty ho13.out)).app (ht2a.out.map fun h => h.grown hg4 (own_ty ho13.out))
       have hb4 : Below w1.heap.size w1 w4 := hb13.grown hg4 hb13.size (fun g e => (ho13.out.lt g e).1)
       replace ho4 := hide1 ho4
       replace ht4 := hide1 ht4
       clear hg4 ho13 ho2a ht13 ht2a hb13))
  all_goals
    clear hlo hhi hbd
    go_wp2_with fail
    have hb4d : Below w1.heap.size w1 w4.drew := hb4.drew
    have r1d := fun w hb => (r1 w hb).mono (R' := fun e w' => ∃ r, e = .returned r ∧ (r = .agg (ab 32 A) ∧ Below w.heap.size w w')) fun e w' h => ⟨_, h.1, rfl, h.2⟩
    have r2d := fun w hb => (r2 w hb).mono (R' := fun e w' => ∃ r, e = .returned r ∧ (r = .agg (ab 32 B) ∧ Below w.heap.size w w')) fun e w' h => ⟨_, h.1, rfl, h.2⟩
    clear r1 r2
    have ho4d : Hid (w4.drew.ownsRow w1.heap.size 79 1 q3 (T1.length + T2.length) (xs ++ ys)) := ho4
    have ht4d : Hid (TsAt w4.drew w1.heap.size (xs ++ ys) (T1 ++ T2)) := ht4
    clear ho4 ht4 hb4
    go_region_law (first
      | (refine step_any1 rfl 15 (.tmp 23) rfl (by first | (simp [Act.eval]; done) | (simp [Act.eval, Act.put]; done) | rfl) (fun w => by kernel_rfl) (r1d _ hb4d) ?_
         rintro _ w5 ⟨rfl, hb5⟩
         have hb15 := hb4d.trans (hb5.mono hb4d.size)
         have ho5 := hide1 (own_at ho4d.out hb5)
         have ht5 := hide1 (ht4d.out.map fun h => h.later hb5))
      | (refine step_any1 rfl 15 (.tmp 27) rfl (by first | (simp [Act.eval]; done) | (simp [Act.eval, Act.put]; done) | rfl) (fun w => by kernel_rfl) (r2d _ hb15) ?_
         rintro _ w6 ⟨rfl, hb6⟩
         have hb16 := hb15.trans (hb6.mono hb15.size)
         have ho6 := hide1 (own_at ho5.out hb6)
         have ht6 := hide1 (ht5.out.map fun h => h.later hb6))
      | (refine step_any2 rfl 51 (.tmp 24) (.tmp 28) rfl (by first | rfl | (simp [Act.eval]; done)) (by first | rfl | (simp [Act.eval]; done)) (fun w => by kernel_rfl) (tx w6) ?_
         rintro rt w7 ⟨htx, hb7⟩
         have htx2 := htx
         obtain ⟨tb, _, tcap, rfl, _⟩ := htx2
         have hb17 := hb16.trans (hb7.mono hb16.size)
         have ho7 := hide1 (own_at ho6.out hb7)
         have ht7 := hide1 (ht6.out.map fun h => h.later hb7)
         have hal : Below w7.heap.size w7 (w7.alloc (.cells #[.slice (some ⟨tb, 0, none⟩) 65 tcap] 79)) := (Below.refl _ _).alloc (Nat.le_refl _) _
         have ho8 := hide1 (own_at ho7.out hal)
         have ht8 := hide1 ((ht7.out.map fun h => h.later hal).app (TsAt.one ((htx.mono hb16.size).later hal)))
         have hb18 := hb17.trans (hal.mono hb17.size)
         have hu8 : Hid ((w7.alloc (.cells #[.slice (some ⟨tb, 0, none⟩) 65 tcap] 79)).ownsRow 0 79 1 (.slice (some ⟨w7.heap.size, 0, none⟩) 1 1) 1 [.slice (some ⟨tb, 0, none⟩) 65 tcap]) := hide1 ⟨rfl, .inr ⟨w7.heap.size, 1, _, rfl, Nat.zero_le _, (MapKept.heap_alloc w7 _).1, Nat.le_refl _, by decide, rfl, rfl⟩⟩
         have hc8 : ∀ y ∈ [Value.slice (some ⟨tb, 0, none⟩) 65 tcap], y.oneCell' = true := (TsAt.one htx).cells
         clear htx hal ho7 ht7 ho6 ht6 ho5 ht5)
      | (refine step_append_sl rfl (.tmp 20) (.tmp 30) rfl w1.heap.size _ (T1.length + T2.length) (xs ++ ys) (by first | (simp [Act.eval]; done) | (simp [Act.eval, Act.put]; done) | rfl) ho8.out _ 1 [.slice (some ⟨tb, 0, none⟩) 65 tcap] (by first | (simp [Act.eval]; done) | (simp [Act.eval, Act.put]; done) | rfl) hu8.out hc8 (by omega) hb18.size ?_
         intro r9 w9 ho9 hg9
         have ht9 := hide1 (ht8.out.map fun h => h.grown hg9 (own_ty ho8.out))
         have hb9 : Below w1.heap.size w1 w9 := hb18.grown hg9 hb18.size (fun g e => (ho8.out.lt g e).1)
         replace ho9 := hide1 ho9
         clear hg9))
    all_goals
      go_wp2
      go_ret
      refine ⟨_, rfl, _, ?_, ht9.out, hb9⟩
      rw [List.length_append, List.length_append]
      exact ho9.out
theorem texts_r : ∀ (n : Nat) (L : List (Nat → Nat)) (a : Option Addr) (cap : Nat) (W0 : World), L.length = n → n ≤ 1000 → SsAt W0 a L → n ≤ cap → Calls Tryd.prog 44 #[.slice a n cap] W0 fun e w' => ∃ r, e = .returned r ∧ TsO W0 (texts L) r w' := by
  intro n
  induction n using Nat.strongRecOn with
  | ind n ih =>
    intro L a cap W0 hL hm hs hcap
    rcases Nat.lt_or_ge n 2 with h2 | h2
    · rw [texts_s (by omega)]
      have hnl : (n : Int) < 2 := by omega
      go_enter Tryd.func44, Tryd.ntmps44
      go_wp2
      go_ret
      exact ⟨_, rfl, [], ⟨rfl, .inl ⟨rfl, rfl⟩⟩, TsAt.none _ _, Below.refl _ _⟩
    · obtain ⟨b, off, rfl, hc⟩ := hs.2 (by omega)
      have hk := cut_in h2
      exact texts_2 hL h2 hm hcap hs
        (fun w hw => ih (cut n) hk.2.1 (L.take (cut n)) _ cap w (by rw [List.length_take]; omega) (by omega) (hs.lo.later hw) (by omega))
        (fun w hw => ih (n - cut n) (by omega) (L.drop (cut n)) _ (cap - cut n) w (by rw [List.length_drop]; omega) (by omega) (hs.hi.later hw) (by omega))
end Go.Proofs.YtbmhehppokcfnaaDoor

namespace Go.Proofs.YtbmhehppokcfnaaDoor
open Go.RowKit
section
variable {P : Program} {Q : Exit → Act → World → Prop}
theorem putg_ {a : Act} {d t : Nat} {v : Value} (hd : d < a.tmps.size) : (a.put (some d) v).tmps.getD t undef = if t = d then v else a.tmps.getD t undef := by
  unfold Act.put
  simp only [Array.getD_eq_getD_getElem?, Array.getElem?_setIfInBounds]
  by_cases e : d = t
  · subst e; simp [hd]
  · rw [if_neg e, if_neg (fun h => e h.symm)]
theorem wp_val {o : Oper} {a : Act} {w w' : World} {K : Act → World → Prop} {v : Value} (h : (execOp a.eval o).run P w = .ok (.value v) w') (hk : K (a.put o.dst v) w') : o.wp P a w K Q := by
  unfold Oper.wp; rw [h]; exact hk
theorem wp_skp {o : Oper} {a : Act} {w w' : World} {K : Act → World → Prop} (h : (execOp a.eval o).run P w = .ok .skip w') (hk : K (a.put o.dst undef) w') : o.wp P a w K Q := by
  unfold Oper.wp; rw [h]; exact hk
theorem wnt {ops : Array Oper} {a : Act} {o : Oper} {j d : Nat} (hg : o.guard = some (j, true)) (hd : (ops[j]?).bind (·.dst) = some d) (h : a.tmps.getD d undef = .bool true) : Region.wanted o (yielded ops a.tmps) = true := by
  have ht : a.tmps[d]? = some (.bool true) := by
    rw [Array.getD_eq_getD_getElem?] at h
    cases hx : a.tmps[d]? with
    | none => rw [hx] at h; cases h
    | some x => rw [hx] at h; rw [← h]; rfl
  unfold Region.wanted yielded
  rw [hg]
  simp only [hd, Option.bind_some, ht]
  rfl
theorem s_raw {fn : Func} {a : Act} {w : World} {R : Ending → World → Prop} {t : Nat} {v : Value} (hd : a.defers = []) (ht : t < a.tmps.size) (hv : a.tmps.getD t undef = v) (hr : fn.results = #[.tmp t]) (hR : R (.returned v) w) : bodyPost P fn R .ret a w := by
  refine ⟨hd, v, ?_, hR⟩
  have htm : a.tmps[t]? = some v := by
    simp only [Array.getD, ht] at hv
    simp at hv
    simp [ht, hv]
  simp only [results, hr]
  simp [htm]
/-- One operation's step: the others' answers stay told, the memory's predicate goes on. -/
def Hop (P : Program) (Q : Exit → Act → World → Prop) (l : List Oper) (n : Nat) (a0 : Act) (dd : Nat → Nat) (Rr : (Nat → Bool) → Nat → Value → World → Prop) (M : (Nat → Bool) → World → Prop) (i : Nat) (o : Oper) : Prop :=
  ∀ (D : Nat → Bool) (a : Act) (w : World), M D w → (∀ t, (∀ j, j < n → dd j ≠ t) → a.tmps.getD t undef = a0.tmps.getD t undef) → (∀ e ∈ o.after, Region.binds .any e = true → Rr D e.on (a.tmps.getD (dd e.on) undef) w ∧ D e.on = true) → D i = false → (∀ j oj, l[j]? = some oj → D j = true → ∀ e ∈ oj.after, Region.binds .any e = true → D e.on = true) →
    ∀ K : Act → World → Prop, (∀ v w', Rr (add1 D i) i v w' → M (add1 D i) w' → (∀ j u, j ≠ i → Rr D j u w → Rr (add1 D i) j u w') → K (a.put o.dst v) w') → Region.wanted o (yielded l.toArray a.tmps) = true ∧ o.wp P a w K Q
theorem wp_rel3 {l : List Oper} {id : Nat} (a0 : Act) (w0 : World) (Rr : (Nat → Bool) → Nat → Value → World → Prop) (M : (Nat → Bool) → World → Prop) (dd : Nat → Nat) (hm : P.follows .mixedOrders = true) (hac : acycB l.toArray = true) (n : Nat) (hn : l.length = n)
    (hdst : ∀ i o, l[i]? = some o → (o.dst = some (dd i) ∧ dd i < a0.tmps.size) ∨ (o.dst = none ∧ ∀ D v w, Rr D i v w → Rr D i undef w) ∧ a0.tmps.size ≤ dd i)
    (hinj : ∀ i j, i < n → j < n → dd i = dd j → i = j) (hdf : a0.defers = []) (h0 : M (fun _ => false) w0.drew)
    (hop : ∀ i o, l[i]? = some o → Hop P Q l n a0 dd Rr M i o)
    (hend : ∀ (D : Nat → Bool) (a : Act) (w : World), (∀ i, i < n → D i = true) → a.defers = [] → a.tmps.size = a0.tmps.size → M D w → (∀ t, (∀ j, j < n → dd j ≠ t) → a.tmps.getD t undef = a0.tmps.getD t undef) → (∀ i, i < n → Rr D i (a.tmps.getD (dd i) undef) w) → Q .normal a w) : (Code.region id l.toArray true).wp P Q a0 w0 := by
  subst hn
  have hacyc := acyc_of (ops := l.toArray) hac
  refine wp_region_any hm (wpAny_sym hacyc (fun D a w => a.defers = [] ∧ a.tmps.size = a0.tmps.size ∧ M D w ∧ (∀ t, (∀ j, j < l.length → dd j ≠ t) → a.tmps.getD t undef = a0.tmps.getD t undef) ∧ (∀ i, i < l.length → D i = true → Rr D i (a.tmps.getD (dd i) undef) w) ∧ ∀ j oj, l[j]? = some oj → D j = true → ∀ e ∈ oj.after, Region.binds .any e = true → D e.on = true) ?_ ?_ l.toArray.size _ a0 _ (by simp) ?_ ?_)
  · rintro D a w ⟨h1, h2, h3, h4, h5, h6⟩ i o ho hD hdep K hK
    have ho' : l[i]? = some o := by simpa using ho
    have hil : i < l.length := (List.getElem?_eq_some_iff.1 ho').1
    left
    refine hop i o ho' D a w h3 h4 (fun e he hb => ⟨h5 e.on (by have := hacyc i o ho e he hb; omega) (hdep e he hb), hdep e he hb⟩) (by simpa using hD) h6 K fun v w' hR hM hmono => hK _ _ ?_
    have hold : ∀ j, j < l.length → j ≠ i → add1 D i j = true → Rr (add1 D i) j (a.tmps.getD (dd j) undef) w' := fun j hj hne hDj => hmono j _ hne (h5 j hj (by unfold add1 at hDj; rwa [if_neg hne] at hDj))
    have hcl : ∀ j oj, l[j]? = some oj → add1 D i j = true → ∀ e ∈ oj.after, Region.binds .any e = true → add1 D i e.on = true := by
      intro j oj hj hDj e he hb
      unfold add1
      split
      · rfl
      · unfold add1 at hDj
        split at hDj
        · rename_i hji
          subst hji
          rw [ho'] at hj; cases hj
          exact hdep e he hb
        · exact h6 j oj hj hDj e he hb
    rcases hdst i o ho' with ⟨hd, hlt⟩ | ⟨⟨hd, hu⟩, hge⟩
    · have hdi : dd i < a.tmps.size := by rw [h2]; exact hlt
      rw [hd]
      refine ⟨h1, by unfold Act.put; simpa using h2, hM, fun t ht => ?_, fun j hj hDj => ?_, hcl⟩
      · rw [putg_ hdi, if_neg (fun e => ht i hil e.symm)]; exact h4 t ht
      · rw [putg_ hdi]
        by_cases e : dd j = dd i
        · rw [if_pos e, hinj j i hj hil e]; exact hR
        · rw [if_neg e]; exact hold j hj (fun e2 => e (by rw [e2])) hDj
    · rw [hd]
      refine ⟨h1, h2, hM, h4, fun j hj hDj => ?_, hcl⟩
      by_cases e : j = i
      · subst e
        have hz : a.tmps.getD (dd j) undef = undef := by
          rw [Array.getD_eq_getD_getElem?, Array.getElem?_eq_none (by rw [h2]; exact hge)]; rfl
        rw [show (a.put none v).tmps.getD (dd j) undef = undef from hz]
        exact hu _ _ _ hR
      · exact hold j hj e hDj
  · rintro D a w ⟨h1, h2, h3, h4, h5, _⟩ hall
    exact hend D a w (fun i hi => hall i (by simpa using hi)) h1 h2 h3 h4 fun i hi => h5 i hi (hall i (by simpa using hi))
  · exact Nat.le_trans (List.length_filter_le _ _) (by simp)
  · have e : ∀ i, (Array.replicate l.toArray.size false).getD i false = false := by
      intro i
      by_cases h : i < l.toArray.size <;> simp [Array.getD]
    have ef : (fun i => (Array.replicate l.toArray.size false).getD i false) = fun _ => false := funext e
    refine ⟨hdf, rfl, ?_, fun _ _ => rfl, fun i _ hi => ?_, fun i _ _ hi => ?_⟩
    · exact ef ▸ h0
    · replace hi : (Array.replicate l.toArray.size false).getD i false = true := hi
      rw [e] at hi; cases hi
    · replace hi : (Array.replicate l.toArray.size false).getD i false = true := hi
      rw [e] at hi; cases hi
end
end Go.Proofs.YtbmhehppokcfnaaDoor

namespace Go.Proofs.YtbmhehppokcfnaaDoor
open Go.RowKit Sh
section
variable {Q : Exit → Act → World → Prop}
theorem oper_any {o : Oper} {a : Act} {w : World} {K : Act → World → Prop} (f : FuncId) (xs : Array Operand) (tys : Array TypeId) (ho : o.op = .call { callee := .value (.func f), args := xs, argTypes := tys }) (vs : Array Value) (hv : xs.map a.eval = vs) (he : ∀ w, (callFunc f vs).run Tryd.prog w = .ok (.enter f vs) w) {J : Value → World → Prop}
    (hc : Calls Tryd.prog f vs w fun e w' => ∃ r, e = .returned r ∧ J r w') (h : ∀ r w', J r w' → K (a.put o.dst r) w') : o.wp Tryd.prog a w K Q := by
  have hev : a.eval (.func f) = .func (.func f) #[] #[] := rfl
  unfold Oper.wp execOp
  simp only [ho, resolve, invoke, Sem.run_bind, hv, hev, Deferred.ofValue, Sem.run_pure, Result.andThen_ok, Array.append_empty, Array.empty_append, he, Oper.upon_enter]
  exact hc.mono (by rintro e w' ⟨r, rfl, hJ⟩; exact h r w' hJ)
theorem oper_app {o : Oper} {a : Act} {w : World} {K : Act → World → Prop} (s x : Operand) (ho : o.op = .call { callee := .builtin .append, args := #[s, x], argTypes := #[22, 22] }) (base : Nat) (v : Value) (n : Nat) (xs : List Value) (hs : a.eval s = v) (hown : w.ownsRow base 34 32 v n xs) {g : Nat} {R : Nat → Nat} (hx : a.eval x = .slice (some ⟨g, 0, none⟩) 1 1) (hg : w.heap[g]? = some (.cells (ab 32 R) 34 (0, 0))) (hR : ∀ i, R i < 256)
    (hbytes : n + 1 ≤ 1000000) (hbase : base ≤ w.heap.size) (h : ∀ v' w', w'.ownsRow base 34 32 v' (n + 1) (xs ++ ssv [R]) → Below base w w' → K (a.put o.dst v') w') : o.wp Tryd.prog a w K Q := by
  have hb : SsAt w (some ⟨g, 0, none⟩) [R] := ⟨fun F h j => by rw [List.mem_singleton.1 h]; exact hR j, fun _ => ⟨_, 0, rfl, fun i h j hj => by
    obtain rfl : i = 0 := by simpa using h
    rw [cell_of_row _ _ _ _ _ _ hg, show 0 + 32 * 0 + j = j by omega]
    exact arr_get _ _ _ hj⟩⟩
  obtain ⟨v', w', hr, h2, h3⟩ := run_append_ss w base o.type v n xs hown (some ⟨g, 0, none⟩) 1 1 [R] hb rfl hbytes hbase
  unfold Oper.wp execOp
  simp only [ho, resolve, invoke, builtin, Sem.run_bind, Sem.run_pure, Result.andThen_ok, List.map_toArray, List.map_cons, List.map_nil, hs, hx, hr]
  exact h v' w' h2 (own_below hown hbase h3)
end
def OwnS (base n : Nat) (L : List (Nat → Nat)) (v : Value) (w : World) : Prop := w.ownsRow base 34 32 v n (ssv L) ∧ base ≤ w.heap.size
theorem OwnS.later {base n : Nat} {L : List (Nat → Nat)} {v : Value} {w w' : World} (h : OwnS base n L v w) (hb : Below w.heap.size w w') : OwnS base n L v w' := ⟨own_later h.1 hb, Nat.le_trans h.2 hb.size⟩
def Row1 (R : Nat → Nat) (v : Value) (w : World) : Prop := ∃ g, v = .slice (some ⟨g, 0, none⟩) 1 1 ∧ w.heap[g]? = some (.cells (ab 32 R) 34 (0, 0))
theorem Row1.later {R : Nat → Nat} {v : Value} {w w' : World} (h : Row1 R v w) (hb : Below w.heap.size w w') : Row1 R v w' := by
  obtain ⟨g, e, h1⟩ := h
  exact ⟨g, e, (hb.block g (Array.getElem?_eq_some_iff.1 h1).1).trans h1⟩
theorem add1_ne {D : Nat → Bool} {i j : Nat} (h : j ≠ i) : add1 D i j = D j := by unfold add1; rw [if_neg h]
theorem add1_eq {D : Nat → Bool} {i : Nat} : add1 D i i = true := by unfold add1; rw [if_pos rfl]
end Go.Proofs.YtbmhehppokcfnaaDoor

namespace Go.Proofs.YtbmhehppokcfnaaDoor
open Go.RowKit Go.Maps Sh
section
variable {x u : Operand}
theorem sub_nn {m k : Nat} (h : k ≤ m) (hm : m ≤ 1000000000) (w : World) : (do eqGuard .sub 3 x u (.int .i64 ((m : Nat) : Int)) (.int .i64 ((k : Nat) : Int)); binOp .sub 3 (.int .i64 ((m : Nat) : Int)) (.int .i64 ((k : Nat) : Int))).run Tryd.prog w = .ok (.int .i64 ((m - k : Nat) : Int)) w := by
  have := sb_zn (x := x) (u := u) (m := ((m : Nat) : Int)) (n := ((k : Nat) : Int)) (k := m - k) (by omega) (by omega) w
  exact this
end
def PA5 (b off n cap i N1 B : Nat) (A : List (Nat → Nat)) (R : Nat → Nat) : (Nat → Bool) → Nat → Value → World → Prop
  | _, 0, v, _ => v = .slice (some ⟨b, off, none⟩) n cap
  | _, 1, v, _ => v = .int .i64 ((cut n : Nat) : Int)
  | _, 2, v, _ => v = .slice (some ⟨b, off, none⟩) (cut n) cap
  | _, 3, v, _ => v = .int .i64 ((i : Nat) : Int)
  | D, 4, v, w => D 10 = false → OwnS B N1 A v w
  | _, 5, v, _ => v = .slice (some ⟨b, off, none⟩) n cap
  | _, 6, v, _ => v = .int .i64 ((cut n : Nat) : Int)
  | _, 7, v, _ => v = .slice (some ⟨b, off + 32 * cut n, none⟩) (n - cut n) (cap - cut n)
  | _, 8, v, _ => v = .agg (ab 32 R)
  | D, 9, v, w => D 10 = false → Row1 R v w
  | D, 10, v, w => D 10 = true ∧ OwnS B (N1 + 1) (A ++ [R]) v w
  | D, 11, v, w => D 10 = true ∧ OwnS B (N1 + 1) (A ++ [R]) v w
  | _, _, _, _ => True
def PA5d : Nat → Nat
  | 0 => 15
  | 1 => 16
  | 2 => 17
  | 3 => 18
  | 4 => 19
  | 5 => 20
  | 6 => 21
  | 7 => 22
  | 8 => 23
  | 9 => 24
  | 10 => 25
  | 11 => 4
  | i => 2000 + i
theorem PA5_mono (b off n cap i N1 B : Nat) (A : List (Nat → Nat)) (R : Nat → Nat) {D : Nat → Bool} {ix : Nat} {w w' : World} (hD : D ix = false) (hb : ix ≠ 10 → Below w.heap.size w w') : ∀ (j : Nat) (u : Value), j ≠ ix → PA5 b off n cap i N1 B A R D j u w → PA5 b off n cap i N1 B A R (add1 D ix) j u w'
  | 0, _, _, h => h
  | 1, _, _, h => h
  | 2, _, _, h => h
  | 3, _, _, h => h
  | 4, _, _, h => fun hd => by
    by_cases e : ix = 10
    · subst e; rw [add1_eq] at hd; cases hd
    · rw [add1_ne (fun q => e q.symm)] at hd; exact (h hd).later (hb e)
  | 5, _, _, h => h
  | 6, _, _, h => h
  | 7, _, _, h => h
  | 8, _, _, h => h
  | 9, _, _, h => fun hd => by
    by_cases e : ix = 10
    · subst e; rw [add1_eq] at hd; cases hd
    · rw [add1_ne (fun q => e q.symm)] at hd; exact (h hd).later (hb e)
  | 10, _, _, h => by
    have e : ix ≠ 10 := fun e => by rw [e] at hD; rw [h.1] at hD; cases hD
    exact ⟨by rw [add1_ne (fun q => e q.symm)]; exact h.1, h.2.later (hb e)⟩
  | 11, _, _, h => by
    have e : ix ≠ 10 := fun e => by rw [e] at hD; rw [h.1] at hD; cases hD
    exact ⟨by rw [add1_ne (fun q => e q.symm)]; exact h.1, h.2.later (hb e)⟩
  | _ + 12, _, _, _ => trivial
def PA6 (b off n cap i N1 B : Nat) (A : List (Nat → Nat)) (R : Nat → Nat) : (Nat → Bool) → Nat → Value → World → Prop
  | _, 0, v, _ => v = .slice (some ⟨b, off, none⟩) n cap
  | _, 1, v, _ => v = .int .i64 ((cut n : Nat) : Int)
  | _, 2, v, _ => v = .slice (some ⟨b, off + 32 * cut n, none⟩) (n - cut n) (cap - cut n)
  | _, 3, v, _ => v = .int .i64 ((i : Nat) : Int)
  | _, 4, v, _ => v = .int .i64 ((cut n : Nat) : Int)
  | _, 5, v, _ => v = .int .i64 ((i - cut n : Nat) : Int)
  | D, 6, v, w => D 12 = false → OwnS B N1 A v w
  | _, 7, v, _ => v = .slice (some ⟨b, off, none⟩) n cap
  | _, 8, v, _ => v = .int .i64 ((cut n : Nat) : Int)
  | _, 9, v, _ => v = .slice (some ⟨b, off, none⟩) (cut n) cap
  | _, 10, v, _ => v = .agg (ab 32 R)
  | D, 11, v, w => D 12 = false → Row1 R v w
  | D, 12, v, w => D 12 = true ∧ OwnS B (N1 + 1) (A ++ [R]) v w
  | D, 13, v, w => D 12 = true ∧ OwnS B (N1 + 1) (A ++ [R]) v w
  | _, _, _, _ => True
def PA6d : Nat → Nat
  | 0 => 26
  | 1 => 27
  | 2 => 28
  | 3 => 29
  | 4 => 30
  | 5 => 31
  | 6 => 32
  | 7 => 33
  | 8 => 34
  | 9 => 35
  | 10 => 36
  | 11 => 37
  | 12 => 38
  | 13 => 4
  | i => 2000 + i
theorem PA6_mono (b off n cap i N1 B : Nat) (A : List (Nat → Nat)) (R : Nat → Nat) {D : Nat → Bool} {ix : Nat} {w w' : World} (hD : D ix = false) (hb : ix ≠ 12 → Below w.heap.size w w') : ∀ (j : Nat) (u : Value), j ≠ ix → PA6 b off n cap i N1 B A R D j u w → PA6 b off n cap i N1 B A R (add1 D ix) j u w'
  | 0, _, _, h => h
  | 1, _, _, h => h
  | 2, _, _, h => h
  | 3, _, _, h => h
  | 4, _, _, h => h
  | 5, _, _, h => h
  | 6, _, _, h => fun hd => by
    by_cases e : ix = 12
    · subst e; rw [add1_eq] at hd; cases hd
    · rw [add1_ne (fun q => e q.symm)] at hd; exact (h hd).later (hb e)
  | 7, _, _, h => h
  | 8, _, _, h => h
  | 9, _, _, h => h
  | 10, _, _, h => h
  | 11, _, _, h => fun hd => by
    by_cases e : ix = 12
    · subst e; rw [add1_eq] at hd; cases hd
    · rw [add1_ne (fun q => e q.symm)] at hd; exact (h hd).later (hb e)
  | 12, _, _, h => by
    have e : ix ≠ 12 := fun e => by rw [e] at hD; rw [h.1] at hD; cases hD
    exact ⟨by rw [add1_ne (fun q => e q.symm)]; exact h.1, h.2.later (hb e)⟩
  | 13, _, _, h => by
    have e : ix ≠ 12 := fun e => by rw [e] at hD; rw [h.1] at hD; cases hD
    exact ⟨by rw [add1_ne (fun q => e q.symm)]; exact h.1, h.2.later (hb e)⟩
  | _ + 14, _, _, _ => trivial
set_option maxHeartbeats 4000000 in
set_option maxRecDepth 100000 in
theorem refPath_lo {b off n cap i N1 : Nat} {A : List (Nat → Nat)} {R : Nat → Nat} {W0 : World} (hn : 2 ≤ n) (hm : n ≤ 1000) (hcap : n ≤ cap) (hk : 1 ≤ cut n ∧ cut n < n ∧ n ≤ 2 * cut n) (hN : N1 ≤ 1000) (hRl : ∀ i, R i < 256) (hci : i < cut n) (_hin : i < n)
    (hP : ∀ w, Below W0.heap.size W0 w → Calls Tryd.prog 13 #[.slice (some ⟨b, off, none⟩) (cut n) cap, .int .i64 ((i : Nat) : Int)] w fun e w' => ∃ r, e = .returned r ∧ OwnS W0.heap.size N1 A r w' ∧ Below w.heap.size w w')
    (hR : ∀ w, Below W0.heap.size W0 w → Calls Tryd.prog 15 #[.slice (some ⟨b, off + 32 * cut n, none⟩) (n - cut n) (cap - cut n)] w fun e w' => e = .returned (.agg (ab 32 R)) ∧ Below w.heap.size w w') : Calls Tryd.prog 13 #[.slice (some ⟨b, off, none⟩) n cap, .int .i64 ((i : Nat) : Int)] W0 fun e w' => ∃ r, e = .returned r ∧ OwnS W0.heap.size (N1 + 1) (A ++ [R]) r w' ∧ Below W0.heap.size W0 w' := by
  obtain ⟨hk1, hk2, hk3⟩ := hk
  have h1 : ((n : Int) == 1) = false := by rw [beq_eq_false_iff_ne]; omega
  have hlt : (i : Int) < (cut n : Int) := by omega
  go_enter Tryd.func13, Tryd.ntmps13
  go_wp2_with fail
  refine (cut_kr n (by omega) W0).mono ?_
  rintro e w1 ⟨rfl, hb1⟩
  go_upto_region 5 with fail
  refine wp_rel3 _ _ (PA5 b off n cap i N1 W0.heap.size A R) (fun _ w => Below W0.heap.size W0 w) PA5d (by kernel_rfl) (by kernel_rfl) 12 (by kernel_rfl) ?_ ?_ rfl (hb1.drew) ?_ ?_
  · intro ix o ho
    match ix, ho with
    | 0, ho => obtain rfl := Option.some.inj ho; exact .inl ⟨rfl, by show 15 < 39; decide⟩
    | 1, ho => obtain rfl := Option.some.inj ho; exact .inl ⟨rfl, by show 16 < 39; decide⟩
    | 2, ho => obtain rfl := Option.some.inj ho; exact .inl ⟨rfl, by show 17 < 39; decide⟩
    | 3, ho => obtain rfl := Option.some.inj ho; exact .inl ⟨rfl, by show 18 < 39; decide⟩
    | 4, ho => obtain rfl := Option.some.inj ho; exact .inl ⟨rfl, by show 19 < 39; decide⟩
    | 5, ho => obtain rfl := Option.some.inj ho; exact .inl ⟨rfl, by show 20 < 39; decide⟩
    | 6, ho => obtain rfl := Option.some.inj ho; exact .inl ⟨rfl, by show 21 < 39; decide⟩
    | 7, ho => obtain rfl := Option.some.inj ho; exact .inl ⟨rfl, by show 22 < 39; decide⟩
    | 8, ho => obtain rfl := Option.some.inj ho; exact .inl ⟨rfl, by show 23 < 39; decide⟩
    | 9, ho => obtain rfl := Option.some.inj ho; exact .inl ⟨rfl, by show 24 < 39; decide⟩
    | 10, ho => obtain rfl := Option.some.inj ho; exact .inl ⟨rfl, by show 25 < 39; decide⟩
    | 11, ho => obtain rfl := Option.some.inj ho; exact .inl ⟨rfl, by show 4 < 39; decide⟩
    | _ + 12, ho => exact absurd ho (by simp)
  · intro ix jx hi hj e; unfold PA5d at e; split at e <;> split at e <;> omega
  · intro ix o ho
    match ix, ho with
    | 0, ho =>
      obtain rfl := Option.some.inj ho
      intro D a w hM hsl hdep hDi hcl K hK
      have hp0 : a.tmps.getD 0 undef = .slice (some ⟨b, off, none⟩) n cap := hsl 0 (by intro j hj; unfold PA5d; split <;> omega)
      refine ⟨rfl, ?_⟩
      refine wp_val (w' := w) (v := .slice (some ⟨b, off, none⟩) n cap) (by simp only [execOp, Act.eval]; rw [show a.tmps.getD 0 undef = _ from hp0]; rfl) ?_
      exact hK _ _ rfl hM (PA5_mono b off n cap i N1 W0.heap.size A R hDi (fun _ => (Below.refl _ _)))
    | 1, ho =>
      obtain rfl := Option.some.inj ho
      intro D a w hM hsl hdep hDi hcl K hK
      have hp5 : a.tmps.getD 5 undef = .int .i64 ((cut n : Nat) : Int) := hsl 5 (by intro j hj; unfold PA5d; split <;> omega)
      refine ⟨rfl, ?_⟩
      refine wp_val (w' := w) (v := .int .i64 ((cut n : Nat) : Int)) (by simp only [execOp, Act.eval]; rw [show a.tmps.getD 5 undef = _ from hp5]; rfl) ?_
      exact hK _ _ rfl hM (PA5_mono b off n cap i N1 W0.heap.size A R hDi (fun _ => (Below.refl _ _)))
    | 2, ho =>
      obtain rfl := Option.some.inj ho
      intro D a w hM hsl hdep hDi hcl K hK
      have e0 := (hdep ⟨0, .data⟩ (by simp) rfl).1
      have e1 := (hdep ⟨1, .data⟩ (by simp) rfl).1
      refine ⟨rfl, ?_⟩
      have hl := sl_lo (b := b) (off := off) (n := n) (cap := cap) (k := cut n) (by omega) hcap w
      refine wp_val (w' := w) (v := .slice (some ⟨b, off, none⟩) (cut n) cap) (by simp only [execOp, Act.eval, Option.map_some, Option.map_none]; rw [show a.tmps.getD 15 undef = _ from e0, show a.tmps.getD 16 undef = _ from e1]; simp only [Sem.run_bind, hl, Result.andThen_ok, Sem.run_pure]) ?_
      exact hK _ _ rfl hM (PA5_mono b off n cap i N1 W0.heap.size A R hDi (fun _ => (Below.refl _ _)))
    | 3, ho =>
      obtain rfl := Option.some.inj ho
      intro D a w hM hsl hdep hDi hcl K hK
      have hp1 : a.tmps.getD 1 undef = .int .i64 ((i : Nat) : Int) := hsl 1 (by intro j hj; unfold PA5d; split <;> omega)
      refine ⟨rfl, ?_⟩
      refine wp_val (w' := w) (v := .int .i64 ((i : Nat) : Int)) (by simp only [execOp, Act.eval]; rw [show a.tmps.getD 1 undef = _ from hp1]; rfl) ?_
      exact hK _ _ rfl hM (PA5_mono b off n cap i N1 W0.heap.size A R hDi (fun _ => (Below.refl _ _)))
    | 4, ho =>
      obtain rfl := Option.some.inj ho
      intro D a w hM hsl hdep hDi hcl K hK
      have e2 := (hdep ⟨2, .data⟩ (by simp) rfl).1
      have e3 := (hdep ⟨3, .data⟩ (by simp) rfl).1
      refine ⟨rfl, ?_⟩
      refine oper_any 13 #[.tmp 17, .tmp 18] _ rfl #[.slice (some ⟨b, off, none⟩) (cut n) cap, .int .i64 ((i : Nat) : Int)] (by simp only [List.map_toArray, List.map_cons, List.map_nil, Act.eval]; rw [show a.tmps.getD 17 undef = _ from e2, show a.tmps.getD 18 undef = _ from e3]) (fun w => by kernel_rfl) (hP w hM) fun r w' hj => ?_
      obtain ⟨hr, hb⟩ := hj
      exact hK _ _ (fun _ => hr) (blw hM hb) (PA5_mono b off n cap i N1 W0.heap.size A R hDi (fun _ => hb))
    | 5, ho =>
      obtain rfl := Option.some.inj ho
      intro D a w hM hsl hdep hDi hcl K hK
      have hp0 : a.tmps.getD 0 undef = .slice (some ⟨b, off, none⟩) n cap := hsl 0 (by intro j hj; unfold PA5d; split <;> omega)
      refine ⟨rfl, ?_⟩
      refine wp_val (w' := w) (v := .slice (some ⟨b, off, none⟩) n cap) (by simp only [execOp, Act.eval]; rw [show a.tmps.getD 0 undef = _ from hp0]; rfl) ?_
      exact hK _ _ rfl hM (PA5_mono b off n cap i N1 W0.heap.size A R hDi (fun _ => (Below.refl _ _)))
    | 6, ho =>
      obtain rfl := Option.some.inj ho
      intro D a w hM hsl hdep hDi hcl K hK
      have hp5 : a.tmps.getD 5 undef = .int .i64 ((cut n : Nat) : Int) := hsl 5 (by intro j hj; unfold PA5d; split <;> omega)
      refine ⟨rfl, ?_⟩
      refine wp_val (w' := w) (v := .int .i64 ((cut n : Nat) : Int)) (by simp only [execOp, Act.eval]; rw [show a.tmps.getD 5 undef = _ from hp5]; rfl) ?_
      exact hK _ _ rfl hM (PA5_mono b off n cap i N1 W0.heap.size A R hDi (fun _ => (Below.refl _ _)))
    | 7, ho =>
      obtain rfl := Option.some.inj ho
      intro D a w hM hsl hdep hDi hcl K hK
      have e5 := (hdep ⟨5, .data⟩ (by simp) rfl).1
      have e6 := (hdep ⟨6, .data⟩ (by simp) rfl).1
      refine ⟨rfl, ?_⟩
      have hl := sl_hi (b := b) (off := off) (n := n) (cap := cap) (k := cut n) (by omega) hcap w
      refine wp_val (w' := w) (v := .slice (some ⟨b, off + 32 * cut n, none⟩) (n - cut n) (cap - cut n)) (by simp only [execOp, Act.eval, Option.map_some, Option.map_none]; rw [show a.tmps.getD 20 undef = _ from e5, show a.tmps.getD 21 undef = _ from e6]; simp only [Sem.run_bind, hl, Result.andThen_ok, Sem.run_pure]) ?_
      exact hK _ _ rfl hM (PA5_mono b off n cap i N1 W0.heap.size A R hDi (fun _ => (Below.refl _ _)))
    | 8, ho =>
      obtain rfl := Option.some.inj ho
      intro D a w hM hsl hdep hDi hcl K hK
      have e7 := (hdep ⟨7, .data⟩ (by simp) rfl).1
      refine ⟨rfl, ?_⟩
      refine oper_callg 15 #[.tmp 22] _ rfl #[.slice (some ⟨b, off + 32 * cut n, none⟩) (n - cut n) (cap - cut n)] (by simp only [List.map_toArray, List.map_cons, List.map_nil, Act.eval]; rw [show a.tmps.getD 22 undef = _ from e7]) (fun w => by kernel_rfl) (hR w hM) fun w' hb => ?_
      exact hK _ _ rfl (blw hM hb) (PA5_mono b off n cap i N1 W0.heap.size A R hDi (fun _ => hb))
    | 9, ho =>
      obtain rfl := Option.some.inj ho
      intro D a w hM hsl hdep hDi hcl K hK
      have e8 := (hdep ⟨8, .data⟩ (by simp) rfl).1
      refine ⟨rfl, ?_⟩
      have hl := bs_sum R w
      refine wp_val (w' := w.alloc (.cells (ab 32 R) 34)) (v := .slice (some ⟨w.heap.size, 0, none⟩) 1 1) (by simp only [execOp, Act.eval, List.map_toArray, List.map_cons, List.map_nil]; rw [show a.tmps.getD 23 undef = _ from e8]; simp only [Sem.run_bind, hl, Result.andThen_ok, Sem.run_pure]) ?_
      exact hK _ _ (fun _ => ⟨_, rfl, World.alloc_heap_new w _⟩) (blw hM ((Below.refl _ _).alloc (Nat.le_refl _) _)) (PA5_mono b off n cap i N1 W0.heap.size A R hDi (fun _ => (Below.refl _ _).alloc (Nat.le_refl _) _))
    | 10, ho =>
      obtain rfl := Option.some.inj ho
      intro D a w hM hsl hdep hDi hcl K hK
      have e4 := (hdep ⟨4, .data⟩ (by simp) rfl).1
      have e9 := (hdep ⟨9, .data⟩ (by simp) rfl).1
      refine ⟨rfl, ?_⟩
      have ho := e4 hDi
      obtain ⟨g, eg, hg⟩ := e9 hDi
      refine oper_app (.tmp 19) (.tmp 24) rfl W0.heap.size _ N1 _ rfl ho.1 (show a.tmps.getD 24 undef = _ from eg) hg hRl (by omega) ho.2 fun v' w' ho' hb' => ?_
      exact hK _ _ ⟨add1_eq, by rw [ssv_app]; exact ho', Nat.le_trans ho.2 hb'.size⟩ (hM.trans hb') (PA5_mono b off n cap i N1 W0.heap.size A R hDi (fun h => absurd rfl h))
    | 11, ho =>
      obtain rfl := Option.some.inj ho
      intro D a w hM hsl hdep hDi hcl K hK
      have e10 := (hdep ⟨10, .data⟩ (by simp) rfl).1
      refine ⟨rfl, ?_⟩
      refine wp_val (w' := w) (v := a.tmps.getD 25 undef) (by simp only [execOp, Act.eval]; rfl) ?_
      exact hK _ _ ⟨by rw [add1_ne (by decide)]; exact e10.1, e10.2⟩ hM (PA5_mono b off n cap i N1 W0.heap.size A R hDi (fun _ => (Below.refl _ _)))
    | _ + 12, ho => exact absurd ho (by simp)
  · intro D a u hall hd hs hM hsl hr
    obtain ⟨-, hv⟩ := hr 11 (by decide)
    refine (‹∀ (a : Act) (w : World), Code.wp Tryd.prog Code.ret _ a w → _›) a u ?_
    refine wp_ret ?_
    refine then_ret ?_
    exact s_raw hd (by rw [hs]; show 4 < 39; decide) rfl Tryd.results13 ⟨_, rfl, hv, hM⟩
set_option maxHeartbeats 4000000 in
set_option maxRecDepth 100000 in
theorem refPath_hi {b off n cap i N1 : Nat} {A : List (Nat → Nat)} {R : Nat → Nat} {W0 : World} (hn : 2 ≤ n) (hm : n ≤ 1000) (hcap : n ≤ cap) (hk : 1 ≤ cut n ∧ cut n < n ∧ n ≤ 2 * cut n) (hN : N1 ≤ 1000) (hRl : ∀ i, R i < 256) (hci : cut n ≤ i) (hin : i < n)
    (hP : ∀ w, Below W0.heap.size W0 w → Calls Tryd.prog 13 #[.slice (some ⟨b, off + 32 * cut n, none⟩) (n - cut n) (cap - cut n), .int .i64 ((i - cut n : Nat) : Int)] w fun e w' => ∃ r, e = .returned r ∧ OwnS W0.heap.size N1 A r w' ∧ Below w.heap.size w w')
    (hR : ∀ w, Below W0.heap.size W0 w → Calls Tryd.prog 15 #[.slice (some ⟨b, off, none⟩) (cut n) cap] w fun e w' => e = .returned (.agg (ab 32 R)) ∧ Below w.heap.size w w') : Calls Tryd.prog 13 #[.slice (some ⟨b, off, none⟩) n cap, .int .i64 ((i : Nat) : Int)] W0 fun e w' => ∃ r, e = .returned r ∧ OwnS W0.heap.size (N1 + 1) (A ++ [R]) r w' ∧ Below W0.heap.size W0 w' := by
  obtain ⟨hk1, hk2, hk3⟩ := hk
  have h1 : ((n : Int) == 1) = false := by rw [beq_eq_false_iff_ne]; omega
  have hlt : ¬ (i : Int) < (cut n : Int) := by omega
  go_enter Tryd.func13, Tryd.ntmps13
  go_wp2_with fail
  refine (cut_kr n (by omega) W0).mono ?_
  rintro e w1 ⟨rfl, hb1⟩
  go_upto_region 6 with fail
  refine wp_rel3 _ _ (PA6 b off n cap i N1 W0.heap.size A R) (fun _ w => Below W0.heap.size W0 w) PA6d (by kernel_rfl) (by kernel_rfl) 14 (by kernel_rfl) ?_ ?_ rfl (hb1.drew) ?_ ?_
  · intro ix o ho
    match ix, ho with
    | 0, ho => obtain rfl := Option.some.inj ho; exact .inl ⟨rfl, by show 26 < 39; decide⟩
    | 1, ho => obtain rfl := Option.some.inj ho; exact .inl ⟨rfl, by show 27 < 39; decide⟩
    | 2, ho => obtain rfl := Option.some.inj ho; exact .inl ⟨rfl, by show 28 < 39; decide⟩
    | 3, ho => obtain rfl := Option.some.inj ho; exact .inl ⟨rfl, by show 29 < 39; decide⟩
    | 4, ho => obtain rfl := Option.some.inj ho; exact .inl ⟨rfl, by show 30 < 39; decide⟩
    | 5, ho => obtain rfl := Option.some.inj ho; exact .inl ⟨rfl, by show 31 < 39; decide⟩
    | 6, ho => obtain rfl := Option.some.inj ho; exact .inl ⟨rfl, by show 32 < 39; decide⟩
    | 7, ho => obtain rfl := Option.some.inj ho; exact .inl ⟨rfl, by show 33 < 39; decide⟩
    | 8, ho => obtain rfl := Option.some.inj ho; exact .inl ⟨rfl, by show 34 < 39; decide⟩
    | 9, ho => obtain rfl := Option.some.inj ho; exact .inl ⟨rfl, by show 35 < 39; decide⟩
    | 10, ho => obtain rfl := Option.some.inj ho; exact .inl ⟨rfl, by show 36 < 39; decide⟩
    | 11, ho => obtain rfl := Option.some.inj ho; exact .inl ⟨rfl, by show 37 < 39; decide⟩
    | 12, ho => obtain rfl := Option.some.inj ho; exact .inl ⟨rfl, by show 38 < 39; decide⟩
    | 13, ho => obtain rfl := Option.some.inj ho; exact .inl ⟨rfl, by show 4 < 39; decide⟩
    | _ + 14, ho => exact absurd ho (by simp)
  · intro ix jx hi hj e; unfold PA6d at e; split at e <;> split at e <;> omega
  · intro ix o ho
    match ix, ho with
    | 0, ho =>
      obtain rfl := Option.some.inj ho
      intro D a w hM hsl hdep hDi hcl K hK
      have hp0 : a.tmps.getD 0 undef = .slice (some ⟨b, off, none⟩) n cap := hsl 0 (by intro j hj; unfold PA6d; split <;> omega)
      refine ⟨rfl, ?_⟩
      refine wp_val (w' := w) (v := .slice (some ⟨b, off, none⟩) n cap) (by simp only [execOp, Act.eval]; rw [show a.tmps.getD 0 undef = _ from hp0]; rfl) ?_
      exact hK _ _ rfl hM (PA6_mono b off n cap i N1 W0.heap.size A R hDi (fun _ => (Below.refl _ _)))
    | 1, ho =>
      obtain rfl := Option.some.inj ho
      intro D a w hM hsl hdep hDi hcl K hK
      have hp5 : a.tmps.getD 5 undef = .int .i64 ((cut n : Nat) : Int) := hsl 5 (by intro j hj; unfold PA6d; split <;> omega)
      refine ⟨rfl, ?_⟩
      refine wp_val (w' := w) (v := .int .i64 ((cut n : Nat) : Int)) (by simp only [execOp, Act.eval]; rw [show a.tmps.getD 5 undef = _ from hp5]; rfl) ?_
      exact hK _ _ rfl hM (PA6_mono b off n cap i N1 W0.heap.size A R hDi (fun _ => (Below.refl _ _)))
    | 2, ho =>
      obtain rfl := Option.some.inj ho
      intro D a w hM hsl hdep hDi hcl K hK
      have e0 := (hdep ⟨0, .data⟩ (by simp) rfl).1
      have e1 := (hdep ⟨1, .data⟩ (by simp) rfl).1
      refine ⟨rfl, ?_⟩
      have hl := sl_hi (b := b) (off := off) (n := n) (cap := cap) (k := cut n) (by omega) hcap w
      refine wp_val (w' := w) (v := .slice (some ⟨b, off + 32 * cut n, none⟩) (n - cut n) (cap - cut n)) (by simp only [execOp, Act.eval, Option.map_some, Option.map_none]; rw [show a.tmps.getD 26 undef = _ from e0, show a.tmps.getD 27 undef = _ from e1]; simp only [Sem.run_bind, hl, Result.andThen_ok, Sem.run_pure]) ?_
      exact hK _ _ rfl hM (PA6_mono b off n cap i N1 W0.heap.size A R hDi (fun _ => (Below.refl _ _)))
    | 3, ho =>
      obtain rfl := Option.some.inj ho
      intro D a w hM hsl hdep hDi hcl K hK
      have hp1 : a.tmps.getD 1 undef = .int .i64 ((i : Nat) : Int) := hsl 1 (by intro j hj; unfold PA6d; split <;> omega)
      refine ⟨rfl, ?_⟩
      refine wp_val (w' := w) (v := .int .i64 ((i : Nat) : Int)) (by simp only [execOp, Act.eval]; rw [show a.tmps.getD 1 undef = _ from hp1]; rfl) ?_
      exact hK _ _ rfl hM (PA6_mono b off n cap i N1 W0.heap.size A R hDi (fun _ => (Below.refl _ _)))
    | 4, ho =>
      obtain rfl := Option.some.inj ho
      intro D a w hM hsl hdep hDi hcl K hK
      have hp5 : a.tmps.getD 5 undef = .int .i64 ((cut n : Nat) : Int) := hsl 5 (by intro j hj; unfold PA6d; split <;> omega)
      refine ⟨rfl, ?_⟩
      refine wp_val (w' := w) (v := .int .i64 ((cut n : Nat) : Int)) (by simp only [execOp, Act.eval]; rw [show a.tmps.getD 5 undef = _ from hp5]; rfl) ?_
      exact hK _ _ rfl hM (PA6_mono b off n cap i N1 W0.heap.size A R hDi (fun _ => (Below.refl _ _)))
    | 5, ho =>
      obtain rfl := Option.some.inj ho
      intro D a w hM hsl hdep hDi hcl K hK
      have e3 := (hdep ⟨3, .data⟩ (by simp) rfl).1
      have e4 := (hdep ⟨4, .data⟩ (by simp) rfl).1
      refine ⟨rfl, ?_⟩
      have hl := sub_nn (x := .tmp 29) (u := .tmp 30) hci (by omega) w
      refine wp_val (w' := w) (v := .int .i64 ((i - cut n : Nat) : Int)) (by simp only [execOp, Act.eval]; rw [show a.tmps.getD 29 undef = _ from e3, show a.tmps.getD 30 undef = _ from e4]; simp only [Sem.run_bind, hl, Result.andThen_ok, Sem.run_pure]) ?_
      exact hK _ _ rfl hM (PA6_mono b off n cap i N1 W0.heap.size A R hDi (fun _ => (Below.refl _ _)))
    | 6, ho =>
      obtain rfl := Option.some.inj ho
      intro D a w hM hsl hdep hDi hcl K hK
      have e2 := (hdep ⟨2, .data⟩ (by simp) rfl).1
      have e5 := (hdep ⟨5, .data⟩ (by simp) rfl).1
      refine ⟨rfl, ?_⟩
      refine oper_any 13 #[.tmp 28, .tmp 31] _ rfl #[.slice (some ⟨b, off + 32 * cut n, none⟩) (n - cut n) (cap - cut n), .int .i64 ((i - cut n : Nat) : Int)] (by simp only [List.map_toArray, List.map_cons, List.map_nil, Act.eval]; rw [show a.tmps.getD 28 undef = _ from e2, show a.tmps.getD 31 undef = _ from e5]) (fun w => by kernel_rfl) (hP w hM) fun r w' hj => ?_
      obtain ⟨hr, hb⟩ := hj
      exact hK _ _ (fun _ => hr) (blw hM hb) (PA6_mono b off n cap i N1 W0.heap.size A R hDi (fun _ => hb))
    | 7, ho =>
      obtain rfl := Option.some.inj ho
      intro D a w hM hsl hdep hDi hcl K hK
      have hp0 : a.tmps.getD 0 undef = .slice (some ⟨b, off, none⟩) n cap := hsl 0 (by intro j hj; unfold PA6d; split <;> omega)
      refine ⟨rfl, ?_⟩
      refine wp_val (w' := w) (v := .slice (some ⟨b, off, none⟩) n cap) (by simp only [execOp, Act.eval]; rw [show a.tmps.getD 0 undef = _ from hp0]; rfl) ?_
      exact hK _ _ rfl hM (PA6_mono b off n cap i N1 W0.heap.size A R hDi (fun _ => (Below.refl _ _)))
    | 8, ho =>
      obtain rfl := Option.some.inj ho
      intro D a w hM hsl hdep hDi hcl K hK
      have hp5 : a.tmps.getD 5 undef = .int .i64 ((cut n : Nat) : Int) := hsl 5 (by intro j hj; unfold PA6d; split <;> omega)
      refine ⟨rfl, ?_⟩
      refine wp_val (w' := w) (v := .int .i64 ((cut n : Nat) : Int)) (by simp only [execOp, Act.eval]; rw [show a.tmps.getD 5 undef = _ from hp5]; rfl) ?_
      exact hK _ _ rfl hM (PA6_mono b off n cap i N1 W0.heap.size A R hDi (fun _ => (Below.refl _ _)))
    | 9, ho =>
      obtain rfl := Option.some.inj ho
      intro D a w hM hsl hdep hDi hcl K hK
      have e7 := (hdep ⟨7, .data⟩ (by simp) rfl).1
      have e8 := (hdep ⟨8, .data⟩ (by simp) rfl).1
      refine ⟨rfl, ?_⟩
      have hl := sl_lo (b := b) (off := off) (n := n) (cap := cap) (k := cut n) (by omega) hcap w
      refine wp_val (w' := w) (v := .slice (some ⟨b, off, none⟩) (cut n) cap) (by simp only [execOp, Act.eval, Option.map_some, Option.map_none]; rw [show a.tmps.getD 33 undef = _ from e7, show a.tmps.getD 34 undef = _ from e8]; simp only [Sem.run_bind, hl, Result.andThen_ok, Sem.run_pure]) ?_
      exact hK _ _ rfl hM (PA6_mono b off n cap i N1 W0.heap.size A R hDi (fun _ => (Below.refl _ _)))
    | 10, ho =>
      obtain rfl := Option.some.inj ho
      intro D a w hM hsl hdep hDi hcl K hK
      have e9 := (hdep ⟨9, .data⟩ (by simp) rfl).1
      refine ⟨rfl, ?_⟩
      refine oper_callg 15 #[.tmp 35] _ rfl #[.slice (some ⟨b, off, none⟩) (cut n) cap] (by simp only [List.map_toArray, List.map_cons, List.map_nil, Act.eval]; rw [show a.tmps.getD 35 undef = _ from e9]) (fun w => by kernel_rfl) (hR w hM) fun w' hb => ?_
      exact hK _ _ rfl (blw hM hb) (PA6_mono b off n cap i N1 W0.heap.size A R hDi (fun _ => hb))
    | 11, ho =>
      obtain rfl := Option.some.inj ho
      intro D a w hM hsl hdep hDi hcl K hK
      have e10 := (hdep ⟨10, .data⟩ (by simp) rfl).1
      refine ⟨rfl, ?_⟩
      have hl := bs_sum R w
      refine wp_val (w' := w.alloc (.cells (ab 32 R) 34)) (v := .slice (some ⟨w.heap.size, 0, none⟩) 1 1) (by simp only [execOp, Act.eval, List.map_toArray, List.map_cons, List.map_nil]; rw [show a.tmps.getD 36 undef = _ from e10]; simp only [Sem.run_bind, hl, Result.andThen_ok, Sem.run_pure]) ?_
      exact hK _ _ (fun _ => ⟨_, rfl, World.alloc_heap_new w _⟩) (blw hM ((Below.refl _ _).alloc (Nat.le_refl _) _)) (PA6_mono b off n cap i N1 W0.heap.size A R hDi (fun _ => (Below.refl _ _).alloc (Nat.le_refl _) _))
    | 12, ho =>
      obtain rfl := Option.some.inj ho
      intro D a w hM hsl hdep hDi hcl K hK
      have e6 := (hdep ⟨6, .data⟩ (by simp) rfl).1
      have e11 := (hdep ⟨11, .data⟩ (by simp) rfl).1
      refine ⟨rfl, ?_⟩
      have ho := e6 hDi
      obtain ⟨g, eg, hg⟩ := e11 hDi
      refine oper_app (.tmp 32) (.tmp 37) rfl W0.heap.size _ N1 _ rfl ho.1 (show a.tmps.getD 37 undef = _ from eg) hg hRl (by omega) ho.2 fun v' w' ho' hb' => ?_
      exact hK _ _ ⟨add1_eq, by rw [ssv_app]; exact ho', Nat.le_trans ho.2 hb'.size⟩ (hM.trans hb') (PA6_mono b off n cap i N1 W0.heap.size A R hDi (fun h => absurd rfl h))
    | 13, ho =>
      obtain rfl := Option.some.inj ho
      intro D a w hM hsl hdep hDi hcl K hK
      have e12 := (hdep ⟨12, .data⟩ (by simp) rfl).1
      refine ⟨rfl, ?_⟩
      refine wp_val (w' := w) (v := a.tmps.getD 38 undef) (by simp only [execOp, Act.eval]; rfl) ?_
      exact hK _ _ ⟨by rw [add1_ne (by decide)]; exact e12.1, e12.2⟩ hM (PA6_mono b off n cap i N1 W0.heap.size A R hDi (fun _ => (Below.refl _ _)))
    | _ + 14, ho => exact absurd ho (by simp)
  · intro D a u hall hd hs hM hsl hr
    obtain ⟨-, hv⟩ := hr 13 (by decide)
    refine (‹∀ (a : Act) (w : World), Code.wp Tryd.prog Code.ret _ a w → _›) a u ?_
    refine wp_ret ?_
    exact s_raw hd (by rw [hs]; show 4 < 39; decide) rfl Tryd.results13 ⟨_, rfl, hv, hM⟩
theorem refPath_d : ∀ (n i : Nat) (L : List (Nat → Nat)) (a : Option Addr) (cap : Nat) (W0 : World), L.length = n → i < n → n ≤ 1000 → SsAt W0 a L → n ≤ cap → Calls Tryd.prog 13 #[.slice a n cap, .int .i64 ((i : Nat) : Int)] W0 fun e w' => ∃ r, e = .returned r ∧ OwnS W0.heap.size (way i n).length (asl L (way i n)) r w' ∧ Below W0.heap.size W0 w' := by
  intro n
  induction n using Nat.strongRecOn with
  | ind n ih =>
    intro i L a cap W0 hL hi hm hs hcap
    rcases Nat.lt_or_ge n 2 with h2 | h2
    · obtain rfl : n = 1 := by omega
      obtain rfl : i = 0 := by omega
      rw [way_1]
      go_enter Tryd.func13, Tryd.ntmps13
      go_wp2
      go_ret
      exact ⟨_, rfl, ⟨World.ownsRow_nil _ _ _ _, Nat.le_refl _⟩, Below.refl _ _⟩
    · obtain ⟨b, off, rfl, hc⟩ := hs.2 (by omega)
      have hk := cut_in h2
      have l1 : (L.take (cut n)).length = cut n := by rw [List.length_take]; omega
      have l2 : (L.drop (cut n)).length = n - cut n := by rw [List.length_drop]; omega
      have b1 := root_lt _ (L.take (cut n)) rfl (fun F hF => hs.1 F (List.mem_of_mem_take hF))
      have b2 := root_lt _ (L.drop (cut n)) rfl (fun F hF => hs.1 F (List.mem_of_mem_drop hF))
      rcases Nat.lt_or_ge i (cut n) with h | h
      · rw [asl_lo hL h2 h, way_len_lo h2 h, Nat.add_comm 1]
        exact refPath_lo h2 hm hcap hk (by have := way_le i (cut n); omega) b2 h hi (fun w hw => (ih (cut n) hk.2.1 i (L.take (cut n)) _ cap w l1 h (by omega) (hs.lo.later hw) (by omega)).mono fun e w' ⟨r, e1, h1, h2⟩ => ⟨r, e1, ⟨own_weak h1.1 hw.size, Nat.le_trans hw.size h2.size⟩, h2⟩)
          (fun w hw => root_r (n - cut n) (L.drop (cut n)) _ (cap - cut n) w l2 (by omega) (hs.hi.later hw) (by omega))
      · rw [asl_hi h2 h, way_len_hi h2 h, Nat.add_comm 1]
        exact refPath_hi h2 hm hcap hk (by have := way_le (i - cut n) (n - cut n); omega) b1 h hi (fun w hw => (ih (n - cut n) (by omega) (i - cut n) (L.drop (cut n)) _ (cap - cut n) w l2 (by omega) (by omega) (hs.hi.later hw) (by omega)).mono fun e w' ⟨r, e1, h1, h2⟩ => ⟨r, e1, ⟨own_weak h1.1 hw.size, Nat.le_trans hw.size h2.size⟩, h2⟩)
          (fun w hw => root_r (cut n) (L.take (cut n)) _ cap w l1 (by omega) (hs.lo.later hw) (by omega))
end Go.Proofs.YtbmhehppokcfnaaDoor

namespace Go.Proofs.YtbmhehppokcfnaaDoor
open Go.RowKit Go.Maps Sh
set_option maxHeartbeats 8000000 in
theorem come_bw {i n : Int} {m pcap : Nat} {pa : Option Addr} {F : Nat → Nat} {W0 : World} (hlen : ∀ w, Calls Tryd.prog 16 #[.int .i64 i, .int .i64 n] w fun e w' => e = .returned (.int .i64 (-1)) ∧ Below w.heap.size w w') : Calls Tryd.prog 29 #[.agg (ab 32 F), .int .i64 i, .int .i64 n, .slice pa m pcap] W0 fun e w' => e = .returned (.tuple #[.agg (ab 32 fun _ => 0), ev 2]) ∧ Below W0.heap.size W0 w' := by
  refine s_in Tryd.func29 Tryd.ntmps29 rfl [.inl (.agg (ab 32 F)), .inl (.int .i64 i), .inl (.int .i64 n), .inl (.slice pa m pcap)] ?_
  intro β a h
  refine sym_seq ?_
  refine St.rg h [(4, .inr (0, pt 0)), (8, .inr (1, pt 0)), (9, .inl .nilIface)] [(ab 32 F, 34), (ab 32 (fun _ => 0), 34)] [] [eN 0, eN 1] ?_ ?_
  · exact oc (k_bx 0 (.agg (ab 32 F)) (bx_agg (P := Tryd.prog)) rfl rfl) <|
    oc (k_al 1 alS rfl rfl) <|
    oz (k_mv (.inr rfl) rfl) <|
    ok_nil
  clear h; intro β a w h
  refine sym_then ?_
  refine sym_seq ?_
  refine St.r0 h [(14, .inl (.int .i64 i)), (15, .inl (.int .i64 n)), (16, .inl (.int .i64 (-1))), (10, .inl (.int .i64 (-1)))] [] ?_ ?_
  · exact oz (k_mv (.inl rfl) rfl) <|
    oz (k_mv (.inl rfl) rfl) <|
    oz (k_ca 16 #[.int .i64 i, .int .i64 n] (.int .i64 (-1)) (fun w => hlen w) rfl rfl) <|
    oz (k_mv (.inr rfl) rfl) <|
    ok_nil
  clear h; intro β a w h
  refine sym_then ?_
  refine sym_seq ?_
  refine sym_seq ?_
  refine St.r0 h [(17, .inl (.int .i64 (-1))), (18, .inl (.bool true))] [] ?_ ?_
  · exact oz (k_mv (.inl rfl) rfl) <|
    oz (k_bi (.int .i64 (-1)) (.int .i64 ((0 : Nat) : Int)) (.bool true) (lt_i (m := (-1)) (n := ((0 : Nat) : Int)) (decide_eq_true (by omega))) rfl rfl) <|
    ok_nil
  clear h; intro β a w h
  refine sym_then ?_
  refine s_ct h ?_
  refine sym_seq ?_
  refine St.rg h [(19, .inl (.agg (ab 32 (fun _ => 0)))), (20, .inl (.iface 29 (.int .i64 ((2 : Nat) : Int)))), (9, .inl (.iface 29 (.int .i64 ((2 : Nat) : Int))))] [] [(1, ab 32 (fun _ => 0))] [nn, nn, eS 1] ?_ ?_
  · exact oc (k_bu #[] (.agg (ab 32 (fun _ => 0))) sum_zero rfl rfl) <|
    oc (k_mi (.int .i64 ((2 : Nat) : Int)) (.iface 29 (.int .i64 ((2 : Nat) : Int))) (fun w => by kernel_rfl) rfl rfl) <|
    oc (k_st 1 0 (.agg (ab 32 (fun _ => 0))) (c := ab 32 (fun _ => 0)) (n := ab 32 (fun _ => 0)) (stS (F := (fun _ => 0)) (c := ab 32 (fun _ => 0)) 34 (ab_size _ _)) rfl rfl) <|
    oz (k_mv (.inr rfl) rfl) <|
    ok_nil
  clear h; intro β a w h
  refine sym_then ?_
  refine wp_ret ?_
  refine then_ret ?_
  exact s_r2 (b := 1) (t0 := 34) (c := ab 32 (fun _ => 0)) h Tryd.results29 Tryd.underlying34 (fun hb => ⟨rfl, hb⟩) (by rw [ab_size]; kernel_rfl)
set_option maxHeartbeats 8000000 in
theorem come_lw {i n m N pcap : Nat} {pa : Option Addr} {F : Nat → Nat} {W0 : World} (hne : m ≠ N) (hlen : ∀ w, Calls Tryd.prog 16 #[.int .i64 ((i : Nat) : Int), .int .i64 ((n : Nat) : Int)] w fun e w' => e = .returned (.int .i64 ((N : Nat) : Int)) ∧ Below w.heap.size w w') : Calls Tryd.prog 29 #[.agg (ab 32 F), .int .i64 ((i : Nat) : Int), .int .i64 ((n : Nat) : Int), .slice pa m pcap] W0 fun e w' => e = .returned (.tuple #[.agg (ab 32 fun _ => 0), ev 13]) ∧ Below W0.heap.size W0 w' := by
  refine s_in Tryd.func29 Tryd.ntmps29 rfl [.inl (.agg (ab 32 F)), .inl (.int .i64 ((i : Nat) : Int)), .inl (.int .i64 ((n : Nat) : Int)), .inl (.slice pa m pcap)] ?_
  intro β a h
  refine sym_seq ?_
  refine St.rg h [(4, .inr (0, pt 0)), (8, .inr (1, pt 0)), (9, .inl .nilIface)] [(ab 32 F, 34), (ab 32 (fun _ => 0), 34)] [] [eN 0, eN 1] ?_ ?_
  · exact oc (k_bx 0 (.agg (ab 32 F)) (bx_agg (P := Tryd.prog)) rfl rfl) <|
    oc (k_al 1 alS rfl rfl) <|
    oz (k_mv (.inr rfl) rfl) <|
    ok_nil
  clear h; intro β a w h
  refine sym_then ?_
  refine sym_seq ?_
  refine St.r0 h [(14, .inl (.int .i64 ((i : Nat) : Int))), (15, .inl (.int .i64 ((n : Nat) : Int))), (16, .inl (.int .i64 ((N : Nat) : Int))), (10, .inl (.int .i64 ((N : Nat) : Int)))] [] ?_ ?_
  · exact oz (k_mv (.inl rfl) rfl) <|
    oz (k_mv (.inl rfl) rfl) <|
    oz (k_ca 16 #[.int .i64 ((i : Nat) : Int), .int .i64 ((n : Nat) : Int)] (.int .i64 ((N : Nat) : Int)) (fun w => hlen w) rfl rfl) <|
    oz (k_mv (.inr rfl) rfl) <|
    ok_nil
  clear h; intro β a w h
  refine sym_then ?_
  refine sym_seq ?_
  refine sym_seq ?_
  refine St.r0 h [(17, .inl (.int .i64 ((N : Nat) : Int))), (18, .inl (.bool false))] [] ?_ ?_
  · exact oz (k_mv (.inl rfl) rfl) <|
    oz (k_bi (.int .i64 ((N : Nat) : Int)) (.int .i64 ((0 : Nat) : Int)) (.bool false) (lt_i (m := ((N : Nat) : Int)) (n := ((0 : Nat) : Int)) (decide_eq_false (by omega))) rfl rfl) <|
    ok_nil
  clear h; intro β a w h
  refine sym_then ?_
  refine s_cf h ?_
  refine wp_skip ?_
  refine sym_then ?_
  refine sym_seq ?_
  refine sym_seq ?_
  refine St.r0 h [(21, .inl (.slice pa m pcap)), (22, .inl (.int .i64 ((m : Nat) : Int))), (23, .inl (.int .i64 ((N : Nat) : Int))), (24, .inl (.bool true))] [] ?_ ?_
  · exact oz (k_mv (.inl rfl) rfl) <|
    oz (k_ln (ad := pa) m pcap rfl rfl (fun w => len_ss _ w)) <|
    oz (k_mv (.inl rfl) rfl) <|
    oz (k_bi (.int .i64 ((m : Nat) : Int)) (.int .i64 ((N : Nat) : Int)) (.bool true) (ne_i (m := ((m : Nat) : Int)) (n := ((N : Nat) : Int)) (decide_eq_true (by omega))) rfl rfl) <|
    ok_nil
  clear h; intro β a w h
  refine sym_then ?_
  refine s_ct h ?_
  refine sym_seq ?_
  refine St.rg h [(25, .inl (.agg (ab 32 (fun _ => 0)))), (26, .inl (.iface 29 (.int .i64 ((13 : Nat) : Int)))), (9, .inl (.iface 29 (.int .i64 ((13 : Nat) : Int))))] [] [(1, ab 32 (fun _ => 0))] [nn, nn, eS 1] ?_ ?_
  · exact oc (k_bu #[] (.agg (ab 32 (fun _ => 0))) sum_zero rfl rfl) <|
    oc (k_mi (.int .i64 ((13 : Nat) : Int)) (.iface 29 (.int .i64 ((13 : Nat) : Int))) (fun w => by kernel_rfl) rfl rfl) <|
    oc (k_st 1 0 (.agg (ab 32 (fun _ => 0))) (c := ab 32 (fun _ => 0)) (n := ab 32 (fun _ => 0)) (stS (F := (fun _ => 0)) (c := ab 32 (fun _ => 0)) 34 (ab_size _ _)) rfl rfl) <|
    oz (k_mv (.inr rfl) rfl) <|
    ok_nil
  clear h; intro β a w h
  refine sym_then ?_
  refine wp_ret ?_
  refine then_ret ?_
  exact s_r2 (b := 1) (t0 := 34) (c := ab 32 (fun _ => 0)) h Tryd.results29 Tryd.underlying34 (fun hb => ⟨rfl, hb⟩) (by rw [ab_size]; kernel_rfl)
set_option maxHeartbeats 8000000 in
theorem holds_e {i n e0 : Int} {m pcap : Nat} {pa : Option Addr} {F G R : Nat → Nat} {W0 : World} (hcome : ∀ w, KW (wd W0) w → Calls Tryd.prog 29 #[.agg (ab 32 F), .int .i64 i, .int .i64 n, .slice pa m pcap] w fun e w' => e = .returned (.tuple #[.agg (ab 32 G), ev e0]) ∧ Below w.heap.size w w') : Calls Tryd.prog 14 #[.agg (ab 32 F), .int .i64 i, .int .i64 n, .slice pa m pcap, .agg (ab 32 R)] W0 fun e w' => e = .returned (.bool false) ∧ Below W0.heap.size W0 w' := by
  refine s_in Tryd.func14 Tryd.ntmps14 rfl [.inl (.agg (ab 32 F)), .inl (.int .i64 i), .inl (.int .i64 n), .inl (.slice pa m pcap), .inl (.agg (ab 32 R))] ?_
  intro β a h
  refine sym_seq ?_
  refine St.rg h [(5, .inr (0, pt 0)), (9, .inr (1, pt 0)), (10, .inl (.bool false))] [(ab 32 F, 34), (ab 32 R, 34)] [] [eN 0, eN 1] ?_ ?_
  · exact oc (k_bx 0 (.agg (ab 32 F)) (bx_agg (P := Tryd.prog)) rfl rfl) <|
    oc (k_bx 1 (.agg (ab 32 R)) (bx_agg (P := Tryd.prog)) rfl rfl) <|
    oz (k_mv (.inr rfl) rfl) <|
    ok_nil
  clear h; intro β a w h
  refine sym_then ?_
  refine sym_seq ?_
  refine St.rg h [(14, .inl (.agg (ab 32 F))), (15, .inl (.int .i64 i)), (16, .inl (.int .i64 n)), (17, .inl (.slice pa m pcap)), (18, .inl (.tuple #[.agg (ab 32 G), ev e0])), (13, .inl (.tuple #[.agg (ab 32 G), ev e0])), (19, .inl (.agg (ab 32 G))), (20, .inl (ev e0)), (11, .inr (2, pt 0)), (12, .inl (ev e0))] [(ab 32 (fun _ => 0), 34)] [(2, ab 32 G)] [eR 0, nn, nn, nn, nn, nn, nn, nn, eN 2, eS 2] ?_ ?_
  · exact oc (k_ld 0 0 (.agg (ab 32 F)) (c := ab 32 F) (ldS (F := F) 34) rfl rfl) <|
    oc (k_mv (.inl rfl) rfl) <|
    oc (k_mv (.inl rfl) rfl) <|
    oc (k_mv (.inl rfl) rfl) <|
    oc (k_cw 29 #[.agg (ab 32 F), .int .i64 i, .int .i64 n, .slice pa m pcap] (.tuple #[.agg (ab 32 G), ev e0]) (fun w hw => hcome w hw) rfl rfl) <|
    oc (k_mv (.inl rfl) rfl) <|
    oc (k_ex (.tuple #[.agg (ab 32 G), ev e0]) (.agg (ab 32 G)) rfl rfl) <|
    oc (k_ex (.tuple #[.agg (ab 32 G), ev e0]) (ev e0) rfl rfl) <|
    oc (k_al 2 alS rfl rfl) <|
    oc (k_st 2 0 (.agg (ab 32 G)) (c := ab 32 (fun _ => 0)) (n := ab 32 G) (stS (F := G) (c := ab 32 (fun _ => 0)) 34 (ab_size _ _)) rfl rfl) <|
    oz (k_mv (.inr rfl) rfl) <|
    ok_nil
  clear h; intro β a w h
  refine sym_then ?_
  refine sym_seq ?_
  refine St.r0 h [(21, .inl (ev e0)), (22, .inl (.bool false)), (23, .inl (.bool false)), (27, .inl (.bool false))] [] ?_ ?_
  · exact oz (k_mv (.inl rfl) rfl) <|
    oz (k_bi (ev e0) .nilIface (.bool false) (eqN_f e0) rfl rfl) <|
    oz (k_mv (.inl rfl) rfl) <|
    oz (k_sk rfl) <|
    oz (k_sk rfl) <|
    oz (k_sk rfl) <|
    oz (k_pf rfl rfl) <|
    oz (k_mv (.inr rfl) rfl) <|
    ok_nil
  clear h; intro β a w h
  refine sym_then ?_
  refine wp_ret ?_
  exact s_rt h Tryd.results14 (fun hb => ⟨rfl, hb⟩)
set_option maxHeartbeats 8000000 in
theorem holds_t {i n : Int} {m pcap : Nat} {pa : Option Addr} {F G R : Nat → Nat} {W0 : World} (hcome : ∀ w, KW (wd W0) w → Calls Tryd.prog 29 #[.agg (ab 32 F), .int .i64 i, .int .i64 n, .slice pa m pcap] w fun e w' => e = .returned (.tuple #[.agg (ab 32 G), .nilIface]) ∧ Below w.heap.size w w') (hb : eqD G R = true) : Calls Tryd.prog 14 #[.agg (ab 32 F), .int .i64 i, .int .i64 n, .slice pa m pcap, .agg (ab 32 R)] W0 fun e w' => e = .returned (.bool true) ∧ Below W0.heap.size W0 w' := by
  refine s_in Tryd.func14 Tryd.ntmps14 rfl [.inl (.agg (ab 32 F)), .inl (.int .i64 i), .inl (.int .i64 n), .inl (.slice pa m pcap), .inl (.agg (ab 32 R))] ?_
  intro β a h
  refine sym_seq ?_
  refine St.rg h [(5, .inr (0, pt 0)), (9, .inr (1, pt 0)), (10, .inl (.bool false))] [(ab 32 F, 34), (ab 32 R, 34)] [] [eN 0, eN 1] ?_ ?_
  · exact oc (k_bx 0 (.agg (ab 32 F)) (bx_agg (P := Tryd.prog)) rfl rfl) <|
    oc (k_bx 1 (.agg (ab 32 R)) (bx_agg (P := Tryd.prog)) rfl rfl) <|
    oz (k_mv (.inr rfl) rfl) <|
    ok_nil
  clear h; intro β a w h
  refine sym_then ?_
  refine sym_seq ?_
  refine St.rg h [(14, .inl (.agg (ab 32 F))), (15, .inl (.int .i64 i)), (16, .inl (.int .i64 n)), (17, .inl (.slice pa m pcap)), (18, .inl (.tuple #[.agg (ab 32 G), .nilIface])), (13, .inl (.tuple #[.agg (ab 32 G), .nilIface])), (19, .inl (.agg (ab 32 G))), (20, .inl .nilIface), (11, .inr (2, pt 0)), (12, .inl .nilIface)] [(ab 32 (fun _ => 0), 34)] [(2, ab 32 G)] [eR 0, nn, nn, nn, nn, nn, nn, nn, eN 2, eS 2] ?_ ?_
  · exact oc (k_ld 0 0 (.agg (ab 32 F)) (c := ab 32 F) (ldS (F := F) 34) rfl rfl) <|
    oc (k_mv (.inl rfl) rfl) <|
    oc (k_mv (.inl rfl) rfl) <|
    oc (k_mv (.inl rfl) rfl) <|
    oc (k_cw 29 #[.agg (ab 32 F), .int .i64 i, .int .i64 n, .slice pa m pcap] (.tuple #[.agg (ab 32 G), .nilIface]) (fun w hw => hcome w hw) rfl rfl) <|
    oc (k_mv (.inl rfl) rfl) <|
    oc (k_ex (.tuple #[.agg (ab 32 G), .nilIface]) (.agg (ab 32 G)) rfl rfl) <|
    oc (k_ex (.tuple #[.agg (ab 32 G), .nilIface]) .nilIface rfl rfl) <|
    oc (k_al 2 alS rfl rfl) <|
    oc (k_st 2 0 (.agg (ab 32 G)) (c := ab 32 (fun _ => 0)) (n := ab 32 G) (stS (F := G) (c := ab 32 (fun _ => 0)) 34 (ab_size _ _)) rfl rfl) <|
    oz (k_mv (.inr rfl) rfl) <|
    ok_nil
  clear h; intro β a w h
  refine sym_then ?_
  refine sym_seq ?_
  refine St.r0 h [(21, .inl .nilIface), (22, .inl (.bool true)), (23, .inl (.bool true)), (24, .inl (.agg (ab 32 G))), (25, .inl (.agg (ab 32 R))), (26, .inl (.bool true)), (27, .inl (.bool true)), (10, .inl (.bool true))] [nn, nn, nn, eR 2, eR 1] ?_ ?_
  · exact oc (k_mv (.inl rfl) rfl) <|
    oc (k_bi .nilIface .nilIface (.bool true) eqN_t rfl rfl) <|
    oc (k_mv (.inl rfl) rfl) <|
    oc (k_ld 2 0 (.agg (ab 32 G)) (c := ab 32 G) (ldS (F := G) 34) rfl rfl) <|
    oc (k_ld 1 0 (.agg (ab 32 R)) (c := ab 32 R) (ldS (F := R) 34) rfl rfl) <|
    oz (k_bi (.agg (ab 32 G)) (.agg (ab 32 R)) (.bool true) (eqS_v hb) rfl rfl) <|
    oz (k_pt rfl rfl) <|
    oz (k_mv (.inr rfl) rfl) <|
    ok_nil
  clear h; intro β a w h
  refine sym_then ?_
  refine wp_ret ?_
  exact s_rt h Tryd.results14 (fun hb => ⟨rfl, hb⟩)
set_option maxHeartbeats 8000000 in
theorem holds_f {i n : Int} {m pcap : Nat} {pa : Option Addr} {F G R : Nat → Nat} {W0 : World} (hcome : ∀ w, KW (wd W0) w → Calls Tryd.prog 29 #[.agg (ab 32 F), .int .i64 i, .int .i64 n, .slice pa m pcap] w fun e w' => e = .returned (.tuple #[.agg (ab 32 G), .nilIface]) ∧ Below w.heap.size w w') (hb : eqD G R = false) : Calls Tryd.prog 14 #[.agg (ab 32 F), .int .i64 i, .int .i64 n, .slice pa m pcap, .agg (ab 32 R)] W0 fun e w' => e = .returned (.bool false) ∧ Below W0.heap.size W0 w' := by
  refine s_in Tryd.func14 Tryd.ntmps14 rfl [.inl (.agg (ab 32 F)), .inl (.int .i64 i), .inl (.int .i64 n), .inl (.slice pa m pcap), .inl (.agg (ab 32 R))] ?_
  intro β a h
  refine sym_seq ?_
  refine St.rg h [(5, .inr (0, pt 0)), (9, .inr (1, pt 0)), (10, .inl (.bool false))] [(ab 32 F, 34), (ab 32 R, 34)] [] [eN 0, eN 1] ?_ ?_
  · exact oc (k_bx 0 (.agg (ab 32 F)) (bx_agg (P := Tryd.prog)) rfl rfl) <|
    oc (k_bx 1 (.agg (ab 32 R)) (bx_agg (P := Tryd.prog)) rfl rfl) <|
    oz (k_mv (.inr rfl) rfl) <|
    ok_nil
  clear h; intro β a w h
  refine sym_then ?_
  refine sym_seq ?_
  refine St.rg h [(14, .inl (.agg (ab 32 F))), (15, .inl (.int .i64 i)), (16, .inl (.int .i64 n)), (17, .inl (.slice pa m pcap)), (18, .inl (.tuple #[.agg (ab 32 G), .nilIface])), (13, .inl (.tuple #[.agg (ab 32 G), .nilIface])), (19, .inl (.agg (ab 32 G))), (20, .inl .nilIface), (11, .inr (2, pt 0)), (12, .inl .nilIface)] [(ab 32 (fun _ => 0), 34)] [(2, ab 32 G)] [eR 0, nn, nn, nn, nn, nn, nn, nn, eN 2, eS 2] ?_ ?_
  · exact oc (k_ld 0 0 (.agg (ab 32 F)) (c := ab 32 F) (ldS (F := F) 34) rfl rfl) <|
    oc (k_mv (.inl rfl) rfl) <|
    oc (k_mv (.inl rfl) rfl) <|
    oc (k_mv (.inl rfl) rfl) <|
    oc (k_cw 29 #[.agg (ab 32 F), .int .i64 i, .int .i64 n, .slice pa m pcap] (.tuple #[.agg (ab 32 G), .nilIface]) (fun w hw => hcome w hw) rfl rfl) <|
    oc (k_mv (.inl rfl) rfl) <|
    oc (k_ex (.tuple #[.agg (ab 32 G), .nilIface]) (.agg (ab 32 G)) rfl rfl) <|
    oc (k_ex (.tuple #[.agg (ab 32 G), .nilIface]) .nilIface rfl rfl) <|
    oc (k_al 2 alS rfl rfl) <|
    oc (k_st 2 0 (.agg (ab 32 G)) (c := ab 32 (fun _ => 0)) (n := ab 32 G) (stS (F := G) (c := ab 32 (fun _ => 0)) 34 (ab_size _ _)) rfl rfl) <|
    oz (k_mv (.inr rfl) rfl) <|
    ok_nil
  clear h; intro β a w h
  refine sym_then ?_
  refine sym_seq ?_
  refine St.r0 h [(21, .inl .nilIface), (22, .inl (.bool true)), (23, .inl (.bool true)), (24, .inl (.agg (ab 32 G))), (25, .inl (.agg (ab 32 R))), (26, .inl (.bool false)), (27, .inl (.bool false))] [nn, nn, nn, eR 2, eR 1] ?_ ?_
  · exact oc (k_mv (.inl rfl) rfl) <|
    oc (k_bi .nilIface .nilIface (.bool true) eqN_t rfl rfl) <|
    oc (k_mv (.inl rfl) rfl) <|
    oc (k_ld 2 0 (.agg (ab 32 G)) (c := ab 32 G) (ldS (F := G) 34) rfl rfl) <|
    oc (k_ld 1 0 (.agg (ab 32 R)) (c := ab 32 R) (ldS (F := R) 34) rfl rfl) <|
    oz (k_bi (.agg (ab 32 G)) (.agg (ab 32 R)) (.bool false) (eqS_v hb) rfl rfl) <|
    oz (k_pt rfl rfl) <|
    oz (k_mv (.inr rfl) rfl) <|
    ok_nil
  clear h; intro β a w h
  refine sym_then ?_
  refine wp_ret ?_
  exact s_rt h Tryd.results14 (fun hb => ⟨rfl, hb⟩)
theorem come_bad {i n : Int} {m pcap : Nat} {pa : Option Addr} {F : Nat → Nat} {W0 : World} (h : badR i n) : Calls Tryd.prog 29 #[.agg (ab 32 F), .int .i64 i, .int .i64 n, .slice pa m pcap] W0 fun e w' => e = .returned (.tuple #[.agg (ab 32 fun _ => 0), ev 2]) ∧ Below W0.heap.size W0 w' :=
  come_bw fun w => (length_bad i n h w).mono fun _ _ h => ⟨h.1, by rw [h.2]; exact Below.refl _ _⟩
theorem come_len {i n m pcap : Nat} {pa : Option Addr} {F : Nat → Nat} {W0 : World} (hi : i < n) (hn : n ≤ 1048576) (hl : m ≠ (way i n).length) : Calls Tryd.prog 29 #[.agg (ab 32 F), .int .i64 ((i : Nat) : Int), .int .i64 ((n : Nat) : Int), .slice pa m pcap] W0 fun e w' => e = .returned (.tuple #[.agg (ab 32 fun _ => 0), ev 13]) ∧ Below W0.heap.size W0 w' :=
  come_lw hl fun w => length_d hn hi w
theorem holds_bad {i n : Int} {m pcap : Nat} {pa : Option Addr} {F R : Nat → Nat} {W0 : World} (h : badR i n) : Calls Tryd.prog 14 #[.agg (ab 32 F), .int .i64 i, .int .i64 n, .slice pa m pcap, .agg (ab 32 R)] W0 fun e w' => e = .returned (.bool false) ∧ Below W0.heap.size W0 w' := holds_e fun _ _ => come_bad h
theorem holds_len {i n m pcap : Nat} {pa : Option Addr} {F R : Nat → Nat} {W0 : World} (hi : i < n) (hn : n ≤ 1048576) (hl : m ≠ (way i n).length) : Calls Tryd.prog 14 #[.agg (ab 32 F), .int .i64 ((i : Nat) : Int), .int .i64 ((n : Nat) : Int), .slice pa m pcap, .agg (ab 32 R)] W0 fun e w' => e = .returned (.bool false) ∧ Below W0.heap.size W0 w' := holds_e fun _ _ => come_len hi hn hl
theorem holds_d {i n m pcap : Nat} {pa : Option Addr} {ps : List (Nat → Nat)} {F R : Nat → Nat} {W0 : World} (hg : Gl W0) (hF : ∀ i, F i < 256) (hS : SsAt W0 pa ps) (hm : ps.length = m) (hi : i < n) (hn : n ≤ 1048576) (hl : m = (way i n).length) : Calls Tryd.prog 14 #[.agg (ab 32 F), .int .i64 ((i : Nat) : Int), .int .i64 ((n : Nat) : Int), .slice pa m pcap, .agg (ab 32 R)] W0 fun e w' => e = .returned (.bool (eqD (comeL (way i n).reverse ps F) R)) ∧ Below W0.heap.size W0 w' := by
  have hc := fun w (hw : KW (wd W0) w) => come_d (cap := pcap) (gl_b hg hw.below) hF (hS.later hw.below) hm hi hn hl
  cases hb : eqD (comeL (way i n).reverse ps F) R with
  | true => exact holds_t hc hb
  | false => exact holds_f hc hb
end Go.Proofs.YtbmhehppokcfnaaDoor

namespace Go.Proofs.YtbmhehppokcfnaaDoor
open Go.RowKit Sh

theorem as_err (v : Value) (w : World) : (Instr.typeAssert (.iface 29 v) 25 29 true).run Tryd.prog w = .ok (.tuple #[v, .bool true]) w := by kernel_rfl
set_option maxHeartbeats 400000 in
theorem num_e (n : Int) (_h : (n == 0) = false) (w : World) : Calls Tryd.prog 26 #[ev n] w fun e w' => e = .returned (.int .i64 n) ∧ w' = w := by
  have has := as_err (.int .i64 n)
  unfold ev
  go_enter Tryd.func26, Tryd.ntmps26
  go_wp2
  go_ret
  exact ⟨rfl, rfl⟩
set_option maxHeartbeats 400000 in
theorem is_e (n : Int) (h : (n == 0) = false) (w : World) : Calls Tryd.prog 11 #[ev n, .int .i64 n] w fun e w' => e = .returned (.bool true) ∧ w' = w := by
  go_enter Tryd.func11, Tryd.ntmps11
  go_wp2_with fail
  refine (num_e n h _).mono ?_
  rintro e w1 ⟨rfl, rfl⟩
  go_wp2
  go_ret
  exact ⟨rfl, rfl⟩
set_option maxHeartbeats 400000 in
theorem same_d {aa a2 : Option Addr} {n m cap cap2 : Nat} {L M : List (Nat → Nat)} {W0 : World} (hL : SsAt W0 aa L) (hM : SsAt W0 a2 M) (lL : L.length = n) (lM : M.length = m) (hm : n ≤ 1000000) : Calls Tryd.prog 12 #[.slice aa n cap, .slice a2 m cap2] W0 fun e w' => e = .returned (.bool (eqLs L M)) ∧ Below W0.heap.size W0 w' := by
  have h := sums_d (cap := cap) (cap2 := cap2) hL hM lL lM hm
  go_enter Tryd.func12, Tryd.ntmps12
  go_wp2_with fail
  refine h.mono ?_
  rintro e w1 ⟨rfl, hb⟩
  go_wp2
  go_ret
  exact ⟨rfl, hb⟩
def z5 : Array Value := Array.replicate 160 (.int .u8 0)
theorem mk5 (w : World) : (Instr.makeSlice 22 (.int .i64 5) (.int .i64 5)).run Tryd.prog w = .ok (.slice (some ⟨w.heap.size, 0, none⟩) 5 5) (w.alloc (.cells z5 34)) := by kernel_rfl
theorem wpList_mk5 {w : World} {ops : Array Oper} {rest : List Oper} {o : Oper} {a : Act} {Q : Exit → Act → World → Prop} (hgd : o.guard = none) (ho : o.op = .makeSlice 22 (.const (.int .i64 5)) (.const (.int .i64 5)))
    (h : wpList Tryd.prog ops Q rest (a.put o.dst (.slice (some ⟨w.heap.size, 0, none⟩) 5 5)) (w.alloc (.cells z5 34))) : wpList Tryd.prog ops Q (o :: rest) a w := by
  refine wpList_plain hgd fun K hK => ?_
  unfold Oper.wp execOp
  simp only [ho, Act.eval, Sem.run_bind, mk5 w, Result.andThen_ok, Sem.run_pure]
  exact hK _ _ h
theorem ss_z5 {w : World} : SsAt (w.alloc (.cells z5 34)) (some ⟨w.heap.size, 0, none⟩) (List.replicate 5 fun _ => 0) :=
  ⟨fun F h j => by rw [(List.mem_replicate.1 h).2]; exact (by decide : 0 < 256), fun _ => ⟨_, 0, rfl, fun i h j hj => by
    rw [cell_of_row _ _ _ _ _ _ (World.alloc_heap_new w _)]
    rw [List.length_replicate] at h
    rw [List.getElem_replicate]
    unfold z5
    rw [Array.getElem?_replicate, if_pos (by omega)]
    rfl⟩⟩
theorem own_shape {w : World} {base n : Nat} {L : List (Nat → Nat)} {v : Value} (hL : ∀ F ∈ L, ∀ j, F j < 256) (hn : L.length = n) (h : w.ownsRow base 34 32 v n (ssv L)) : ∃ a cap, v = .slice a n cap ∧ SsAt w a L ∧ n ≤ cap := ss_own hL hn h
theorem asl_lt {L : List (Nat → Nat)} (h : ∀ F ∈ L, ∀ j, F j < 256) (xs : List Cu) : ∀ F ∈ asl L xs, ∀ j, F j < 256 := by
  intro F hF
  obtain ⟨c, _, rfl⟩ := List.mem_map.1 hF
  refine root_lt _ _ rfl fun G hG => h G ?_
  split at hG
  · exact List.mem_of_mem_take (List.mem_of_mem_drop hG)
  · exact List.mem_of_mem_take (List.mem_of_mem_drop hG)
theorem w45 : (way 4 5).length = 1 := by decide +kernel
theorem w05 : (way 0 5).length = 3 := by decide +kernel
set_option maxHeartbeats 4000000 in
set_option maxRecDepth 100000 in
theorem alive_t {W0 : World} (hg : Gl W0) : Calls Tryd.prog 9 #[] W0 fun e w' => e = .returned (.bool true) ∧ Below W0.heap.size W0 w' := by
  have hal : Below W0.heap.size W0 (W0.alloc (.cells z5 34)) := (Below.refl _ _).alloc (Nat.le_refl _) _
  have hss := ss_z5 (w := W0)
  have hl5 : (List.replicate 5 fun _ : Nat => 0).length = 5 := rfl
  have hlt := asl_lt hss.1
  go_enter Tryd.func9, Tryd.ntmps9
  go_wp2_with (refine wpList_mk5 rfl rfl ?_)
  generalize W0.alloc (.cells z5 34) = w1 at hal hss ⊢
  have h1 := path_d (i := 4) (cap := 5) (gl_b hg hal) (by decide) hl5 (by decide) (by decide) hss
  rw [w45] at h1
  refine h1.mono ?_
  rintro e w2 ⟨v, rfl, ho, hb2⟩
  obtain ⟨a1, c1, rfl, -, -⟩ := own_shape (hlt _) (by rw [asl_len, w45]) ho
  have hb02 := blw hal hb2
  have h2 := path_d (i := 0) (cap := 5) (gl_b hg hb02) (by decide) hl5 (by decide) (by decide) (hss.later hb2)
  rw [w05] at h2
  clear h1 ho
  go_wp2_with fail
  refine h2.mono ?_
  rintro e w3 ⟨v, rfl, ho, hb3⟩
  obtain ⟨a2, c2, rfl, -, -⟩ := own_shape (hlt _) (by rw [asl_len, w05]) ho
  have hb03 := blw hb02 hb3
  have h3 := length_d (i := 0) (n := 5) (by decide) (by decide) w3
  rw [w05] at h3
  clear h2 ho
  go_wp2_with fail
  refine h3.mono ?_
  rintro e w4 ⟨rfl, hb4⟩
  have hb04 := blw hb03 hb4
  go_wp2
  go_ret
  exact ⟨rfl, hb04⟩
end Go.Proofs.YtbmhehppokcfnaaDoor

namespace Go.Proofs.YtbmhehppokcfnaaDoor
open Go.RowKit Sh

theorem cut_rr (n : Nat) (hn : n ≤ 1048576) (w : World) : Calls Tryd.prog 28 #[.int .i64 ((n : Nat) : Int)] w fun e w' => e = .returned (.int .i64 ((cut n : Nat) : Int)) ∧ w' = w :=
  (cut_r ((n : Nat) : Int) (by omega) w).mono fun e w' h => ⟨by rw [h.1, Int.toNat_natCast], h.2⟩
set_option maxHeartbeats 4000000 in
theorem refLen_d : ∀ (n i : Nat) (w : World), i < n → n ≤ 1048576 → Calls Tryd.prog 32 #[.int .i64 ((i : Nat) : Int), .int .i64 ((n : Nat) : Int)] w fun e w' => e = .returned (.int .i64 (((way i n).length : Nat) : Int)) ∧ w' = w := by
  intro n
  induction n using Nat.strongRecOn with
  | ind n ih =>
    intro i w hi hn
    rcases Nat.lt_or_ge n 2 with h2 | h2
    · obtain rfl : n = 1 := by omega
      rw [way_1]
      go_enter Tryd.func32, Tryd.ntmps32
      go_wp2
      go_ret
      exact ⟨rfl, rfl⟩
    · have hk := cut_in h2
      have h1 : ((n : Int) == 1) = false := by rw [beq_eq_false_iff_ne]; omega
      rcases Nat.lt_or_ge i (cut n) with h | h
      · have hr := ih (cut n) hk.2.1 i w h (by omega)
        have hwl := way_le i (cut n)
        rw [way_len_lo h2 h]
        have hc := cut_rr n hn w
        generalize (way i (cut n)).length = N at *
        generalize cut n = k at *
        have hlt : (i : Int) < (k : Int) := by omega
        go_enter Tryd.func32, Tryd.ntmps32
        go_wp2_with fail
        refine hc.mono ?_
        rintro e w1 ⟨rfl, rfl⟩
        go_wp2_with fail
        refine hr.mono ?_
        rintro e w1 ⟨rfl, rfl⟩
        go_wp2
        go_ret
        exact ⟨by simp, rfl⟩
      · have hr := ih (n - cut n) (by omega) (i - cut n) w (by omega) (by omega)
        have hwl := way_le (i - cut n) (n - cut n)
        rw [way_len_hi h2 h]
        have hc := cut_rr n hn w
        generalize (way (i - cut n) (n - cut n)).length = N at *
        generalize cut n = k at *
        have hlt : ¬ (i : Int) < (k : Int) := by omega
        rw [show ((i - k : Nat) : Int) = (i : Int) - (k : Int) by omega, show ((n - k : Nat) : Int) = (n : Int) - (k : Int) by omega] at hr
        go_enter Tryd.func32, Tryd.ntmps32
        go_wp2_with fail
        refine hc.mono ?_
        rintro e w1 ⟨rfl, rfl⟩
        go_wp2_with fail
        refine hr.mono ?_
        rintro e w1 ⟨rfl, rfl⟩
        go_wp2
        go_ret
        exact ⟨by simp, rfl⟩
def tx (r : Bool) (F p : Nat → Nat) : Nat → Nat := if r then txt p F else txt F p
/-- The texts digested on the way up. -/
def ctxL : List Cu → List (Nat → Nat) → (Nat → Nat) → List (Nat → Nat)
  | c :: cs, p :: ps, F => tx c.r F p :: ctxL cs ps (jn c.r F p)
  | _, _, _ => []
theorem ctxL_snoc : ∀ (cs : List Cu) (ps : List (Nat → Nat)) (F : Nat → Nat) (c : Cu) (p : Nat → Nat), cs.length = ps.length → ctxL (cs ++ [c]) (ps ++ [p]) F = ctxL cs ps F ++ [tx c.r (comeL cs ps F) p]
  | [], [], F, c, p, _ => rfl
  | c' :: cs, p' :: ps, F, c, p, h => by
    show tx c'.r F p' :: ctxL (cs ++ [c]) (ps ++ [p]) _ = _
    rw [ctxL_snoc cs ps _ c p (by simpa using h)]; rfl
  | [], _ :: _, _, _, _, h => by simp at h
  | _ :: _, [], _, _, _, h => by simp at h
theorem ctxL_map (s : Nat) : ∀ (cs : List Cu) (ps : List (Nat → Nat)) (F : Nat → Nat), ctxL (cs.map (sh s)) ps F = ctxL cs ps F
  | [], [], _ => rfl
  | [], _ :: _, _ => rfl
  | _ :: _, [], _ => rfl
  | c :: cs, p :: ps, F => by show tx c.r F p :: _ = tx c.r F p :: _; congr 1; exact ctxL_map s cs ps (jn c.r F p)
theorem ctxL_len : ∀ (cs : List Cu) (ps : List (Nat → Nat)) (F : Nat → Nat), cs.length = ps.length → (ctxL cs ps F).length = ps.length
  | [], [], _, _ => rfl
  | c :: cs, p :: ps, F, h => by show (ctxL cs ps _).length + 1 = _; rw [ctxL_len cs ps _ (by simpa using h)]; rfl
  | [], _ :: _, _, h => by simp at h
  | _ :: _, [], _, h => by simp at h
theorem ctx_lo {i n : Nat} {ps : List (Nat → Nat)} {p F : Nat → Nat} (hn : 2 ≤ n) (h : i < cut n) (hl : ps.length = (way i (cut n)).length) : ctxL (way i n).reverse (ps ++ [p]) F = ctxL (way i (cut n)).reverse ps F ++ [txt (comeL (way i (cut n)).reverse ps F) p] := by
  rw [way_lo hn h, List.reverse_cons, ctxL_snoc _ _ _ _ _ (by rw [List.length_reverse]; exact hl.symm)]; rfl
theorem ctx_hi {i n : Nat} {ps : List (Nat → Nat)} {p F : Nat → Nat} (hn : 2 ≤ n) (h : cut n ≤ i) (hl : ps.length = (way (i - cut n) (n - cut n)).length) : ctxL (way i n).reverse (ps ++ [p]) F = ctxL (way (i - cut n) (n - cut n)).reverse ps F ++ [txt p (comeL (way (i - cut n) (n - cut n)).reverse ps F)] := by
  rw [way_hi hn h, List.reverse_cons, ctxL_snoc _ _ _ _ _ (by rw [List.length_reverse, List.length_map]; exact hl.symm), ← List.map_reverse, ctxL_map, comeL_map]; rfl
/-- A load whose run is known, in a plain region. -/
theorem wpList_ld {w : World} {ops : Array Oper} {rest : List Oper} {o : Oper} {a : Act} {Q : Exit → Act → World → Prop} (hgd : Region.wanted o (yielded ops a.tmps) = true) (t : TypeId) (p : Operand) (ho : o.op = .load t p) {v : Value} (pv : Value) (hp : a.eval p = pv) (hl : (Instr.loadAt t pv).run Tryd.prog w = .ok v w) (h : wpList Tryd.prog ops Q rest (a.put o.dst v) w) : wpList Tryd.prog ops Q (o :: rest) a w := by
  refine wpList_step fun K hK => ?_
  rw [if_pos hgd]
  unfold Oper.wp execOp
  simp only [ho, hp, Sem.run_bind, hl, Result.andThen_ok, Sem.run_pure]
  exact hK _ _ h
theorem wpList_eqG {w : World} {ops : Array Oper} {rest : List Oper} {o : Oper} {a : Act} {Q : Exit → Act → World → Prop} (hgd : Region.wanted o (yielded ops a.tmps) = true) (x u : Operand) (ho : o.op = .binOp .eql 34 x u 34) {F G : Nat → Nat} {b : Bool} (hx : a.eval x = .agg (ab 32 F)) (hu : a.eval u = .agg (ab 32 G)) (hb : eqD F G = b) (h : wpList Tryd.prog ops Q rest (a.put o.dst (.bool b)) w) : wpList Tryd.prog ops Q (o :: rest) a w := by
  refine wpList_step fun K hK => ?_
  rw [if_pos hgd]
  have hl := eqS_v (x := x) (u := u) hb w
  unfold Oper.wp execOp
  simp only [ho, hx, hu]
  simp only [Sem.run_bind] at hl ⊢
  simp only [hl, Result.andThen_ok, Sem.run_pure]
  exact hK _ _ h
end Go.Proofs.YtbmhehppokcfnaaDoor

namespace Go.Proofs.YtbmhehppokcfnaaDoor
open Go.RowKit Sh

/-- All that is no row of digests stays; the heap grows. -/
def Gx (w w' : World) : Prop := w.heap.size ≤ w'.heap.size ∧ ∀ (g : Nat) (c : Array Value) (t : TypeId) (fr : Nat × Nat), w.heap[g]? = some (.cells c t fr) → t ≠ 34 → w'.heap[g]? = some (.cells c t fr)
theorem Gx.of {w w' : World} (h : Below w.heap.size w w') : Gx w w' := ⟨h.size, fun g _ _ _ hg _ => (h.block g (Array.getElem?_eq_some_iff.1 hg).1).trans hg⟩
theorem Gx.row {w : World} {g : Nat} {c c' : Array Value} (h : w.heap[g]? = some (.cells c 34 (0, 0))) : Gx w (w.setRow g c') :=
  ⟨by simp [World.setRow], fun k d t fr hk ht => (setRow_other w g k c' (fun e => by rw [e, h] at hk; cases hk; exact ht rfl)).trans hk⟩
def TxW (B : Nat) (T : Nat → Nat) (v : Value) (w : World) : Prop := TxV w B v T
theorem TxW.later {B : Nat} {T : Nat → Nat} {v : Value} {w w' : World} (h : TxW B T v w) (hg : Gx w w') : TxW B T v w' := by
  obtain ⟨b, c, cap, e, h1, h2, h3, h4⟩ := h
  exact ⟨b, c, cap, e, h1, h2, hg.2 b _ _ _ h3 (by decide), h4⟩
/-- Texts in a row of the call's own. -/
def TsV (B : Nat) (T : List (Nat → Nat)) (v : Value) (w : World) : Prop := B ≤ w.heap.size ∧ ∃ xs, w.ownsRow B 79 1 v T.length xs ∧ TsAt w B xs T
theorem own_gx {w w' : World} {base n : Nat} {v : Value} {xs : List Value} (h : w.ownsRow base 79 1 v n xs) (hg : Gx w w') : w'.ownsRow base 79 1 v n xs := by
  refine ⟨h.1, ?_⟩
  rcases h.2 with h2 | ⟨g, cap, cur, h1, h2, h3, h4⟩
  · exact .inl h2
  · exact .inr ⟨g, cap, cur, h1, h2, hg.2 g _ _ _ h3 (by decide), h4⟩
theorem TsV.later {B : Nat} {T : List (Nat → Nat)} {v : Value} {w w' : World} (h : TsV B T v w) (hg : Gx w w') : TsV B T v w' := by
  obtain ⟨h0, xs, h1, h2⟩ := h
  exact ⟨Nat.le_trans h0 hg.1, xs, own_gx h1 hg, h2.map (fun h => TxW.later h hg)⟩
def Row1t (B : Nat) (T : Nat → Nat) (v : Value) (w : World) : Prop := ∃ g r, v = .slice (some ⟨g, 0, none⟩) 1 1 ∧ w.heap[g]? = some (.cells #[r] 79 (0, 0)) ∧ TxV w B r T
theorem Row1t.later {B : Nat} {T : Nat → Nat} {v : Value} {w w' : World} (h : Row1t B T v w) (hg : Gx w w') : Row1t B T v w' := by
  obtain ⟨g, r, e, h1, h2⟩ := h
  exact ⟨g, r, e, hg.2 g _ _ _ h1 (by decide), TxW.later h2 hg⟩
/-- The memory of a region: three blocks of digests, and the texts till operation p comes up; q: the store. -/
structure MC (W0 : World) (g1 g2 g8 : Nat) (F1 F2 R : Nat → Nat) (Z : Array Value) (T : List (Nat → Nat)) (tv : Value) (p q : Nat) (D : Nat → Bool) (w : World) : Prop where
  bel : Below W0.heap.size W0 w
  r1 : w.heap[g1]? = some (.cells (ab 32 F1) 34 (0, 0))
  r2 : w.heap[g2]? = some (.cells (ab 32 F2) 34 (0, 0))
  r8 : w.heap[g8]? = some (.cells (if D q then ab 32 R else Z) 34 (0, 0))
  ts : D p = false → TsV W0.heap.size T tv w
theorem MC.step {W0 : World} {g1 g2 g8 : Nat} {F1 F2 R : Nat → Nat} {Z : Array Value} {T : List (Nat → Nat)} {tv : Value} {p q i : Nat} {D : Nat → Bool} {w w' : World} (h : MC W0 g1 g2 g8 F1 F2 R Z T tv p q D w) (hb : Below w.heap.size w w') (hp : i ≠ p) (hq : i ≠ q) : MC W0 g1 g2 g8 F1 F2 R Z T tv p q (add1 D i) w' :=
  ⟨blw h.bel hb, (hb.block _ (Array.getElem?_eq_some_iff.1 h.r1).1).trans h.r1, (hb.block _ (Array.getElem?_eq_some_iff.1 h.r2).1).trans h.r2, by rw [add1_ne (Ne.symm hq)]; exact (hb.block _ (Array.getElem?_eq_some_iff.1 h.r8).1).trans h.r8, by rw [add1_ne (Ne.symm hp)]; exact fun hd => (h.ts hd).later (Gx.of hb)⟩
theorem MC.app {W0 : World} {g1 g2 g8 : Nat} {F1 F2 R : Nat → Nat} {Z : Array Value} {T : List (Nat → Nat)} {tv v : Value} {p q n : Nat} {xs : List Value} {D : Nat → Bool} {w w' : World} (h : MC W0 g1 g2 g8 F1 F2 R Z T tv p q D w) (ho : w.ownsRow W0.heap.size 79 1 v n xs) (hg : w.grownBy w' v.ownBlock) (hpq : p ≠ q) : MC W0 g1 g2 g8 F1 F2 R Z T tv p q (add1 D p) w' := by
  have hs : ∀ (g : Nat) (c : Array Value), w.heap[g]? = some (Obj.cells c 34 (0, 0)) → w'.heap[g]? = some (Obj.cells c 34 (0, 0)) := fun g c hc => (hg.block g (Array.getElem?_eq_some_iff.1 hc).1 (fun e => by
    obtain ⟨c', hc'⟩ := own_ty ho g e.symm
    rw [hc] at hc'; cases hc')).trans hc
  refine ⟨h.bel.trans ((Below.refl _ w).grown hg (Nat.le_trans (Nat.le_refl _) h.bel.size) (fun k ek => ?_)), hs _ _ h.r1, hs _ _ h.r2, by rw [add1_ne (Ne.symm hpq)]; exact hs _ _ h.r8, fun hd => by rw [add1_eq] at hd; cases hd⟩
  rcases ho.2 with ⟨rfl, _⟩ | ⟨g, cap, cur, rfl, hb, _⟩
  · simp [Value.ownBlock] at ek
  · obtain rfl : g = k := by simpa [Value.ownBlock] using ek
    exact hb
theorem MC.sto {W0 : World} {g1 g2 g8 : Nat} {F1 F2 R : Nat → Nat} {Z : Array Value} {T : List (Nat → Nat)} {tv : Value} {p q : Nat} {D : Nat → Bool} {w : World} (h : MC W0 g1 g2 g8 F1 F2 R Z T tv p q D w) (h8 : W0.heap.size ≤ g8) (h1 : g1 ≠ g8) (h2 : g2 ≠ g8) (hpq : p ≠ q) : MC W0 g1 g2 g8 F1 F2 R Z T tv p q (add1 D q) (w.setRow g8 (ab 32 R)) := by
  have hw := wrt_row (c' := ab 32 R) h.r8
  exact ⟨below_wrt h.bel hw h8 (by have := h.bel.size; omega), (setRow_other w g8 g1 _ h1).trans h.r1, (setRow_other w g8 g2 _ h2).trans h.r2, by rw [add1_eq]; exact hw.row, by rw [add1_ne hpq]; exact fun hd => (h.ts hd).later (Gx.row h.r8)⟩
theorem s_raw2 {fn : Func} {a : Act} {w : World} {R : Ending → World → Prop} {p u g : Nat} {c : Array Value} {v : Value} (hd : a.defers = []) (hp : a.tmps.getD p undef = .pointer (some ⟨g, 0, none⟩)) (hv : a.tmps.getD u undef = v) (hr : fn.results = #[.cell p 34, .tmp u]) (hi : (Tryd.prog.info? 34).map (·.size) = some c.size) (hrow : w.heap[g]? = some (.cells c 34 (0, 0))) (hR : R (.returned (.tuple #[.agg c, v])) w) : bodyPost Tryd.prog fn R .ret a w := by
  refine ⟨hd, _, ?_, hR⟩
  have hl := run_loadVar_row (P := Tryd.prog) w g 34 34 c (0, 0) _ hrow Tryd.underlying34 rfl hi
  have ht2 : a.tmps[p]?.getD undef = .pointer (some ⟨g, 0, none⟩) := by simpa using hp
  have hu2 : a.tmps[u]?.getD undef = v := by simpa using hv
  simp [results, hr, ht2, asAddr, hl, Result.andThen, hu2]
theorem bs_txt (r : Value) (h1 : r.oneCell' = true) (w : World) : (Instr.buildSlice 62 1 #[(0, r)]).run Tryd.prog w = .ok (.slice (some ⟨w.heap.size, 0, none⟩) 1 1) (w.alloc (.cells #[r] 79)) := by
  cases r <;> first | (cases h1; done) | kernel_rfl
end Go.Proofs.YtbmhehppokcfnaaDoor

namespace Go.Proofs.YtbmhehppokcfnaaDoor
open Go.RowKit Go.Maps Sh
def CA8 (B : Nat) (F1 F2 : Nat → Nat) (T : List (Nat → Nat)) (tv : Value) : (Nat → Bool) → Nat → Value → World → Prop
  | _, 0, v, _ => v = .agg (ab 32 F1)
  | _, 1, v, _ => v = .agg (ab 32 F2)
  | _, 2, v, _ => v = .agg (ab 32 (nd F1 F2))
  | _, 3, v, _ => v = tv
  | _, 4, v, _ => v = .agg (ab 32 F1)
  | _, 5, v, _ => v = .agg (ab 32 F2)
  | D, 6, v, w => D 8 = false → TxW B (txt F1 F2) v w
  | D, 7, v, w => D 8 = false → Row1t B (txt F1 F2) v w
  | D, 8, v, w => D 8 = true ∧ TsV B (T ++ [(txt F1 F2)]) v w
  | _, 9, _, _ => True
  | D, 10, v, w => D 8 = true ∧ TsV B (T ++ [(txt F1 F2)]) v w
  | _, _, _, _ => True
def CA8d : Nat → Nat
  | 0 => 44
  | 1 => 45
  | 2 => 46
  | 3 => 47
  | 4 => 48
  | 5 => 49
  | 6 => 50
  | 7 => 51
  | 8 => 52
  | 9 => 1009
  | 10 => 9
  | i => 2000 + i
theorem CA8_mono (B : Nat) (F1 F2 : Nat → Nat) (T : List (Nat → Nat)) (tv : Value) {D : Nat → Bool} {ix : Nat} {w w' : World} (hD : D ix = false) (hb : ix ≠ 8 → Gx w w') : ∀ (j : Nat) (u : Value), j ≠ ix → CA8 B F1 F2 T tv D j u w → CA8 B F1 F2 T tv (add1 D ix) j u w'
  | 0, _, _, h => h
  | 1, _, _, h => h
  | 2, _, _, h => h
  | 3, _, _, h => h
  | 4, _, _, h => h
  | 5, _, _, h => h
  | 6, _, _, h => fun hd => by
    by_cases e : ix = 8
    · subst e; rw [add1_eq] at hd; cases hd
    · rw [add1_ne (fun q => e q.symm)] at hd; exact (h hd).later (hb e)
  | 7, _, _, h => fun hd => by
    by_cases e : ix = 8
    · subst e; rw [add1_eq] at hd; cases hd
    · rw [add1_ne (fun q => e q.symm)] at hd; exact (h hd).later (hb e)
  | 8, _, _, h => by
    have e : ix ≠ 8 := fun e => by rw [e] at hD; rw [h.1] at hD; cases hD
    exact ⟨by rw [add1_ne (fun q => e q.symm)]; exact h.1, h.2.later (hb e)⟩
  | 9, _, _, h => h
  | 10, _, _, h => by
    have e : ix ≠ 8 := fun e => by rw [e] at hD; rw [h.1] at hD; cases hD
    exact ⟨by rw [add1_ne (fun q => e q.symm)]; exact h.1, h.2.later (hb e)⟩
  | _ + 11, _, _, _ => trivial
def CA10 (B : Nat) (F1 F2 : Nat → Nat) (T : List (Nat → Nat)) (tv : Value) : (Nat → Bool) → Nat → Value → World → Prop
  | _, 0, v, _ => v = .agg (ab 32 F1)
  | _, 1, v, _ => v = .agg (ab 32 F2)
  | _, 2, v, _ => v = .agg (ab 32 (nd F1 F2))
  | _, 3, v, _ => v = tv
  | _, 4, v, _ => v = .agg (ab 32 F1)
  | _, 5, v, _ => v = .agg (ab 32 F2)
  | D, 6, v, w => D 8 = false → TxW B (txt F1 F2) v w
  | D, 7, v, w => D 8 = false → Row1t B (txt F1 F2) v w
  | D, 8, v, w => D 8 = true ∧ TsV B (T ++ [(txt F1 F2)]) v w
  | _, 9, _, _ => True
  | D, 10, v, w => D 8 = true ∧ TsV B (T ++ [(txt F1 F2)]) v w
  | _, _, _, _ => True
def CA10d : Nat → Nat
  | 0 => 65
  | 1 => 66
  | 2 => 67
  | 3 => 68
  | 4 => 69
  | 5 => 70
  | 6 => 71
  | 7 => 72
  | 8 => 73
  | 9 => 1009
  | 10 => 9
  | i => 2000 + i
theorem CA10_mono (B : Nat) (F1 F2 : Nat → Nat) (T : List (Nat → Nat)) (tv : Value) {D : Nat → Bool} {ix : Nat} {w w' : World} (hD : D ix = false) (hb : ix ≠ 8 → Gx w w') : ∀ (j : Nat) (u : Value), j ≠ ix → CA10 B F1 F2 T tv D j u w → CA10 B F1 F2 T tv (add1 D ix) j u w'
  | 0, _, _, h => h
  | 1, _, _, h => h
  | 2, _, _, h => h
  | 3, _, _, h => h
  | 4, _, _, h => h
  | 5, _, _, h => h
  | 6, _, _, h => fun hd => by
    by_cases e : ix = 8
    · subst e; rw [add1_eq] at hd; cases hd
    · rw [add1_ne (fun q => e q.symm)] at hd; exact (h hd).later (hb e)
  | 7, _, _, h => fun hd => by
    by_cases e : ix = 8
    · subst e; rw [add1_eq] at hd; cases hd
    · rw [add1_ne (fun q => e q.symm)] at hd; exact (h hd).later (hb e)
  | 8, _, _, h => by
    have e : ix ≠ 8 := fun e => by rw [e] at hD; rw [h.1] at hD; cases hD
    exact ⟨by rw [add1_ne (fun q => e q.symm)]; exact h.1, h.2.later (hb e)⟩
  | 9, _, _, h => h
  | 10, _, _, h => by
    have e : ix ≠ 8 := fun e => by rw [e] at hD; rw [h.1] at hD; cases hD
    exact ⟨by rw [add1_ne (fun q => e q.symm)]; exact h.1, h.2.later (hb e)⟩
  | _ + 11, _, _, _ => trivial
set_option maxHeartbeats 8000000 in
set_option maxRecDepth 100000 in
theorem refCome_lo {b off n m cap i : Nat} {F C P : Nat → Nat} {T : List (Nat → Nat)} {W0 : World} (hn : 2 ≤ n) (hm : n ≤ 1048576) (hm1 : 1 ≤ m) (hm2 : m ≤ 1000) (hcap : m ≤ cap) (hk : 1 ≤ cut n ∧ cut n < n ∧ n ≤ 2 * cut n) (hci : i < cut n) (_hin : i < n) (hTl : T.length ≤ 1000) (hC : ∀ i, C i < 256) (hP : ∀ i, P i < 256)
    (hld : ∀ w, Below W0.heap.size W0 w → (Instr.loadAt 34 (.pointer (some ⟨b, off + 32 * (m - 1), none⟩))).run Tryd.prog w = .ok (.agg (ab 32 P)) w)
    (hrec : ∀ w, Below W0.heap.size W0 w → Calls Tryd.prog 33 #[.agg (ab 32 F), .int .i64 ((i : Nat) : Int), .int .i64 ((cut n : Nat) : Int), .slice (some ⟨b, off, none⟩) (m - 1) cap] w fun e w' => ∃ tv, e = .returned (.tuple #[.agg (ab 32 C), tv]) ∧ TsV W0.heap.size T tv w' ∧ Below w.heap.size w w') :
    Calls Tryd.prog 33 #[.agg (ab 32 F), .int .i64 ((i : Nat) : Int), .int .i64 ((n : Nat) : Int), .slice (some ⟨b, off, none⟩) m cap] W0 fun e w' => ∃ tv, e = .returned (.tuple #[.agg (ab 32 (nd C P)), tv]) ∧ TsV W0.heap.size (T ++ [txt C P]) tv w' ∧ Below W0.heap.size W0 w' := by
  obtain ⟨hk1, hk2, hk3⟩ := hk
  have h1 : ((n : Int) == 1) = false := by rw [beq_eq_false_iff_ne]; omega
  have hlt : (i : Int) < (cut n : Int) := by omega
  have hcu := fun w => cut_rr n hm w
  obtain ⟨A, hA⟩ : ∃ A, Hid (A = ab 32 F) := ⟨_, hide1 rfl⟩
  obtain ⟨Z, hZ⟩ : ∃ Z, Hid (Z = ab 32 fun _ => 0) := ⟨_, hide1 rfl⟩
  have bxA : ∀ w : World, (Instr.box 34 (.agg A)).run Tryd.prog w = .ok (.pointer (some ⟨w.heap.size, 0, none⟩)) (w.alloc (.cells A 34)) := fun w => bx_agg w
  have hzs : ∀ w : World, (zeroValue 34).run Tryd.prog w = .ok (.agg Z) w := fun w => by rw [hZ.out]; kernel_rfl
  have szA : (Tryd.prog.info? 34).map (·.size) = some A.size := by rw [hA.out]; exact sum_sz _
  have hZs : Z.size = 32 := by rw [hZ.out]; exact ab_size _ _
  rw [← hA.out] at hrec
  rw [← hA.out]
  obtain ⟨w1, hw1⟩ : ∃ w1, Hid (w1 = (W0.alloc (.cells A 34)).alloc (.cells Z 34)) := ⟨_, hide1 rfl⟩
  have hb1 : Below W0.heap.size W0 w1 := by rw [hw1.out]; exact ((Below.refl _ _).alloc (Nat.le_refl _) _).alloc (by simp) _
  have hrA : w1.heap[W0.heap.size]? = some (.cells A 34 (0, 0)) := by rw [hw1.out]; exact (Below.heap_alloc _ _ _ (by simp)).trans (World.alloc_heap_new W0 _)
  have hr8 : w1.heap[W0.heap.size + 1]? = some (.cells Z 34 (0, 0)) := by
    rw [hw1.out]; have := World.alloc_heap_new (W0.alloc (.cells A 34)) (.cells Z 34); rwa [World.size_alloc] at this
  have hz1 : Hid (w1.heap.size = W0.heap.size + 2) := hide1 (by rw [hw1.out]; simp)
  go_enter Tryd.func33, Tryd.ntmps33
  go_upto_region 1 with fail
  rw [← hw1.out]
  go_wp2_with fail
  refine (hcu w1).mono ?_
  rintro e w ⟨rfl, rfl⟩
  have hml : ((m : Int) - 1).toNat = m - 1 := by omega
  have hm0 : ¬ (m : Int) - 1 < 0 := by omega
  have hm3 : (m : Int) - 1 < (m : Int) := by omega
  have hm4 : (m : Int) - 1 ≤ (cap : Int) := by omega
  have hldw := hld w hb1
  have hr11 := World.alloc_heap_new w (.cells Z 34)
  obtain ⟨w2, hw2⟩ : ∃ w2, Hid (w2 = (w.alloc (.cells Z 34)).setRow w.heap.size (ab 32 P)) := ⟨_, hide1 rfl⟩
  have hwr2 := wrt_row (c' := ab 32 P) hr11
  have hb2 : Below w.heap.size w w2 := by rw [hw2.out]; exact below_wrt ((Below.refl _ _).alloc (Nat.le_refl _) _) hwr2 (Nat.le_refl _) (by simp)
  have hP2 : w2.heap[w.heap.size]? = some (.cells (ab 32 P) 34 (0, 0)) := by rw [hw2.out]; exact hwr2.row
  have hA2 := (hb2.block _ (Array.getElem?_eq_some_iff.1 hrA).1).trans hrA
  have h82 := (hb2.block _ (Array.getElem?_eq_some_iff.1 hr8).1).trans hr8
  clear hwr2
  go_wp2_with (first
    | (refine wpList_ld rfl 34 (.tmp 26) rfl (.pointer (some ⟨b, off + 32 * (m - 1), none⟩)) (by rw [Nat.mul_comm]; rfl) hldw ?_)
    | (refine wpList_store_row rfl 34 (.tmp 11) (.tmp 27) rfl w.heap.size (ab 32 P) Z 34 rfl rfl (sum_sz P) hr11 (by rw [hZs, ab_size]) (ab_one _ _) rfl ?_; rw [← hw2.out])
    | (refine wpList_load_row rfl 34 (.tmp 4) rfl W0.heap.size A 34 rfl Tryd.underlying34 szA hA2 ?_))
  refine (hrec w2 (blw hb1 hb2)).mono ?_
  rintro e w3 ⟨tv, rfl, hts, hb3⟩
  have hb03 := blw (blw hb1 hb2) hb3
  have hP3 := (hb3.block _ (Array.getElem?_eq_some_iff.1 hP2).1).trans hP2
  have h83 := (hb3.block _ (Array.getElem?_eq_some_iff.1 h82).1).trans h82
  have hr13 := World.alloc_heap_new w3 (.cells Z 34)
  obtain ⟨w4, hw4⟩ : ∃ w4, Hid (w4 = (w3.alloc (.cells Z 34)).setRow w3.heap.size (ab 32 C)) := ⟨_, hide1 rfl⟩
  have hwr4 := wrt_row (c' := ab 32 C) hr13
  have hb4 : Below w3.heap.size w3 w4 := by rw [hw4.out]; exact below_wrt ((Below.refl _ _).alloc (Nat.le_refl _) _) hwr4 (Nat.le_refl _) (by simp)
  have hC4 : w4.heap[w3.heap.size]? = some (.cells (ab 32 C) 34 (0, 0)) := by rw [hw4.out]; exact hwr4.row
  have hP4 := (hb4.block _ (Array.getElem?_eq_some_iff.1 hP3).1).trans hP3
  have h84 := (hb4.block _ (Array.getElem?_eq_some_iff.1 h83).1).trans h83
  have hts4 := hts.later (Gx.of hb4)
  have hb04 := blw hb03 hb4
  have hd1 : Hid (W0.heap.size + 1 < w.heap.size ∧ w.heap.size < w3.heap.size) := hide1 ⟨by have := hz1.out; omega, (Array.getElem?_eq_some_iff.1 hP3).1⟩
  clear hwr4 hrec hld hldw hA2 hP2 h82 hP3 h83 hb3 hts hr11 hrA hr8
  go_upto_region 8 with (first
    | (refine wpList_store_row rfl 34 (.tmp 13) (.tmp 42) rfl w3.heap.size (ab 32 C) Z 34 rfl rfl (sum_sz C) hr13 (by rw [hZs, ab_size]) (ab_one _ _) rfl ?_; rw [← hw4.out])
    | fail)
  have hN : ∀ w, Calls Tryd.prog 31 #[.agg (ab 32 C), .agg (ab 32 P)] w fun e w' => e = .returned (.agg (ab 32 (nd C P))) ∧ Below w.heap.size w w' := fun w => node_r hC hP
  have hT : ∀ w, Calls Tryd.prog 51 #[.agg (ab 32 C), .agg (ab 32 P)] w fun e w' => ∃ r, e = .returned r ∧ TxV w' w.heap.size r (txt C P) ∧ Below w.heap.size w w' := fun w => text_h hC hP
  have h8 : W0.heap.size ≤ W0.heap.size + 1 := by omega
  have hd2 := hd1.out
  generalize hg1 : w3.heap.size = g13 at *
  generalize hg2 : w.heap.size = g11 at *
  generalize hg8 : W0.heap.size + 1 = g8 at *
  have h18 : g13 ≠ g8 := by omega
  have h28 : g11 ≠ g8 := by omega
  refine wp_rel3 _ _ (CA8 W0.heap.size C P T tv) (MC W0 g13 g11 g8 C P (nd C P) Z T tv 8 9) CA8d (by kernel_rfl) (by kernel_rfl) 11 (by kernel_rfl) ?_ ?_ rfl (⟨hb04.drew, hC4, hP4, h84, fun _ => hts4.later (Gx.of (Below.refl _ _).drew)⟩) ?_ ?_
  · intro ix o ho
    match ix, ho with
    | 0, ho => obtain rfl := Option.some.inj ho; exact .inl ⟨rfl, by show 44 < 74; decide⟩
    | 1, ho => obtain rfl := Option.some.inj ho; exact .inl ⟨rfl, by show 45 < 74; decide⟩
    | 2, ho => obtain rfl := Option.some.inj ho; exact .inl ⟨rfl, by show 46 < 74; decide⟩
    | 3, ho => obtain rfl := Option.some.inj ho; exact .inl ⟨rfl, by show 47 < 74; decide⟩
    | 4, ho => obtain rfl := Option.some.inj ho; exact .inl ⟨rfl, by show 48 < 74; decide⟩
    | 5, ho => obtain rfl := Option.some.inj ho; exact .inl ⟨rfl, by show 49 < 74; decide⟩
    | 6, ho => obtain rfl := Option.some.inj ho; exact .inl ⟨rfl, by show 50 < 74; decide⟩
    | 7, ho => obtain rfl := Option.some.inj ho; exact .inl ⟨rfl, by show 51 < 74; decide⟩
    | 8, ho => obtain rfl := Option.some.inj ho; exact .inl ⟨rfl, by show 52 < 74; decide⟩
    | 9, ho => obtain rfl := Option.some.inj ho; exact .inr ⟨⟨rfl, fun _ _ _ _ => trivial⟩, by show 74 ≤ 1009; decide⟩
    | 10, ho => obtain rfl := Option.some.inj ho; exact .inl ⟨rfl, by show 9 < 74; decide⟩
    | _ + 11, ho => exact absurd ho (by simp)
  · intro ix jx hi hj e; unfold CA8d at e; split at e <;> split at e <;> omega
  · intro ix o ho
    match ix, ho with
    | 0, ho =>
      obtain rfl := Option.some.inj ho
      intro D a w hM hsl hdep hDi hcl K hK
      have hp13 : a.tmps.getD 13 undef = .pointer (some ⟨g13, 0, none⟩) := hsl 13 (by intro j hj; unfold CA8d; split <;> omega)
      refine ⟨rfl, ?_⟩
      have hl := ldS (F := C) 34 w _ hM.r1
      refine wp_val (w' := w) (v := .agg (ab 32 C)) (by simp only [execOp, Act.eval]; rw [show a.tmps.getD 13 undef = _ from hp13]; simp only [Sem.run_bind, hl, Result.andThen_ok, Sem.run_pure]) ?_
      exact hK _ _ rfl (hM.step (Below.refl _ _) (by decide) (by decide)) (CA8_mono W0.heap.size C P T tv hDi (fun _ => (Gx.of (Below.refl _ _))))
    | 1, ho =>
      obtain rfl := Option.some.inj ho
      intro D a w hM hsl hdep hDi hcl K hK
      have hp11 : a.tmps.getD 11 undef = .pointer (some ⟨g11, 0, none⟩) := hsl 11 (by intro j hj; unfold CA8d; split <;> omega)
      refine ⟨rfl, ?_⟩
      have hl := ldS (F := P) 34 w _ hM.r2
      refine wp_val (w' := w) (v := .agg (ab 32 P)) (by simp only [execOp, Act.eval]; rw [show a.tmps.getD 11 undef = _ from hp11]; simp only [Sem.run_bind, hl, Result.andThen_ok, Sem.run_pure]) ?_
      exact hK _ _ rfl (hM.step (Below.refl _ _) (by decide) (by decide)) (CA8_mono W0.heap.size C P T tv hDi (fun _ => (Gx.of (Below.refl _ _))))
    | 2, ho =>
      obtain rfl := Option.some.inj ho
      intro D a w hM hsl hdep hDi hcl K hK
      have e0 := (hdep ⟨0, .data⟩ (by simp) rfl).1
      have e1 := (hdep ⟨1, .data⟩ (by simp) rfl).1
      refine ⟨rfl, ?_⟩
      refine oper_callg 31 #[.tmp 44, .tmp 45] _ rfl #[.agg (ab 32 C), .agg (ab 32 P)] (by simp only [List.map_toArray, List.map_cons, List.map_nil, Act.eval]; rw [show a.tmps.getD 44 undef = _ from e0, show a.tmps.getD 45 undef = _ from e1]) (fun w => by kernel_rfl) (hN w) fun w' hb => ?_
      exact hK _ _ rfl (hM.step hb (by decide) (by decide)) (CA8_mono W0.heap.size C P T tv hDi (fun _ => (Gx.of hb)))
    | 3, ho =>
      obtain rfl := Option.some.inj ho
      intro D a w hM hsl hdep hDi hcl K hK
      have hp14 : a.tmps.getD 14 undef = tv := hsl 14 (by intro j hj; unfold CA8d; split <;> omega)
      refine ⟨rfl, ?_⟩
      refine wp_val (w' := w) (v := tv) (by simp only [execOp, Act.eval]; rw [show a.tmps.getD 14 undef = _ from hp14]; rfl) ?_
      exact hK _ _ rfl (hM.step (Below.refl _ _) (by decide) (by decide)) (CA8_mono W0.heap.size C P T tv hDi (fun _ => (Gx.of (Below.refl _ _))))
    | 4, ho =>
      obtain rfl := Option.some.inj ho
      intro D a w hM hsl hdep hDi hcl K hK
      have hp13 : a.tmps.getD 13 undef = .pointer (some ⟨g13, 0, none⟩) := hsl 13 (by intro j hj; unfold CA8d; split <;> omega)
      refine ⟨rfl, ?_⟩
      have hl := ldS (F := C) 34 w _ hM.r1
      refine wp_val (w' := w) (v := .agg (ab 32 C)) (by simp only [execOp, Act.eval]; rw [show a.tmps.getD 13 undef = _ from hp13]; simp only [Sem.run_bind, hl, Result.andThen_ok, Sem.run_pure]) ?_
      exact hK _ _ rfl (hM.step (Below.refl _ _) (by decide) (by decide)) (CA8_mono W0.heap.size C P T tv hDi (fun _ => (Gx.of (Below.refl _ _))))
    | 5, ho =>
      obtain rfl := Option.some.inj ho
      intro D a w hM hsl hdep hDi hcl K hK
      have hp11 : a.tmps.getD 11 undef = .pointer (some ⟨g11, 0, none⟩) := hsl 11 (by intro j hj; unfold CA8d; split <;> omega)
      refine ⟨rfl, ?_⟩
      have hl := ldS (F := P) 34 w _ hM.r2
      refine wp_val (w' := w) (v := .agg (ab 32 P)) (by simp only [execOp, Act.eval]; rw [show a.tmps.getD 11 undef = _ from hp11]; simp only [Sem.run_bind, hl, Result.andThen_ok, Sem.run_pure]) ?_
      exact hK _ _ rfl (hM.step (Below.refl _ _) (by decide) (by decide)) (CA8_mono W0.heap.size C P T tv hDi (fun _ => (Gx.of (Below.refl _ _))))
    | 6, ho =>
      obtain rfl := Option.some.inj ho
      intro D a w hM hsl hdep hDi hcl K hK
      have e4 := (hdep ⟨4, .data⟩ (by simp) rfl).1
      have e5 := (hdep ⟨5, .data⟩ (by simp) rfl).1
      refine ⟨rfl, ?_⟩
      refine oper_any 51 #[.tmp 48, .tmp 49] _ rfl #[.agg (ab 32 C), .agg (ab 32 P)] (by simp only [List.map_toArray, List.map_cons, List.map_nil, Act.eval]; rw [show a.tmps.getD 48 undef = _ from e4, show a.tmps.getD 49 undef = _ from e5]) (fun w => by kernel_rfl) (hT w) fun r w' hj => ?_
      obtain ⟨hr, hb⟩ := hj
      exact hK _ _ (fun _ => hr.mono hM.bel.size) (hM.step hb (by decide) (by decide)) (CA8_mono W0.heap.size C P T tv hDi (fun _ => (Gx.of hb)))
    | 7, ho =>
      obtain rfl := Option.some.inj ho
      intro D a w hM hsl hdep hDi hcl K hK
      have e6 := (hdep ⟨6, .data⟩ (by simp) rfl).1
      refine ⟨rfl, ?_⟩
      have hno : D 8 = false := by cases h8 : D 8 with | false => rfl | true => have := hcl 8 _ rfl h8 ⟨7, .data⟩ (by simp) rfl; rw [this] at hDi; cases hDi
      have h6 := e6 hno
      have h1 : (a.tmps.getD 50 undef).oneCell' = true := by obtain ⟨_, _, _, e, _⟩ := h6; rw [show a.tmps.getD 50 undef = _ from e]; rfl
      have hl := bs_txt (a.tmps.getD 50 undef) h1 w
      refine wp_val (w' := w.alloc (.cells #[a.tmps.getD 50 undef] 79)) (v := .slice (some ⟨w.heap.size, 0, none⟩) 1 1) (by simp only [execOp, Act.eval, List.map_toArray, List.map_cons, List.map_nil, Sem.run_bind, hl, Result.andThen_ok, Sem.run_pure]) ?_
      have hb : Below w.heap.size w (w.alloc (.cells #[a.tmps.getD 50 undef] 79)) := (Below.refl _ _).alloc (Nat.le_refl _) _
      exact hK _ _ (fun _ => ⟨_, _, rfl, World.alloc_heap_new w _, TxW.later h6 (Gx.of hb)⟩) (hM.step hb (by decide) (by decide)) (CA8_mono W0.heap.size C P T tv hDi (fun _ => Gx.of hb))
    | 8, ho =>
      obtain rfl := Option.some.inj ho
      intro D a w hM hsl hdep hDi hcl K hK
      have e3 := (hdep ⟨3, .data⟩ (by simp) rfl).1
      have e7 := (hdep ⟨7, .data⟩ (by simp) rfl).1
      refine ⟨rfl, ?_⟩
      obtain ⟨h0, xs, ho, hx⟩ := hM.ts hDi
      obtain ⟨g, r, eg, hg, hr⟩ := e7 hDi
      have hu : w.ownsRow 0 79 1 (.slice (some ⟨g, 0, none⟩) 1 1) 1 [r] := ⟨rfl, .inr ⟨g, 1, #[r], rfl, Nat.zero_le _, hg, Nat.le_refl _, by decide, rfl, rfl⟩⟩
      obtain ⟨v', w', hrun, ho', hgr⟩ := run_append_sl w W0.heap.size 62 tv T.length xs ho (.slice (some ⟨g, 0, none⟩) 1 1) 1 [r] hu (fun y hy => by rw [List.mem_singleton.1 hy]; obtain ⟨_, _, _, e, _⟩ := hr; rw [e]; rfl) (by omega) h0
      refine wp_val (w' := w') (v := v') (by simp only [execOp, Act.eval, resolve, invoke, builtin, List.map_toArray, List.map_cons, List.map_nil, Sem.run_pure, Result.andThen_ok, Sem.run_bind]; rw [show a.tmps.getD 47 undef = _ from e3, show a.tmps.getD 51 undef = _ from eg]; simp only [hrun, Result.andThen_ok]) ?_
      refine hK _ _ ⟨add1_eq, Nat.le_trans h0 hgr.size, xs ++ [r], by rw [List.length_append]; exact ho', ?_⟩ (hM.app ho hgr (by decide)) (CA8_mono W0.heap.size C P T tv hDi (fun h => absurd rfl h))
      exact (hx.map (fun h => h.grown hgr (own_ty ho))).app (TsAt.one (hr.grown hgr (own_ty ho)))
    | 9, ho =>
      obtain rfl := Option.some.inj ho
      intro D a w hM hsl hdep hDi hcl K hK
      have e2 := (hdep ⟨2, .data⟩ (by simp) rfl).1
      have hp8 : a.tmps.getD 8 undef = .pointer (some ⟨g8, 0, none⟩) := hsl 8 (by intro j hj; unfold CA8d; split <;> omega)
      refine ⟨rfl, ?_⟩
      have hl := stS (F := (nd C P)) (c := if D 9 then ab 32 (nd C P) else Z) 34 (by split <;> first | exact ab_size _ _ | exact hZs) w g8 hM.r8
      refine wp_skp (w' := w.setRow g8 (ab 32 (nd C P))) (by simp only [execOp, Act.eval]; rw [show a.tmps.getD 8 undef = _ from hp8, show a.tmps.getD 46 undef = _ from e2]; simp only [Sem.run_bind, hl, Result.andThen_ok, Sem.run_pure]) ?_
      exact hK undef _ trivial (hM.sto h8 h18 h28 (by decide)) (CA8_mono W0.heap.size C P T tv hDi (fun _ => Gx.row hM.r8))
    | 10, ho =>
      obtain rfl := Option.some.inj ho
      intro D a w hM hsl hdep hDi hcl K hK
      have e8 := (hdep ⟨8, .data⟩ (by simp) rfl).1
      refine ⟨rfl, ?_⟩
      refine wp_val (w' := w) (v := a.tmps.getD 52 undef) (by simp only [execOp, Act.eval]; rfl) ?_
      exact hK _ _ ⟨by rw [add1_ne (by decide)]; exact e8.1, e8.2⟩ (hM.step (Below.refl _ _) (by decide) (by decide)) (CA8_mono W0.heap.size C P T tv hDi (fun _ => (Gx.of (Below.refl _ _))))
    | _ + 11, ho => exact absurd ho (by simp)
  · intro D a u hall hd hs hM hsl hr
    obtain ⟨-, hv⟩ := hr 10 (by decide)
    have h9 := hall 9 (by decide)
    have hr8 := hM.r8
    rw [if_pos h9] at hr8
    have hp8 : a.tmps.getD 8 undef = .pointer (some ⟨g8, 0, none⟩) := hsl 8 (by intro j hj; unfold CA8d; split <;> omega)
    refine (‹∀ (a : Act) (w : World), Code.wp Tryd.prog Code.ret _ a w → _›) a u ?_
    refine wp_ret ?_
    refine then_ret ?_
    exact s_raw2 hd hp8 rfl Tryd.results33 (sum_sz _) hr8 ⟨_, rfl, hv, hM.bel⟩
set_option maxHeartbeats 8000000 in
set_option maxRecDepth 100000 in
theorem refCome_hi {b off n m cap i : Nat} {F C P : Nat → Nat} {T : List (Nat → Nat)} {W0 : World} (hn : 2 ≤ n) (hm : n ≤ 1048576) (hm1 : 1 ≤ m) (hm2 : m ≤ 1000) (hcap : m ≤ cap) (hk : 1 ≤ cut n ∧ cut n < n ∧ n ≤ 2 * cut n) (hci : cut n ≤ i) (hin : i < n) (hTl : T.length ≤ 1000) (hC : ∀ i, C i < 256) (hP : ∀ i, P i < 256)
    (hld : ∀ w, Below W0.heap.size W0 w → (Instr.loadAt 34 (.pointer (some ⟨b, off + 32 * (m - 1), none⟩))).run Tryd.prog w = .ok (.agg (ab 32 P)) w)
    (hrec : ∀ w, Below W0.heap.size W0 w → Calls Tryd.prog 33 #[.agg (ab 32 F), .int .i64 ((i - cut n : Nat) : Int), .int .i64 ((n - cut n : Nat) : Int), .slice (some ⟨b, off, none⟩) (m - 1) cap] w fun e w' => ∃ tv, e = .returned (.tuple #[.agg (ab 32 C), tv]) ∧ TsV W0.heap.size T tv w' ∧ Below w.heap.size w w') :
    Calls Tryd.prog 33 #[.agg (ab 32 F), .int .i64 ((i : Nat) : Int), .int .i64 ((n : Nat) : Int), .slice (some ⟨b, off, none⟩) m cap] W0 fun e w' => ∃ tv, e = .returned (.tuple #[.agg (ab 32 (nd P C)), tv]) ∧ TsV W0.heap.size (T ++ [txt P C]) tv w' ∧ Below W0.heap.size W0 w' := by
  obtain ⟨hk1, hk2, hk3⟩ := hk
  have h1 : ((n : Int) == 1) = false := by rw [beq_eq_false_iff_ne]; omega
  have hlt : ¬ (i : Int) < (cut n : Int) := by omega
  have hcu := fun w => cut_rr n hm w
  obtain ⟨A, hA⟩ : ∃ A, Hid (A = ab 32 F) := ⟨_, hide1 rfl⟩
  obtain ⟨Z, hZ⟩ : ∃ Z, Hid (Z = ab 32 fun _ => 0) := ⟨_, hide1 rfl⟩
  have bxA : ∀ w : World, (Instr.box 34 (.agg A)).run Tryd.prog w = .ok (.pointer (some ⟨w.heap.size, 0, none⟩)) (w.alloc (.cells A 34)) := fun w => bx_agg w
  have hzs : ∀ w : World, (zeroValue 34).run Tryd.prog w = .ok (.agg Z) w := fun w => by rw [hZ.out]; kernel_rfl
  have szA : (Tryd.prog.info? 34).map (·.size) = some A.size := by rw [hA.out]; exact sum_sz _
  have hZs : Z.size = 32 := by rw [hZ.out]; exact ab_size _ _
  rw [← hA.out] at hrec
  rw [show ((i - cut n : Nat) : Int) = (i : Int) - (cut n : Int) by omega, show ((n - cut n : Nat) : Int) = (n : Int) - (cut n : Int) by omega] at hrec
  rw [← hA.out]
  obtain ⟨w1, hw1⟩ : ∃ w1, Hid (w1 = (W0.alloc (.cells A 34)).alloc (.cells Z 34)) := ⟨_, hide1 rfl⟩
  have hb1 : Below W0.heap.size W0 w1 := by rw [hw1.out]; exact ((Below.refl _ _).alloc (Nat.le_refl _) _).alloc (by simp) _
  have hrA : w1.heap[W0.heap.size]? = some (.cells A 34 (0, 0)) := by rw [hw1.out]; exact (Below.heap_alloc _ _ _ (by simp)).trans (World.alloc_heap_new W0 _)
  have hr8 : w1.heap[W0.heap.size + 1]? = some (.cells Z 34 (0, 0)) := by
    rw [hw1.out]; have := World.alloc_heap_new (W0.alloc (.cells A 34)) (.cells Z 34); rwa [World.size_alloc] at this
  have hz1 : Hid (w1.heap.size = W0.heap.size + 2) := hide1 (by rw [hw1.out]; simp)
  go_enter Tryd.func33, Tryd.ntmps33
  go_upto_region 1 with fail
  rw [← hw1.out]
  go_wp2_with fail
  refine (hcu w1).mono ?_
  rintro e w ⟨rfl, rfl⟩
  have hml : ((m : Int) - 1).toNat = m - 1 := by omega
  have hm0 : ¬ (m : Int) - 1 < 0 := by omega
  have hm3 : (m : Int) - 1 < (m : Int) := by omega
  have hm4 : (m : Int) - 1 ≤ (cap : Int) := by omega
  have hldw := hld w hb1
  have hr11 := World.alloc_heap_new w (.cells Z 34)
  obtain ⟨w2, hw2⟩ : ∃ w2, Hid (w2 = (w.alloc (.cells Z 34)).setRow w.heap.size (ab 32 P)) := ⟨_, hide1 rfl⟩
  have hwr2 := wrt_row (c' := ab 32 P) hr11
  have hb2 : Below w.heap.size w w2 := by rw [hw2.out]; exact below_wrt ((Below.refl _ _).alloc (Nat.le_refl _) _) hwr2 (Nat.le_refl _) (by simp)
  have hP2 : w2.heap[w.heap.size]? = some (.cells (ab 32 P) 34 (0, 0)) := by rw [hw2.out]; exact hwr2.row
  have hA2 := (hb2.block _ (Array.getElem?_eq_some_iff.1 hrA).1).trans hrA
  have h82 := (hb2.block _ (Array.getElem?_eq_some_iff.1 hr8).1).trans hr8
  clear hwr2
  go_wp2_with (first
    | (refine wpList_ld rfl 34 (.tmp 26) rfl (.pointer (some ⟨b, off + 32 * (m - 1), none⟩)) (by rw [Nat.mul_comm]; rfl) hldw ?_)
    | (refine wpList_store_row rfl 34 (.tmp 11) (.tmp 27) rfl w.heap.size (ab 32 P) Z 34 rfl rfl (sum_sz P) hr11 (by rw [hZs, ab_size]) (ab_one _ _) rfl ?_; rw [← hw2.out])
    | (refine wpList_load_row rfl 34 (.tmp 4) rfl W0.heap.size A 34 rfl Tryd.underlying34 szA hA2 ?_))
  refine (hrec w2 (blw hb1 hb2)).mono ?_
  rintro e w3 ⟨tv, rfl, hts, hb3⟩
  have hb03 := blw (blw hb1 hb2) hb3
  have hP3 := (hb3.block _ (Array.getElem?_eq_some_iff.1 hP2).1).trans hP2
  have h83 := (hb3.block _ (Array.getElem?_eq_some_iff.1 h82).1).trans h82
  have hr13 := World.alloc_heap_new w3 (.cells Z 34)
  obtain ⟨w4, hw4⟩ : ∃ w4, Hid (w4 = (w3.alloc (.cells Z 34)).setRow w3.heap.size (ab 32 C)) := ⟨_, hide1 rfl⟩
  have hwr4 := wrt_row (c' := ab 32 C) hr13
  have hb4 : Below w3.heap.size w3 w4 := by rw [hw4.out]; exact below_wrt ((Below.refl _ _).alloc (Nat.le_refl _) _) hwr4 (Nat.le_refl _) (by simp)
  have hC4 : w4.heap[w3.heap.size]? = some (.cells (ab 32 C) 34 (0, 0)) := by rw [hw4.out]; exact hwr4.row
  have hP4 := (hb4.block _ (Array.getElem?_eq_some_iff.1 hP3).1).trans hP3
  have h84 := (hb4.block _ (Array.getElem?_eq_some_iff.1 h83).1).trans h83
  have hts4 := hts.later (Gx.of hb4)
  have hb04 := blw hb03 hb4
  have hd1 : Hid (W0.heap.size + 1 < w.heap.size ∧ w.heap.size < w3.heap.size) := hide1 ⟨by have := hz1.out; omega, (Array.getElem?_eq_some_iff.1 hP3).1⟩
  clear hwr4 hrec hld hldw hA2 hP2 h82 hP3 h83 hb3 hts hr11 hrA hr8
  go_upto_region 10 with (first
    | (refine wpList_store_row rfl 34 (.tmp 15) (.tmp 63) rfl w3.heap.size (ab 32 C) Z 34 rfl rfl (sum_sz C) hr13 (by rw [hZs, ab_size]) (ab_one _ _) rfl ?_; rw [← hw4.out])
    | fail)
  have hN : ∀ w, Calls Tryd.prog 31 #[.agg (ab 32 P), .agg (ab 32 C)] w fun e w' => e = .returned (.agg (ab 32 (nd P C))) ∧ Below w.heap.size w w' := fun w => node_r hP hC
  have hT : ∀ w, Calls Tryd.prog 51 #[.agg (ab 32 P), .agg (ab 32 C)] w fun e w' => ∃ r, e = .returned r ∧ TxV w' w.heap.size r (txt P C) ∧ Below w.heap.size w w' := fun w => text_h hP hC
  have h8 : W0.heap.size ≤ W0.heap.size + 1 := by omega
  have hd2 := hd1.out
  generalize hg1 : w3.heap.size = g13 at *
  generalize hg2 : w.heap.size = g11 at *
  generalize hg8 : W0.heap.size + 1 = g8 at *
  have h18 : g11 ≠ g8 := by omega
  have h28 : g13 ≠ g8 := by omega
  refine wp_rel3 _ _ (CA10 W0.heap.size P C T tv) (MC W0 g11 g13 g8 P C (nd P C) Z T tv 8 9) CA10d (by kernel_rfl) (by kernel_rfl) 11 (by kernel_rfl) ?_ ?_ rfl (⟨hb04.drew, hP4, hC4, h84, fun _ => hts4.later (Gx.of (Below.refl _ _).drew)⟩) ?_ ?_
  · intro ix o ho
    match ix, ho with
    | 0, ho => obtain rfl := Option.some.inj ho; exact .inl ⟨rfl, by show 65 < 74; decide⟩
    | 1, ho => obtain rfl := Option.some.inj ho; exact .inl ⟨rfl, by show 66 < 74; decide⟩
    | 2, ho => obtain rfl := Option.some.inj ho; exact .inl ⟨rfl, by show 67 < 74; decide⟩
    | 3, ho => obtain rfl := Option.some.inj ho; exact .inl ⟨rfl, by show 68 < 74; decide⟩
    | 4, ho => obtain rfl := Option.some.inj ho; exact .inl ⟨rfl, by show 69 < 74; decide⟩
    | 5, ho => obtain rfl := Option.some.inj ho; exact .inl ⟨rfl, by show 70 < 74; decide⟩
    | 6, ho => obtain rfl := Option.some.inj ho; exact .inl ⟨rfl, by show 71 < 74; decide⟩
    | 7, ho => obtain rfl := Option.some.inj ho; exact .inl ⟨rfl, by show 72 < 74; decide⟩
    | 8, ho => obtain rfl := Option.some.inj ho; exact .inl ⟨rfl, by show 73 < 74; decide⟩
    | 9, ho => obtain rfl := Option.some.inj ho; exact .inr ⟨⟨rfl, fun _ _ _ _ => trivial⟩, by show 74 ≤ 1009; decide⟩
    | 10, ho => obtain rfl := Option.some.inj ho; exact .inl ⟨rfl, by show 9 < 74; decide⟩
    | _ + 11, ho => exact absurd ho (by simp)
  · intro ix jx hi hj e; unfold CA10d at e; split at e <;> split at e <;> omega
  · intro ix o ho
    match ix, ho with
    | 0, ho =>
      obtain rfl := Option.some.inj ho
      intro D a w hM hsl hdep hDi hcl K hK
      have hp11 : a.tmps.getD 11 undef = .pointer (some ⟨g11, 0, none⟩) := hsl 11 (by intro j hj; unfold CA10d; split <;> omega)
      refine ⟨rfl, ?_⟩
      have hl := ldS (F := P) 34 w _ hM.r1
      refine wp_val (w' := w) (v := .agg (ab 32 P)) (by simp only [execOp, Act.eval]; rw [show a.tmps.getD 11 undef = _ from hp11]; simp only [Sem.run_bind, hl, Result.andThen_ok, Sem.run_pure]) ?_
      exact hK _ _ rfl (hM.step (Below.refl _ _) (by decide) (by decide)) (CA10_mono W0.heap.size P C T tv hDi (fun _ => (Gx.of (Below.refl _ _))))
    | 1, ho =>
      obtain rfl := Option.some.inj ho
      intro D a w hM hsl hdep hDi hcl K hK
      have hp15 : a.tmps.getD 15 undef = .pointer (some ⟨g13, 0, none⟩) := hsl 15 (by intro j hj; unfold CA10d; split <;> omega)
      refine ⟨rfl, ?_⟩
      have hl := ldS (F := C) 34 w _ hM.r2
      refine wp_val (w' := w) (v := .agg (ab 32 C)) (by simp only [execOp, Act.eval]; rw [show a.tmps.getD 15 undef = _ from hp15]; simp only [Sem.run_bind, hl, Result.andThen_ok, Sem.run_pure]) ?_
      exact hK _ _ rfl (hM.step (Below.refl _ _) (by decide) (by decide)) (CA10_mono W0.heap.size P C T tv hDi (fun _ => (Gx.of (Below.refl _ _))))
    | 2, ho =>
      obtain rfl := Option.some.inj ho
      intro D a w hM hsl hdep hDi hcl K hK
      have e0 := (hdep ⟨0, .data⟩ (by simp) rfl).1
      have e1 := (hdep ⟨1, .data⟩ (by simp) rfl).1
      refine ⟨rfl, ?_⟩
      refine oper_callg 31 #[.tmp 65, .tmp 66] _ rfl #[.agg (ab 32 P), .agg (ab 32 C)] (by simp only [List.map_toArray, List.map_cons, List.map_nil, Act.eval]; rw [show a.tmps.getD 65 undef = _ from e0, show a.tmps.getD 66 undef = _ from e1]) (fun w => by kernel_rfl) (hN w) fun w' hb => ?_
      exact hK _ _ rfl (hM.step hb (by decide) (by decide)) (CA10_mono W0.heap.size P C T tv hDi (fun _ => (Gx.of hb)))
    | 3, ho =>
      obtain rfl := Option.some.inj ho
      intro D a w hM hsl hdep hDi hcl K hK
      have hp16 : a.tmps.getD 16 undef = tv := hsl 16 (by intro j hj; unfold CA10d; split <;> omega)
      refine ⟨rfl, ?_⟩
      refine wp_val (w' := w) (v := tv) (by simp only [execOp, Act.eval]; rw [show a.tmps.getD 16 undef = _ from hp16]; rfl) ?_
      exact hK _ _ rfl (hM.step (Below.refl _ _) (by decide) (by decide)) (CA10_mono W0.heap.size P C T tv hDi (fun _ => (Gx.of (Below.refl _ _))))
    | 4, ho =>
      obtain rfl := Option.some.inj ho
      intro D a w hM hsl hdep hDi hcl K hK
      have hp11 : a.tmps.getD 11 undef = .pointer (some ⟨g11, 0, none⟩) := hsl 11 (by intro j hj; unfold CA10d; split <;> omega)
      refine ⟨rfl, ?_⟩
      have hl := ldS (F := P) 34 w _ hM.r1
      refine wp_val (w' := w) (v := .agg (ab 32 P)) (by simp only [execOp, Act.eval]; rw [show a.tmps.getD 11 undef = _ from hp11]; simp only [Sem.run_bind, hl, Result.andThen_ok, Sem.run_pure]) ?_
      exact hK _ _ rfl (hM.step (Below.refl _ _) (by decide) (by decide)) (CA10_mono W0.heap.size P C T tv hDi (fun _ => (Gx.of (Below.refl _ _))))
    | 5, ho =>
      obtain rfl := Option.some.inj ho
      intro D a w hM hsl hdep hDi hcl K hK
      have hp15 : a.tmps.getD 15 undef = .pointer (some ⟨g13, 0, none⟩) := hsl 15 (by intro j hj; unfold CA10d; split <;> omega)
      refine ⟨rfl, ?_⟩
      have hl := ldS (F := C) 34 w _ hM.r2
      refine wp_val (w' := w) (v := .agg (ab 32 C)) (by simp only [execOp, Act.eval]; rw [show a.tmps.getD 15 undef = _ from hp15]; simp only [Sem.run_bind, hl, Result.andThen_ok, Sem.run_pure]) ?_
      exact hK _ _ rfl (hM.step (Below.refl _ _) (by decide) (by decide)) (CA10_mono W0.heap.size P C T tv hDi (fun _ => (Gx.of (Below.refl _ _))))
    | 6, ho =>
      obtain rfl := Option.some.inj ho
      intro D a w hM hsl hdep hDi hcl K hK
      have e4 := (hdep ⟨4, .data⟩ (by simp) rfl).1
      have e5 := (hdep ⟨5, .data⟩ (by simp) rfl).1
      refine ⟨rfl, ?_⟩
      refine oper_any 51 #[.tmp 69, .tmp 70] _ rfl #[.agg (ab 32 P), .agg (ab 32 C)] (by simp only [List.map_toArray, List.map_cons, List.map_nil, Act.eval]; rw [show a.tmps.getD 69 undef = _ from e4, show a.tmps.getD 70 undef = _ from e5]) (fun w => by kernel_rfl) (hT w) fun r w' hj => ?_
      obtain ⟨hr, hb⟩ := hj
      exact hK _ _ (fun _ => hr.mono hM.bel.size) (hM.step hb (by decide) (by decide)) (CA10_mono W0.heap.size P C T tv hDi (fun _ => (Gx.of hb)))
    | 7, ho =>
      obtain rfl := Option.some.inj ho
      intro D a w hM hsl hdep hDi hcl K hK
      have e6 := (hdep ⟨6, .data⟩ (by simp) rfl).1
      refine ⟨rfl, ?_⟩
      have hno : D 8 = false := by cases h8 : D 8 with | false => rfl | true => have := hcl 8 _ rfl h8 ⟨7, .data⟩ (by simp) rfl; rw [this] at hDi; cases hDi
      have h6 := e6 hno
      have h1 : (a.tmps.getD 71 undef).oneCell' = true := by obtain ⟨_, _, _, e, _⟩ := h6; rw [show a.tmps.getD 71 undef = _ from e]; rfl
      have hl := bs_txt (a.tmps.getD 71 undef) h1 w
      refine wp_val (w' := w.alloc (.cells #[a.tmps.getD 71 undef] 79)) (v := .slice (some ⟨w.heap.size, 0, none⟩) 1 1) (by simp only [execOp, Act.eval, List.map_toArray, List.map_cons, List.map_nil, Sem.run_bind, hl, Result.andThen_ok, Sem.run_pure]) ?_
      have hb : Below w.heap.size w (w.alloc (.cells #[a.tmps.getD 71 undef] 79)) := (Below.refl _ _).alloc (Nat.le_refl _) _
      exact hK _ _ (fun _ => ⟨_, _, rfl, World.alloc_heap_new w _, TxW.later h6 (Gx.of hb)⟩) (hM.step hb (by decide) (by decide)) (CA10_mono W0.heap.size P C T tv hDi (fun _ => Gx.of hb))
    | 8, ho =>
      obtain rfl := Option.some.inj ho
      intro D a w hM hsl hdep hDi hcl K hK
      have e3 := (hdep ⟨3, .data⟩ (by simp) rfl).1
      have e7 := (hdep ⟨7, .data⟩ (by simp) rfl).1
      refine ⟨rfl, ?_⟩
      obtain ⟨h0, xs, ho, hx⟩ := hM.ts hDi
      obtain ⟨g, r, eg, hg, hr⟩ := e7 hDi
      have hu : w.ownsRow 0 79 1 (.slice (some ⟨g, 0, none⟩) 1 1) 1 [r] := ⟨rfl, .inr ⟨g, 1, #[r], rfl, Nat.zero_le _, hg, Nat.le_refl _, by decide, rfl, rfl⟩⟩
      obtain ⟨v', w', hrun, ho', hgr⟩ := run_append_sl w W0.heap.size 62 tv T.length xs ho (.slice (some ⟨g, 0, none⟩) 1 1) 1 [r] hu (fun y hy => by rw [List.mem_singleton.1 hy]; obtain ⟨_, _, _, e, _⟩ := hr; rw [e]; rfl) (by omega) h0
      refine wp_val (w' := w') (v := v') (by simp only [execOp, Act.eval, resolve, invoke, builtin, List.map_toArray, List.map_cons, List.map_nil, Sem.run_pure, Result.andThen_ok, Sem.run_bind]; rw [show a.tmps.getD 68 undef = _ from e3, show a.tmps.getD 72 undef = _ from eg]; simp only [hrun, Result.andThen_ok]) ?_
      refine hK _ _ ⟨add1_eq, Nat.le_trans h0 hgr.size, xs ++ [r], by rw [List.length_append]; exact ho', ?_⟩ (hM.app ho hgr (by decide)) (CA10_mono W0.heap.size P C T tv hDi (fun h => absurd rfl h))
      exact (hx.map (fun h => h.grown hgr (own_ty ho))).app (TsAt.one (hr.grown hgr (own_ty ho)))
    | 9, ho =>
      obtain rfl := Option.some.inj ho
      intro D a w hM hsl hdep hDi hcl K hK
      have e2 := (hdep ⟨2, .data⟩ (by simp) rfl).1
      have hp8 : a.tmps.getD 8 undef = .pointer (some ⟨g8, 0, none⟩) := hsl 8 (by intro j hj; unfold CA10d; split <;> omega)
      refine ⟨rfl, ?_⟩
      have hl := stS (F := (nd P C)) (c := if D 9 then ab 32 (nd P C) else Z) 34 (by split <;> first | exact ab_size _ _ | exact hZs) w g8 hM.r8
      refine wp_skp (w' := w.setRow g8 (ab 32 (nd P C))) (by simp only [execOp, Act.eval]; rw [show a.tmps.getD 8 undef = _ from hp8, show a.tmps.getD 67 undef = _ from e2]; simp only [Sem.run_bind, hl, Result.andThen_ok, Sem.run_pure]) ?_
      exact hK undef _ trivial (hM.sto h8 h18 h28 (by decide)) (CA10_mono W0.heap.size P C T tv hDi (fun _ => Gx.row hM.r8))
    | 10, ho =>
      obtain rfl := Option.some.inj ho
      intro D a w hM hsl hdep hDi hcl K hK
      have e8 := (hdep ⟨8, .data⟩ (by simp) rfl).1
      refine ⟨rfl, ?_⟩
      refine wp_val (w' := w) (v := a.tmps.getD 73 undef) (by simp only [execOp, Act.eval]; rfl) ?_
      exact hK _ _ ⟨by rw [add1_ne (by decide)]; exact e8.1, e8.2⟩ (hM.step (Below.refl _ _) (by decide) (by decide)) (CA10_mono W0.heap.size P C T tv hDi (fun _ => (Gx.of (Below.refl _ _))))
    | _ + 11, ho => exact absurd ho (by simp)
  · intro D a u hall hd hs hM hsl hr
    obtain ⟨-, hv⟩ := hr 10 (by decide)
    have h9 := hall 9 (by decide)
    have hr8 := hM.r8
    rw [if_pos h9] at hr8
    have hp8 : a.tmps.getD 8 undef = .pointer (some ⟨g8, 0, none⟩) := hsl 8 (by intro j hj; unfold CA10d; split <;> omega)
    refine (‹∀ (a : Act) (w : World), Code.wp Tryd.prog Code.ret _ a w → _›) a u ?_
    refine wp_ret ?_

    exact s_raw2 hd hp8 rfl Tryd.results33 (sum_sz _) hr8 ⟨_, rfl, hv, hM.bel⟩
theorem TsV.weak {B B' : Nat} {T : List (Nat → Nat)} {v : Value} {w : World} (h : TsV B T v w) (hB : B' ≤ B) : TsV B' T v w := by
  obtain ⟨h0, xs, h1, h2⟩ := h
  exact ⟨Nat.le_trans hB h0, xs, own_mono h1 hB, h2.map (fun h => h.mono hB)⟩
theorem snoc_of {ps : List (Nat → Nat)} {m : Nat} (h : ps.length = m) (hm : 1 ≤ m) : ps = ps.take (m - 1) ++ [ps.getD (m - 1) fun _ => 0] := by
  have := List.take_succ_eq_append_getElem (l := ps) (i := m - 1) (by omega)
  rw [show m - 1 + 1 = m by omega, List.take_of_length_le (by omega)] at this
  conv => lhs; rw [this]
  congr 2
  simp [List.getD_eq_getElem?_getD, show m - 1 < ps.length by omega]
set_option maxHeartbeats 8000000 in
set_option maxRecDepth 100000 in
theorem refCome_1 {m cap i : Nat} {a : Option Addr} {F : Nat → Nat} {W0 : World} : Calls Tryd.prog 33 #[.agg (ab 32 F), .int .i64 ((i : Nat) : Int), .int .i64 ((1 : Nat) : Int), .slice a m cap] W0 fun e w' => ∃ tv, e = .returned (.tuple #[.agg (ab 32 F), tv]) ∧ TsV W0.heap.size [] tv w' ∧ Below W0.heap.size W0 w' := by
  obtain ⟨A, hA⟩ : ∃ A, Hid (A = ab 32 F) := ⟨_, hide1 rfl⟩
  obtain ⟨Z, hZ⟩ : ∃ Z, Hid (Z = ab 32 fun _ => 0) := ⟨_, hide1 rfl⟩
  have bxA : ∀ w : World, (Instr.box 34 (.agg A)).run Tryd.prog w = .ok (.pointer (some ⟨w.heap.size, 0, none⟩)) (w.alloc (.cells A 34)) := fun w => bx_agg w
  have hzs : ∀ w : World, (zeroValue 34).run Tryd.prog w = .ok (.agg Z) w := fun w => by rw [hZ.out]; kernel_rfl
  have szA : (Tryd.prog.info? 34).map (·.size) = some A.size := by rw [hA.out]; exact sum_sz _
  have hZs : Z.size = A.size := by rw [hZ.out, hA.out, ab_size, ab_size]
  have o1 : A.all (·.oneCell') = true := by rw [hA.out]; exact ab_one _ _
  rw [← hA.out]
  obtain ⟨w1, hw1⟩ : ∃ w1, Hid (w1 = (W0.alloc (.cells A 34)).alloc (.cells Z 34)) := ⟨_, hide1 rfl⟩
  have hb1 : Below W0.heap.size W0 w1 := by rw [hw1.out]; exact ((Below.refl _ _).alloc (Nat.le_refl _) _).alloc (by simp) _
  have hrA : w1.heap[W0.heap.size]? = some (.cells A 34 (0, 0)) := by rw [hw1.out]; exact (Below.heap_alloc _ _ _ (by simp)).trans (World.alloc_heap_new W0 _)
  have hr8 : w1.heap[W0.heap.size + 1]? = some (.cells Z 34 (0, 0)) := by
    rw [hw1.out]; have := World.alloc_heap_new (W0.alloc (.cells A 34)) (.cells Z 34); rwa [World.size_alloc] at this
  have hwr := wrt_row (c' := A) hr8
  have hb2 : Below W0.heap.size W0 (w1.setRow (W0.heap.size + 1) A) := below_wrt hb1 hwr (by omega) hb1.size
  have hr2 := hwr.row
  go_enter Tryd.func33, Tryd.ntmps33
  go_upto_region 1 with fail
  rw [← hw1.out]
  go_wp2_with (first
    | (refine wpList_load_row rfl 34 (.tmp 4) rfl W0.heap.size A 34 rfl Tryd.underlying34 szA hrA ?_)
    | (refine wpList_store_row rfl 34 (.tmp 8) (.tmp 19) rfl (W0.heap.size + 1) A Z 34 rfl rfl szA hr8 hZs o1 rfl ?_))
  exact s_raw2 rfl rfl rfl Tryd.results33 szA hr2 ⟨_, rfl, ⟨hb2.size, [], World.ownsRow_nil _ _ _ _, TsAt.none _ _⟩, hb2⟩
theorem refCome_d : ∀ (n i : Nat) (ps : List (Nat → Nat)) (m : Nat) (a : Option Addr) (cap : Nat) (F : Nat → Nat) (W0 : World), i < n → n ≤ 1048576 → ps.length = m → m = (way i n).length → m ≤ 1000 → m ≤ cap → (∀ j, F j < 256) → SsAt W0 a ps → Calls Tryd.prog 33 #[.agg (ab 32 F), .int .i64 ((i : Nat) : Int), .int .i64 ((n : Nat) : Int), .slice a m cap] W0 fun e w' => ∃ tv, e = .returned (.tuple #[.agg (ab 32 (comeL (way i n).reverse ps F)), tv]) ∧ TsV W0.heap.size (ctxL (way i n).reverse ps F) tv w' ∧ Below W0.heap.size W0 w' := by
  intro n
  induction n using Nat.strongRecOn with
  | ind n ih =>
    intro i ps m a cap F W0 hi hn hm hl hm2 hcap hF hs
    rcases Nat.lt_or_ge n 2 with h2 | h2
    · obtain rfl : n = 1 := by omega
      rw [way_1] at hl
      obtain rfl : ps = [] := List.eq_nil_of_length_eq_zero (by rw [hm, hl]; rfl)
      rw [way_1]
      exact refCome_1
    · have hk := cut_in h2
      have hm1 : 1 ≤ m := by
        rcases Nat.lt_or_ge i (cut n) with h | h
        · rw [way_len_lo h2 h] at hl; omega
        · rw [way_len_hi h2 h] at hl; omega
      obtain ⟨b, off, rfl, _⟩ := hs.2 (by omega)
      have hld : ∀ w, Below W0.heap.size W0 w → (Instr.loadAt 34 (.pointer (some ⟨b, off + 32 * (m - 1), none⟩))).run Tryd.prog w = .ok (.agg (ab 32 (ps.getD (m - 1) fun _ => 0))) w := fun w hw => ld_st2 (n := m) (hs.later hw) (fun _ => rfl) (by omega)
      have hPl := getD_lt hs.1 (m - 1)
      have e1 := snoc_of hm hm1
      have lt1 : (ps.take (m - 1)).length = m - 1 := by rw [List.length_take]; omega
      rw [e1]
      rcases Nat.lt_or_ge i (cut n) with h | h
      · rw [way_len_lo h2 h] at hl
        rw [come_lo h2 h (by omega), ctx_lo h2 h (by omega)]
        exact refCome_lo h2 hn hm1 hm2 hcap hk h hi (by rw [ctxL_len _ _ _ (by rw [List.length_reverse]; omega)]; omega) (comeL_lt hF _ _) hPl hld (fun w hw => (ih (cut n) hk.2.1 i (ps.take (m - 1)) (m - 1) _ cap F w h (by omega) lt1 (by omega) (by omega) (by omega) hF (hs.lo.later hw)).mono fun e w' ⟨tv, q1, q2, q3⟩ => ⟨tv, q1, q2.weak hw.size, q3⟩)
      · rw [way_len_hi h2 h] at hl
        rw [come_hi h2 h (by omega), ctx_hi h2 h (by omega)]
        exact refCome_hi h2 hn hm1 hm2 hcap hk h hi (by rw [ctxL_len _ _ _ (by rw [List.length_reverse]; omega)]; omega) (comeL_lt hF _ _) hPl hld (fun w hw => (ih (n - cut n) (by omega) (i - cut n) (ps.take (m - 1)) (m - 1) _ cap F w (by omega) (by omega) lt1 (by omega) (by omega) (by omega) hF (hs.lo.later hw)).mono fun e w' ⟨tv, q1, q2, q3⟩ => ⟨tv, q1, q2.weak hw.size, q3⟩)
end Go.Proofs.YtbmhehppokcfnaaDoor

namespace Go.Proofs.YtbmhehppokcfnaaDoor
open Go.RowKit Sh

theorem wpList_bd {w : World} {ops : Array Oper} {rest : List Oper} {o : Oper} {a : Act} {Q : Exit → Act → World → Prop} {Z : Array Value} (hgd : Region.wanted o (yielded ops a.tmps) = true) (ho : o.op = .build 34 #[]) (hZ : Z = ab 32 fun _ => 0) (h : wpList Tryd.prog ops Q rest (a.put o.dst (.agg Z)) w) : wpList Tryd.prog ops Q (o :: rest) a w := by
  subst hZ
  refine wpList_step fun K hK => ?_
  rw [if_pos hgd]
  have hl := sum_zero w
  unfold Oper.wp execOp
  simp only [ho, List.map_toArray, List.map_nil, Sem.run_bind, hl, Result.andThen_ok, Sem.run_pure]
  exact hK _ _ h
theorem eqD_refl (F : Nat → Nat) : eqD F F = true := eqD_iff.2 fun _ _ => rfl
set_option maxHeartbeats 8000000 in
set_option maxRecDepth 100000 in
theorem comes_big {F R : Nat → Nat} {i n : Int} {a : Option Addr} {m cap : Nat} {W0 : World} (hg : Gl W0) (h : 100 < m) : Calls Tryd.prog 17 #[.agg (ab 32 F), .int .i64 i, .int .i64 n, .slice a m cap, .agg (ab 32 R)] W0 fun e w' => e = .returned (.bool true) ∧ Below W0.heap.size W0 w' := by
  have hq : (100 : Int) < (m : Int) := by omega
  obtain ⟨A, hA⟩ : ∃ A, Hid (A = ab 32 F) := ⟨_, hide1 rfl⟩
  obtain ⟨C, hC⟩ : ∃ C, Hid (C = ab 32 R) := ⟨_, hide1 rfl⟩
  have bxA : ∀ w : World, (Instr.box 34 (.agg A)).run Tryd.prog w = .ok (.pointer (some ⟨w.heap.size, 0, none⟩)) (w.alloc (.cells A 34)) := fun w => bx_agg w
  have bxC : ∀ w : World, (Instr.box 34 (.agg C)).run Tryd.prog w = .ok (.pointer (some ⟨w.heap.size, 0, none⟩)) (w.alloc (.cells C 34)) := fun w => bx_agg w
  rw [← hA.out, ← hC.out]
  obtain ⟨w1, hw1⟩ : ∃ w1, Hid (w1 = (W0.alloc (.cells A 34)).alloc (.cells C 34)) := ⟨_, hide1 rfl⟩
  have hb1 : Below W0.heap.size W0 w1 := by rw [hw1.out]; exact ((Below.refl _ _).alloc (Nat.le_refl _) _).alloc (by simp) _
  go_enter Tryd.func17, Tryd.ntmps17
  go_upto_region 1 with fail
  rw [← hw1.out]
  go_wp2_with fail
  refine (alive_t (gl_b hg hb1)).mono ?_
  rintro e w2 ⟨rfl, hb2⟩
  have hb02 := blw hb1 hb2
  go_wp2
  go_ret
  exact ⟨rfl, hb02⟩
theorem blk2 {w1 w2 w3 : World} {g : Nat} {o : Obj} (h1 : Below w1.heap.size w1 w2) (h2 : Below w2.heap.size w2 w3) (h : w1.heap[g]? = some o) : w3.heap[g]? = some o := ((blw h1 h2).block g (Array.getElem?_eq_some_iff.1 h).1).trans h
theorem ld_rw {w : World} {g : Nat} {X : Array Value} (sz : (Tryd.prog.info? 34).map (·.size) = some X.size) (h : w.heap[g]? = some (.cells X 34 (0, 0))) : (Instr.loadAt 34 (.pointer (some ⟨g, 0, none⟩))).run Tryd.prog w = .ok (.agg X) w := by
  have hr := run_loadVar_row (P := Tryd.prog) w g 34 34 X (0, 0) _ h Tryd.underlying34 rfl sz
  simp only [Instr.loadAt, Instr.sureAddr, Sem.run_bind, Sem.run_pure, Result.andThen_ok, hr]
set_option maxHeartbeats 8000000 in
set_option maxRecDepth 100000 in
theorem comes_bad {F R : Nat → Nat} {i n : Int} {a : Option Addr} {m cap : Nat} {W0 : World} (hg : Gl W0) (hm : m ≤ 100) (hbad : badR i n) : Calls Tryd.prog 17 #[.agg (ab 32 F), .int .i64 i, .int .i64 n, .slice a m cap, .agg (ab 32 R)] W0 fun e w' => e = .returned (.bool true) ∧ Below W0.heap.size W0 w' := by
  have hq : ¬ (100 : Int) < (m : Int) := by omega
  obtain ⟨A, hA⟩ : ∃ A, Hid (A = ab 32 F) := ⟨_, hide1 rfl⟩
  obtain ⟨C, hC⟩ : ∃ C, Hid (C = ab 32 R) := ⟨_, hide1 rfl⟩
  obtain ⟨Z, hZ⟩ : ∃ Z, Hid (Z = ab 32 fun _ => 0) := ⟨_, hide1 rfl⟩
  obtain ⟨X, hX⟩ : ∃ X, Hid (X = ab 32 (fun _ => 0)) := ⟨_, hide1 rfl⟩
  have bxA : ∀ w : World, (Instr.box 34 (.agg A)).run Tryd.prog w = .ok (.pointer (some ⟨w.heap.size, 0, none⟩)) (w.alloc (.cells A 34)) := fun w => bx_agg w
  have bxC : ∀ w : World, (Instr.box 34 (.agg C)).run Tryd.prog w = .ok (.pointer (some ⟨w.heap.size, 0, none⟩)) (w.alloc (.cells C 34)) := fun w => bx_agg w
  have hzs : ∀ w : World, (zeroValue 34).run Tryd.prog w = .ok (.agg Z) w := fun w => by rw [hZ.out]; kernel_rfl
  have szA : (Tryd.prog.info? 34).map (·.size) = some A.size := by rw [hA.out]; exact sum_sz _
  have szC : (Tryd.prog.info? 34).map (·.size) = some C.size := by rw [hC.out]; exact sum_sz _
  have szX : (Tryd.prog.info? 34).map (·.size) = some X.size := by rw [hX.out]; exact sum_sz _
  have hXs : Z.size = X.size := by rw [hZ.out, hX.out, ab_size]
  have oX : X.all (·.oneCell') = true := by rw [hX.out]; exact ab_one _ _
  have hcome := fun w (hw : Below W0.heap.size W0 w) => come_bad (W0 := w) (pa := a) (m := m) (pcap := cap) (F := F) hbad
  have hhold := fun w (hw : Below W0.heap.size W0 w) => holds_bad (W0 := w) (pa := a) (m := m) (pcap := cap) (F := F) (R := R) hbad
  rw [← hA.out, ← hX.out] at hcome
  rw [← hA.out, ← hC.out] at hhold
  rw [← hA.out, ← hC.out]
  obtain ⟨w1, hw1⟩ : ∃ w1, Hid (w1 = (W0.alloc (.cells A 34)).alloc (.cells C 34)) := ⟨_, hide1 rfl⟩
  have hb1 : Below W0.heap.size W0 w1 := by rw [hw1.out]; exact ((Below.refl _ _).alloc (Nat.le_refl _) _).alloc (by simp) _
  have hrA : w1.heap[W0.heap.size]? = some (.cells A 34 (0, 0)) := by rw [hw1.out]; exact (Below.heap_alloc _ _ _ (by simp)).trans (World.alloc_heap_new W0 _)
  have hrC : w1.heap[W0.heap.size + 1]? = some (.cells C 34 (0, 0)) := by
    rw [hw1.out]; have := World.alloc_heap_new (W0.alloc (.cells A 34)) (.cells C 34); rwa [World.size_alloc] at this
  go_enter Tryd.func17, Tryd.ntmps17
  go_upto_region 1 with fail
  rw [← hw1.out]
  clear bxA bxC
  go_wp2_with fail
  refine (alive_t (gl_b hg hb1)).mono ?_
  rintro e w2 ⟨rfl, hb2⟩
  have hb02 := blw hb1 hb2
  have hA2 := (hb2.block _ (Array.getElem?_eq_some_iff.1 hrA).1).trans hrA
  have hC2 := (hb2.block _ (Array.getElem?_eq_some_iff.1 hrC).1).trans hrC
  clear hrA hrC
  go_wp2_with (refine wpList_load_row rfl 34 (.tmp 5) rfl W0.heap.size A 34 rfl Tryd.underlying34 szA hA2 ?_)
  refine (hcome w2 hb02).mono ?_
  rintro e w3 ⟨rfl, hb3⟩
  have hb03 := blw hb02 hb3
  have hr11 := World.alloc_heap_new w3 (.cells Z 34)
  obtain ⟨w4, hw4⟩ : ∃ w4, Hid (w4 = (w3.alloc (.cells Z 34)).setRow w3.heap.size X) := ⟨_, hide1 rfl⟩
  have hwr4 := wrt_row (c' := X) hr11
  have hb4 : Below w3.heap.size w3 w4 := by rw [hw4.out]; exact below_wrt ((Below.refl _ _).alloc (Nat.le_refl _) _) hwr4 (Nat.le_refl _) (by simp)
  have hX4 : w4.heap[w3.heap.size]? = some (.cells X 34 (0, 0)) := by rw [hw4.out]; exact hwr4.row
  have hA4 := (blk2 hb3 hb4 hA2)
  have hC4 := (blk2 hb3 hb4 hC2)
  have hb04 := blw hb03 hb4
  clear hwr4 hA2 hC2 hb3 hb4 hb2 hb1
  go_wp2_with (first
    | (refine wpList_store_row rfl 34 (.tmp 11) (.tmp 27) rfl w3.heap.size X Z 34 rfl rfl szX hr11 hXs oX rfl ?_; rw [← hw4.out])
    | (refine wpList_load_row rfl 34 (.tmp 5) rfl W0.heap.size A 34 rfl Tryd.underlying34 szA hA4 ?_)
    | (refine wpList_load_row rfl 34 (.tmp 9) rfl (W0.heap.size + 1) C 34 rfl Tryd.underlying34 szC hC4 ?_))
  refine (hhold w4 hb04).mono ?_
  rintro e w5 ⟨rfl, hb5⟩
  have hX5 := (hb5.block _ (Array.getElem?_eq_some_iff.1 hX4).1).trans hX4
  have hC5 := (hb5.block _ (Array.getElem?_eq_some_iff.1 hC4).1).trans hC4
  have hb05 := blw hb04 hb5
  clear hX4 hC4 hA4 hr11 hzs hcome hhold
  have hl11 := ld_rw szX hX5
  have hXZ := hide1 (congrArg Value.agg hX.out)
  have hZZ := hide1 (congrArg Value.agg hZ.out)
  have hlb := length_bad i n hbad
  by_cases t1 : n < 1
  · go_wp2_with fail
    refine (is_e 2 rfl _).mono ?_
    rintro e w6 ⟨rfl, rfl⟩
    go_wp2_with (first
      | (refine wpList_ld rfl 34 (.tmp 11) rfl (.pointer (some ⟨w3.heap.size, 0, none⟩)) rfl hl11 ?_)
      | (refine wpList_bd rfl rfl hZ.out ?_)
      | (refine wpList_eqG rfl (.tmp 53) (.tmp 54) rfl hXZ.out hZZ.out (eqD_refl _) ?_))
    refine (hlb _).mono ?_
    rintro e w7 ⟨rfl, rfl⟩
    go_wp2
    go_ret
    exact ⟨rfl, hb05⟩
  · by_cases t2 : 1048576 < n
    · go_wp2_with fail
      refine (is_e 2 rfl _).mono ?_
      rintro e w6 ⟨rfl, rfl⟩
      go_wp2_with (first
        | (refine wpList_ld rfl 34 (.tmp 11) rfl (.pointer (some ⟨w3.heap.size, 0, none⟩)) rfl hl11 ?_)
        | (refine wpList_bd rfl rfl hZ.out ?_)
        | (refine wpList_eqG rfl (.tmp 53) (.tmp 54) rfl hXZ.out hZZ.out (eqD_refl _) ?_))
      refine (hlb _).mono ?_
      rintro e w7 ⟨rfl, rfl⟩
      go_wp2
      go_ret
      exact ⟨rfl, hb05⟩
    · by_cases t3 : i < 0
      · go_wp2_with fail
        refine (is_e 2 rfl _).mono ?_
        rintro e w6 ⟨rfl, rfl⟩
        go_wp2_with (first
          | (refine wpList_ld rfl 34 (.tmp 11) rfl (.pointer (some ⟨w3.heap.size, 0, none⟩)) rfl hl11 ?_)
          | (refine wpList_bd rfl rfl hZ.out ?_)
          | (refine wpList_eqG rfl (.tmp 53) (.tmp 54) rfl hXZ.out hZZ.out (eqD_refl _) ?_))
        refine (hlb _).mono ?_
        rintro e w7 ⟨rfl, rfl⟩
        go_wp2
        go_ret
        exact ⟨rfl, hb05⟩
      · have t4 : n ≤ i := by unfold badR at hbad; omega
        go_wp2_with fail
        refine (is_e 2 rfl _).mono ?_
        rintro e w6 ⟨rfl, rfl⟩
        go_wp2_with (first
          | (refine wpList_ld rfl 34 (.tmp 11) rfl (.pointer (some ⟨w3.heap.size, 0, none⟩)) rfl hl11 ?_)
          | (refine wpList_bd rfl rfl hZ.out ?_)
          | (refine wpList_eqG rfl (.tmp 53) (.tmp 54) rfl hXZ.out hZZ.out (eqD_refl _) ?_))
        refine (hlb _).mono ?_
        rintro e w7 ⟨rfl, rfl⟩
        go_wp2
        go_ret
        exact ⟨rfl, hb05⟩
end Go.Proofs.YtbmhehppokcfnaaDoor

namespace Go.Proofs.YtbmhehppokcfnaaDoor
open Go.RowKit Sh

set_option maxHeartbeats 8000000 in
set_option maxRecDepth 100000 in
theorem comes_len {F R : Nat → Nat} {i n : Nat} {a : Option Addr} {m cap : Nat} {W0 : World} (hg : Gl W0) (hm : m ≤ 100) (hi : i < n) (hn : n ≤ 1048576) (hl : m ≠ (way i n).length) : Calls Tryd.prog 17 #[.agg (ab 32 F), .int .i64 ((i : Nat) : Int), .int .i64 ((n : Nat) : Int), .slice a m cap, .agg (ab 32 R)] W0 fun e w' => e = .returned (.bool true) ∧ Below W0.heap.size W0 w' := by
  have hq : ¬ (100 : Int) < (m : Int) := by omega
  have t1 : ¬ (n : Int) < 1 := by omega
  have t2 : ¬ (1048576 : Int) < (n : Int) := by omega
  have t3 : ¬ (i : Int) < 0 := by omega
  have t4 : ¬ (n : Int) ≤ (i : Int) := by omega
  have hLn := fun w => length_d hn hi w
  have hRl := fun w => refLen_d n i w hi hn
  have hwl := way_le i n
  obtain ⟨A, hA⟩ : ∃ A, Hid (A = ab 32 F) := ⟨_, hide1 rfl⟩
  obtain ⟨C, hC⟩ : ∃ C, Hid (C = ab 32 R) := ⟨_, hide1 rfl⟩
  obtain ⟨Z, hZ⟩ : ∃ Z, Hid (Z = ab 32 fun _ => 0) := ⟨_, hide1 rfl⟩
  obtain ⟨X, hX⟩ : ∃ X, Hid (X = ab 32 (fun _ => 0)) := ⟨_, hide1 rfl⟩
  have bxA : ∀ w : World, (Instr.box 34 (.agg A)).run Tryd.prog w = .ok (.pointer (some ⟨w.heap.size, 0, none⟩)) (w.alloc (.cells A 34)) := fun w => bx_agg w
  have bxC : ∀ w : World, (Instr.box 34 (.agg C)).run Tryd.prog w = .ok (.pointer (some ⟨w.heap.size, 0, none⟩)) (w.alloc (.cells C 34)) := fun w => bx_agg w
  have hzs : ∀ w : World, (zeroValue 34).run Tryd.prog w = .ok (.agg Z) w := fun w => by rw [hZ.out]; kernel_rfl
  have szA : (Tryd.prog.info? 34).map (·.size) = some A.size := by rw [hA.out]; exact sum_sz _
  have szC : (Tryd.prog.info? 34).map (·.size) = some C.size := by rw [hC.out]; exact sum_sz _
  have szX : (Tryd.prog.info? 34).map (·.size) = some X.size := by rw [hX.out]; exact sum_sz _
  have hXs : Z.size = X.size := by rw [hZ.out, hX.out, ab_size]
  have oX : X.all (·.oneCell') = true := by rw [hX.out]; exact ab_one _ _
  have hcome := fun w (hw : Below W0.heap.size W0 w) => come_len (W0 := w) (pa := a) (m := m) (pcap := cap) (F := F) hi hn hl
  have hhold := fun w (hw : Below W0.heap.size W0 w) => holds_len (W0 := w) (pa := a) (m := m) (pcap := cap) (F := F) (R := R) hi hn hl
  rw [← hA.out, ← hX.out] at hcome
  rw [← hA.out, ← hC.out] at hhold
  rw [← hA.out, ← hC.out]
  obtain ⟨w1, hw1⟩ : ∃ w1, Hid (w1 = (W0.alloc (.cells A 34)).alloc (.cells C 34)) := ⟨_, hide1 rfl⟩
  have hb1 : Below W0.heap.size W0 w1 := by rw [hw1.out]; exact ((Below.refl _ _).alloc (Nat.le_refl _) _).alloc (by simp) _
  have hrA : w1.heap[W0.heap.size]? = some (.cells A 34 (0, 0)) := by rw [hw1.out]; exact (Below.heap_alloc _ _ _ (by simp)).trans (World.alloc_heap_new W0 _)
  have hrC : w1.heap[W0.heap.size + 1]? = some (.cells C 34 (0, 0)) := by
    rw [hw1.out]; have := World.alloc_heap_new (W0.alloc (.cells A 34)) (.cells C 34); rwa [World.size_alloc] at this
  go_enter Tryd.func17, Tryd.ntmps17
  go_upto_region 1 with fail
  rw [← hw1.out]
  clear bxA bxC
  go_wp2_with fail
  refine (alive_t (gl_b hg hb1)).mono ?_
  rintro e w2 ⟨rfl, hb2⟩
  have hb02 := blw hb1 hb2
  have hA2 := (hb2.block _ (Array.getElem?_eq_some_iff.1 hrA).1).trans hrA
  have hC2 := (hb2.block _ (Array.getElem?_eq_some_iff.1 hrC).1).trans hrC
  clear hrA hrC
  go_wp2_with (refine wpList_load_row rfl 34 (.tmp 5) rfl W0.heap.size A 34 rfl Tryd.underlying34 szA hA2 ?_)
  refine (hcome w2 hb02).mono ?_
  rintro e w3 ⟨rfl, hb3⟩
  have hb03 := blw hb02 hb3
  have hr11 := World.alloc_heap_new w3 (.cells Z 34)
  obtain ⟨w4, hw4⟩ : ∃ w4, Hid (w4 = (w3.alloc (.cells Z 34)).setRow w3.heap.size X) := ⟨_, hide1 rfl⟩
  have hwr4 := wrt_row (c' := X) hr11
  have hb4 : Below w3.heap.size w3 w4 := by rw [hw4.out]; exact below_wrt ((Below.refl _ _).alloc (Nat.le_refl _) _) hwr4 (Nat.le_refl _) (by simp)
  have hX4 : w4.heap[w3.heap.size]? = some (.cells X 34 (0, 0)) := by rw [hw4.out]; exact hwr4.row
  have hA4 := (blk2 hb3 hb4 hA2)
  have hC4 := (blk2 hb3 hb4 hC2)
  have hb04 := blw hb03 hb4
  clear hwr4 hA2 hC2 hb3 hb4 hb2 hb1
  go_wp2_with (first
    | (refine wpList_store_row rfl 34 (.tmp 11) (.tmp 27) rfl w3.heap.size X Z 34 rfl rfl szX hr11 hXs oX rfl ?_; rw [← hw4.out])
    | (refine wpList_load_row rfl 34 (.tmp 5) rfl W0.heap.size A 34 rfl Tryd.underlying34 szA hA4 ?_)
    | (refine wpList_load_row rfl 34 (.tmp 9) rfl (W0.heap.size + 1) C 34 rfl Tryd.underlying34 szC hC4 ?_))
  refine (hhold w4 hb04).mono ?_
  rintro e w5 ⟨rfl, hb5⟩
  have hX5 := (hb5.block _ (Array.getElem?_eq_some_iff.1 hX4).1).trans hX4
  have hC5 := (hb5.block _ (Array.getElem?_eq_some_iff.1 hC4).1).trans hC4
  have hb05 := blw hb04 hb5
  clear hX4 hC4 hA4 hr11 hzs hcome hhold
  obtain ⟨N, hN⟩ : ∃ N, Hid (N = (way i n).length) := ⟨_, hide1 rfl⟩
  rw [← hN.out] at hLn hRl hl
  have hne : ((m : Int) != (N : Int)) = true := by rw [bne_iff_ne]; omega
  have hnn : ((N : Int) != (N : Int)) = false := by simp
  have hl11 := fun w (hb : Below w5.heap.size w5 w) => ld_rw szX ((hb.block _ (Array.getElem?_eq_some_iff.1 hX5).1).trans hX5)
  have hXZ := hide1 (congrArg Value.agg hX.out)
  have hZZ := hide1 (congrArg Value.agg hZ.out)
  go_wp2_with fail
  refine (hLn w5).mono ?_
  rintro e w6 ⟨rfl, hb6⟩
  go_wp2_with fail
  refine (hRl w6).mono ?_
  rintro e w7 ⟨rfl, rfl⟩
  go_wp2_with fail
  refine (hRl w7).mono ?_
  rintro e w8 ⟨rfl, rfl⟩
  have hl := hl11 _ hb6
  go_wp2_with fail
  refine (is_e 13 rfl _).mono ?_
  rintro e w9 ⟨rfl, rfl⟩
  have hb06 := blw hb05 hb6
  go_wp2_with (first
    | (refine wpList_ld rfl 34 (.tmp 11) rfl (.pointer (some ⟨w3.heap.size, 0, none⟩)) rfl hl ?_)
    | (refine wpList_bd rfl rfl hZ.out ?_)
    | (refine wpList_eqG rfl (.tmp 83) (.tmp 84) rfl hXZ.out hZZ.out (eqD_refl _) ?_))
  go_ret
  exact ⟨rfl, hb06⟩
end Go.Proofs.YtbmhehppokcfnaaDoor

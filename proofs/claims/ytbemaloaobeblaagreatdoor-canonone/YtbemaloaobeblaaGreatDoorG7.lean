/- CA5, CA6, KR1, KR2, KR3, KR4, KP1, KP2, KP3, KP4, KP5, KP6, KP7, KP13, KP14, CA7, CA8, KP8, KP9, KP10, KP11, KP12, KP15, KP16, KQ1, CA9, CBA, CBQ, CN1, CN2, CN3, CN4, CN5, CN6, KR5, KR6, CN8, CN9, CN10, CN11, CP1, CR1, CR2: laid together. -/
import Derived.BigQuiet
import Derived.Lib.ValidLaws
import Derived.Lib.ConvBytes
import Derived.Deep.RegionHeld3
import Derived.Test.YtbemaloaobeblaaGreatDoorG3
import Derived.Test.YtbemaloaobeblaaGreatDoorG6
import Derived.Test.YtbemaloaobeblaaGreatDoorG2
import Derived.Test.YtbemaloaobeblaaGreatDoorG4
namespace Go.Proofs.YtbemaloaobeblaaGreatDoor
open Go.RowKit Go.Shelf

def AnK (q : Nat) (ov : Value) (z : List UInt8) (w : World) (e : Ending) (w' : World) : Prop := e = .returned (.tuple #[]) ∧ ∃ ov', Wt w' q ov' z ∧ Wk q ov ov' w w'
theorem sign_91 {w : World} {q : Nat} {ov : Value} {z : List UInt8} (h : Wt w q ov z) : Calls Tryz.prog 98 #[.pointer (some ⟨q, 0, none⟩), .int .i32 91] w (AnK q ov (z ++ [91]) w) := by
  have ha := add_d (s := [91]) h
  clear h
  go_enter Tryz.func98, Tryz.ntmps98
  go_wp2_with fail
  refine ha.mono ?_
  rintro e w1 ⟨rfl, ov', h1, h2⟩
  go_wp2
  go_end0
  exact ⟨rfl, ov', h1, h2⟩
theorem sign_93 {w : World} {q : Nat} {ov : Value} {z : List UInt8} (h : Wt w q ov z) : Calls Tryz.prog 98 #[.pointer (some ⟨q, 0, none⟩), .int .i32 93] w (AnK q ov (z ++ [93]) w) := by
  have ha := add_d (s := [93]) h
  clear h
  go_enter Tryz.func98, Tryz.ntmps98
  go_wp2_with fail
  refine ha.mono ?_
  rintro e w1 ⟨rfl, ov', h1, h2⟩
  go_wp2
  go_end0
  exact ⟨rfl, ov', h1, h2⟩
theorem sign_123 {w : World} {q : Nat} {ov : Value} {z : List UInt8} (h : Wt w q ov z) : Calls Tryz.prog 98 #[.pointer (some ⟨q, 0, none⟩), .int .i32 123] w (AnK q ov (z ++ [123]) w) := by
  have ha := add_d (s := [123]) h
  clear h
  go_enter Tryz.func98, Tryz.ntmps98
  go_wp2_with fail
  refine ha.mono ?_
  rintro e w1 ⟨rfl, ov', h1, h2⟩
  go_wp2
  go_end0
  exact ⟨rfl, ov', h1, h2⟩
theorem sign_125 {w : World} {q : Nat} {ov : Value} {z : List UInt8} (h : Wt w q ov z) : Calls Tryz.prog 98 #[.pointer (some ⟨q, 0, none⟩), .int .i32 125] w (AnK q ov (z ++ [125]) w) := by
  have ha := add_d (s := [125]) h
  clear h
  go_enter Tryz.func98, Tryz.ntmps98
  go_wp2_with fail
  refine ha.mono ?_
  rintro e w1 ⟨rfl, ov', h1, h2⟩
  go_wp2
  go_end0
  exact ⟨rfl, ov', h1, h2⟩
theorem sign_44 {w : World} {q : Nat} {ov : Value} {z : List UInt8} (h : Wt w q ov z) : Calls Tryz.prog 98 #[.pointer (some ⟨q, 0, none⟩), .int .i32 44] w (AnK q ov (z ++ [44]) w) := by
  have ha := add_d (s := [44]) h
  clear h
  go_enter Tryz.func98, Tryz.ntmps98
  go_wp2_with fail
  refine ha.mono ?_
  rintro e w1 ⟨rfl, ov', h1, h2⟩
  go_wp2
  go_end0
  exact ⟨rfl, ov', h1, h2⟩
theorem sign_58 {w : World} {q : Nat} {ov : Value} {z : List UInt8} (h : Wt w q ov z) : Calls Tryz.prog 98 #[.pointer (some ⟨q, 0, none⟩), .int .i32 58] w (AnK q ov (z ++ [58]) w) := by
  have ha := add_d (s := [58]) h
  clear h
  go_enter Tryz.func98, Tryz.ntmps98
  go_wp2_with fail
  refine ha.mono ?_
  rintro e w1 ⟨rfl, ov', h1, h2⟩
  go_wp2
  go_end0
  exact ⟨rfl, ov', h1, h2⟩
set_option maxRecDepth 100000 in
theorem quoted_w {w : World} {q : Nat} {ov : Value} {z s : List UInt8} (h : Wt w q ov z) : Calls Tryz.prog 61 #[.pointer (some ⟨q, 0, none⟩), .string (st s)] w (AnK q ov (z ++ qu s) w) := by
  have hsz : Hid ((st s).size = s.length) := hide1 (st_size s)
  by_cases hs : 4096 < s.length
  · have ht : (4096 : Int) < ((st s).size : Int) := by rw [hsz.out]; omega
    obtain ⟨hbx, out, hown, hl, hz⟩ := h
    have c1 : w.cell? ⟨q, 1, none⟩ = some (.bool (decide (4096 < z.length))) := by simp only [World.cell?, hbx]; rfl
    have f1 : w.frozen? ⟨q, 1, none⟩ = false := by simp [World.frozen?, hbx]
    have e1 : w.setCell ⟨q, 1, none⟩ (.bool true) = w.setRow q #[ov, .bool true] := by rw [sw_row hbx]; rfl
    have hn := setRow_heap w q _ #[ov, .bool true] _ _ hbx
    have hf : Hid (Wt (w.setCell ⟨q, 1, none⟩ (.bool true)) q ov (z ++ qu s) ∧ Wk q ov ov w (w.setCell ⟨q, 1, none⟩ (.bool true))) := hide1 (by
      have hq := (qb_len s).1
      have hzs : 4096 < (z ++ qu s).length := by rw [List.length_append]; simp [qu]; omega
      rw [e1]
      exact ⟨⟨by rw [decide_eq_true hzs]; exact hn, out, hown.row _, hl, .inl hzs⟩, Wk.row _ _ _ fun _ h => .inl h⟩)
    clear hown hz hbx e1 hn
    go_enter Tryz.func61, Tryz.ntmps61
    go_wp2
    first
    | (go_end0; exact ⟨rfl, ov, hf.out⟩)
    | (refine bodyPost_ret (results_none rfl _ _ _) rfl ?_; exact ⟨rfl, ov, hf.out⟩)
  · have ht : ¬ (4096 : Int) < ((st s).size : Int) := by rw [hsz.out]; omega
    have hq := quote_d (w := w) (s := s) (by omega)
    go_enter Tryz.func61, Tryz.ntmps61
    go_wp2_with fail
    refine hq.mono ?_
    rintro e w1 ⟨rfl, b1⟩
    have ha := add_d (s := qu s) (h.below b1)
    have hk := hide1 (Wk.ofB (q := q) (a := ov) b1)
    clear hq b1 h
    go_wp2_with fail
    refine ha.mono ?_
    rintro e w2 ⟨rfl, ov', h1, h2⟩
    have h3 := hide1 (hk.out.trans h2)
    replace h1 := hide1 h1
    clear ha hk h2
    go_wp2
    go_end0
    exact ⟨rfl, ov', h1.out, h3.out⟩
theorem Wt.fresh {w : World} {q : Nat} {ov : Value} {z : List UInt8} (h : Wt w q ov z) : w.heap.size ≠ q ∧ ov.ownBlock ≠ some w.heap.size := by
  obtain ⟨h1, out, ⟨_, ⟨rfl, _⟩ | ⟨g, cap, cur, rfl, hB, hg, _⟩⟩, _⟩ := h
  · exact ⟨by have := (Array.getElem?_eq_some_iff.1 h1).1; omega, fun e => by cases e⟩
  · exact ⟨by have := (Array.getElem?_eq_some_iff.1 h1).1; omega, fun e => by
      have e2 : g = w.heap.size := by simpa [Value.ownBlock] using e
      have h3 := (Array.getElem?_eq_some_iff.1 hg).1
      omega⟩
def Fr (F : Nat → Prop) (w : World) (q : Nat) (ov : Value) : Prop := ∀ k, F k → k < w.heap.size → k ≠ q ∧ ov.ownBlock ≠ some k
theorem RwA.wk {F : Nat → Prop} {w w' : World} {e : TypeId} {z q : Nat} {v ov ov' : Value} {cs : List (List Value)} (h : RwA F w e z v cs) (hF : Fr F w q ov) (hk : Wk q ov ov' w w') : RwA (fun k => F k ∧ k < w.heap.size) w' e z v cs :=
  h.frame (fun k hf hs => hk.block k hs (hF k hf hs).1 (hF k hf hs).2) (fun _ hf hs => ⟨hf, hs⟩)
theorem VA.wk {F : Nat → Prop} {w w' : World} {q : Nat} {ov ov' : Value} {t : T} {c : List Value} (h : VA F w t c) (hF : Fr F w q ov) (hk : Wk q ov ov' w w') : VA (fun k => F k ∧ k < w.heap.size) w' t c :=
  h.frame (fun k hf hs => hk.block k hs (hF k hf hs).1 (hF k hf hs).2) (fun _ hf hs => ⟨hf, hs⟩)
theorem Fr.wk {F : Nat → Prop} {w w' : World} {q : Nat} {ov ov' : Value} (hF : Fr F w q ov) (hk : Wk q ov ov' w w') : Fr (fun k => F k ∧ k < w.heap.size) w' q ov' := fun k hf _ =>
  ⟨(hF k hf.1 hf.2).1, fun e => (hk.own k e).elim (hF k hf.1 hf.2).2 fun h => by have := hf.2; omega⟩
set_option maxHeartbeats 4000000 in
set_option maxRecDepth 100000 in
theorem rowV_d {F : Nat → Prop} {w : World} {q : Nat} {ov v : Value} {zt : List UInt8} {l : List (T)} {cs : List (List Value)} {f : T → List UInt8} (r : RwA F w 28 5 v cs) (hl : cs.length = l.length) (hon : ∀ c ∈ cs, c.all (·.oneCell') = true) (hb : cs.length ≤ 1000000) (hF : Fr F w q ov) (hW : Wt w q ov zt)
    (hone : ∀ (j : Nat) (t : T) (c : List Value), l[j]? = some t → cs[j]? = some c → ∀ (w' : World) (ov' : Value) (z' : List UInt8), Wk q ov ov' w w' → Wt w' q ov' z' → Calls Tryz.prog 37 #[.pointer (some ⟨q, 0, none⟩), .agg c.toArray] w' (AnK q ov' (z' ++ f t) w')) :
    Calls Tryz.prog 62 #[.pointer (some ⟨q, 0, none⟩), .int .i32 91, .int .i32 93, v, .func (.func 37) #[.pointer (some ⟨q, 0, none⟩)] #[]] w (AnK q ov (zt ++ 91 :: (cj (l.map f) ++ [93])) w) := by
  obtain ⟨va, vc, rfl⟩ := r.slc
  have hs0 := sign_91 hW
  replace hone := hide1 hone
  replace hW := hide1 hW
  replace hF := hide1 hF
  replace r := hide1 r
  replace hon := hide1 hon
  replace hl := hide1 hl
  go_enter Tryz.func62, Tryz.ntmps62
  go_wp2_with fail
  refine hs0.mono ?_
  rintro e w1 ⟨rfl, ov1, h1, k1⟩
  have h2 : Hid (Wt w1 q ov1 (zt ++ 91 :: cj ((l.take 0).map f))) := hide1 h1
  replace k1 := hide1 k1
  clear hs0 h1
  go_wp2_with fail
  go_loopw [17] (fun s17 wr => ∃ (i : Nat) (ov' : Value), s17 = .int .i64 (i : Nat) ∧ i ≤ cs.length ∧ Hid (Wt wr q ov' (zt ++ 91 :: cj ((l.take i).map f))) ∧ Hid (Wk q ov ov' w wr)) (fun s17 _ => cs.length - (intOf s17).toNat)
  case atStart => exact ⟨0, ov1, rfl, Nat.zero_le _, h2, k1⟩
  case round =>
    obtain ⟨i, ov', rfl, hi, hWr, hKr⟩ := hrel
    by_cases hlt : i < cs.length
    · obtain ⟨t, ht⟩ : ∃ t, l[i]? = some t := ⟨_, List.getElem?_eq_getElem (by have := hl.out; omega)⟩
      obtain ⟨c, hc⟩ : ∃ c, cs[i]? = some c := ⟨_, List.getElem?_eq_getElem hlt⟩
      have rr := r.out.wk hF.out hKr.out
      obtain ⟨b, oo, cap, hve, -, hbl, hr⟩ := rr.at hc
      cases hve
      have hcz := rr.1 c (List.mem_of_getElem? hc)
      have hoc := hon.out c (List.mem_of_getElem? hc)
      obtain ⟨x0, x1, x2, x3, x4, rfl⟩ := five_l hcz
      have hcall := hone.out i t _ ht hc
      have htake : Hid ((l.take (i + 1)).map f = (l.take i).map f ++ [f t]) := hide1 (by
        rw [List.take_add_one, ht, List.map_append]; rfl)
      have hnil : Hid ((l.take i).map f = [] ↔ i = 0) := hide1 (by
        rw [List.map_eq_nil_iff, List.take_eq_nil_iff]
        constructor
        · rintro (h | h)
          · exact h
          · have := hl.out; rw [h, List.length_nil] at this; omega
        · exact fun h => .inl h)
      have hz : (wr.alloc (.cells #[.int .i64 0, .int .i64 0, .string ⟨#[]⟩, .slice none 0 0, .slice none 0 0] 28)).heap[wr.heap.size]? = some (.cells #[.int .i64 0, .int .i64 0, .string ⟨#[]⟩, .slice none 0 0, .slice none 0 0] 28 (0, 0)) := by
        show (wr.heap.push _)[wr.heap.size]? = _
        rw [Array.getElem?_push, if_pos rfl]
      have hz2 := setRow_heap (wr.alloc (.cells #[.int .i64 0, .int .i64 0, .string ⟨#[]⟩, .slice none 0 0, .slice none 0 0] 28)) wr.heap.size _ #[x0, x1, x2, x3, x4] _ _ hz
      have hbw : Below wr.heap.size wr ((wr.alloc (.cells #[.int .i64 0, .int .i64 0, .string ⟨#[]⟩, .slice none 0 0, .slice none 0 0] 28)).setRow wr.heap.size #[x0, x1, x2, x3, x4]) := blw_own ((Below.refl _ _).alloc (Nat.le_refl _) _) (Nat.le_refl _) _
      have hpw0 : wr.heap.size ≠ q ∧ ov'.ownBlock ≠ some wr.heap.size := hWr.out.fresh
      have hWa := hide1 (hWr.out.below hbw)
      have hKa := hide1 (hKr.out.below hbw)
      replace hcall := hide1 hcall
      have hoc' := hide1 hoc
      clear rr hoc hbl ht hc hcz hWr hKr hbw
      go_upto_region 4 with (first | refine wpList_load_mid rfl 28 (.tmp 20) rfl b (oo + i * 5) rfl [x0, x1, x2, x3, x4] _ hr Tryz.underlying28 rfl (by kernel_rfl) ?_ | refine wpList_store_row rfl 28 (.tmp 11) (.tmp 21) rfl wr.heap.size #[x0, x1, x2, x3, x4] rfl rfl 28 _ hz (by kernel_rfl) rfl (by simpa using hoc'.out) ?_)
      have hpw : Hid (wr.heap.size ≠ q ∧ ov'.ownBlock ≠ some wr.heap.size) := hide1 hpw0
      clear hz hoc'
      generalize (wr.alloc (.cells #[.int .i64 0, .int .i64 0, .string ⟨#[]⟩, .slice none 0 0, .slice none 0 0] 28)).setRow wr.heap.size #[x0, x1, x2, x3, x4] = wa at *
      generalize wr.heap.size = p at *
      by_cases hi0 : i = 0
      · have ezz : Hid (zt ++ 91 :: cj ((l.take i).map f) ++ f t = zt ++ 91 :: cj ((l.take (i + 1)).map f)) := hide1 (by
          have e1 : (l.take i).map f = [] := hnil.out.2 hi0
          rw [htake.out, cj_snoc, if_pos e1, e1]; simp [cj])
        have hig : ¬ (0 : Int) < (i : Int) := by omega
        have hl5 : wa.rangeAt p 0 [x0, x1, x2, x3, x4] := fun j u hj => by
          simp only [World.cell?, hz2]
          rw [Nat.zero_add]
          simpa using hj
        have hcc := hcall.out wa ov' _ hKa.out hWa.out
        have hz3 := hide1 hz2
        clear htake hnil hz2 hcall hi0
        go_wp2_with (first | refine wpList_load_mid rfl 28 (.tmp 11) rfl p 0 rfl [x0, x1, x2, x3, x4] _ hl5 Tryz.underlying28 rfl (by kernel_rfl) ?_ | fail)
        refine hcc.mono ?_
        rintro e w6 ⟨rfl, ov6, h6, k6⟩
        rw [ezz.out] at h6
        have hK6 := hide1 (hKa.out.trans k6)
        replace h6 := hide1 h6
        clear hcc k6 hKa hWa ezz hl5
        go_wp2
        go_roundw
        case rel => exact ⟨i + 1, ov6, by first | rfl | (congr 1; omega) | go_num, hlt, h6, hK6⟩
        case measure => simp [intOf]; omega
      · have ezz : Hid (zt ++ 91 :: cj ((l.take i).map f) ++ [44] ++ f t = zt ++ 91 :: cj ((l.take (i + 1)).map f)) := hide1 (by
          have e1 : ¬ (l.take i).map f = [] := fun e => hi0 (hnil.out.1 e)
          rw [htake.out, cj_snoc, if_neg e1]; simp)
        have hig : (0 : Int) < (i : Int) := by omega
        have hsg := sign_44 hWa.out
        have hz3 := hide1 hz2
        clear htake hnil hz2 hi0
        go_wp2_with fail
        refine hsg.mono ?_
        rintro e w5 ⟨rfl, ov5, h5, k5⟩
        have hbx5 := (k5.block p (Array.getElem?_eq_some_iff.1 hz3.out).1 hpw.out.1 hpw.out.2).trans hz3.out
        have hl5 : w5.rangeAt p 0 [x0, x1, x2, x3, x4] := fun j u hj => by
          simp only [World.cell?, hbx5]
          rw [Nat.zero_add]
          simpa using hj
        have hK5 := hide1 (hKa.out.trans k5)
        have hcc := hcall.out w5 ov5 _ hK5.out h5
        clear hsg k5 h5 hbx5 hKa hWa
        go_wp2_with (first | refine wpList_load_mid rfl 28 (.tmp 11) rfl p 0 rfl [x0, x1, x2, x3, x4] _ hl5 Tryz.underlying28 rfl (by kernel_rfl) ?_ | fail)
        refine hcc.mono ?_
        rintro e w6 ⟨rfl, ov6, h6, k6⟩
        rw [ezz.out] at h6
        have hK6 := hide1 (hK5.out.trans k6)
        replace h6 := hide1 h6
        clear hcc k6 hK5 ezz hl5
        go_wp2
        go_roundw
        case rel => exact ⟨i + 1, ov6, by first | rfl | (congr 1; omega) | go_num, hlt, h6, hK6⟩
        case measure => simp [intOf]; omega
    · have hie : i = cs.length := by omega
      subst hie
      have hs1 := sign_93 hWr.out
      have ezz : Hid (zt ++ 91 :: cj ((l.take cs.length).map f) ++ [93] = zt ++ 91 :: (cj (l.map f) ++ [93])) := hide1 (by rw [hl.out, List.take_length]; simp)
      clear hlt
      go_wp2_with fail
      refine hs1.mono ?_
      rintro e w6 ⟨rfl, ov6, h6, k6⟩
      rw [ezz.out] at h6
      have hK6 := hide1 (hKr.out.trans k6)
      replace h6 := hide1 h6
      clear hs1 k6 ezz hKr hWr
      go_wp2
      go_end0
      exact ⟨rfl, ov6, h6.out, hK6.out⟩
set_option maxHeartbeats 4000000 in
set_option maxRecDepth 100000 in
theorem rowP_d {F : Nat → Prop} {w : World} {q : Nat} {ov v : Value} {zt : List UInt8} {l : List (List UInt8 × T)} {cs : List (List Value)} {f : List UInt8 × T → List UInt8} (r : RwA F w 49 6 v cs) (hl : cs.length = l.length) (hon : ∀ c ∈ cs, c.all (·.oneCell') = true) (hb : cs.length ≤ 1000000) (hF : Fr F w q ov) (hW : Wt w q ov zt)
    (hone : ∀ (j : Nat) (t : List UInt8 × T) (c : List Value), l[j]? = some t → cs[j]? = some c → ∀ (w' : World) (ov' : Value) (z' : List UInt8), Wk q ov ov' w w' → Wt w' q ov' z' → Calls Tryz.prog 64 #[.pointer (some ⟨q, 0, none⟩), .agg c.toArray] w' (AnK q ov' (z' ++ f t) w')) :
    Calls Tryz.prog 63 #[.pointer (some ⟨q, 0, none⟩), .int .i32 123, .int .i32 125, v, .func (.func 64) #[.pointer (some ⟨q, 0, none⟩)] #[]] w (AnK q ov (zt ++ 123 :: (cj (l.map f) ++ [125])) w) := by
  obtain ⟨va, vc, rfl⟩ := r.slc
  have hs0 := sign_123 hW
  replace hone := hide1 hone
  replace hW := hide1 hW
  replace hF := hide1 hF
  replace r := hide1 r
  replace hon := hide1 hon
  replace hl := hide1 hl
  go_enter Tryz.func63, Tryz.ntmps63
  go_wp2_with fail
  refine hs0.mono ?_
  rintro e w1 ⟨rfl, ov1, h1, k1⟩
  have h2 : Hid (Wt w1 q ov1 (zt ++ 123 :: cj ((l.take 0).map f))) := hide1 h1
  replace k1 := hide1 k1
  clear hs0 h1
  go_wp2_with fail
  go_loopw [17] (fun s17 wr => ∃ (i : Nat) (ov' : Value), s17 = .int .i64 (i : Nat) ∧ i ≤ cs.length ∧ Hid (Wt wr q ov' (zt ++ 123 :: cj ((l.take i).map f))) ∧ Hid (Wk q ov ov' w wr)) (fun s17 _ => cs.length - (intOf s17).toNat)
  case atStart => exact ⟨0, ov1, rfl, Nat.zero_le _, h2, k1⟩
  case round =>
    obtain ⟨i, ov', rfl, hi, hWr, hKr⟩ := hrel
    by_cases hlt : i < cs.length
    · obtain ⟨t, ht⟩ : ∃ t, l[i]? = some t := ⟨_, List.getElem?_eq_getElem (by have := hl.out; omega)⟩
      obtain ⟨c, hc⟩ : ∃ c, cs[i]? = some c := ⟨_, List.getElem?_eq_getElem hlt⟩
      have rr := r.out.wk hF.out hKr.out
      obtain ⟨b, oo, cap, hve, -, hbl, hr⟩ := rr.at hc
      cases hve
      have hcz := rr.1 c (List.mem_of_getElem? hc)
      have hoc := hon.out c (List.mem_of_getElem? hc)
      obtain ⟨x0, x1, x2, x3, x4, x5, rfl⟩ := arr6 hcz
      have hcall := hone.out i t _ ht hc
      have htake : Hid ((l.take (i + 1)).map f = (l.take i).map f ++ [f t]) := hide1 (by
        rw [List.take_add_one, ht, List.map_append]; rfl)
      have hnil : Hid ((l.take i).map f = [] ↔ i = 0) := hide1 (by
        rw [List.map_eq_nil_iff, List.take_eq_nil_iff]
        constructor
        · rintro (h | h)
          · exact h
          · have := hl.out; rw [h, List.length_nil] at this; omega
        · exact fun h => .inl h)
      have hz : (wr.alloc (.cells #[.string ⟨#[]⟩, .int .i64 0, .int .i64 0, .string ⟨#[]⟩, .slice none 0 0, .slice none 0 0] 49)).heap[wr.heap.size]? = some (.cells #[.string ⟨#[]⟩, .int .i64 0, .int .i64 0, .string ⟨#[]⟩, .slice none 0 0, .slice none 0 0] 49 (0, 0)) := by
        show (wr.heap.push _)[wr.heap.size]? = _
        rw [Array.getElem?_push, if_pos rfl]
      have hz2 := setRow_heap (wr.alloc (.cells #[.string ⟨#[]⟩, .int .i64 0, .int .i64 0, .string ⟨#[]⟩, .slice none 0 0, .slice none 0 0] 49)) wr.heap.size _ #[x0, x1, x2, x3, x4, x5] _ _ hz
      have hbw : Below wr.heap.size wr ((wr.alloc (.cells #[.string ⟨#[]⟩, .int .i64 0, .int .i64 0, .string ⟨#[]⟩, .slice none 0 0, .slice none 0 0] 49)).setRow wr.heap.size #[x0, x1, x2, x3, x4, x5]) := blw_own ((Below.refl _ _).alloc (Nat.le_refl _) _) (Nat.le_refl _) _
      have hpw0 : wr.heap.size ≠ q ∧ ov'.ownBlock ≠ some wr.heap.size := hWr.out.fresh
      have hWa := hide1 (hWr.out.below hbw)
      have hKa := hide1 (hKr.out.below hbw)
      replace hcall := hide1 hcall
      have hoc' := hide1 hoc
      clear rr hoc hbl ht hc hcz hWr hKr hbw
      go_upto_region 4 with (first | refine wpList_load_mid rfl 49 (.tmp 20) rfl b (oo + i * 6) rfl [x0, x1, x2, x3, x4, x5] _ hr Tryz.underlying49 rfl (by kernel_rfl) ?_ | refine wpList_store_row rfl 49 (.tmp 11) (.tmp 21) rfl wr.heap.size #[x0, x1, x2, x3, x4, x5] rfl rfl 49 _ hz (by kernel_rfl) rfl (by simpa using hoc'.out) ?_)
      have hpw : Hid (wr.heap.size ≠ q ∧ ov'.ownBlock ≠ some wr.heap.size) := hide1 hpw0
      clear hz hoc'
      generalize (wr.alloc (.cells #[.string ⟨#[]⟩, .int .i64 0, .int .i64 0, .string ⟨#[]⟩, .slice none 0 0, .slice none 0 0] 49)).setRow wr.heap.size #[x0, x1, x2, x3, x4, x5] = wa at *
      generalize wr.heap.size = p at *
      by_cases hi0 : i = 0
      · have ezz : Hid (zt ++ 123 :: cj ((l.take i).map f) ++ f t = zt ++ 123 :: cj ((l.take (i + 1)).map f)) := hide1 (by
          have e1 : (l.take i).map f = [] := hnil.out.2 hi0
          rw [htake.out, cj_snoc, if_pos e1, e1]; simp [cj])
        have hig : ¬ (0 : Int) < (i : Int) := by omega
        have hl5 : wa.rangeAt p 0 [x0, x1, x2, x3, x4, x5] := fun j u hj => by
          simp only [World.cell?, hz2]
          rw [Nat.zero_add]
          simpa using hj
        have hcc := hcall.out wa ov' _ hKa.out hWa.out
        have hz3 := hide1 hz2
        clear htake hnil hz2 hcall hi0
        go_wp2_with (first | refine wpList_load_mid rfl 49 (.tmp 11) rfl p 0 rfl [x0, x1, x2, x3, x4, x5] _ hl5 Tryz.underlying49 rfl (by kernel_rfl) ?_ | fail)
        refine hcc.mono ?_
        rintro e w6 ⟨rfl, ov6, h6, k6⟩
        rw [ezz.out] at h6
        have hK6 := hide1 (hKa.out.trans k6)
        replace h6 := hide1 h6
        clear hcc k6 hKa hWa ezz hl5
        go_wp2
        go_roundw
        case rel => exact ⟨i + 1, ov6, by first | rfl | (congr 1; omega) | go_num, hlt, h6, hK6⟩
        case measure => simp [intOf]; omega
      · have ezz : Hid (zt ++ 123 :: cj ((l.take i).map f) ++ [44] ++ f t = zt ++ 123 :: cj ((l.take (i + 1)).map f)) := hide1 (by
          have e1 : ¬ (l.take i).map f = [] := fun e => hi0 (hnil.out.1 e)
          rw [htake.out, cj_snoc, if_neg e1]; simp)
        have hig : (0 : Int) < (i : Int) := by omega
        have hsg := sign_44 hWa.out
        have hz3 := hide1 hz2
        clear htake hnil hz2 hi0
        go_wp2_with fail
        refine hsg.mono ?_
        rintro e w5 ⟨rfl, ov5, h5, k5⟩
        have hbx5 := (k5.block p (Array.getElem?_eq_some_iff.1 hz3.out).1 hpw.out.1 hpw.out.2).trans hz3.out
        have hl5 : w5.rangeAt p 0 [x0, x1, x2, x3, x4, x5] := fun j u hj => by
          simp only [World.cell?, hbx5]
          rw [Nat.zero_add]
          simpa using hj
        have hK5 := hide1 (hKa.out.trans k5)
        have hcc := hcall.out w5 ov5 _ hK5.out h5
        clear hsg k5 h5 hbx5 hKa hWa
        go_wp2_with (first | refine wpList_load_mid rfl 49 (.tmp 11) rfl p 0 rfl [x0, x1, x2, x3, x4, x5] _ hl5 Tryz.underlying49 rfl (by kernel_rfl) ?_ | fail)
        refine hcc.mono ?_
        rintro e w6 ⟨rfl, ov6, h6, k6⟩
        rw [ezz.out] at h6
        have hK6 := hide1 (hK5.out.trans k6)
        replace h6 := hide1 h6
        clear hcc k6 hK5 ezz hl5
        go_wp2
        go_roundw
        case rel => exact ⟨i + 1, ov6, by first | rfl | (congr 1; omega) | go_num, hlt, h6, hK6⟩
        case measure => simp [intOf]; omega
    · have hie : i = cs.length := by omega
      subst hie
      have hs1 := sign_125 hWr.out
      have ezz : Hid (zt ++ 123 :: cj ((l.take cs.length).map f) ++ [125] = zt ++ 123 :: (cj (l.map f) ++ [125])) := hide1 (by rw [hl.out, List.take_length]; simp)
      clear hlt
      go_wp2_with fail
      refine hs1.mono ?_
      rintro e w6 ⟨rfl, ov6, h6, k6⟩
      rw [ezz.out] at h6
      have hK6 := hide1 (hKr.out.trans k6)
      replace h6 := hide1 h6
      clear hs1 k6 ezz hKr hWr
      go_wp2
      go_end0
      exact ⟨rfl, ov6, h6.out, hK6.out⟩
theorem AnK.ofB {q : Nat} {ov : Value} {z : List UInt8} {w w1 w' : World} {e : Ending} (hb : Below w.heap.size w w1) (h : AnK q ov z w1 e w') : AnK q ov z w e w' := by
  obtain ⟨h1, ov', h2, h3⟩ := h
  exact ⟨h1, ov', h2, (Wk.ofB hb).trans h3⟩
set_option maxHeartbeats 1600000 in
set_option maxRecDepth 100000 in
theorem val_0 {w : World} {q : Nat} {ov sl sp : Value} {z s : List UInt8} {ki : Int}  (hW : Wt w q ov z) : Calls Tryz.prog 37 #[.pointer (some ⟨q, 0, none⟩), .agg #[.int .i64 0, .int .i64 ki, .string (st s), sl, sp]] w (AnK q ov (z ++ [110, 117, 108, 108]) w) := by
  obtain ⟨wb, hwb⟩ : ∃ wb, wb = w.alloc (.cells #[.int .i64 0, .int .i64 ki, .string (st s), sl, sp] 28) := ⟨_, rfl⟩
  have hB : Below w.heap.size w wb := by rw [hwb]; exact (Below.refl _ _).alloc (Nat.le_refl _) _
  have hn : wb.heap[w.heap.size]? = some (.cells #[.int .i64 0, .int .i64 ki, .string (st s), sl, sp] 28 (0, 0)) := by
    rw [hwb]
    show (w.heap.push _)[w.heap.size]? = _
    rw [Array.getElem?_push, if_pos rfl]
  have c0 : wb.cell? ⟨w.heap.size, 0, none⟩ = some (.int .i64 0) := by simp only [World.cell?, hn]; rfl
  have c1 : wb.cell? ⟨w.heap.size, 1, none⟩ = some (.int .i64 ki) := by simp only [World.cell?, hn]; rfl
  have c2 : wb.cell? ⟨w.heap.size, 2, none⟩ = some (.string (st s)) := by simp only [World.cell?, hn]; rfl
  have c3 : wb.cell? ⟨w.heap.size, 3, none⟩ = some sl := by simp only [World.cell?, hn]; rfl
  have c4 : wb.cell? ⟨w.heap.size, 4, none⟩ = some sp := by simp only [World.cell?, hn]; rfl
  have hWb := hW.below hB
  have ha := add_d (s := [110, 117, 108, 108]) hWb
  replace ha : Calls Tryz.prog 58 #[.pointer (some ⟨q, 0, none⟩), .string ⟨#[110, 117, 108, 108]⟩] wb _ := ha
  replace hWb := hide1 hWb
  replace hB := hide1 hB
  clear hW hn
  go_enter Tryz.func37, Tryz.ntmps37
  go_upto_region 1 with fail
  rw [← hwb]
  clear hwb
  go_wp2_with fail
  refine ha.mono ?_
  rintro e w1 ⟨rfl, ov', h1, h2⟩
  clear ha
  go_wp2
  go_end0
  exact AnK.ofB hB.out ⟨rfl, ov', h1, h2⟩
set_option maxHeartbeats 1600000 in
set_option maxRecDepth 100000 in
theorem val_1 {w : World} {q : Nat} {ov sl sp : Value} {z s : List UInt8} {ki : Int}  (hW : Wt w q ov z) : Calls Tryz.prog 37 #[.pointer (some ⟨q, 0, none⟩), .agg #[.int .i64 1, .int .i64 ki, .string (st s), sl, sp]] w (AnK q ov (z ++ Lib.formatBool (decide (ki = 1))) w) := by
  obtain ⟨wb, hwb⟩ : ∃ wb, wb = w.alloc (.cells #[.int .i64 1, .int .i64 ki, .string (st s), sl, sp] 28) := ⟨_, rfl⟩
  have hB : Below w.heap.size w wb := by rw [hwb]; exact (Below.refl _ _).alloc (Nat.le_refl _) _
  have hn : wb.heap[w.heap.size]? = some (.cells #[.int .i64 1, .int .i64 ki, .string (st s), sl, sp] 28 (0, 0)) := by
    rw [hwb]
    show (w.heap.push _)[w.heap.size]? = _
    rw [Array.getElem?_push, if_pos rfl]
  have c0 : wb.cell? ⟨w.heap.size, 0, none⟩ = some (.int .i64 1) := by simp only [World.cell?, hn]; rfl
  have c1 : wb.cell? ⟨w.heap.size, 1, none⟩ = some (.int .i64 ki) := by simp only [World.cell?, hn]; rfl
  have c2 : wb.cell? ⟨w.heap.size, 2, none⟩ = some (.string (st s)) := by simp only [World.cell?, hn]; rfl
  have c3 : wb.cell? ⟨w.heap.size, 3, none⟩ = some sl := by simp only [World.cell?, hn]; rfl
  have c4 : wb.cell? ⟨w.heap.size, 4, none⟩ = some sp := by simp only [World.cell?, hn]; rfl
  have hWb := hW.below hB
  have ha := add_d (s := Lib.formatBool (decide (ki = 1))) hWb
  have hfb := fun w => strconv_FormatBool (decide (ki = 1)) w
  have hkb : (ki == 1) = decide (ki = 1) := by by_cases h : ki = 1 <;> simp [h]
  replace ha : Calls Tryz.prog 58 #[.pointer (some ⟨q, 0, none⟩), .string ⟨(Lib.formatBool (decide (ki = 1))).toArray⟩] wb _ := ha
  generalize hdk : decide (ki = 1) = B at *
  replace hWb := hide1 hWb
  replace hB := hide1 hB
  clear hW hn
  go_enter Tryz.func37, Tryz.ntmps37
  go_upto_region 1 with fail
  rw [← hwb]
  clear hwb
  go_wp2_with fail
  refine (hfb _).mono ?_
  rintro e w0 ⟨rfl, rfl⟩
  go_wp2_with fail
  refine ha.mono ?_
  rintro e w1 ⟨rfl, ov', h1, h2⟩
  clear ha
  go_wp2
  go_end0
  exact AnK.ofB hB.out ⟨rfl, ov', h1, h2⟩
set_option maxHeartbeats 1600000 in
set_option maxRecDepth 100000 in
theorem val_2 {w : World} {q : Nat} {ov sl sp : Value} {z s : List UInt8} {ki : Int} (hr : -9223372036854775808 ≤ ki ∧ ki ≤ 9223372036854775807) (hT : Ev w) (h8 : 8 ≤ w.heap.size) (hW : Wt w q ov z) : Calls Tryz.prog 37 #[.pointer (some ⟨q, 0, none⟩), .agg #[.int .i64 2, .int .i64 ki, .string (st s), sl, sp]] w (AnK q ov (z ++ Lib.itoa ki) w) := by
  obtain ⟨wb, hwb⟩ : ∃ wb, wb = w.alloc (.cells #[.int .i64 2, .int .i64 ki, .string (st s), sl, sp] 28) := ⟨_, rfl⟩
  have hB : Below w.heap.size w wb := by rw [hwb]; exact (Below.refl _ _).alloc (Nat.le_refl _) _
  have hn : wb.heap[w.heap.size]? = some (.cells #[.int .i64 2, .int .i64 ki, .string (st s), sl, sp] 28 (0, 0)) := by
    rw [hwb]
    show (w.heap.push _)[w.heap.size]? = _
    rw [Array.getElem?_push, if_pos rfl]
  have c0 : wb.cell? ⟨w.heap.size, 0, none⟩ = some (.int .i64 2) := by simp only [World.cell?, hn]; rfl
  have c1 : wb.cell? ⟨w.heap.size, 1, none⟩ = some (.int .i64 ki) := by simp only [World.cell?, hn]; rfl
  have c2 : wb.cell? ⟨w.heap.size, 2, none⟩ = some (.string (st s)) := by simp only [World.cell?, hn]; rfl
  have c3 : wb.cell? ⟨w.heap.size, 3, none⟩ = some sl := by simp only [World.cell?, hn]; rfl
  have c4 : wb.cell? ⟨w.heap.size, 4, none⟩ = some sp := by simp only [World.cell?, hn]; rfl
  have hWb := hW.below hB
  have hi := strconv_Itoa ki (by have := hr.1; omega) (by have := hr.2; omega) wb (hT.below hB (by omega)).pw
  replace hWb := hide1 hWb
  replace hB := hide1 hB
  clear hW hn
  go_enter Tryz.func37, Tryz.ntmps37
  go_upto_region 1 with fail
  rw [← hwb]
  clear hwb
  go_wp2_with fail
  refine hi.mono ?_
  rintro e w0 ⟨rfl, nk, os, hw0⟩
  have hb0 : Below wb.heap.size wb w0 := below_grow ⟨nk, os, hw0⟩
  have ha := add_d (s := Lib.itoa ki) (hWb.out.below hb0)
  replace ha : Calls Tryz.prog 58 #[.pointer (some ⟨q, 0, none⟩), .string ⟨(Lib.itoa ki).toArray⟩] w0 _ := ha
  replace hb0 := hide1 hb0
  clear hi hw0
  go_wp2_with fail
  refine ha.mono ?_
  rintro e w1 ⟨rfl, ov', h1, h2⟩
  clear ha
  go_wp2
  go_end0
  exact AnK.ofB hB.out (AnK.ofB hb0.out ⟨rfl, ov', h1, h2⟩)
set_option maxHeartbeats 1600000 in
set_option maxRecDepth 100000 in
theorem val_3 {w : World} {q : Nat} {ov sl sp : Value} {z s : List UInt8} {ki : Int}  (hW : Wt w q ov z) : Calls Tryz.prog 37 #[.pointer (some ⟨q, 0, none⟩), .agg #[.int .i64 3, .int .i64 ki, .string (st s), sl, sp]] w (AnK q ov (z ++ qu s) w) := by
  obtain ⟨wb, hwb⟩ : ∃ wb, wb = w.alloc (.cells #[.int .i64 3, .int .i64 ki, .string (st s), sl, sp] 28) := ⟨_, rfl⟩
  have hB : Below w.heap.size w wb := by rw [hwb]; exact (Below.refl _ _).alloc (Nat.le_refl _) _
  have hn : wb.heap[w.heap.size]? = some (.cells #[.int .i64 3, .int .i64 ki, .string (st s), sl, sp] 28 (0, 0)) := by
    rw [hwb]
    show (w.heap.push _)[w.heap.size]? = _
    rw [Array.getElem?_push, if_pos rfl]
  have c0 : wb.cell? ⟨w.heap.size, 0, none⟩ = some (.int .i64 3) := by simp only [World.cell?, hn]; rfl
  have c1 : wb.cell? ⟨w.heap.size, 1, none⟩ = some (.int .i64 ki) := by simp only [World.cell?, hn]; rfl
  have c2 : wb.cell? ⟨w.heap.size, 2, none⟩ = some (.string (st s)) := by simp only [World.cell?, hn]; rfl
  have c3 : wb.cell? ⟨w.heap.size, 3, none⟩ = some sl := by simp only [World.cell?, hn]; rfl
  have c4 : wb.cell? ⟨w.heap.size, 4, none⟩ = some sp := by simp only [World.cell?, hn]; rfl
  have hWb := hW.below hB
  have ha := quoted_w (s := s) hWb
  replace hWb := hide1 hWb
  replace hB := hide1 hB
  clear hW hn
  go_enter Tryz.func37, Tryz.ntmps37
  go_upto_region 1 with fail
  rw [← hwb]
  clear hwb
  go_wp2_with fail
  refine ha.mono ?_
  rintro e w1 ⟨rfl, ov', h1, h2⟩
  clear ha
  go_wp2
  go_end0
  exact AnK.ofB hB.out ⟨rfl, ov', h1, h2⟩
set_option maxHeartbeats 1600000 in
set_option maxRecDepth 100000 in
theorem val_4 {w : World} {q : Nat} {ov sl sp : Value} {z s : List UInt8} {ki : Int} {X : List UInt8} (hrow : ∀ w1, Below w.heap.size w w1 → Wt w1 q ov z → Calls Tryz.prog 62 #[.pointer (some ⟨q, 0, none⟩), .int .i32 91, .int .i32 93, sl, .func (.func 37) #[.pointer (some ⟨q, 0, none⟩)] #[]] w1 (AnK q ov (z ++ X) w1)) (hW : Wt w q ov z) : Calls Tryz.prog 37 #[.pointer (some ⟨q, 0, none⟩), .agg #[.int .i64 4, .int .i64 ki, .string (st s), sl, sp]] w (AnK q ov (z ++ X) w) := by
  obtain ⟨wb, hwb⟩ : ∃ wb, wb = w.alloc (.cells #[.int .i64 4, .int .i64 ki, .string (st s), sl, sp] 28) := ⟨_, rfl⟩
  have hB : Below w.heap.size w wb := by rw [hwb]; exact (Below.refl _ _).alloc (Nat.le_refl _) _
  have hn : wb.heap[w.heap.size]? = some (.cells #[.int .i64 4, .int .i64 ki, .string (st s), sl, sp] 28 (0, 0)) := by
    rw [hwb]
    show (w.heap.push _)[w.heap.size]? = _
    rw [Array.getElem?_push, if_pos rfl]
  have c0 : wb.cell? ⟨w.heap.size, 0, none⟩ = some (.int .i64 4) := by simp only [World.cell?, hn]; rfl
  have c1 : wb.cell? ⟨w.heap.size, 1, none⟩ = some (.int .i64 ki) := by simp only [World.cell?, hn]; rfl
  have c2 : wb.cell? ⟨w.heap.size, 2, none⟩ = some (.string (st s)) := by simp only [World.cell?, hn]; rfl
  have c3 : wb.cell? ⟨w.heap.size, 3, none⟩ = some sl := by simp only [World.cell?, hn]; rfl
  have c4 : wb.cell? ⟨w.heap.size, 4, none⟩ = some sp := by simp only [World.cell?, hn]; rfl
  have hWb := hW.below hB
  have ha := hrow wb hB hWb
  replace hWb := hide1 hWb
  replace hB := hide1 hB
  clear hW hn
  go_enter Tryz.func37, Tryz.ntmps37
  go_upto_region 1 with fail
  rw [← hwb]
  clear hwb
  go_wp2_with fail
  refine ha.mono ?_
  rintro e w1 ⟨rfl, ov', h1, h2⟩
  clear ha
  go_wp2
  go_end0
  exact AnK.ofB hB.out ⟨rfl, ov', h1, h2⟩
set_option maxHeartbeats 1600000 in
set_option maxRecDepth 100000 in
theorem val_5 {w : World} {q : Nat} {ov sl sp : Value} {z s : List UInt8} {ki : Int} {X : List UInt8} (hrow : ∀ w1, Below w.heap.size w w1 → Wt w1 q ov z → Calls Tryz.prog 63 #[.pointer (some ⟨q, 0, none⟩), .int .i32 123, .int .i32 125, sp, .func (.func 64) #[.pointer (some ⟨q, 0, none⟩)] #[]] w1 (AnK q ov (z ++ X) w1)) (hW : Wt w q ov z) : Calls Tryz.prog 37 #[.pointer (some ⟨q, 0, none⟩), .agg #[.int .i64 5, .int .i64 ki, .string (st s), sl, sp]] w (AnK q ov (z ++ X) w) := by
  obtain ⟨wb, hwb⟩ : ∃ wb, wb = w.alloc (.cells #[.int .i64 5, .int .i64 ki, .string (st s), sl, sp] 28) := ⟨_, rfl⟩
  have hB : Below w.heap.size w wb := by rw [hwb]; exact (Below.refl _ _).alloc (Nat.le_refl _) _
  have hn : wb.heap[w.heap.size]? = some (.cells #[.int .i64 5, .int .i64 ki, .string (st s), sl, sp] 28 (0, 0)) := by
    rw [hwb]
    show (w.heap.push _)[w.heap.size]? = _
    rw [Array.getElem?_push, if_pos rfl]
  have c0 : wb.cell? ⟨w.heap.size, 0, none⟩ = some (.int .i64 5) := by simp only [World.cell?, hn]; rfl
  have c1 : wb.cell? ⟨w.heap.size, 1, none⟩ = some (.int .i64 ki) := by simp only [World.cell?, hn]; rfl
  have c2 : wb.cell? ⟨w.heap.size, 2, none⟩ = some (.string (st s)) := by simp only [World.cell?, hn]; rfl
  have c3 : wb.cell? ⟨w.heap.size, 3, none⟩ = some sl := by simp only [World.cell?, hn]; rfl
  have c4 : wb.cell? ⟨w.heap.size, 4, none⟩ = some sp := by simp only [World.cell?, hn]; rfl
  have hWb := hW.below hB
  have ha := hrow wb hB hWb
  replace hWb := hide1 hWb
  replace hB := hide1 hB
  clear hW hn
  go_enter Tryz.func37, Tryz.ntmps37
  go_upto_region 1 with fail
  rw [← hwb]
  clear hwb
  go_wp2_with fail
  refine ha.mono ?_
  rintro e w1 ⟨rfl, ov', h1, h2⟩
  clear ha
  go_wp2
  go_end0
  exact AnK.ofB hB.out ⟨rfl, ov', h1, h2⟩
theorem pair_w {w : World} {q : Nat} {ov : Value} {z s X : List UInt8} {c : List Value} (hc : c.length = 5) (hW : Wt w q ov z)
    (hval : ∀ (w1 : World) (ov1 : Value) (z1 : List UInt8), Wk q ov ov1 w w1 → Wt w1 q ov1 z1 → Calls Tryz.prog 37 #[.pointer (some ⟨q, 0, none⟩), .agg c.toArray] w1 (AnK q ov1 (z1 ++ X) w1)) :
    Calls Tryz.prog 64 #[.pointer (some ⟨q, 0, none⟩), .agg (Value.string (st s) :: c).toArray] w (AnK q ov (z ++ (qu s ++ 58 :: X)) w) := by
  obtain ⟨x1, x2, x3, x4, x5, rfl⟩ := five_l hc
  obtain ⟨wb, hwb⟩ : ∃ wb, wb = w.alloc (.cells #[.string (st s), x1, x2, x3, x4, x5] 49) := ⟨_, rfl⟩
  have hB : Below w.heap.size w wb := by rw [hwb]; exact (Below.refl _ _).alloc (Nat.le_refl _) _
  have hn : wb.heap[w.heap.size]? = some (.cells #[.string (st s), x1, x2, x3, x4, x5] 49 (0, 0)) := by
    rw [hwb]
    show (w.heap.push _)[w.heap.size]? = _
    rw [Array.getElem?_push, if_pos rfl]
  have c0 : wb.cell? ⟨w.heap.size, 0, none⟩ = some (.string (st s)) := by simp only [World.cell?, hn]; rfl
  obtain ⟨f1, f2⟩ := hW.fresh
  have hWb := hW.below hB
  have ha := quoted_w (s := s) hWb
  have hkb : Wk q ov ov w wb := Wk.ofB hB
  obtain ⟨p, hp⟩ : ∃ p, p = w.heap.size := ⟨_, rfl⟩
  rw [← hp] at hn c0 f1 f2
  have hpl : p < wb.heap.size := (Array.getElem?_eq_some_iff.1 hn).1
  replace hn := hide1 hn
  replace hkb := hide1 hkb
  clear hW hWb hB
  show Calls Tryz.prog 64 #[.pointer (some ⟨q, 0, none⟩), .agg #[.string (st s), x1, x2, x3, x4, x5]] w _
  go_enter Tryz.func64, Tryz.ntmps64
  go_upto_region 1 with fail
  rw [← hwb, ← hp]
  clear hwb hp
  go_wp2_with fail
  refine ha.mono ?_
  rintro e w1 ⟨rfl, ov1, h1, k1⟩
  have hn1 := (k1.block p hpl f1 f2).trans hn.out
  have hp1 : p ≠ q ∧ ov1.ownBlock ≠ some p := ⟨f1, fun e => (k1.own p e).elim f2 fun h => by omega⟩
  have hpl1 : p < w1.heap.size := (Array.getElem?_eq_some_iff.1 hn1).1
  have hs := sign_58 h1
  have hk1 := hide1 (hkb.out.trans k1)
  replace hn1 := hide1 hn1
  clear ha h1 k1 hn hkb c0
  go_wp2_with fail
  refine hs.mono ?_
  rintro e w2 ⟨rfl, ov2, h2, k2⟩
  have hn2 := (k2.block p hpl1 hp1.1 hp1.2).trans hn1.out
  have hr : w2.rangeAt p 1 [x1, x2, x3, x4, x5] := fun j u hj => by
    simp only [World.cell?, hn2]
    match j, hj with
    | 0, hj | 1, hj | 2, hj | 3, hj | 4, hj => simpa using hj
    | _ + 5, hj => simp at hj
  have hk2 := hide1 (hk1.out.trans k2)
  have hv := hval w2 ov2 _ hk2.out h2
  clear hs h2 k2 hn2 hn1 hk1
  go_wp2_with (first | refine wpList_load_mid rfl 28 (.tmp 11) rfl p 1 rfl [x1, x2, x3, x4, x5] _ hr Tryz.underlying28 rfl (by kernel_rfl) ?_ | fail)
  refine hv.mono ?_
  rintro e w3 ⟨rfl, ov3, h3, k3⟩
  have hk3 := hide1 (hk2.out.trans k3)
  have h3' : Hid (Wt w3 q ov3 (z ++ (qu s ++ 58 :: X))) := hide1 (by simpa [List.append_assoc] using h3)
  clear hv h3 k3 hk2 hr
  go_wp2
  go_end0
  exact ⟨rfl, ov3, h3'.out, hk3.out⟩
end Go.Proofs.YtbemaloaobeblaaGreatDoor

namespace Go.Proofs.YtbemaloaobeblaaGreatDoor
open Go.RowKit

def sgn (c : Nat) : List UInt8 :=
  if c < 128 then [UInt8.ofNat c] else if c < 2048 then [UInt8.ofNat (192 + c / 64), UInt8.ofNat (128 + c % 64)]
  else if c < 65536 then [UInt8.ofNat (224 + c / 4096), UInt8.ofNat (128 + c / 64 % 64), UInt8.ofNat (128 + c % 64)]
  else [UInt8.ofNat (240 + c / 262144), UInt8.ofNat (128 + c / 4096 % 64), UInt8.ofNat (128 + c / 64 % 64), UInt8.ofNat (128 + c % 64)]
theorem of_u8 {n : Nat} (h : n < 256) : (UInt8.ofNat n).toNat = n := by simp; omega
def fcl (c : Nat) : Nat → List UInt8 → Option Nat
  | 0, _ => some c
  | _ + 1, [] => none
  | k + 1, b :: l => if b.toNat < 128 ∨ 191 < b.toNat then none else fcl (64 * c + b.toNat - 128) k l
def bdc (c : Nat) : Prop := 1114111 < c ∨ (55296 ≤ c ∧ c ≤ 57343)
instance (c : Nat) : Decidable (bdc c) := by unfold bdc; infer_instance
def fend (n c : Nat) (l : List UInt8) : Nat × Nat := if bdc c ∨ sgn c ≠ l.take n then (0, 0) else (c, n)
def fgo (n c0 : Nat) (l : List UInt8) : Nat × Nat := if l.length < n then (0, 0) else match fcl c0 (n - 1) l.tail with
  | none => (0, 0)
  | some c => fend n c l
def fstR : List UInt8 → Nat × Nat
  | [] => (0, 0)
  | b :: m => if b.toNat < 128 then fgo 1 b.toNat (b :: m) else if b.toNat < 192 then (0, 0) else if b.toNat < 224 then fgo 2 (b.toNat - 192) (b :: m) else if b.toNat < 240 then fgo 3 (b.toNat - 224) (b :: m) else fgo 4 (b.toNat - 240) (b :: m)
theorem BsA.take {w : World} {a : Option Addr} {n cap : Nat} {l : List UInt8} (h : BsA w (.slice a n cap) l) {k : Nat} (hk : k ≤ l.length) (c : Nat) : BsA w (.slice a k c) (l.take k) := by
  obtain ⟨a', cap', e, h⟩ := h
  cases e
  have hkl : (l.take k).length = k := by simp; omega
  refine ⟨a, c, by rw [hkl], ?_⟩
  rcases h with rfl | ⟨b, o, rfl, hb, hc⟩
  · left; simp
  · right
    refine ⟨b, o, rfl, hb, fun j x hj => hc j x ?_⟩
    rw [List.getElem?_take] at hj
    split at hj
    · exact hj
    · cases hj
theorem BsA.bl {w w' : World} {v : Value} {l : List UInt8} (h : BsA w v l) (hb : Below w.heap.size w w') : BsA w' v l := h.below hb
theorem fst_c (x : UInt8) (m : List UInt8) : fstR (x :: m) = if x.toNat < 128 then fgo 1 x.toNat (x :: m) else if x.toNat < 192 then (0, 0) else if x.toNat < 224 then fgo 2 (x.toNat - 192) (x :: m) else if x.toNat < 240 then fgo 3 (x.toNat - 224) (x :: m) else fgo 4 (x.toNat - 240) (x :: m) := rfl
def frs (l : List UInt8) : Nat × Nat := if l = [] ∨ ((Lib.decodeL l).1 = 65533 ∧ (Lib.decodeL l).2 = 1) then (0, 0) else Lib.decodeL l
theorem frs_bad {l : List UInt8} (h : Lib.decodeL l = (65533, 1)) : frs l = (0, 0) := by unfold frs; rw [if_pos (.inr (by rw [h]; exact ⟨rfl, rfl⟩))]
theorem frs_good {l : List UInt8} {c n : Nat} (hl : l ≠ []) (h : Lib.decodeL l = (c, n)) (hc : ¬ (c = 65533 ∧ n = 1)) : frs l = (c, n) := by unfold frs; rw [if_neg (fun e => e.elim hl (by rw [h]; exact hc)), h]
theorem u8_of {x : UInt8} {n : Nat} (h : n = x.toNat) : UInt8.ofNat n = x := by subst h; simp
theorem fend_bad {n c : Nat} {l : List UInt8} (h : bdc c ∨ sgn c ≠ l.take n) : fend n c l = (0, 0) := by unfold fend; rw [if_pos h]
theorem fend_good {n c : Nat} {l : List UInt8} (h : ¬ bdc c) (h2 : sgn c = l.take n) : fend n c l = (c, n) := by unfold fend; rw [if_neg (fun e => e.elim h (fun e => e h2))]
theorem sgn_len (c : Nat) : (sgn c).length = if c < 128 then 1 else if c < 2048 then 2 else if c < 65536 then 3 else 4 := by
  unfold sgn
  split
  · rfl
  · split
    · rfl
    · split <;> rfl
theorem fst_2 {x : UInt8} {m : List UInt8} (h1 : 192 ≤ x.toNat) (h2 : x.toNat < 224) : fgo 2 (x.toNat - 192) (x :: m) = frs (x :: m) := by
  cases m with
  | nil =>
    rw [frs_bad]
    · unfold fgo; rw [if_pos (by simp)]
    · rw [Lib.decodeL_N]; unfold Lib.decodeN
      simp only [List.length_cons, List.length_nil, List.getD_cons_zero]
      rw [if_neg (by omega), if_neg (by omega), if_neg (by omega), if_neg (by omega)]
  | cons y m =>
    have hy := y.toNat_lt
    unfold fgo
    rw [if_neg (by simp)]
    simp only [List.tail_cons, Nat.add_one_sub_one, fcl]
    have hd : Lib.decodeL (x :: y :: m) = if y.toNat / 64 = 2 then (if 128 ≤ x.toNat % 32 * 64 + y.toNat % 64 then (x.toNat % 32 * 64 + y.toNat % 64, 2) else (65533, 1)) else (65533, 1) := by
      rw [Lib.decodeL_N]; unfold Lib.decodeN
      simp only [List.length_cons, List.getD_cons_zero, List.getD_cons_succ]
      rw [if_neg (by omega)]
      by_cases hq : y.toNat / 64 = 2
      · rw [if_pos ⟨by omega, by omega, hq⟩, if_pos hq]
      · rw [if_neg (fun e => hq e.2.2), if_neg hq, if_neg (by omega), if_neg (by omega)]
    by_cases hb : y.toNat < 128 ∨ 191 < y.toNat
    · rw [if_pos hb]
      rw [if_neg (by omega)] at hd
      rw [frs_bad hd]
    · rw [if_neg hb]
      rw [if_pos (by omega)] at hd
      simp only
      have hc : 64 * (x.toNat - 192) + y.toNat - 128 = x.toNat % 32 * 64 + y.toNat % 64 := by omega
      rw [hc]
      by_cases hq : 128 ≤ x.toNat % 32 * 64 + y.toNat % 64
      · rw [if_pos hq] at hd
        rw [frs_good (by simp) hd (by omega), fend_good (by unfold bdc; omega)]
        unfold sgn
        rw [if_neg (by omega), if_pos (by omega)]
        simp only [List.take_succ_cons, List.take_zero]
        rw [u8_of (x := x) (by omega), u8_of (x := y) (by omega)]
      · rw [if_neg hq] at hd
        rw [frs_bad hd, fend_bad (.inr fun e => ?_)]
        have := congrArg List.length e
        rw [sgn_len, if_pos (by omega)] at this
        simp at this
theorem fst_3 {x : UInt8} {m : List UInt8} (h1 : 224 ≤ x.toNat) (h2 : x.toNat < 240) : fgo 3 (x.toNat - 224) (x :: m) = frs (x :: m) := by
  match m with
  | [] =>
    rw [frs_bad]
    · unfold fgo; rw [if_pos (by simp)]
    · rw [Lib.decodeL_N]; unfold Lib.decodeN
      simp only [List.length_cons, List.length_nil, List.getD_cons_zero]
      rw [if_neg (by omega), if_neg (by omega), if_neg (by omega), if_neg (by omega)]
  | [y] =>
    rw [frs_bad]
    · unfold fgo; rw [if_pos (by simp)]
    · rw [Lib.decodeL_N]; unfold Lib.decodeN
      simp only [List.length_cons, List.length_nil, List.getD_cons_zero]
      rw [if_neg (by omega), if_neg (by omega), if_neg (by omega), if_neg (by omega)]
  | y :: z :: m =>
    have hy := y.toNat_lt
    have hz := z.toNat_lt
    unfold fgo
    rw [if_neg (by simp)]
    simp only [List.tail_cons, Nat.reduceSub, fcl]
    have hd : Lib.decodeL (x :: y :: z :: m) = if y.toNat / 64 = 2 ∧ z.toNat / 64 = 2 then (if 2048 ≤ x.toNat % 16 * 4096 + y.toNat % 64 * 64 + z.toNat % 64 ∧ (x.toNat % 16 * 4096 + y.toNat % 64 * 64 + z.toNat % 64 < 55296 ∨ 57344 ≤ x.toNat % 16 * 4096 + y.toNat % 64 * 64 + z.toNat % 64) then (x.toNat % 16 * 4096 + y.toNat % 64 * 64 + z.toNat % 64, 3) else (65533, 1)) else (65533, 1) := by
      rw [Lib.decodeL_N]; unfold Lib.decodeN
      simp only [List.length_cons, List.getD_cons_zero, List.getD_cons_succ]
      rw [if_neg (by omega), if_neg (by omega)]
      by_cases hq : y.toNat / 64 = 2 ∧ z.toNat / 64 = 2
      · rw [if_pos ⟨by omega, ⟨by omega, hq.1⟩, by omega, hq.2⟩, if_pos hq]
        by_cases hv : 2048 ≤ x.toNat % 16 * 4096 + y.toNat % 64 * 64 + z.toNat % 64 ∧ (x.toNat % 16 * 4096 + y.toNat % 64 * 64 + z.toNat % 64 < 55296 ∨ 57344 ≤ x.toNat % 16 * 4096 + y.toNat % 64 * 64 + z.toNat % 64)
        · rw [if_pos ⟨hv.1, by omega⟩, if_pos hv]
        · rw [if_neg (by omega), if_neg hv]
      · rw [if_neg (fun e => hq ⟨e.2.1.2, e.2.2.2⟩), if_neg hq, if_neg (by omega)]
    by_cases hb : y.toNat < 128 ∨ 191 < y.toNat
    · rw [if_pos hb]
      rw [if_neg (by omega)] at hd
      rw [frs_bad hd]
    · rw [if_neg hb]
      by_cases hb2 : z.toNat < 128 ∨ 191 < z.toNat
      · rw [if_pos hb2]
        rw [if_neg (by omega)] at hd
        rw [frs_bad hd]
      · rw [if_neg hb2]
        rw [if_pos (by omega)] at hd
        simp only
        have hc : 64 * (64 * (x.toNat - 224) + y.toNat - 128) + z.toNat - 128 = x.toNat % 16 * 4096 + y.toNat % 64 * 64 + z.toNat % 64 := by omega
        rw [hc]
        generalize hC : x.toNat % 16 * 4096 + y.toNat % 64 * 64 + z.toNat % 64 = C at *
        by_cases hq : 2048 ≤ C ∧ (C < 55296 ∨ 57344 ≤ C)
        · rw [if_pos hq] at hd
          rw [frs_good (by simp) hd (by omega), fend_good (by unfold bdc; omega)]
          unfold sgn
          rw [if_neg (by omega), if_neg (by omega), if_pos (by omega)]
          simp only [List.take_succ_cons, List.take_zero]
          rw [u8_of (x := x) (by omega), u8_of (x := y) (by omega), u8_of (x := z) (by omega)]
        · rw [if_neg hq] at hd
          rw [frs_bad hd]
          by_cases hs : 2048 ≤ C
          · exact fend_bad (.inl (by unfold bdc; omega))
          · refine fend_bad (.inr fun e => ?_)
            have := congrArg List.length e
            rw [sgn_len] at this
            simp only [List.take_succ_cons, List.take_zero, List.length_cons, List.length_nil] at this
            split at this
            · omega
            · rw [if_pos (by omega)] at this; omega
theorem fst_4 {x : UInt8} {m : List UInt8} (h1 : 240 ≤ x.toNat) : fgo 4 (x.toNat - 240) (x :: m) = frs (x :: m) := by
  have hx := x.toNat_lt
  match m with
  | [] =>
    rw [frs_bad]
    · unfold fgo; rw [if_pos (by simp)]
    · rw [Lib.decodeL_N]; unfold Lib.decodeN
      simp only [List.length_cons, List.length_nil, List.getD_cons_zero]
      rw [if_neg (by omega), if_neg (by omega), if_neg (by omega), if_neg (by omega)]
  | [y] =>
    rw [frs_bad]
    · unfold fgo; rw [if_pos (by simp)]
    · rw [Lib.decodeL_N]; unfold Lib.decodeN
      simp only [List.length_cons, List.length_nil, List.getD_cons_zero]
      rw [if_neg (by omega), if_neg (by omega), if_neg (by omega), if_neg (by omega)]
  | [y, z] =>
    rw [frs_bad]
    · unfold fgo; rw [if_pos (by simp)]
    · rw [Lib.decodeL_N]; unfold Lib.decodeN
      simp only [List.length_cons, List.length_nil, List.getD_cons_zero]
      rw [if_neg (by omega), if_neg (by omega), if_neg (by omega), if_neg (by omega)]
  | y :: z :: u :: m =>
    have hy := y.toNat_lt
    have hz := z.toNat_lt
    have hu := u.toNat_lt
    unfold fgo
    rw [if_neg (by simp)]
    simp only [List.tail_cons, Nat.reduceSub, fcl]
    have hd : Lib.decodeL (x :: y :: z :: u :: m) = if x.toNat < 248 ∧ y.toNat / 64 = 2 ∧ z.toNat / 64 = 2 ∧ u.toNat / 64 = 2 then (if 65536 ≤ x.toNat % 8 * 262144 + y.toNat % 64 * 4096 + z.toNat % 64 * 64 + u.toNat % 64 ∧ x.toNat % 8 * 262144 + y.toNat % 64 * 4096 + z.toNat % 64 * 64 + u.toNat % 64 ≤ 1114111 then (x.toNat % 8 * 262144 + y.toNat % 64 * 4096 + z.toNat % 64 * 64 + u.toNat % 64, 4) else (65533, 1)) else (65533, 1) := by
      rw [Lib.decodeL_N]; unfold Lib.decodeN
      simp only [List.length_cons, List.getD_cons_zero, List.getD_cons_succ]
      rw [if_neg (by omega), if_neg (by omega), if_neg (by omega)]
      by_cases hq : x.toNat < 248 ∧ y.toNat / 64 = 2 ∧ z.toNat / 64 = 2 ∧ u.toNat / 64 = 2
      · obtain ⟨q1, q2, q3, q4⟩ := hq
        rw [if_pos ⟨by omega, ⟨by omega, q2⟩, ⟨by omega, q3⟩, by omega, q4⟩, if_pos (show x.toNat < 248 ∧ y.toNat / 64 = 2 ∧ z.toNat / 64 = 2 ∧ u.toNat / 64 = 2 from ⟨q1, q2, q3, q4⟩)]
        by_cases hv : 65536 ≤ x.toNat % 8 * 262144 + y.toNat % 64 * 4096 + z.toNat % 64 * 64 + u.toNat % 64 ∧ x.toNat % 8 * 262144 + y.toNat % 64 * 4096 + z.toNat % 64 * 64 + u.toNat % 64 ≤ 1114111
        · rw [if_pos ⟨hv.1, by omega⟩, if_pos hv]
        · rw [if_neg (by omega), if_neg hv]
      · rw [if_neg (fun e => hq ⟨by omega, e.2.1.2, e.2.2.1.2, e.2.2.2.2⟩), if_neg hq]
    by_cases hb : y.toNat < 128 ∨ 191 < y.toNat
    · rw [if_pos hb]
      rw [if_neg (by omega)] at hd
      rw [frs_bad hd]
    · rw [if_neg hb]
      by_cases hb2 : z.toNat < 128 ∨ 191 < z.toNat
      · rw [if_pos hb2]
        rw [if_neg (by omega)] at hd
        rw [frs_bad hd]
      · rw [if_neg hb2]
        by_cases hb3 : u.toNat < 128 ∨ 191 < u.toNat
        · rw [if_pos hb3]
          rw [if_neg (by omega)] at hd
          rw [frs_bad hd]
        · rw [if_neg hb3]
          simp only
          by_cases hx8 : x.toNat < 248
          · rw [if_pos ⟨hx8, by omega, by omega, by omega⟩] at hd
            have hc : 64 * (64 * (64 * (x.toNat - 240) + y.toNat - 128) + z.toNat - 128) + u.toNat - 128 = x.toNat % 8 * 262144 + y.toNat % 64 * 4096 + z.toNat % 64 * 64 + u.toNat % 64 := by omega
            rw [hc]
            generalize hC : x.toNat % 8 * 262144 + y.toNat % 64 * 4096 + z.toNat % 64 * 64 + u.toNat % 64 = C at *
            by_cases hq : 65536 ≤ C ∧ C ≤ 1114111
            · rw [if_pos hq] at hd
              rw [frs_good (by simp) hd (by omega), fend_good (by unfold bdc; omega)]
              unfold sgn
              rw [if_neg (by omega), if_neg (by omega), if_neg (by omega)]
              simp only [List.take_succ_cons, List.take_zero]
              rw [u8_of (x := x) (by omega), u8_of (x := y) (by omega), u8_of (x := z) (by omega), u8_of (x := u) (by omega)]
            · rw [if_neg hq] at hd
              rw [frs_bad hd]
              by_cases hs : 65536 ≤ C
              · exact fend_bad (.inl (by unfold bdc; omega))
              · refine fend_bad (.inr fun e => ?_)
                have := congrArg List.length e
                rw [sgn_len] at this
                simp only [List.take_succ_cons, List.take_zero, List.length_cons, List.length_nil] at this
                split at this
                · omega
                · split at this
                  · omega
                  · rw [if_pos (by omega)] at this; omega
          · rw [if_neg (by omega)] at hd
            rw [frs_bad hd]
            exact fend_bad (.inl (by unfold bdc; omega))
theorem fst_eq (l : List UInt8) : fstR l = frs l := by
  cases l with
  | nil => rfl
  | cons x m =>
    rw [fst_c]
    by_cases h1 : x.toNat < 128
    · rw [if_pos h1, frs_good (by simp) (Lib.decodeL_ascii x m h1) (by omega)]
      unfold fgo
      rw [if_neg (by simp)]
      simp only [Nat.sub_self, fcl]
      refine fend_good (by unfold bdc; omega) ?_
      unfold sgn
      rw [if_pos h1]
      simp
    rw [if_neg h1]
    by_cases h2 : x.toNat < 192
    · rw [if_pos h2, frs_bad]
      rw [Lib.decodeL_N]; unfold Lib.decodeN
      simp only [List.getD_cons_zero]
      rw [if_neg (by omega), if_neg (by omega), if_neg (by omega), if_neg (by omega)]
    rw [if_neg h2]
    by_cases h3 : x.toNat < 224
    · rw [if_pos h3]; exact fst_2 (by omega) h3
    rw [if_neg h3]
    by_cases h4 : x.toNat < 240
    · rw [if_pos h4]; exact fst_3 (by omega) h4
    · rw [if_neg h4]; exact fst_4 (by omega)
theorem BsA.drop {w : World} {b o n cap : Nat} {l : List UInt8} (h : BsA w (.slice (some ⟨b, o, none⟩) n cap) l) (k c : Nat) : BsA w (.slice (some ⟨b, o + k, none⟩) (l.length - k) c) (l.drop k) := by
  obtain ⟨a', cap', e, h⟩ := h
  cases e
  refine ⟨_, c, by rw [List.length_drop], ?_⟩
  rcases h with rfl | ⟨b', o', e, hb, hc⟩
  · left; simp
  · cases e
    right
    refine ⟨b, o + k, rfl, hb, fun j x hj => ?_⟩
    rw [List.getElem?_drop] at hj
    have := hc (k + j) x hj
    rwa [← Nat.add_assoc] at this
structure Tg (sl : Value) (B : List UInt8) (g p : Nat) (bad : Bool) (w : World) : Prop where
  box : w.heap[g]? = some (.cells #[sl, .int .i64 (p : Nat), .bool bad] 60 (0, 0))
  bs : BsA w sl B
  ng : B ≠ [] → ∀ a n c, sl = .slice (some a) n c → a.block ≠ g
  cp : ∀ a n c, sl = .slice a n c → n ≤ c
theorem BsA.same {w w' : World} {v : Value} {l : List UInt8} (h : BsA w v l) (hs : w.heap.size ≤ w'.heap.size) (hk : l ≠ [] → ∀ a n c, v = .slice (some a) n c → a.block < w.heap.size → w'.heap[a.block]? = w.heap[a.block]?) : BsA w' v l := by
  by_cases hl : l = []
  · obtain ⟨a, cap, rfl, _⟩ := h
    exact ⟨a, cap, rfl, .inl hl⟩
  replace hk := hk hl
  obtain ⟨a, cap, rfl, h | ⟨b, o, rfl, hb, hc⟩⟩ := h
  · exact absurd h hl
  · exact ⟨_, cap, rfl, .inr ⟨b, o, rfl, by omega, fun j x hj => by
    rw [World.cell?_of_block (a := ⟨b, o + j, none⟩) (w := w) (hk ⟨b, o, none⟩ _ _ rfl hb)]; exact hc j x hj⟩⟩
section
variable {sl : Value} {B : List UInt8} {g p : Nat} {bad : Bool} {w w' : World}
theorem Tg.lt (h : Tg sl B g p bad w) : g < w.heap.size := (Array.getElem?_eq_some_iff.1 h.box).1
theorem Tg.c0 (h : Tg sl B g p bad w) : w.cell? ⟨g, 0, none⟩ = some sl := by simp [World.cell?, h.box]
theorem Tg.c1 (h : Tg sl B g p bad w) : w.cell? ⟨g, 1, none⟩ = some (.int .i64 (p : Nat)) := by simp [World.cell?, h.box]
theorem Tg.c2 (h : Tg sl B g p bad w) : w.cell? ⟨g, 2, none⟩ = some (.bool bad) := by simp [World.cell?, h.box]
theorem Tg.fr (h : Tg sl B g p bad w) (k : Nat) : w.frozen? ⟨g, k, none⟩ = false := by simp [World.frozen?, h.box]
theorem Tg.kept (h : Tg sl B g p bad w) (hs : w.heap.size ≤ w'.heap.size) (hk : ∀ k, k < w.heap.size → w'.heap[k]? = w.heap[k]?) : Tg sl B g p bad w' :=
  ⟨(hk g h.lt).trans h.box, h.bs.same hs fun _ _ _ _ _ ha => hk _ ha, h.ng, h.cp⟩
theorem Tg.later (h : Tg sl B g p bad w) (hb : Below w.heap.size w w') : Tg sl B g p bad w' := h.kept hb.size hb.block
theorem Tg.row {q : Nat} {bad' : Bool} (h : Tg sl B g p bad w) : Tg sl B g q bad' (w.setRow g #[sl, .int .i64 (q : Nat), .bool bad']) :=
  ⟨setRow_heap w g _ _ _ _ h.box, h.bs.same (by simp [World.setRow]) fun hl a n c e _ => setRow_other w g _ _ (h.ng hl a n c e), h.ng, h.cp⟩
theorem Tg.set1 (h : Tg sl B g p bad w) (q : Nat) : Tg sl B g q bad (w.setCell ⟨g, 1, none⟩ (.int .i64 (q : Nat))) ∧ Kg g w (w.setCell ⟨g, 1, none⟩ (.int .i64 (q : Nat))) := by
  have e : w.setCell ⟨g, 1, none⟩ (.int .i64 (q : Nat)) = w.setRow g #[sl, .int .i64 (q : Nat), .bool bad] := by
    rw [setCell_eq_setRow w g 1 _ _ (0, 0) _ h.box]; rfl
  rw [e]
  exact ⟨h.row, Kg.row _⟩
end
section
variable {sl : Value} {B : List UInt8} {g p : Nat} {bad : Bool} {w w' : World}
end
section
variable {sl : Value} {B : List UInt8} {g p : Nat} {bad : Bool} {w w' : World}
end
section
variable {sl : Value} {B : List UInt8} {g p : Nat} {w w' : World}
end
section
variable {sl : Value} {B : List UInt8} {g p : Nat} {w w' : World}
end
section
variable {sl : Value} {B : List UInt8} {g p : Nat} {w w' : World}
end
theorem fend_ok {n c c' s : Nat} {l : List UInt8} (h : fend n c l = (c', s)) (hs : s ≠ 0) : c' = c ∧ s = n ∧ sgn c' = l.take s ∧ ¬ bdc c' := by
  unfold fend at h
  split at h
  · cases h; exact absurd rfl hs
  · rename_i hn
    cases h
    exact ⟨rfl, rfl, by by_cases e : sgn c = l.take n
                        · exact e
                        · exact absurd (.inr e) hn, fun e => hn (.inl e)⟩
theorem fgo_ok {n c0 c s : Nat} {l : List UInt8} (h : fgo n c0 l = (c, s)) (hs : s ≠ 0) : s = n ∧ s ≤ l.length ∧ sgn c = l.take s ∧ ¬ bdc c := by
  unfold fgo at h
  split at h
  · cases h; exact absurd rfl hs
  · split at h
    · cases h; exact absurd rfl hs
    · obtain ⟨_, e2, e3, e4⟩ := fend_ok h hs
      exact ⟨e2, by omega, e3, e4⟩
theorem frs_ok {l : List UInt8} {c s : Nat} (h : frs l = (c, s)) (hs : s ≠ 0) : s ≤ l.length ∧ sgn c = l.take s ∧ ¬ bdc c ∧ Lib.decodeL l = (c, s) ∧ l ≠ [] ∧ ¬ (c = 65533 ∧ s = 1) := by
  have h2 := h
  rw [← fst_eq] at h2
  have h3 : l ≠ [] ∧ Lib.decodeL l = (c, s) ∧ ¬ (c = 65533 ∧ s = 1) := by
    unfold frs at h
    split at h
    · cases h; exact absurd rfl hs
    · rename_i hn
      exact ⟨fun e => hn (.inl e), h, fun e => hn (.inr (by rw [h]; exact e))⟩
  have h4 : s ≤ l.length ∧ sgn c = l.take s ∧ ¬ bdc c := by
    cases l with
    | nil => cases h2; exact absurd rfl hs
    | cons x m =>
      rw [fst_c] at h2
      split at h2
      · exact (fgo_ok h2 hs).2
      · split at h2
        · cases h2; exact absurd rfl hs
        · split at h2
          · exact (fgo_ok h2 hs).2
          · split at h2
            · exact (fgo_ok h2 hs).2
            · exact (fgo_ok h2 hs).2
  exact ⟨h4.1, h4.2.1, h4.2.2, h3.2.1, h3.1, h3.2.2⟩
theorem enc_sgn {c : Nat} (h : ¬ bdc c) : enc c = sgn c := by
  unfold bdc at h
  unfold enc sgn Lib.encodeRune
  by_cases h1 : c < 128
  · rw [Lib.encodeRuneZ_one (by omega) (by omega), if_pos h1]
    simp only [List.map_cons, List.map_nil, Int.toNat_natCast]
  rw [if_neg h1]
  by_cases h2 : c < 2048
  · rw [Lib.encodeRuneZ_two (by omega) (by omega), if_pos h2]
    simp only [List.map_cons, List.map_nil]
    rw [show (192 + (c : Int) / 64).toNat = 192 + c / 64 by omega, show (128 + (c : Int) % 64).toNat = 128 + c % 64 by omega]
  rw [if_neg h2]
  by_cases h3 : c < 65536
  · rw [Lib.encodeRuneZ_three (by omega), if_pos h3]
    simp only [List.map_cons, List.map_nil]
    rw [show (224 + (c : Int) / 4096).toNat = 224 + c / 4096 by omega, show (128 + (c : Int) / 64 % 64).toNat = 128 + c / 64 % 64 by omega, show (128 + (c : Int) % 64).toNat = 128 + c % 64 by omega]
  · rw [Lib.encodeRuneZ_four (by omega) (by omega), if_neg h3]
    simp only [List.map_cons, List.map_nil]
    rw [show (240 + (c : Int) / 262144).toNat = 240 + c / 262144 by omega, show (128 + (c : Int) / 4096 % 64).toNat = 128 + c / 4096 % 64 by omega, show (128 + (c : Int) / 64 % 64).toNat = 128 + c / 64 % 64 by omega, show (128 + (c : Int) % 64).toNat = 128 + c % 64 by omega]
theorem hp_cons {c x : UInt8} {m : List UInt8} : hp [c] (x :: m) = (c == x) := by
  unfold hp
  simp [List.isPrefixOf]
theorem hp_ne {c x : UInt8} {m : List UInt8} (h : c.toNat ≠ x.toNat) : hp [c] (x :: m) = false := by
  rw [hp_cons, beq_eq_false_iff_ne]
  intro e
  exact h (by rw [e])
theorem ltr_no {l : List UInt8} {c : Nat} (h : frs l = (c, 0)) : hp [34] l = false ∧ ltr l = none := by
  cases l with
  | nil => exact ⟨rfl, rfl⟩
  | cons x m =>
    have hd : (Lib.decodeL (x :: m)).1 = 65533 ∧ (Lib.decodeL (x :: m)).2 = 1 := by
      unfold frs at h
      split at h
      · rename_i hn
        exact hn.resolve_left (by simp)
      · have := Lib.decodeL_width (x :: m)
        rw [h] at this
        simp at this
    have hx : 128 ≤ x.toNat := by
      rcases Nat.lt_or_ge x.toNat 128 with hx | hx
      · rw [Lib.decodeL_ascii x m hx] at hd
        have := hd.1
        simp at this
        omega
      · exact hx
    have h34 : hp [34] (x :: m) = false := hp_ne (by show 34 ≠ _; omega)
    have h92 : hp [92] (x :: m) = false := hp_ne (by show 92 ≠ _; omega)
    refine ⟨h34, ?_⟩
    unfold ltr pln
    rw [h92, if_neg (by simp), dec_go, if_pos (.inr ⟨hd.1, by omega⟩)]
theorem f4_bd : ∀ {k n : Nat} {l : List UInt8} {c : Nat}, f4 k n l = some c → c < (n + 1) * 16 ^ k
  | 0, n, l, c, h => by
    rw [f4] at h
    cases h
    simp
  | k + 1, n, [], c, h => by cases h
  | k + 1, n, b :: l, c, h => by
    rw [f4] at h
    cases hf : fg b.toNat with
    | none => rw [hf] at h; cases h
    | some d =>
      rw [hf] at h
      have h1 := f4_bd h
      have h2 := fg_lt hf
      have h3 : (n * 16 + d + 1) * 16 ^ k ≤ ((n + 1) * 16) * 16 ^ k := Nat.mul_le_mul_right _ (by omega)
      rw [Nat.pow_succ, Nat.mul_comm (16 ^ k) 16, ← Nat.mul_assoc]
      omega
theorem f4_l6 {l : List UInt8} {c : Nat} (h : f4 4 0 l = some c) : c < 65536 := by
  have := f4_bd h
  simpa using this
theorem esc_ok {l r : List UInt8} {c : Nat} (h : esc l = some (c, r)) : ¬ bdc c := by
  cases l with
  | nil => cases h
  | cons b t =>
    have h : escN b.toNat t = some (c, r) := h
    unfold escN at h
    unfold bdc
    split at h
    · cases h; omega
    · split at h
      · cases h; omega
      · split at h
        · cases h; omega
        · split at h
          · cases h; omega
          · split at h
            · cases h; omega
            · split at h
              · cases h; omega
              · split at h
                · unfold cdd at h
                  split at h
                  · cases h
                  · rename_i c4 h4
                    split at h
                    · rename_i hc
                      rw [Option.some.injEq, Prod.mk.injEq] at h
                      obtain ⟨rfl, _⟩ := h
                      have : c4 < 65536 := f4_l6 h4
                      omega
                    · rename_i hc
                      split at h
                      · cases h
                      · rename_i hc2
                        split at h
                        · split at h
                          · cases h
                          · rename_i x h5
                            split at h
                            · cases h
                            · rename_i hx
                              rw [Option.some.injEq, Prod.mk.injEq] at h
                              obtain ⟨rfl, _⟩ := h
                              omega
                        · cases h
                · cases h
theorem valid_app : ∀ (k : Nat) {a b : List UInt8}, a.length ≤ k → Lib.validD a = true → Lib.validD (a ++ b) = Lib.validD b
  | 0, a, b, hk, _ => by
    have : a = [] := List.length_eq_zero_iff.1 (by omega)
    rw [this]; rfl
  | k + 1, a, b, hk, h => by
    by_cases ha : a = []
    · rw [ha]; rfl
    have h2 := h
    rw [Lib.validD_step a ha] at h2
    by_cases hbad : (Lib.decodeL a).1 = 65533 ∧ (Lib.decodeL a).2 = 1
    · rw [if_pos hbad] at h2; cases h2
    rw [if_neg hbad] at h2
    obtain ⟨q, e1, e2, e3, e4⟩ := dec_sw ha hbad
    have hw := Lib.decodeL_width a
    have e5 : Lib.decodeL (a ++ b) = Lib.decodeL a := by
      have : a ++ b = q ++ (a.drop (Lib.decodeL a).2 ++ b) := by rw [← List.append_assoc, ← e1]
      rw [this]; exact e4 _
    have hl := Lib.decodeL_le a ha
    rw [Lib.validD_step (a ++ b) (by simp [ha]), e5, if_neg hbad, List.drop_append_of_le_length hl]
    exact valid_app k (by rw [List.length_drop]; omega) h2
theorem sgn_ne0 (c : Nat) : sgn c ≠ [] := by
  unfold sgn
  split
  · simp
  · split
    · simp
    · split <;> simp
theorem fend_sgn {n c : Nat} {l : List UInt8} (hb : ¬ bdc c) (h : l = sgn c) (hn : l.length = n) : fend n c l = (c, n) := by
  unfold fend
  rw [if_neg]
  rintro (e | e)
  · exact hb e
  · exact e (by rw [← hn, List.take_length, h])
theorem fst_sgn {c : Nat} (h : ¬ bdc c) : fstR (sgn c) = (c, (sgn c).length) := by
  have hb := h
  unfold bdc at hb
  obtain ⟨l, hl⟩ : ∃ l, l = sgn c := ⟨_, rfl⟩
  rw [← hl]
  have hl2 := hl
  unfold sgn at hl2
  by_cases h1 : c < 128
  · rw [if_pos h1] at hl2
    rw [hl2, fst_c, of_u8 (by omega), if_pos h1, ← hl2]
    have hlen : l.length = 1 := by rw [hl2]; rfl
    unfold fgo
    rw [if_neg (by omega), hlen]
    exact fend_sgn h hl hlen
  rw [if_neg h1] at hl2
  by_cases h2 : c < 2048
  · rw [if_pos h2] at hl2
    have hlen : l.length = 2 := by rw [hl2]; rfl
    rw [hl2, fst_c, of_u8 (by omega), if_neg (by omega), if_neg (by omega), if_pos (by omega), ← hl2]
    have hf : fcl (192 + c / 64 - 192) (2 - 1) l.tail = some c := by
      rw [hl2]
      show fcl (192 + c / 64 - 192) 1 [UInt8.ofNat (128 + c % 64)] = some c
      rw [fcl, of_u8 (by omega), if_neg (by omega), fcl]
      refine congrArg some ?_
      omega
    unfold fgo
    rw [if_neg (by omega), hf, hlen]
    exact fend_sgn h hl hlen
  rw [if_neg h2] at hl2
  by_cases h3 : c < 65536
  · rw [if_pos h3] at hl2
    have hlen : l.length = 3 := by rw [hl2]; rfl
    rw [hl2, fst_c, of_u8 (by omega), if_neg (by omega), if_neg (by omega), if_neg (by omega), if_pos (by omega), ← hl2]
    have hf : fcl (224 + c / 4096 - 224) (3 - 1) l.tail = some c := by
      rw [hl2]
      show fcl (224 + c / 4096 - 224) 2 [UInt8.ofNat (128 + c / 64 % 64), UInt8.ofNat (128 + c % 64)] = some c
      rw [fcl, of_u8 (by omega), if_neg (by omega), fcl, of_u8 (by omega), if_neg (by omega), fcl]
      refine congrArg some ?_
      omega
    unfold fgo
    rw [if_neg (by omega), hf, hlen]
    exact fend_sgn h hl hlen
  · rw [if_neg h3] at hl2
    have hlen : l.length = 4 := by rw [hl2]; rfl
    rw [hl2, fst_c, of_u8 (by omega), if_neg (by omega), if_neg (by omega), if_neg (by omega), if_neg (by omega), ← hl2]
    have hf : fcl (240 + c / 262144 - 240) (4 - 1) l.tail = some c := by
      rw [hl2]
      show fcl (240 + c / 262144 - 240) 3 [UInt8.ofNat (128 + c / 4096 % 64), UInt8.ofNat (128 + c / 64 % 64), UInt8.ofNat (128 + c % 64)] = some c
      rw [fcl, of_u8 (by omega), if_neg (by omega), fcl, of_u8 (by omega), if_neg (by omega), fcl, of_u8 (by omega), if_neg (by omega), fcl]
      refine congrArg some ?_
      omega
    unfold fgo
    rw [if_neg (by omega), hf, hlen]
    exact fend_sgn h hl hlen
theorem enc_valid {c : Nat} (h : ¬ bdc c) : Lib.validD (enc c) = true := by
  rw [enc_sgn h]
  have hl : (sgn c).length ≠ 0 := fun e => sgn_ne0 c (List.length_eq_zero_iff.1 e)
  have hf := fst_sgn h
  rw [fst_eq] at hf
  obtain ⟨_, _, _, h4, h5, h6⟩ := frs_ok hf hl
  rw [Lib.validD_step _ h5, h4, if_neg h6, List.drop_length]
  rfl
theorem ql_valid : ∀ (n : Nat) {out l s r : List UInt8}, Lib.validD out = true → ql n out l = some (s, r) → Lib.validD s = true
  | n, out, l, s, r, ho, h => by
    cases hh : hp [34] l with
    | true => rw [ql_end hh] at h; cases h; exact ho
    | false =>
      cases hl : ltr l with
      | none => rw [ql_non hh hl] at h; cases h
      | some x =>
        obtain ⟨c, q⟩ := x
        cases n with
        | zero => rw [ql, if_neg (by simp [hh]), hl] at h; cases h
        | succ n =>
          rw [ql_go hh hl] at h
          refine ql_valid n ?_ h
          rw [valid_app _ (Nat.le_refl _) ho]
          refine enc_valid ?_
          unfold ltr at hl
          split at hl
          · exact esc_ok hl
          · cases hf : frs l with
            | mk c2 s2 =>
              by_cases hs : s2 = 0
              · subst hs
                have := (ltr_no hf).2
                unfold ltr at this
                rename_i h92
                rw [if_neg h92] at this
                rw [this] at hl; cases hl
              · obtain ⟨g1, g2, g3, g4, g5, g6⟩ := frs_ok hf hs
                cases l with
                | nil => exact absurd rfl g5
                | cons x m =>
                  unfold pln at hl
                  rw [dec_go, g4] at hl
                  split at hl
                  · cases hl
                  · cases hl; exact g3
theorem qt_valid {l s r : List UInt8} (h : qt l = some (s, r)) : Lib.validD s = true := by
  unfold qt at h
  split at h
  · exact ql_valid _ rfl h
  · cases h
theorem nm_rng {l r : List UInt8} {i : Int} (h : nm l = some (i, r)) : inR i = true := by
  unfold nm at h
  cases hq : nmO (hp [45] l) ((tk [45] l).takeWhile dg) with
  | none => rw [hq] at h; cases h
  | some k =>
    rw [hq] at h
    cases h
    unfold nmO at hq
    split at hq
    · cases hq
    · rename_i hn
      have : ¬ 9007199254740991 < dgs ((tk [45] l).takeWhile dg) := fun e => hn (.inr (.inr (.inl e)))
      rw [Option.some.injEq] at hq
      unfold inR
      rw [← hq]
      apply decide_eq_true
      split <;> omega
theorem pv_gd : ∀ (n : Nat) (l : List UInt8) (x : T) (r : List UInt8), pv n l = some (x, r) → l.length ≤ 4096 → gd n x = true
  | n, l, x, r, h, hN => by
    have a := sk_le l
    unfold pv at h
    generalize sk l = m at *
    cases m with
    | nil => cases h
    | cons b m =>
      simp only at h
      split at h
      · split at h
        · cases h; unfold gd; rfl
        · cases h
      · split at h
        · split at h
          · cases h; unfold gd; rfl
          · cases h
        · split at h
          · split at h
            · cases h; unfold gd; rfl
            · cases h
          · split at h
            · split at h
              · cases h
              · rename_i hq
                cases h
                have := qt_valid hq
                unfold gd
                rw [spB_f (by simp) (by simp) (by simp) (by simp)]
                simpa using this
            · split at h
              · cases n with
                | zero => cases h
                | succ n =>
                  simp only at h
                  split at h
                  · cases h
                  · rename_i hq
                    cases h
                    obtain ⟨g1, g2⟩ := rw_all (N := 4096) (Pp := fun x => gd n x = true) (fun l x r h hl => ⟨pv_gd n l x r h hl, pv_le n l x r h⟩) hq (by omega)
                    unfold gd
                    rw [spB_f (by simp) (by simp) (by simp) (by simp)]
                    simpa using g1
              · split at h
                · cases n with
                  | zero => cases h
                  | succ n =>
                    simp only at h
                    split at h
                    · cases h
                    · rename_i hq
                      split at h
                      · rename_i honc
                        cases h
                        obtain ⟨g1, g2⟩ := rw_all (N := 4096) (Pp := fun q : List UInt8 × T => Lib.validD q.1 = true ∧ gd n q.2 = true) (fun l x r h hl => by
                          refine ⟨?_, pr_le (pv_le n) h⟩
                          unfold pr at h
                          have b1 := sk_le l
                          split at h
                          · cases h
                          · rename_i s q hq
                            have b2 := qt_le hq
                            have b3 := sk_le q
                            have b4 := tk_le [58] (sk q)
                            split at h
                            · split at h
                              · cases h
                              · rename_i v t hv
                                cases h
                                exact ⟨qt_valid hq, pv_gd n _ _ _ hv (by omega)⟩
                            · cases h) hq (by omega)
                        unfold gd
                        rw [spB_f (by simp) (by simp) (by simp) (by simp)]
                        simp only [Bool.not_false, Bool.true_and]
                        rw [if_neg (by omega), if_neg (by omega), if_neg (by omega), if_neg (by omega), if_neg (by omega)]
                        simp only [if_true]
                        rw [honc, Bool.and_true, List.all_eq_true]
                        intro q hq
                        rw [(g1 q hq).1, (g1 q hq).2]
                        rfl
                      · cases h
                · split at h
                  · cases h
                  · rename_i hq
                    cases h
                    have := nm_rng hq
                    unfold gd
                    rw [spB_f (by simp) (by simp) (by simp) (by simp)]
                    simpa using this
theorem enc_le4 {c : Nat} (h : ¬ bdc c) : (enc c).length ≤ 4 := by
  rw [enc_sgn h]
  unfold sgn
  split
  · simp
  · split
    · simp
    · split <;> simp
theorem ltr_ok {l r : List UInt8} {c : Nat} (hl : ltr l = some (c, r)) : ¬ bdc c := by
  have hl0 := hl
  unfold ltr at hl
  split at hl
  · exact esc_ok hl
  · cases hf : frs l with
    | mk c2 s2 =>
      by_cases hs : s2 = 0
      · subst hs
        rw [(ltr_no hf).2] at hl0; cases hl0
      · obtain ⟨g1, g2, g3, g4, g5, g6⟩ := frs_ok hf hs
        cases l with
        | nil => exact absurd rfl g5
        | cons x m =>
          unfold pln at hl
          rw [dec_go, g4] at hl
          split at hl
          · cases hl
          · cases hl; exact g3
theorem ql_l4 : ∀ (n : Nat) {out l s r : List UInt8}, ql n out l = some (s, r) → s.length ≤ out.length + 4 * l.length
  | n, out, l, s, r, h => by
    cases hh : hp [34] l with
    | true => rw [ql_end hh] at h; cases h; omega
    | false =>
      cases hl : ltr l with
      | none => rw [ql_non hh hl] at h; cases h
      | some x =>
        obtain ⟨c, q⟩ := x
        cases n with
        | zero => rw [ql, if_neg (by simp [hh]), hl] at h; cases h
        | succ n =>
          rw [ql_go hh hl] at h
          have h1 := ql_l4 n h
          have h2 := ltr_lt hl
          have h3 := enc_le4 (ltr_ok hl)
          rw [List.length_append] at h1
          omega
theorem qt_l4 {l s r : List UInt8} (h : qt l = some (s, r)) : s.length ≤ 4 * l.length := by
  unfold qt at h
  split at h
  · have h1 := ql_l4 _ h
    have h2 := tk_le [34] l
    simp only [List.length_nil] at h1
    omega
  · cases h
theorem sbd_leaf {h : Nat} {k i : Int} {s : List UInt8} (hs : s.length ≤ 100000) : sbd h (.mk k i s [] []) := by
  cases h with
  | zero => exact True.intro
  | succ h => exact ⟨by omega, by simp, by simp⟩
theorem pv_sbd : ∀ (n : Nat) (l : List UInt8) (x : T) (r : List UInt8), pv n l = some (x, r) → l.length ≤ 4096 → ∀ h, sbd h x
  | n, l, x, r, h, hN, hh => by
    have a := sk_le l
    unfold pv at h
    generalize sk l = m at *
    cases m with
    | nil => cases h
    | cons b m =>
      simp only at h
      split at h
      · split at h
        · cases h; exact sbd_leaf (by simp)
        · cases h
      · split at h
        · split at h
          · cases h; exact sbd_leaf (by simp)
          · cases h
        · split at h
          · split at h
            · cases h; exact sbd_leaf (by simp)
            · cases h
          · split at h
            · split at h
              · cases h
              · rename_i hq
                cases h
                have := qt_l4 hq
                exact sbd_leaf (by omega)
            · split at h
              · cases n with
                | zero => cases h
                | succ n =>
                  simp only at h
                  split at h
                  · cases h
                  · rename_i hq
                    cases h
                    obtain ⟨g1, g2⟩ := rw_all (N := 4096) (Pp := fun x => ∀ h, sbd h x) (fun l x r h hl => ⟨pv_sbd n l x r h hl, pv_le n l x r h⟩) hq (by omega)
                    cases hh with
                    | zero => exact True.intro
                    | succ hh => exact ⟨by simp, fun t ht => g1 t ht hh, by simp⟩
              · split at h
                · cases n with
                  | zero => cases h
                  | succ n =>
                    simp only at h
                    split at h
                    · cases h
                    · rename_i hq
                      split at h
                      · cases h
                        obtain ⟨g1, g2⟩ := rw_all (N := 4096) (Pp := fun q : List UInt8 × T => q.1.length ≤ 100000 ∧ ∀ h, sbd h q.2) (fun l x r h hl => by
                          refine ⟨?_, pr_le (pv_le n) h⟩
                          unfold pr at h
                          have b1 := sk_le l
                          split at h
                          · cases h
                          · rename_i s q hq
                            have b2 := qt_le hq
                            have b3 := sk_le q
                            have b4 := tk_le [58] (sk q)
                            have b5 := qt_l4 hq
                            split at h
                            · split at h
                              · cases h
                              · rename_i v t hv
                                cases h
                                exact ⟨by show s.length ≤ 100000; omega, pv_sbd n _ _ _ hv (by omega)⟩
                            · cases h) hq (by omega)
                        cases hh with
                        | zero => exact True.intro
                        | succ hh => exact ⟨by simp, by simp, fun q hq => ⟨by have := (g1 q hq).1; omega, (g1 q hq).2 hh⟩⟩
                      · cases h
                · split at h
                  · cases h
                  · cases h; exact sbd_leaf (by simp)
end Go.Proofs.YtbemaloaobeblaaGreatDoor

namespace Go.Proofs.YtbemaloaobeblaaGreatDoor
open Go.RowKit Go.Shelf

theorem gd_head {m : Nat} {k i : Int} {s : List UInt8} {l : List T} {p : List (List UInt8 × T)} (h : gd m (.mk k i s l p) = true) : (k = 0 ∨ k = 1 ∨ k = 2 ∨ k = 3 ∨ k = 4 ∨ k = 5) ∧ (k = 2 → -9007199254740991 ≤ i ∧ i ≤ 9007199254740991) := by
  unfold gd at h
  rw [Bool.and_eq_true] at h
  have h2 := h.2
  refine ⟨?_, fun hk => ?_⟩
  · by_cases h0 : k = 0
    · exact .inl h0
    by_cases h1 : k = 1
    · exact .inr (.inl h1)
    by_cases h3 : k = 2
    · exact .inr (.inr (.inl h3))
    by_cases h4 : k = 3
    · exact .inr (.inr (.inr (.inl h4)))
    by_cases h5 : k = 4
    · exact .inr (.inr (.inr (.inr (.inl h5))))
    by_cases h6 : k = 5
    · exact .inr (.inr (.inr (.inr (.inr h6))))
    simp [h0, h1, h3, h4, h5, h6] at h2
  · subst hk
    simp [inR] at h2
    exact h2
def Vw (n : Nat) : Prop := ∀ {F : Nat → Prop} {w : World} {q m : Nat} {ov : Value} {z : List UInt8} {t : T} {c : List Value}, hgt n t → gd m t = true → VA F w t c → Fr F w q ov → Wt w q ov z → Ev w → 8 ≤ q →
  Calls Tryz.prog 37 #[.pointer (some ⟨q, 0, none⟩), .agg c.toArray] w (AnK q ov (z ++ cz n t) w)
theorem Ev.wk {w w' : World} {q : Nat} {ov ov' : Value} {z : List UInt8} (h : Ev w) (hW : Wt w q ov z) (hk : Wk q ov ov' w w') (h8 : 8 ≤ q) : Ev w' := h.same fun k hk8 => by
  have hq := (Array.getElem?_eq_some_iff.1 hW.box).1
  obtain ⟨out, ho, _⟩ := hW.own
  exact hk.block k (by omega) (by omega) fun e => by have := ho.block k e; omega
theorem vw_s {n : Nat} (ih : Vw n) : Vw (n + 1) := by
  intro F w q m ov z t c hh hg hv hF hW hT h8
  have hq := (Array.getElem?_eq_some_iff.1 hW.box).1
  cases hv with
  | @mk k ki s l p sl sp cl cp r1 r2 e1 e2 hl hp1 hp2 =>
    obtain ⟨b1, b2, hh1, hh2⟩ := hh
    obtain ⟨g1, g2, _, _⟩ := gd_list hg
    obtain ⟨hk, hr⟩ := gd_head hg
    show Calls Tryz.prog 37 #[.pointer (some ⟨q, 0, none⟩), .agg #[.int .i64 k, .int .i64 ki, .string (st s), sl, sp]] w _
    have hsame : ∀ {k1 k2 : List UInt8}, k1 = k2 → ∀ e w', AnK q ov (z ++ k1) w e w' → AnK q ov (z ++ k2) w e w' := fun e _ _ h => e ▸ h
    rcases hk with rfl | rfl | rfl | rfl | rfl | rfl
    · exact (val_0 hW).mono (hsame (by simp [cz]))
    · exact (val_1 hW).mono (hsame (by simp [cz]))
    · exact (val_2 (by have := hr rfl; omega) hT (by omega) hW).mono (hsame (by simp [cz]))
    · exact (val_3 hW).mono (hsame (by simp [cz]))
    · refine (val_4 (X := 91 :: (cj (l.map (cz n)) ++ [93])) (fun w1 hb hW1 => ?_) hW).mono (hsame (by simp [cz]))
      have k1 : Wk q ov ov w w1 := Wk.ofB hb
      refine rowV_d (r1.wk hF k1) e1 (fun c hc => ?_) (by omega) (hF.wk k1) hW1 (fun j t c h1 h2 w' ov' z' hk hW' => ?_)
      · obtain ⟨j, hj, rfl⟩ := List.mem_iff_getElem.1 hc
        exact (hl j _ _ (List.getElem?_eq_getElem (by omega)) (List.getElem?_eq_getElem hj)).one
      · have ht := List.mem_of_getElem? h1
        obtain ⟨m', hm'⟩ : ∃ m', gd m' t = true := by
          rcases g1 with e | ⟨m', _, g⟩
          · rw [e] at ht; simp at ht
          · exact ⟨m', g t ht⟩
        exact ih (hh1 t ht) hm' (((hl j t c h1 h2).wk hF k1).wk (hF.wk k1) hk) ((hF.wk k1).wk hk) hW' ((hT.below hb (by omega)).wk hW1 hk h8) h8
    · refine (val_5 (X := 123 :: (cj (p.map fun q => qu q.1 ++ 58 :: cz n q.2) ++ [125])) (fun w1 hb hW1 => ?_) hW).mono (hsame (by simp [cz]))
      have k1 : Wk q ov ov w w1 := Wk.ofB hb
      have hcell : ∀ (j : Nat) (u : List UInt8 × T) (c : List Value), p[j]? = some u → cp[j]? = some c → ∃ r, c = Value.string (st u.1) :: r ∧ r.length = 5 ∧ VA F w u.2 r := fun j u c h1 h2 => by
        have h6 := r2.1 c (List.mem_of_getElem? h2)
        have h7 := hp1 j u c h1 h2
        have h8 := hp2 j u c h1 h2
        cases c with
        | nil => simp at h6
        | cons x r => simp at h7; subst h7; exact ⟨r, rfl, by simpa using h6, h8⟩
      refine rowP_d (f := fun q => qu q.1 ++ 58 :: cz n q.2) (r2.wk hF k1) e2 (fun c hc => ?_) (by omega) (hF.wk k1) hW1 (fun j u c h1 h2 w' ov' z' hk hW' => ?_)
      · obtain ⟨j, hj, rfl⟩ := List.mem_iff_getElem.1 hc
        obtain ⟨r, hr1, _, hr3⟩ := hcell j _ _ (List.getElem?_eq_getElem (by omega)) (List.getElem?_eq_getElem hj)
        rw [hr1]
        show (true && r.all (·.oneCell')) = true
        rw [hr3.one]; rfl
      · obtain ⟨r, rfl, hr2, hr3⟩ := hcell j u c h1 h2
        have ht := List.mem_of_getElem? h1
        obtain ⟨m', hm'⟩ : ∃ m', gd m' u.2 = true := by
          rcases g2 with e | ⟨m', _, g⟩
          · rw [e] at ht; simp at ht
          · exact ⟨m', g u ht⟩
        refine pair_w hr2 hW' fun w2 ov2 z2 hk2 hW2 => ?_
        have hT' := (hT.below hb (by omega)).wk hW1 hk h8
        exact ih (hh2 u ht) hm' (((hr3.wk hF k1).wk (hF.wk k1) hk).wk ((hF.wk k1).wk hk) hk2) (((hF.wk k1).wk hk).wk hk2) hW2 (hT'.wk hW' hk2 h8) h8
theorem vw : ∀ n, Vw n
  | 0 => fun hh => hh.elim
  | n + 1 => vw_s (vw n)
theorem ss_mem {α : Type} {lt : α → α → Bool} {l : List α} {x : α} : x ∈ ss lt l ↔ x ∈ l := (ss_perm l).mem_iff
theorem so_hgt : ∀ (d : Nat) {h : Nat} {t : T}, hgt h t → hgt h (so d t)
  | 0, _, _, hh => hh
  | _ + 1, 0, _, hh => hh.elim
  | d + 1, h + 1, .mk k i s l p, hh => by
    obtain ⟨b1, b2, h1, h2⟩ := hh
    refine ⟨by rw [List.length_map]; exact b1, by rw [ss_len, List.length_map]; exact b2, fun t ht => ?_, fun q hq => ?_⟩
    · obtain ⟨u, hu, rfl⟩ := List.mem_map.1 ht
      exact so_hgt d (h1 u hu)
    · obtain ⟨u, hu, rfl⟩ := List.mem_map.1 (ss_mem.1 hq)
      exact so_hgt d (h2 u hu)
theorem so_gd : ∀ (d : Nat) {n : Nat} {t : T}, gd n t = true → gd n (so d t) = true
  | 0, _, _, hg => hg
  | d + 1, n, .mk k i s l p, hg => by
    show gd n (.mk k i s (l.map (so d)) (ss ltT (p.map fun q => (q.1, so d q.2)))) = true
    unfold gd at hg ⊢
    rw [List.length_map, ss_len, List.length_map]
    rw [Bool.and_eq_true] at hg ⊢
    refine ⟨hg.1, ?_⟩
    have h2 := hg.2
    by_cases h0 : k = 0
    · simp [h0]
    by_cases h1 : k = 1
    · simpa [h1] using h2
    by_cases h3 : k = 2
    · simpa [h3] using h2
    by_cases h4 : k = 3
    · simpa [h4] using h2
    by_cases h5 : k = 4
    · subst h5
      cases n with
      | zero => simp at h2
      | succ n =>
        simp only [Int.reduceEq, if_false, if_true] at h2 ⊢
        rw [List.all_eq_true] at h2 ⊢
        intro x hx
        obtain ⟨u, hu, rfl⟩ := List.mem_map.1 hx
        exact so_gd d (h2 u hu)
    by_cases h6 : k = 5
    · subst h6
      cases n with
      | zero => simp at h2
      | succ n =>
        simp only [Int.reduceEq, if_false, if_true] at h2 ⊢
        rw [Bool.and_eq_true] at h2 ⊢
        refine ⟨?_, ?_⟩
        · rw [List.all_eq_true]
          intro x hx
          obtain ⟨u, hu, rfl⟩ := List.mem_map.1 (ss_mem.1 hx)
          have := List.all_eq_true.1 h2.1 u hu
          rw [Bool.and_eq_true] at this ⊢
          exact ⟨this.1, so_gd d this.2⟩
        · have h3 := h2.2
          unfold onc at h3 ⊢
          rw [decide_eq_true_eq] at h3 ⊢
          have hp : ((ss ltT (p.map fun q => (q.1, so d q.2))).map (·.1)).Perm (p.map (·.1)) := by
            refine ((ss_perm _).map _).trans ?_
            rw [List.map_map]
            exact List.Perm.refl _
          exact hp.nodup_iff.2 h3
    · simp [h0, h1, h3, h4, h5, h6] at h2
theorem gd_hgt : ∀ {n h : Nat} {t : T}, hgt h t → gd n t = true → hgt (n + 1) t
  | _, 0, _, hh, _ => hh.elim
  | n, h + 1, .mk k i s l p, hh, hg => by
    obtain ⟨b1, b2, h1, h2⟩ := hh
    obtain ⟨g1, g2, _⟩ := gd_list hg
    refine ⟨b1, b2, fun t ht => ?_, fun q hq => ?_⟩
    · rcases g1 with e | ⟨m, e, g⟩
      · rw [e] at ht; simp at ht
      · subst e; exact gd_hgt (h1 t ht) (g t ht)
    · rcases g2 with e | ⟨m, e, g⟩
      · rw [e] at hq; simp at hq
      · subst e; exact gd_hgt (h2 q hq) (g q hq)
def ct (t : T) : List UInt8 := cz 9 (so 8 t)
def bx2 (w : World) (c : Array Value) : World := (w.alloc (.cells c 28)).alloc (.cells #[.int .i64 0, .int .i64 0, .string ⟨#[]⟩, .slice none 0 0, .slice none 0 0] 28)
theorem bx2_bl (w : World) (c : Array Value) : Below w.heap.size w (bx2 w c) := blw_al ((Below.refl _ _).alloc (Nat.le_refl _) _) (by simp) _
theorem bx2_at (w : World) (c : Array Value) : (bx2 w c).heap[w.heap.size + 1]? = some (.cells #[.int .i64 0, .int .i64 0, .string ⟨#[]⟩, .slice none 0 0, .slice none 0 0] 28 (0, 0)) := by
  show ((w.heap.push _).push _)[w.heap.size + 1]? = _
  rw [Array.getElem?_push, if_pos (by simp)]
theorem srt_d {h : Nat} {F : Nat → Prop} {w : World} {t : T} {c : List Value} (hh : hgt h t) (hg : gd 8 t = true) (hv : VA F w t c) : Calls Tryz.prog 24 #[.agg c.toArray] w (AnC w (so 8 t)) := by
  have hb := bx2_bl w c.toArray
  have hr := bx2_at w c.toArray
  have hc := sorted_d 8 (Nat.le_refl _) hh hg (hv.frame (w' := bx2 w c.toArray) (G := fun _ => True) (fun k _ hk => hb.block k hk) (fun _ _ _ => trivial))
  obtain ⟨x0, x1, x2, x3, x4, rfl⟩ := five_l hv.len
  replace hc : Calls Tryz.prog 41 #[.agg #[x0, x1, x2, x3, x4], .int .i64 8] (bx2 w #[x0, x1, x2, x3, x4]) _ := hc
  clear hv
  show Calls Tryz.prog 24 #[.agg #[x0, x1, x2, x3, x4]] w _
  obtain ⟨wb, hwb⟩ : ∃ wb, wb = bx2 w #[x0, x1, x2, x3, x4] := ⟨_, rfl⟩
  have hr' : wb.heap[w.heap.size + 1]? = some (.cells #[.int .i64 0, .int .i64 0, .string ⟨#[]⟩, .slice none 0 0, .slice none 0 0] 28 (0, 0)) := by rw [hwb]; exact hr
  have hb' : Below w.heap.size w wb := by rw [hwb]; exact hb
  have hsz : w.heap.size + 1 < wb.heap.size := (Array.getElem?_eq_some_iff.1 hr').1
  rw [← hwb] at hc
  clear hr hb
  replace hr' := hide1 hr'
  replace hb' := hide1 hb'
  go_enter Tryz.func24, Tryz.ntmps24
  go_wp2_with fail
  rw [show (w.alloc (.cells #[x0, x1, x2, x3, x4] 28)).alloc (.cells #[.int .i64 0, .int .i64 0, .string ⟨#[]⟩, .slice none 0 0, .slice none 0 0] 28) = wb from hwb.symm]
  refine hc.mono ?_
  rintro e w1 ⟨c1, rfl, h5, b1, hv1⟩
  have hr1 := (b1.block _ hsz).trans hr'.out
  have hb1 := hb'.out.trans (b1.mono hb'.out.size)
  have h1c := hv1.one
  obtain ⟨y0, y1, y2, y3, y4, hce⟩ := five_l (l := c1.toList) (by simpa using h5)
  obtain rfl : c1 = #[y0, y1, y2, y3, y4] := by cases c1; simp at hce; simp [hce]
  have hz := setRow_heap w1 (w.heap.size + 1) _ #[y0, y1, y2, y3, y4] _ _ hr1
  have ha : Hid (AnC w (so 8 t) (.returned (.agg #[y0, y1, y2, y3, y4])) (w1.setRow (w.heap.size + 1) #[y0, y1, y2, y3, y4])) := hide1 ⟨_, rfl, rfl, blw_own hb1 (by omega) _, VA.frame (c := [y0, y1, y2, y3, y4]) hv1 (fun k hk _ => setRow_other w1 _ k _ (by have h1 : wb.heap.size ≤ k := hk; omega)) (fun k hk _ => by have h1 : wb.heap.size ≤ k := hk; have := hb'.out.size; show w.heap.size ≤ k; omega)⟩
  replace hz := hide1 hz
  clear hwb hc hv1 hb1 hr' hb' b1 hce h5
  go_wp2_with (refine wpList_store_row rfl Vt (.tmp 2) (.tmp 4) rfl (w.heap.size + 1) #[y0, y1, y2, y3, y4] rfl rfl Vt _ hr1 (by kernel_rfl) rfl (by simpa using h1c) ?_)
  refine bodyPost_ret (results_v1 rfl _ rfl rfl hz.out) rfl ?_
  exact ha.out
def AnT (w : World) (t : T) (e : Ending) (w' : World) : Prop := ∃ v ev, e = .returned (.tuple #[v, ev]) ∧ Below w.heap.size w w' ∧
  ((gd 8 t = false ∧ v = .slice none 0 0 ∧ ev = .iface 52 (.int .i64 1)) ∨ (gd 8 t = true ∧ 4096 < (ct t).length ∧ v = .slice none 0 0 ∧ ev = .iface 52 (.int .i64 10)) ∨
    (gd 8 t = true ∧ (ct t).length ≤ 4096 ∧ ev = .nilIface ∧ Ow w' w.heap.size v (ct t)))
set_option maxHeartbeats 4000000 in
set_option maxRecDepth 100000 in
theorem put_c {h : Nat} {F : Nat → Prop} {w : World} {t : T} {c : List Value} (hh : hgt h t) (hs : sbd h t) (hv : VA F w t c) (hT : Ev w) (h8 : 8 ≤ w.heap.size) : Calls Tryz.prog 20 #[.agg c.toArray] w (AnT w t) := by
  obtain ⟨x0, x1, x2, x3, x4, rfl⟩ := five_l hv.len
  obtain ⟨wb, hwb⟩ : ∃ wb, wb = w.alloc (.cells #[x0, x1, x2, x3, x4] 28) := ⟨_, rfl⟩
  have hB : Below w.heap.size w wb := by rw [hwb]; exact (Below.refl _ _).alloc (Nat.le_refl _) _
  have hn : wb.heap[w.heap.size]? = some (.cells #[x0, x1, x2, x3, x4] 28 (0, 0)) := by
    rw [hwb]
    show (w.heap.push _)[w.heap.size]? = _
    rw [Array.getElem?_push, if_pos rfl]
  have hvb : VA F wb t [x0, x1, x2, x3, x4] := hv.frame (fun k _ hk => hB.block k hk) (fun _ h _ => h)
  have hTb := hT.below hB (by omega)
  have hsb := hB.size
  have hck := check_d hh hs hvb hTb (by omega)
  replace hck : Calls Tryz.prog 17 #[.agg #[x0, x1, x2, x3, x4]] wb _ := hck
  have hl5 : wb.rangeAt w.heap.size 0 [x0, x1, x2, x3, x4] := fun j u hj => by
    simp only [World.cell?, hn]
    rw [Nat.zero_add]
    simpa using hj
  have hql : w.heap.size < wb.heap.size := (Array.getElem?_eq_some_iff.1 hn).1
  replace hB := hide1 hB
  replace hn := hide1 hn
  replace hvb := hide1 hvb
  replace hTb := hide1 hTb
  clear hv hT
  show Calls Tryz.prog 20 #[.agg #[x0, x1, x2, x3, x4]] w _
  go_enter Tryz.func20, Tryz.ntmps20
  go_upto_region 1 with fail
  rw [← hwb]
  clear hwb
  go_wp2_with (first | refine wpList_load_mid rfl 28 (.tmp 1) rfl w.heap.size 0 rfl [x0, x1, x2, x3, x4] _ hl5 Tryz.underlying28 rfl (by kernel_rfl) ?_ | fail)
  refine hck.mono ?_
  rintro e w1 ⟨rfl, b1⟩
  have hB1 := hide1 (hB.out.trans (b1.mono hB.out.size))
  cases hg : gd 8 t with
  | false =>
    clear hck hl5
    go_wp2
    go_ret2
    exact ⟨_, _, rfl, hB1.out, .inl ⟨hg, rfl, rfl⟩⟩
  | true =>
    have hv1 := hide1 (hvb.out.frame (w' := w1) (G := fun k => F k ∧ k < wb.heap.size) (fun k _ hk => b1.block k hk) (fun _ h hk => ⟨h, hk⟩))
    have hT1 := hide1 (hTb.out.below b1 (by omega))
    have hn1 := hide1 ((b1.block _ hql).trans hn.out)
    have hs1 := b1.size
    clear hck hl5 hvb hTb hn b1
    obtain ⟨w2, hw2⟩ : ∃ w2, w2 = w1.alloc (.cells #[.slice none 0 0, .bool false] 66) := ⟨_, rfl⟩
    have b2 : Below w1.heap.size w1 w2 := by rw [hw2]; exact (Below.refl _ _).alloc (Nat.le_refl _) _
    have hq2 : w2.heap[w1.heap.size]? = some (.cells #[.slice none 0 0, .bool false] 66 (0, 0)) := by
      rw [hw2]
      show (w1.heap.push _)[w1.heap.size]? = _
      rw [Array.getElem?_push, if_pos rfl]
    have hW2 : Wt w2 w1.heap.size (.slice none 0 0) [] := ⟨hq2, [], ⟨rfl, .inl ⟨rfl, rfl⟩⟩, by simp, .inr rfl⟩
    have hs2 := b2.size
    have hn2 := (b2.block _ (by omega)).trans hn1.out
    have hl5 : w2.rangeAt w.heap.size 0 [x0, x1, x2, x3, x4] := fun j u hj => by
      simp only [World.cell?, hn2]
      rw [Nat.zero_add]
      simpa using hj
    have hsd := srt_d hh hg (hv1.out.frame (w' := w2) (G := fun _ => True) (fun k _ hk => b2.block k hk) (fun _ _ _ => trivial))
    replace hsd : Calls Tryz.prog 24 #[.agg #[x0, x1, x2, x3, x4]] w2 _ := hsd
    have hT2 := hide1 (hT1.out.below b2 (by omega))
    have hB2 := hide1 (hB1.out.trans (b2.mono hB1.out.size))
    replace hW2 := hide1 hW2
    have hql2 : w1.heap.size < w2.heap.size := (Array.getElem?_eq_some_iff.1 hq2).1
    clear hB1 hT1 hv1 hn1 hn2 b2 hq2
    go_upto_region 4 with fail
    rw [← hw2]
    clear hw2
    go_wp2_with (first | refine wpList_load_mid rfl 28 (.tmp 1) rfl w.heap.size 0 rfl [x0, x1, x2, x3, x4] _ hl5 Tryz.underlying28 rfl (by kernel_rfl) ?_ | fail)
    refine hsd.mono ?_
    rintro e w3 ⟨c3, rfl, h5, b3, hv3⟩
    have hW3 := hW2.out.below b3
    have hT3 := hT2.out.below b3 (by omega)
    have hB3 := hide1 (hB2.out.trans (b3.mono hB2.out.size))
    have hF3 : Fr (w2.heap.size ≤ ·) w3 w1.heap.size (.slice none 0 0) := fun k hk _ => ⟨by have h1 : w2.heap.size ≤ k := hk; omega, fun e => by cases e⟩
    have hvw := vw 9 (so_hgt 8 (gd_hgt hh hg)) (so_gd 8 hg) hv3 hF3 hW3 hT3 (by omega)
    have hs3 := b3.size
    clear hsd hW3 hT3 hF3 hv3 hl5 b3 hT2 hW2 hB2
    go_wp2_with fail
    refine hvw.mono ?_
    rintro e w4 ⟨rfl, ov, hW4, k4⟩
    have hB4 : Hid (Below w.heap.size w w4) := hide1 ⟨k4.os.trans hB3.out.os, k4.tape.trans hB3.out.tape, k4.output.trans hB3.out.output, Nat.le_trans hB3.out.size k4.size, fun k hk => (k4.block k (by have := hB3.out.size; omega) (by omega) (fun e => by cases e)).trans (hB3.out.block k hk)⟩
    have hW5 : Wt w4 w1.heap.size ov (ct t) := hW4
    obtain ⟨hbx, out, ho, hol, hoz⟩ := hW5
    have c1 : w4.cell? ⟨w1.heap.size, 1, none⟩ = some (.bool (decide (4096 < (ct t).length))) := by simp only [World.cell?, hbx]; rfl
    have c0 : w4.cell? ⟨w1.heap.size, 0, none⟩ = some ov := by simp only [World.cell?, hbx]; rfl
    clear hvw hW4 k4 hB3 hbx
    by_cases hov : 4096 < (ct t).length
    · rw [decide_eq_true hov] at c1
      have hf : Hid (AnT w t (.returned (.tuple #[.slice none 0 0, .iface 52 (.int .i64 10)])) w4) := hide1 ⟨_, _, rfl, hB4.out, .inr (.inl ⟨hg, hov, rfl, rfl⟩)⟩
      clear ho hoz hov
      go_wp2
      go_ret2
      exact hf.out
    · rw [decide_eq_false hov] at c1
      obtain rfl : out = ct t := hoz.resolve_left hov
      obtain ⟨oa, oc, rfl⟩ := ho.slc
      have ho2 : Ow w4 w.heap.size (.slice oa (ct t).length oc) (ct t) := by
        obtain ⟨g1, g2 | ⟨g', cap, cur, e1, e2, e3⟩⟩ := ho
        · exact ⟨g1, .inl g2⟩
        · exact ⟨g1, .inr ⟨g', cap, cur, e1, by omega, e3⟩⟩
      have hf : Hid (AnT w t (.returned (.tuple #[.slice oa (ct t).length oc, .nilIface])) w4) := hide1 ⟨_, _, rfl, hB4.out, .inr (.inr ⟨hg, hol, rfl, ho2⟩)⟩
      clear ho hoz hov ho2
      generalize (ct t).length = N at *
      go_wp2
      go_ret2
      exact hf.out
end Go.Proofs.YtbemaloaobeblaaGreatDoor

namespace Go.Proofs.YtbemaloaobeblaaGreatDoor
open Go.RowKit

theorem Kg.grown {g : Nat} {w0 w w' : World} {row : Option Nat} (h : Kg g w0 w) (k : w.grownBy w' row) (hr : ∀ r, row = some r → w0.heap.size ≤ r) : Kg g w0 w' :=
  ⟨k.os.trans h.os, k.tape.trans h.tape, k.output.trans h.output, Nat.le_trans h.size k.size, fun j hj hn => (k.block j (Nat.lt_of_lt_of_le hj h.size) (fun e => by
    have := hr j e.symm
    omega)).trans (h.block j hj hn)⟩
theorem Ow.kg {g : Nat} {w w' : World} {B : Nat} {v : Value} {l : List UInt8} (h : Ow w B v l) (k : Kg g w w') (hg : g < B) : Ow w' B v l := own_kept h fun b e => k.block b (h.lt b e).2 (by have := (h.lt b e).1; omega)
theorem Tg.of {sl : Value} {B : List UInt8} {g p q : Nat} {bad bad' : Bool} {w w' : World} (h : Tg sl B g p bad w) (k : Kg g w w') (hb : w'.heap[g]? = some (.cells #[sl, .int .i64 (q : Nat), .bool bad'] 60 (0, 0))) : Tg sl B g q bad' w' :=
  ⟨hb, h.bs.same k.size fun hl a n c e ha => k.block _ ha (h.ng hl a n c e), h.ng, h.cp⟩
section
variable {sl : Value} {B : List UInt8} {g p : Nat} {w w' : World}
end
structure Lx (sl : Value) (B : List UInt8) (g q : Nat) (bad : Bool) (w0 : World) (v : Value) (W : World) : Prop where
  tg : Tg sl B g q bad W
  kg : Kg g w0 W
  r4 : W.heap[w0.heap.size]? = some (.cells zV 28 (0, 0))
  r5 : W.heap[w0.heap.size + 1]? = some (.cells #[.int .i64 4, .int .i64 0, .string ⟨#[]⟩, v, .slice none 0 0] 28 (0, 0))
  sz : w0.heap.size + 2 ≤ W.heap.size
  sh : ∃ a m c, v = .slice a m c
structure Lv (sl : Value) (B : List UInt8) (g q : Nat) (bad : Bool) (w0 : World) (v : Value) (cs : List (List Value)) (xs : List T) (W : World) : Prop extends Lx sl B g q bad w0 v W where
  row : W.ownsRow (w0.heap.size + 2) 28 5 v cs.length cs.flatten
  ln : ∀ c ∈ cs, c.length = 5
  el : cs.length = xs.length
  va : ∀ (j : Nat) (t : T) (c : List Value), xs[j]? = some t → cs[j]? = some c → VA (fun k => w0.heap.size + 2 ≤ k ∧ some k ≠ v.ownBlock) W t c
section
variable {sl : Value} {B : List UInt8} {g p q q' n : Nat} {bad bad' : Bool} {w w' w0 W W' wr : World} {v v0 v' : Value} {cs : List (List Value)} {xs : List T} {o : Option (T × List UInt8)} {c : Array Value} {d : Int}
theorem Lx.step (h : Lx sl B g q bad w0 v W) (hg : g < w0.heap.size) (k : Kg g W W') (t : Tg sl B g q' bad' W') : Lx sl B g q' bad' w0 v W' := by
  have hs := h.sz
  exact ⟨t, h.kg.trans k, (k.block _ (by omega) (by omega)).trans h.r4, (k.block _ (by omega) (by omega)).trans h.r5, Nat.le_trans hs k.size, h.sh⟩
theorem Lv.step (h : Lv sl B g q bad w0 v cs xs W) (hg : g < w0.heap.size) (k : Kg g W W') (t : Tg sl B g q' bad' W') : Lv sl B g q' bad' w0 v cs xs W' :=
  ⟨h.toLx.step hg k t, own_kept h.row fun b e => k.block b (h.row.lt b e).2 (by have := (h.row.lt b e).1; omega), h.ln, h.el,
    fun j t c h1 h2 => (h.va j t c h1 h2).frame (fun k' hk hs => k.block k' hs (by have := hk.1; omega)) (fun _ hk _ => hk)⟩
def P4 (sl : Value) (B : List UInt8) (g n : Nat) (o : Option (T × List UInt8)) (wr : World) (c : Array Value) (w : World) : Prop :=
  c.size = 5 ∧ c.all (·.oneCell') = true ∧ ∃ q, Tg sl B g q o.isNone w ∧ Kg g wr w ∧ q ≤ B.length + 2 + n ∧ ∀ t r, o = some (t, r) → VA (wr.heap.size ≤ ·) w t c.toList ∧ B.drop q = r ∧ q ≤ B.length
theorem P4.later (h : P4 sl B g n o wr c w) (hb : Below w.heap.size w w') : P4 sl B g n o wr c w' := by
  obtain ⟨h1, h2, q, t, k, hq, hv⟩ := h
  exact ⟨h1, h2, q, t.later hb, k.trans (Kg.of hb), hq, fun t r e => ⟨(hv t r e).1.frame (fun j _ hj => hb.block j hj) (fun _ h _ => h), (hv t r e).2⟩⟩
end
structure Ox (sl : Value) (B : List UInt8) (g q : Nat) (bad : Bool) (w0 : World) (v : Value) (W : World) : Prop where
  tg : Tg sl B g q bad W
  kg : Kg g w0 W
  r4 : W.heap[w0.heap.size]? = some (.cells zV 28 (0, 0))
  r5 : W.heap[w0.heap.size + 1]? = some (.cells #[.int .i64 5, .int .i64 0, .string ⟨#[]⟩, .slice none 0 0, v] 28 (0, 0))
  sz : w0.heap.size + 2 ≤ W.heap.size
  sh : ∃ a m c, v = .slice a m c
structure Ov (sl : Value) (B : List UInt8) (g q : Nat) (bad : Bool) (w0 : World) (v : Value) (cs : List (List Value)) (xs : List (List UInt8 × T)) (W : World) : Prop extends Ox sl B g q bad w0 v W where
  row : W.ownsRow (w0.heap.size + 2) 49 6 v cs.length cs.flatten
  ln : ∀ c ∈ cs, c.length = 6
  el : cs.length = xs.length
  hd : ∀ (j : Nat) (t : List UInt8 × T) (c : List Value), xs[j]? = some t → cs[j]? = some c → c.head? = some (Value.string (st t.1))
  va : ∀ (j : Nat) (t : List UInt8 × T) (c : List Value), xs[j]? = some t → cs[j]? = some c → VA (fun k => w0.heap.size + 2 ≤ k ∧ some k ≠ v.ownBlock) W t.2 c.tail
section
variable {sl : Value} {B : List UInt8} {g p q q' n : Nat} {bad bad' : Bool} {w w' w0 W W' wr : World} {v v0 v' : Value} {cs : List (List Value)} {xs : List (List UInt8 × T)} {c ce : Array Value} {nm : List UInt8}
theorem Ox.step (h : Ox sl B g q bad w0 v W) (hg : g < w0.heap.size) (k : Kg g W W') (t : Tg sl B g q' bad' W') : Ox sl B g q' bad' w0 v W' := by
  have hs := h.sz
  exact ⟨t, h.kg.trans k, (k.block _ (by omega) (by omega)).trans h.r4, (k.block _ (by omega) (by omega)).trans h.r5, Nat.le_trans hs k.size, h.sh⟩
theorem Ov.step (h : Ov sl B g q bad w0 v cs xs W) (hg : g < w0.heap.size) (k : Kg g W W') (t : Tg sl B g q' bad' W') : Ov sl B g q' bad' w0 v cs xs W' :=
  ⟨h.toOx.step hg k t, own_kept h.row fun b e => k.block b (h.row.lt b e).2 (by have := (h.row.lt b e).1; omega), h.ln, h.el, h.hd,
    fun j t c h1 h2 => (h.va j t c h1 h2).frame (fun k' hk hs => k.block k' hs (by have := hk.1; omega)) (fun _ hk _ => hk)⟩
theorem Ov.val (h : Ov sl B g q bad w0 v cs xs W) : VA (fun k => w0.heap.size + 2 ≤ k) W (.mk 5 0 [] [] xs) [.int .i64 5, .int .i64 0, .string ⟨#[]⟩, .slice none 0 0, v] := by
  have hrw : RwA (fun k => w0.heap.size + 2 ≤ k) W 49 6 v cs := by
    refine ⟨h.ln, ?_⟩
    obtain ⟨hl, ⟨h1, h2⟩ | ⟨g', cap, cur, h1, hB, hg, hcap, hm, hcs, htk⟩⟩ := h.row
    · exact .inl ⟨none, 0, h1, List.length_eq_zero_iff.1 h2⟩
    · refine .inr ⟨g', 0, cap, cur, (49, (0, 0)), h1, hB, hg, ?_, by simpa using htk⟩
      rw [hcs, Nat.zero_add]
      exact Nat.mul_le_mul_right 6 hcap
  exact VA.mk (s := []) .nil hrw rfl h.el (by simp) h.hd (fun j t c h1 h2 => (h.va j t c h1 h2).frame (fun k hk _ => rfl) (fun k hk _ => hk.1))
section
variable {ops : Array Oper} {rest : List Oper} {oo : Oper} {a : Act} {Q : Exit → Act → World → Prop}
end
end
section
variable {sl : Value} {B : List UInt8} {g p q q' n s6 : Nat} {bad bad' : Bool} {w w' w0 W W' : World} {o : Option (T × List UInt8)} {c c' : Array Value}
structure Vx (sl : Value) (B : List UInt8) (g q : Nat) (bad : Bool) (w0 : World) (s6 : Nat) (c : Array Value) (W : World) : Prop where
  tg : Tg sl B g q bad W
  kg : Kg g w0 W
  r4 : W.heap[w0.heap.size]? = some (.cells zV 28 (0, 0))
  r6 : W.heap[s6]? = some (.cells c 28 (0, 0))
  lt : w0.heap.size < s6
theorem Vx.step (h : Vx sl B g q bad w0 s6 c W) (hg : g < w0.heap.size) (k : Kg g W W') (t : Tg sl B g q' bad' W') : Vx sl B g q' bad' w0 s6 c W' := by
  have h1 := h.lt
  exact ⟨t, h.kg.trans k, (k.block _ (Array.getElem?_eq_some_iff.1 h.r4).1 (by omega)).trans h.r4, (k.block _ (Array.getElem?_eq_some_iff.1 h.r6).1 (by omega)).trans h.r6, h1⟩
theorem Vx.put (ht0 : Tg sl B g p false w0) (h : Vx sl B g q bad w0 s6 c W) (c' : Array Value) : Vx sl B g q bad w0 s6 c' (W.setRow s6 c') := by
  have h1 := h.lt
  have hg := ht0.lt
  have kk := h.kg.own (b := s6) (by omega) c'
  exact ⟨Tg.of ht0 kk ((setRow_other W _ g _ (by omega)).trans h.tg.box), kk, (setRow_other W _ _ _ (by omega)).trans h.r4, setRow_heap W s6 _ _ _ _ h.r6, h1⟩
end
end Go.Proofs.YtbemaloaobeblaaGreatDoor

namespace Go.Proofs.YtbemaloaobeblaaGreatDoor
open Go.RowKit Go.Shelf

def Mkd (w : World) (g cap : Nat) (l : List UInt8) : Prop := l.length + 2 ≤ cap ∧ cap ≤ maxLen ∧ ∃ cur, w.heap[g]? = some (.cells cur 5 (0, 0)) ∧ ∀ (j : Nat) (x : UInt8), (l ++ [165, 90])[j]? = some x → cur[j]? = some (Value.int .u8 (x.toNat : Nat))
theorem Mkd.below {w w' : World} {g cap : Nat} {l : List UInt8} (h : Mkd w g cap l) (hb : Below w.heap.size w w') : Mkd w' g cap l := by
  obtain ⟨h1, h2, cur, hg, r⟩ := h
  exact ⟨h1, h2, cur, (hb.block g (Array.getElem?_eq_some_iff.1 hg).1).trans hg, r⟩
end Go.Proofs.YtbemaloaobeblaaGreatDoor

namespace Go.Proofs.YtbemaloaobeblaaGreatDoor
open Go.RowKit Go.Maps

structure Odw (w w' : World) (g : Nat) : Prop where
  os : w'.os = w.os
  tape : w'.tape = w.tape
  output : w'.output = w.output
  size : w'.heap.size = w.heap.size
  block : ∀ k, k ≠ g → w'.heap[k]? = w.heap[k]?
def Rwu (w : World) (g n : Nat) : Prop := ∃ cur, w.heap[g]? = some (.cells cur 5 (0, 0)) ∧ ∀ j, j < n → ∃ z : Nat, z < 256 ∧ cur[j]? = some (Value.int .u8 (z : Int))
theorem Odw.refl (w : World) (g : Nat) : Odw w w g := ⟨rfl, rfl, rfl, rfl, fun _ _ => rfl⟩
theorem Odw.cell {w w' : World} {g i : Nat} {v : Value} (h : Odw w w' g) : Odw w (w'.setCell ⟨g, i, none⟩ v) g := by
  refine ⟨h.os, h.tape, h.output, by simp [h.size], fun k hk => ?_⟩
  rw [Below.heap_setCell _ _ _ _ (by simpa using hk)]
  exact h.block k hk
theorem Odw.below {w w' : World} {g B : Nat} (h : Odw w w' g) (hB : B ≤ g) : Below B w w' := ⟨h.os, h.tape, h.output, by rw [h.size]; exact Nat.le_refl _, fun k hk => h.block k (by omega)⟩
theorem Rwu.cell {w : World} {g n i y : Nat} (h : Rwu w g n) (hy : y < 256) (hi : i < n) : Rwu (w.setCell ⟨g, i, none⟩ (.int .u8 (y : Int))) g n := by
  obtain ⟨cur, h1, h2⟩ := h
  refine ⟨cur.setIfInBounds i (.int .u8 (y : Int)), by simp [World.setCell, h1, Array.getElem?_modify], fun j hj => ?_⟩
  by_cases e : j = i
  · subst e
    obtain ⟨z, _, h3⟩ := h2 j hj
    have := (Array.getElem?_eq_some_iff.1 h3).1
    exact ⟨y, hy, by simp [this]⟩
  · obtain ⟨z, hz, h3⟩ := h2 j hj
    exact ⟨z, hz, by rw [Array.getElem?_setIfInBounds_ne (by omega)]; exact h3⟩
end Go.Proofs.YtbemaloaobeblaaGreatDoor

namespace Go.Proofs.YtbemaloaobeblaaGreatDoor
open Go.RowKit Go.Shelf

def bxw (w : World) (c : Array Value) : World := (w.alloc (.cells #[.int .i64 0, .int .i64 0, .string ⟨#[]⟩, .slice none 0 0, .slice none 0 0] 28)).setRow w.heap.size c
theorem bxw_z (w : World) : (w.alloc (.cells #[.int .i64 0, .int .i64 0, .string ⟨#[]⟩, .slice none 0 0, .slice none 0 0] 28)).heap[w.heap.size]? = some (.cells #[.int .i64 0, .int .i64 0, .string ⟨#[]⟩, .slice none 0 0, .slice none 0 0] 28 (0, 0)) := by
  show (w.heap.push _)[w.heap.size]? = _
  rw [Array.getElem?_push, if_pos rfl]
theorem bxw_at (w : World) (c : Array Value) : (bxw w c).heap[w.heap.size]? = some (.cells c 28 (0, 0)) := setRow_heap _ w.heap.size _ c _ _ (bxw_z w)
theorem bxw_bl (w : World) (c : Array Value) : Below w.heap.size w (bxw w c) := ⟨rfl, rfl, rfl, by simp [bxw, World.setRow], fun k hk => (setRow_other _ _ k _ (by omega)).trans (by
  show (w.heap.push _)[k]? = _
  rw [Array.getElem?_push, if_neg (by omega)])⟩
theorem bxw_sz (w : World) (c : Array Value) : (bxw w c).heap.size = w.heap.size + 1 := by simp [bxw, World.setRow]
theorem arr5q {c : Array Value} (h : c.size = 5) : ∃ a b d e f, c = #[a, b, d, e, f] := by
  obtain ⟨x0, x1, x2, x3, x4, hce⟩ := five_l (l := c.toList) (by simpa using h)
  exact ⟨x0, x1, x2, x3, x4, by cases c; simp at hce; simp [hce]⟩
def isC (l : List UInt8) : Bool := match prsV l with
  | none => false
  | some t => decide ((ct t).length ≤ 4096) && decide (ct t = l)
theorem prs_ok {l : List UInt8} {t : T} (h : prsV l = some t) : l.length ≤ 4096 ∧ hgt 9 t ∧ gd 8 t = true ∧ sbd 9 t := by
  have hl : l.length ≤ 4096 := by
    unfold prsV at h
    split at h
    · cases h
    · omega
  obtain ⟨r, hp⟩ : ∃ r, pv 8 l = some (t, r) := by
    unfold prsV at h
    rw [if_neg (by omega)] at h
    cases hpv : pv 8 l with
    | none => rw [hpv] at h; cases h
    | some x =>
      rw [hpv] at h
      obtain ⟨t', r⟩ := x
      simp only at h
      split at h
      · cases h; exact ⟨r, rfl⟩
      · cases h
  exact ⟨hl, pv_hgt 8 l t r hp hl, pv_gd 8 l t r hp hl, pv_sbd 8 l t r hp hl 9⟩
theorem st_beq (a b : List UInt8) : ((st a).toList == (st b).toList) = decide (a = b) := by
  have h := st_eq a b
  simp [← h]
set_option maxHeartbeats 4000000 in
set_option maxRecDepth 100000 in
theorem is_d {w : World} {v : Value} {l : List UInt8} (hb : BsA w v l) (hT : Ev w) (h8 : 8 ≤ w.heap.size) : Calls Tryz.prog 26 #[v] w fun e w' => e = .returned (.bool (isC l)) ∧ Below w.heap.size w w' := by
  have hp := parse_d hb hT h8
  obtain ⟨va, vc, rfl, hbb⟩ := hb
  have hb : BsA w (.slice va l.length vc) l := ⟨va, vc, rfl, hbb⟩
  clear hbb
  replace hT := hide1 hT
  replace hb := hide1 hb
  generalize hN : l.length = N at *
  replace hN := hide1 hN
  go_enter Tryz.func26, Tryz.ntmps26
  go_wp2_with fail
  refine hp.mono ?_
  rintro e w1 ⟨c, ev, rfl, h5, hco, b1, hc⟩
  obtain ⟨c0, c1, c2, c3, c4, rfl⟩ := arr5q h5
  go_upto_region 2 with (refine wpList_store_row rfl 28 (.tmp 3) (.tmp 9) rfl w1.heap.size #[c0, c1, c2, c3, c4] rfl rfl 28 _ (bxw_z w1) (by kernel_rfl) rfl hco ?_)
  have haA := bxw_at w1 #[c0, c1, c2, c3, c4]
  have hlA := bxw_bl w1 #[c0, c1, c2, c3, c4]
  have hsA := bxw_sz w1 #[c0, c1, c2, c3, c4]
  generalize hwe : bxw w1 #[c0, c1, c2, c3, c4] = wA at *
  rw [show (w1.alloc (.cells #[.int .i64 0, .int .i64 0, .string ⟨#[]⟩, .slice none 0 0, .slice none 0 0] 28)).setRow w1.heap.size #[c0, c1, c2, c3, c4] = wA from hwe]
  clear hwe
  have BA := hide1 (b1.trans (hlA.mono b1.size))
  rcases hc with ⟨t, ht, rfl, hv⟩ | ⟨ht, rfl, hz⟩
  · obtain ⟨hl4, hh, hg, hs⟩ := prs_ok ht
    have hvA := hv.frame (w' := wA) (G := fun k => w.heap.size ≤ k ∧ k < w1.heap.size) (fun j h hj => hlA.block j hj) (fun _ h hk => ⟨h, hk⟩)
    have hbA := hide1 (hb.out.below BA.out)
    have hpu := put_c hh hs hvA (hT.out.below BA.out (by omega)) (by have := BA.out.size; omega)
    replace hpu : Calls Tryz.prog 20 #[.agg #[c0, c1, c2, c3, c4]] wA _ := hpu
    have hl5 : wA.rangeAt w1.heap.size 0 [c0, c1, c2, c3, c4] := fun j u hj => by
      simp only [World.cell?, haA]
      rw [Nat.zero_add]
      simpa using hj
    clear hv hvA hlA haA hb b1
    go_wp2_with (first | refine wpList_load_mid rfl 28 (.tmp 3) rfl w1.heap.size 0 rfl [c0, c1, c2, c3, c4] _ hl5 Tryz.underlying28 rfl (by kernel_rfl) ?_ | fail)
    refine hpu.mono ?_
    rintro e w2 ⟨v2, ev2, rfl, b2, h2⟩
    have B2 := hide1 (BA.out.trans (b2.mono BA.out.size))
    have hb2 := hide1 (hbA.out.below b2)
    have hbv := conv_b hb2.out
    rcases h2 with ⟨hg', _⟩ | ⟨_, h4, rfl, rfl⟩ | ⟨_, h4, rfl, ho⟩
    · rw [hg] at hg'; cases hg'
    · have hi : isC l = false := by unfold isC; rw [ht]; simp; omega
      have hfin := hide1 (show (Ending.returned (.bool false) = .returned (.bool (isC l))) ∧ Below w.heap.size w w2 from ⟨by rw [hi], B2.out⟩)
      clear hpu hl5 hh hg hs hl4 ht h4 hp hi b2 hbA hb2 BA
      go_wp2
      go_ret
      exact hfin.out
    · have hi : isC l = decide (ct t = l) := by unfold isC; rw [ht]; simp; omega
      have hov := conv_b ho.bs
      have hfin := hide1 (show (Ending.returned (.bool ((st (ct t)).toList == (st l).toList)) = .returned (.bool (isC l))) ∧ Below w.heap.size w w2 from ⟨by rw [hi, st_beq], B2.out⟩)
      obtain ⟨oa, oc, rfl⟩ := ho.slc
      clear hpu hl5 hh hg hs hl4 ht hp hi b2 hbA hb2 BA ho
      generalize (ct t).length = M at *
      replace h4 := hide1 h4
      go_wp2
      go_ret
      exact hfin.out
  · have hi : isC l = false := by unfold isC; rw [ht]

    have hE : prsE l = 10 ∨ prsE l = 1 := by unfold prsE; split <;> simp
    have hfin := hide1 (show (Ending.returned (.bool false) = .returned (.bool (isC l))) ∧ Below w.heap.size w wA from ⟨by rw [hi], BA.out⟩)
    clear hp hi BA haA hlA b1 ht hz hsA hco h5
    generalize prsE l = E at *
    rcases hE with rfl | rfl <;> (go_wp2; go_ret; exact hfin.out)
def tx3 : List UInt8 := [123, 32, 34, 98, 34, 32, 58, 32, 49, 44, 32, 34, 97, 34, 32, 58, 32, 34, 92, 117, 48, 48, 52, 49, 34, 32, 125]
def tv3 : T := .mk 5 0 [] [] [([98], .mk 2 1 [] [] []), ([97], .mk 3 0 [65] [] [])]
def cx3 : List UInt8 := [123, 34, 97, 34, 58, 34, 65, 34, 44, 34, 98, 34, 58, 49, 125]
set_option maxRecDepth 100000 in
theorem prs3 : prsV tx3 = some tv3 := rfl
set_option maxRecDepth 100000 in
theorem ct3 : ct tv3 = cx3 := by kernel_rfl
set_option maxRecDepth 100000 in
theorem isc3 : isC cx3 = true := by kernel_rfl
set_option maxRecDepth 100000 in
theorem isc4 : isC [91, 32, 93] = false := by rfl
set_option maxHeartbeats 8000000 in
set_option maxRecDepth 100000 in
theorem alive_c {w : World} (hT : Ev w) (h8 : 8 ≤ w.heap.size) : Calls Tryz.prog 18 #[] w fun e w' => e = .returned (.bool true) ∧ Below w.heap.size w w' := by
  have kc := fun (w : World) (C : Array Value) (n c : Nat) => Lib.run_convert_bytes_const (P := Tryz.prog) w 22 5 C n c Tryz.underlying22 Tryz.underlying5
  replace hT := hide1 hT
  go_enter Tryz.func18, Tryz.ntmps18
  go_wp2_with fail
  have hb1 : Below w.heap.size w (w.alloc (.cells #[.int .u8 123, .int .u8 32, .int .u8 34, .int .u8 98, .int .u8 34, .int .u8 32, .int .u8 58, .int .u8 32, .int .u8 49, .int .u8 44, .int .u8 32, .int .u8 34, .int .u8 97, .int .u8 34, .int .u8 32, .int .u8 58, .int .u8 32, .int .u8 34, .int .u8 92, .int .u8 117, .int .u8 48, .int .u8 48, .int .u8 52, .int .u8 49, .int .u8 34, .int .u8 32, .int .u8 125] 5 (27, 28))) := (Below.refl _ _).alloc (Nat.le_refl _) _
  refine (parse_d (l := tx3) (bsa_new rfl 27 rfl (27, 28)) (hT.out.below hb1 (by omega)) (by simp; omega)).mono ?_
  rintro e w1 ⟨c, ev, rfl, hcs, hco, b1, hx⟩
  have hb2 : Below w.heap.size w w1 := hb1.trans (b1.mono hb1.size)
  rcases hx with ⟨t, ht, rfl, hv⟩ | ⟨ht, _⟩
  case inr => rw [prs3] at ht; cases ht
  obtain ⟨-, hh, hg, hs⟩ := prs_ok ht
  rw [prs3] at ht
  obtain rfl : tv3 = t := Option.some.inj ht
  clear b1 hb1 ht
  obtain ⟨c0, c1, c2, c3, c4, rfl⟩ := arr5q hcs
  go_upto_region 2 with (refine wpList_store_row rfl 28 (.tmp 1) (.tmp 8) rfl w1.heap.size #[c0, c1, c2, c3, c4] rfl rfl 28 _ (bxw_z w1) (by kernel_rfl) rfl hco ?_)
  have haA := bxw_at w1 #[c0, c1, c2, c3, c4]
  have hlA := bxw_bl w1 #[c0, c1, c2, c3, c4]
  generalize hwe : bxw w1 #[c0, c1, c2, c3, c4] = wA at *
  rw [show (w1.alloc (.cells #[.int .i64 0, .int .i64 0, .string ⟨#[]⟩, .slice none 0 0, .slice none 0 0] 28)).setRow w1.heap.size #[c0, c1, c2, c3, c4] = wA from hwe]
  clear hwe
  have BA := hide1 (hb2.trans (hlA.mono hb2.size))
  have hvA := hv.frame (w' := wA) (G := fun _ => True) (fun j h hj => hlA.block j hj) (fun _ h hk => trivial)
  have hTA := hide1 (hT.out.below BA.out (by omega))
  have h8A : 8 ≤ wA.heap.size := by have := BA.out.size; omega
  have hpu := put_c hh hs hvA hTA.out h8A
  replace hpu : Calls Tryz.prog 20 #[.agg #[c0, c1, c2, c3, c4]] wA _ := hpu
  have hl5 : wA.rangeAt w1.heap.size 0 [c0, c1, c2, c3, c4] := fun j u hj => by
    simp only [World.cell?, haA]
    rw [Nat.zero_add]
    simpa using hj
  clear hv hvA hlA haA hb2
  go_wp2_with (first | refine wpList_load_mid rfl 28 (.tmp 1) rfl w1.heap.size 0 rfl [c0, c1, c2, c3, c4] _ hl5 Tryz.underlying28 rfl (by kernel_rfl) ?_ | fail)
  refine hpu.mono ?_
  rintro e w2 ⟨v2, ev2, rfl, b2, h2⟩
  have B2 := hide1 (BA.out.trans (b2.mono BA.out.size))
  have hT2 := hide1 (hTA.out.below b2 h8A)
  rcases h2 with ⟨hg', _⟩ | ⟨_, h4, _⟩ | ⟨_, h4, rfl, ho⟩
  · rw [hg] at hg'; cases hg'
  · rw [ct3] at h4; simp [cx3] at h4
  rw [ct3] at ho
  have hov := conv_b ho.bs
  obtain ⟨oa, oc, rfl⟩ := ho.slc
  have his := is_d ho.bs hT2.out (by have := B2.out.size; omega)
  rw [isc3] at his
  rw [show st cx3 = ⟨#[123, 34, 97, 34, 58, 34, 65, 34, 44, 34, 98, 34, 58, 49, 125]⟩ from rfl] at hov
  clear hpu hl5 b2 BA ho hh hg hs h4
  simp only [show cx3.length = 15 from rfl] at *
  go_wp2_with fail
  refine his.mono ?_
  rintro e w3 ⟨rfl, b3⟩
  have B3 := hide1 (B2.out.trans (b3.mono B2.out.size))
  have hT3 := hide1 (hT2.out.below b3 (by have := B2.out.size; omega))
  clear his b3 B2 hT2
  go_wp2_with fail
  have hb4 : Below w3.heap.size w3 (w3.alloc (.cells #[.int .u8 91, .int .u8 32, .int .u8 93] 5 (3, 4))) := (Below.refl _ _).alloc (Nat.le_refl _) _
  refine (is_d (l := [91, 32, 93]) (bsa_new rfl 3 rfl (3, 4)) (hT3.out.below hb4 (by have := B3.out.size; omega)) (by have := B3.out.size; simp; omega)).mono ?_
  rw [isc4]
  rintro e w4 ⟨rfl, b4⟩
  have B4 := hide1 ((B3.out.trans (hb4.mono B3.out.size)).trans (b4.mono (by have := B3.out.size; simp; omega)))
  go_wp2
  go_ret
  exact ⟨rfl, B4.out⟩
theorem Kg.out {g : Nat} {w w1 w' : World} (h : Below w.heap.size w w1) (k : Kg g w1 w') (hg : w.heap.size ≤ g) : Below w.heap.size w w' :=
  ⟨k.os.trans h.os, k.tape.trans h.tape, k.output.trans h.output, Nat.le_trans h.size k.size, fun q hq => (k.block q (Nat.lt_of_lt_of_le hq h.size) (by omega)).trans (h.block q hq)⟩
section
variable {P : Program} {Q : Exit → Act → World → Prop}
end
section
variable {F : Nat → Prop} {w : World} {p : List Tp} {cp : List (List Value)}
end
end Go.Proofs.YtbemaloaobeblaaGreatDoor

namespace Go.Proofs.YtbemaloaobeblaaGreatDoor
open Go.RowKit

end Go.Proofs.YtbemaloaobeblaaGreatDoor

namespace Go.Proofs.YtbemaloaobeblaaGreatDoor
open Go.RowKit Go.Shelf

def lgB : Nat → T → Bool
  | 0, _ => false
  | h + 1, .mk _ _ s l p => decide (5000 < s.length) || l.any (lgB h) || p.any fun q => decide (5000 < q.1.length) || lgB h q.2
theorem bxw_rng (w : World) {x0 x1 x2 x3 x4 : Value} : (bxw w #[x0, x1, x2, x3, x4]).rangeAt w.heap.size 0 [x0, x1, x2, x3, x4] := fun j u hj => by
  have hx := bxw_at w #[x0, x1, x2, x3, x4]
  simp only [World.cell?, hx]
  rw [Nat.zero_add]
  simpa using hj
def bxp (w : World) (c : Array Value) : World := (w.alloc (.cells #[.string ⟨#[]⟩, .int .i64 0, .int .i64 0, .string ⟨#[]⟩, .slice none 0 0, .slice none 0 0] 49)).setRow w.heap.size c
theorem bxp_z (w : World) : (w.alloc (.cells #[.string ⟨#[]⟩, .int .i64 0, .int .i64 0, .string ⟨#[]⟩, .slice none 0 0, .slice none 0 0] 49)).heap[w.heap.size]? = some (.cells #[.string ⟨#[]⟩, .int .i64 0, .int .i64 0, .string ⟨#[]⟩, .slice none 0 0, .slice none 0 0] 49 (0, 0)) := by
  show (w.heap.push _)[w.heap.size]? = _
  rw [Array.getElem?_push, if_pos rfl]
theorem bxp_at (w : World) (c : Array Value) : (bxp w c).heap[w.heap.size]? = some (.cells c 49 (0, 0)) := setRow_heap _ w.heap.size _ c _ _ (bxp_z w)
theorem bxp_bl (w : World) (c : Array Value) : Below w.heap.size w (bxp w c) := ⟨rfl, rfl, rfl, by simp [bxp, World.setRow], fun k hk => (setRow_other _ _ k _ (by omega)).trans (by
  show (w.heap.push _)[k]? = _
  rw [Array.getElem?_push, if_neg (by omega)])⟩
theorem any_stop {α : Type} {f : α → Bool} {l : List α} {j : Nat} {x : α} (h : l[j]? = some x) (hf : f x = true) : l.any f = true := List.any_eq_true.2 ⟨x, List.mem_of_getElem? h, hf⟩
theorem any_no {α : Type} {f : α → Bool} {l : List α} (h : ∀ (j : Nat) (x : α), l[j]? = some x → f x = false) : l.any f = false := by
  cases hx : l.any f with
  | false => rfl
  | true =>
    obtain ⟨x, hm, h2⟩ := List.any_eq_true.1 hx
    obtain ⟨j, hj⟩ := List.getElem?_of_mem hm
    rw [h j x hj] at h2; cases h2
set_option maxHeartbeats 8000000 in
set_option maxRecDepth 100000 in
theorem long_s {h : Nat} (ih : ∀ {F : Nat → Prop} {w : World} {t : T} {c : List Value}, hgt h t → VA F w t c → Calls Tryz.prog 36 #[.agg c.toArray] w fun e w' => e = .returned (.bool (lgB h t)) ∧ Below w.heap.size w w')
    {F : Nat → Prop} {w : World} {t : T} {c : List Value} (hh : hgt (h + 1) t) (hv : VA F w t c) : Calls Tryz.prog 36 #[.agg c.toArray] w fun e w' => e = .returned (.bool (lgB (h + 1) t)) ∧ Below w.heap.size w w' := by
  cases hv with
  | @mk k ki s l p sl sp cl cp r1 r2 e1 e2 hl hp1 hp2 =>
    obtain ⟨hw1, hw2, hh1, hh2⟩ := hh
    have hw1' : cl.length ≤ 1000000000 := by rw [e1]; omega
    have hw2' : cp.length ≤ 1000000000 := by rw [e2]; omega
    obtain ⟨sa, sc, rfl⟩ : ∃ va vc, sl = .slice va cl.length vc := by
      obtain ⟨_, ⟨a, cap, h1, h2⟩ | ⟨b, o, cap, cur, fz, h1, _⟩⟩ := r1
      · exact ⟨a, cap, by rw [h1, h2]; rfl⟩
      · exact ⟨_, cap, h1⟩
    obtain ⟨pa, pc, rfl⟩ : ∃ va vc, sp = .slice va cp.length vc := by
      obtain ⟨_, ⟨a, cap, h1, h2⟩ | ⟨b, o, cap, cur, fz, h1, _⟩⟩ := r2
      · exact ⟨a, cap, by rw [h1, h2]; rfl⟩
      · exact ⟨_, cap, h1⟩
    obtain ⟨wb, hwb⟩ : ∃ wb, wb = w.alloc (.cells #[.int .i64 k, .int .i64 ki, .string (st s), .slice sa cl.length sc, .slice pa cp.length pc] 28) := ⟨_, rfl⟩
    have hb0 : Below w.heap.size w wb := by rw [hwb]; exact (Below.refl _ _).alloc (Nat.le_refl _) _
    have hbx : wb.heap[w.heap.size]? = some (.cells #[.int .i64 k, .int .i64 ki, .string (st s), .slice sa cl.length sc, .slice pa cp.length pc] 28 (0, 0)) := by
      rw [hwb]
      show (w.heap.push _)[w.heap.size]? = _
      rw [Array.getElem?_push, if_pos rfl]
    have hz : w.heap.size < wb.heap.size := (Array.getElem?_eq_some_iff.1 hbx).1
    obtain ⟨M, hM⟩ : ∃ M, Hid (M = lgB (h + 1) (.mk k ki s l p)) := ⟨_, hide1 rfl⟩
    rw [← hM.out]
    have hMe : Hid (M = (decide (5000 < s.length) || l.any (lgB h) || p.any fun q => decide (5000 < q.1.length) || lgB h q.2)) := hide1 hM.out
    have c2 : wb.cell? ⟨w.heap.size, 2, none⟩ = some (.string (st s)) := by simp only [World.cell?, hbx]; rfl
    have c3 : wb.cell? ⟨w.heap.size, 3, none⟩ = some (.slice sa cl.length sc) := by simp only [World.cell?, hbx]; rfl
    have hsz := st_size s
    replace e1 := hide1 e1
    replace e2 := hide1 e2
    replace hb0 := hide1 hb0
    replace hbx := hide1 hbx
    clear hM
    show Calls Tryz.prog 36 #[.agg #[.int .i64 k, .int .i64 ki, .string (st s), .slice sa cl.length sc, .slice pa cp.length pc]] w _
    go_enter Tryz.func36, Tryz.ntmps36
    go_upto_region 1 with fail
    rw [← hwb]
    clear hwb
    by_cases hs5 : 5000 < s.length
    · have g : (s.length : Int) > 5000 := by omega
      have hMt : M = true := by rw [hMe.out]; simp [hs5]
      go_wp2
      go_ret
      exact ⟨by rw [hMt]; rfl, hb0.out⟩
    · have g : ¬ (s.length : Int) > 5000 := by omega
      go_wp2_with fail
      go_loopw [14] (fun i wr => ∃ j : Nat, j ≤ cl.length ∧ i = .int .i64 (j : Nat) ∧ Hid (∀ (q : Nat) (x : T), q < j → l[q]? = some x → lgB h x = false) ∧ Hid (Below wb.heap.size wb wr)) (fun i _ => cl.length - (intOf i).toNat)
      case atStart => exact ⟨0, by omega, rfl, hide1 (fun q x hq => by omega), hide1 (Below.refl _ _)⟩
      case round =>
        clear c2 c3 hsz g
        obtain ⟨j, hj, rfl, hno, hbw⟩ := hrel
        have hB : Hid (Below w.heap.size w wr) := hide1 (hb0.out.trans (hbw.out.mono hb0.out.size))
        by_cases hlt : j < cl.length
        · obtain ⟨x, hx⟩ : ∃ x, cl[j]? = some x := ⟨_, List.getElem?_eq_getElem hlt⟩
          obtain ⟨u, hu⟩ : ∃ u, l[j]? = some u := ⟨_, List.getElem?_eq_getElem (by have := e1.out; omega)⟩
          have hxu := hl j u x hu hx
          obtain ⟨b, o, cap, hve, -, hbl, hr⟩ := r1.at hx
          have hva : sa = some ⟨b, o, none⟩ := by cases hve; rfl
          subst hva
          obtain ⟨x0, x1, x2, x3, x4, rfl⟩ := five_l (r1.1 x (List.mem_of_getElem? hx))
          have hr2 : wr.rangeAt b (o + j * 5) [x0, x1, x2, x3, x4] := fun q v hj => by
            rw [World.cell?_of_block (w := w) (hB.out.block b hbl)]
            exact hr q v hj
          have hone := hxu.one
          have hlA := bxw_bl wr #[x0, x1, x2, x3, x4]
          have hl5 := bxw_rng wr (x0 := x0) (x1 := x1) (x2 := x2) (x3 := x3) (x4 := x4)
          have hB2 : Hid (Below w.heap.size w (bxw wr #[x0, x1, x2, x3, x4])) := hide1 (hB.out.trans (hlA.mono hB.out.size))
          have hc := ih (c := [x0, x1, x2, x3, x4]) (hh1 u (List.mem_of_getElem? hu)) (VA.frame (c := [x0, x1, x2, x3, x4]) hxu (w' := bxw wr #[x0, x1, x2, x3, x4]) (G := F) (fun j _ hj => hB2.out.block j hj) (fun _ h _ => h))
          replace hc : Calls Tryz.prog 36 #[.agg #[x0, x1, x2, x3, x4]] (bxw wr #[x0, x1, x2, x3, x4]) _ := hc
          have hbn := hide1 (hbw.out.trans (hlA.mono hbw.out.size))
          clear hve hr hx hxu hlA
          go_upto_region 6 with (first | refine wpList_load_mid rfl 28 (.tmp 16) rfl b (o + j * 5) rfl [x0, x1, x2, x3, x4] _ hr2 Tryz.underlying28 rfl (by kernel_rfl) ?_ | refine wpList_store_row rfl 28 (.tmp 4) (.tmp 17) rfl wr.heap.size #[x0, x1, x2, x3, x4] rfl rfl 28 _ (bxw_z wr) (by kernel_rfl) rfl (by simpa using hone) ?_)
          rw [show (wr.alloc (.cells #[.int .i64 0, .int .i64 0, .string ⟨#[]⟩, .slice none 0 0, .slice none 0 0] 28)).setRow wr.heap.size #[x0, x1, x2, x3, x4] = bxw wr #[x0, x1, x2, x3, x4] from rfl]
          generalize bxw wr #[x0, x1, x2, x3, x4] = wA at *
          go_wp2_with (first | refine wpList_load_mid rfl 28 (.tmp 4) rfl wr.heap.size 0 rfl [x0, x1, x2, x3, x4] _ hl5 Tryz.underlying28 rfl (by kernel_rfl) ?_ | fail)
          refine hc.mono ?_
          rintro e w2 ⟨rfl, b2⟩
          have hb2 := hide1 (hbn.out.trans (b2.mono hbn.out.size))
          have hB3 := hide1 (hB2.out.trans (b2.mono hB2.out.size))
          clear hc b2 hbw hB hr2 hl5 hbn hB2 hone
          cases hg : lgB h u with
          | true =>
            have hMt : M = true := by rw [hMe.out, any_stop hu hg]; simp
            go_wp2
            go_ret
            exact ⟨by rw [hMt]; rfl, hB3.out⟩
          | false =>
            have hno2 : Hid (∀ (q : Nat) (x : T), q < j + 1 → l[q]? = some x → lgB h x = false) := hide1 (fun q x hq hx => by
              by_cases e : q = j
              · subst e; rw [hu] at hx; cases hx; exact hg
              · exact hno.out q x (by omega) hx)
            go_wp2
            go_roundw
            case rel => exact ⟨j + 1, by omega, by first | rfl | go_num, hno2, hb2⟩
            case measure => simp [intOf]; omega
        · have hA : l.any (lgB h) = false := any_no (fun q x hq => hno.out q x (by have h8 := (List.getElem?_eq_some_iff.1 hq).1; have h9 := e1.out; omega) hq)
          have hbr := (hbw.out.block w.heap.size hz).trans hbx.out
          have c4 : wr.cell? ⟨w.heap.size, 4, none⟩ = some (.slice pa cp.length pc) := by simp only [World.cell?, hbr]; rfl
          have hMe2 : Hid (M = p.any fun q => decide (5000 < q.1.length) || lgB h q.2) := hide1 (by rw [hMe.out, hA]; simp [hs5])
          clear hA hMe hno hbr
          go_wp2_with fail
          generalize hwq : wr = wq at *
          clear hwq
          go_loopw [24] (fun i wr => ∃ j : Nat, j ≤ cp.length ∧ i = .int .i64 (j : Nat) ∧ Hid (∀ (q : Nat) (x : List UInt8 × T), q < j → p[q]? = some x → (decide (5000 < x.1.length) || lgB h x.2) = false) ∧ Hid (Below wq.heap.size wq wr)) (fun i _ => cp.length - (intOf i).toNat)
          case atStart => exact ⟨0, by omega, rfl, hide1 (fun q x hq => by omega), hide1 (Below.refl _ _)⟩
          case round =>
            clear c4
            obtain ⟨j, hj, rfl, hno, hbt⟩ := hrel
            have hBt : Hid (Below w.heap.size w wr) := hide1 (hB.out.trans (hbt.out.mono hB.out.size))
            by_cases hlt : j < cp.length
            · obtain ⟨x, hx⟩ : ∃ x, cp[j]? = some x := ⟨_, List.getElem?_eq_getElem hlt⟩
              obtain ⟨u, hu⟩ : ∃ u, p[j]? = some u := ⟨_, List.getElem?_eq_getElem (by have := e2.out; omega)⟩
              have hxu := hp2 j u x hu hx
              have hnm := hp1 j u x hu hx
              obtain ⟨b, o, cap, hve, -, hbl, hr⟩ := r2.at hx
              have hva : pa = some ⟨b, o, none⟩ := by cases hve; rfl
              subst hva
              obtain ⟨x0, x1, x2, x3, x4, x5, rfl⟩ := arr6 (r2.1 x (List.mem_of_getElem? hx))
              obtain rfl : x0 = .string (st u.1) := by simpa using hnm
              have hr2 : wr.rangeAt b (o + j * 6) [.string (st u.1), x1, x2, x3, x4, x5] := fun q v hj => by
                rw [World.cell?_of_block (w := w) (hBt.out.block b hbl)]
                exact hr q v hj
              have hone := hxu.one
              have hlA := bxp_bl wr #[.string (st u.1), x1, x2, x3, x4, x5]
              have hat := bxp_at wr #[.string (st u.1), x1, x2, x3, x4, x5]
              have hB2 : Hid (Below w.heap.size w (bxp wr #[.string (st u.1), x1, x2, x3, x4, x5])) := hide1 (hBt.out.trans (hlA.mono hBt.out.size))
              have hc := ih (c := [x1, x2, x3, x4, x5]) (hh2 u (List.mem_of_getElem? hu)) (VA.frame (c := [x1, x2, x3, x4, x5]) hxu (w' := bxp wr #[.string (st u.1), x1, x2, x3, x4, x5]) (G := F) (fun j _ hj => hB2.out.block j hj) (fun _ h _ => h))
              replace hc : Calls Tryz.prog 36 #[.agg #[x1, x2, x3, x4, x5]] (bxp wr #[.string (st u.1), x1, x2, x3, x4, x5]) _ := hc
              have hbn := hide1 (hbt.out.trans (hlA.mono hbt.out.size))
              clear hve hr hx hxu hlA hnm
              go_upto_region 12 with (first | refine wpList_load_mid rfl 49 (.tmp 26) rfl b (o + j * 6) rfl [.string (st u.1), x1, x2, x3, x4, x5] _ hr2 Tryz.underlying49 rfl (by kernel_rfl) ?_ | refine wpList_store_row rfl 49 (.tmp 6) (.tmp 27) rfl wr.heap.size #[.string (st u.1), x1, x2, x3, x4, x5] rfl rfl 49 _ (bxp_z wr) (by kernel_rfl) rfl (by simpa [Value.oneCell'] using hone) ?_)
              rw [show (wr.alloc (.cells #[.string ⟨#[]⟩, .int .i64 0, .int .i64 0, .string ⟨#[]⟩, .slice none 0 0, .slice none 0 0] 49)).setRow wr.heap.size #[.string (st u.1), x1, x2, x3, x4, x5] = bxp wr #[.string (st u.1), x1, x2, x3, x4, x5] from rfl]
              generalize bxp wr #[.string (st u.1), x1, x2, x3, x4, x5] = wP at *
              have p0 : wP.cell? ⟨wr.heap.size, 0, none⟩ = some (.string (st u.1)) := by simp only [World.cell?, hat]; rfl
              have p1 : wP.cell? ⟨wr.heap.size, 1, none⟩ = some x1 := by simp only [World.cell?, hat]; rfl
              have p2 : wP.cell? ⟨wr.heap.size, 2, none⟩ = some x2 := by simp only [World.cell?, hat]; rfl
              have p3 : wP.cell? ⟨wr.heap.size, 3, none⟩ = some x3 := by simp only [World.cell?, hat]; rfl
              have p4 : wP.cell? ⟨wr.heap.size, 4, none⟩ = some x4 := by simp only [World.cell?, hat]; rfl
              have p5 : wP.cell? ⟨wr.heap.size, 5, none⟩ = some x5 := by simp only [World.cell?, hat]; rfl
              have hz1 := st_size u.1
              clear hat hone hr2 hBt hbt
              by_cases hn5 : 5000 < u.1.length
              · have hMt : M = true := by rw [hMe2.out]; exact any_stop hu (by simp [hn5])
                have g1 : (u.1.length : Int) > 5000 := by omega
                clear hc p1 p2 p3 p4 p5
                go_wp2
                go_ret
                exact ⟨by rw [hMt]; rfl, hB2.out⟩
              · have g1 : ¬ (u.1.length : Int) > 5000 := by omega
                go_wp2_with fail
                refine hc.mono ?_
                rintro e w2 ⟨rfl, b2⟩
                have hb2 := hide1 (hbn.out.trans (b2.mono hbn.out.size))
                have hB3 := hide1 (hB2.out.trans (b2.mono hB2.out.size))
                clear hc b2 p1 p2 p3 p4 p5 hbn hB2 p0 hz1
                cases hg : lgB h u.2 with
                | true =>
                  have hMt : M = true := by rw [hMe2.out]; exact any_stop hu (by simp [hg])
                  go_wp2
                  go_ret
                  exact ⟨by rw [hMt]; rfl, hB3.out⟩
                | false =>
                  have hno2 : Hid (∀ (q : Nat) (x : List UInt8 × T), q < j + 1 → p[q]? = some x → (decide (5000 < x.1.length) || lgB h x.2) = false) := hide1 (fun q x hq hx => by
                    by_cases e : q = j
                    · subst e; rw [hu] at hx; cases hx; simp [hn5, hg]
                    · exact hno.out q x (by omega) hx)
                  go_wp2
                  go_roundw
                  case rel => exact ⟨j + 1, by omega, by first | rfl | go_num, hno2, hb2⟩
                  case measure => simp [intOf]; omega
            · have hA : (p.any fun q => decide (5000 < q.1.length) || lgB h q.2) = false := any_no (fun q x hq => hno.out q x (by have h8 := (List.getElem?_eq_some_iff.1 hq).1; have h9 := e2.out; omega) hq)
              have hMf : M = false := by rw [hMe2.out, hA]
              clear hA hMe2 hno
              go_wp2
              go_ret
              exact ⟨by rw [hMf]; rfl, hBt.out⟩
theorem long_d : ∀ (h : Nat) {F : Nat → Prop} {w : World} {t : T} {c : List Value}, hgt h t → VA F w t c → Calls Tryz.prog 36 #[.agg c.toArray] w fun e w' => e = .returned (.bool (lgB h t)) ∧ Below w.heap.size w w'
  | 0, _, _, _, _, hh, _ => hh.elim
  | h + 1, _, _, _, _, hh, hv => long_s (fun h1 h2 => long_d h h1 h2) hh hv
set_option maxHeartbeats 8000000 in
set_option maxRecDepth 100000 in
theorem heavy_d {F : Nat → Prop} {w : World} {t : T} {c : List Value} (hv : VA F w t c) :
    ∃ X : Bool, (X = false → hgt 200 t ∧ lgB 200 t = false ∧ ∃ h, ht h t ∧ mny h t 200 ≤ 200) ∧ Calls Tryz.prog 19 #[.agg c.toArray] w fun e w' => e = .returned (.bool X) ∧ Below w.heap.size w w' := by
  obtain ⟨h, hht⟩ := hv.ht
  obtain ⟨n, hn⟩ : ∃ n, Hid (n = mny h t 200) := ⟨_, hide1 rfl⟩
  obtain ⟨x0, x1, x2, x3, x4, rfl⟩ := five_l hv.len
  obtain ⟨wb, hwb⟩ : ∃ wb, wb = w.alloc (.cells #[x0, x1, x2, x3, x4] 28) := ⟨_, rfl⟩
  have hB : Below w.heap.size w wb := by rw [hwb]; exact (Below.refl _ _).alloc (Nat.le_refl _) _
  have hnb : wb.heap[w.heap.size]? = some (.cells #[x0, x1, x2, x3, x4] 28 (0, 0)) := by
    rw [hwb]
    show (w.heap.push _)[w.heap.size]? = _
    rw [Array.getElem?_push, if_pos rfl]
  have hvb : VA F wb t [x0, x1, x2, x3, x4] := hv.frame (fun k _ hk => hB.block k hk) (fun _ h _ => h)
  have hm := many_d h (k := 200) hht (by omega) hvb
  replace hm : Calls Tryz.prog 35 #[.agg #[x0, x1, x2, x3, x4], .int .i64 200] wb _ := hm
  rw [← hn.out] at hm
  have hql : w.heap.size < wb.heap.size := (Array.getElem?_eq_some_iff.1 hnb).1
  have hl : ∀ wa, Below wb.heap.size wb wa → wa.heap[w.heap.size]? = some (.cells #[x0, x1, x2, x3, x4] 28 (0, 0)) := fun wa hwa => (hwa.block w.heap.size hql).trans hnb
  have hl5 : wb.rangeAt w.heap.size 0 [x0, x1, x2, x3, x4] := fun j u hj => by
    simp only [World.cell?, hnb]
    rw [Nat.zero_add]
    simpa using hj
  obtain ⟨L, hL⟩ : ∃ L, Hid (L = lgB 200 t) := ⟨_, hide1 rfl⟩
  have hd : Hid (decide ((200 : Int) < (n : Int)) = decide (200 < n)) := hide1 (decide_eq_decide.2 (by omega))
  refine ⟨decide (200 < n) || L, fun hx => ?_, ?_⟩
  · rw [Bool.or_eq_false_iff] at hx
    have h1 : ¬ 200 < n := of_decide_eq_false hx.1
    exact ⟨mny_hgt hht (by omega) (by rw [← hn.out]; omega), by rw [← hL.out]; exact hx.2, h, hht, by rw [← hn.out]; omega⟩
  · replace hB := hide1 hB
    replace hvb := hide1 hvb
    clear hv hnb
    show Calls Tryz.prog 19 #[.agg #[x0, x1, x2, x3, x4]] w _
    go_enter Tryz.func19, Tryz.ntmps19
    go_upto_region 1 with fail
    rw [← hwb]
    clear hwb
    go_wp2_with (first | refine wpList_load_mid rfl 28 (.tmp 1) rfl w.heap.size 0 rfl [x0, x1, x2, x3, x4] _ hl5 Tryz.underlying28 rfl (by kernel_rfl) ?_ | fail)
    refine hm.mono ?_
    rintro e w1 ⟨rfl, b1⟩
    have hB1 := hide1 (hB.out.trans (b1.mono hB.out.size))
    by_cases h2 : 200 < n
    · have g : (n : Int) > 200 := by omega
      have hf : Hid ((decide (200 < n) || L) = true) := hide1 (by simp [h2])
      clear hm hl5 hl hvb
      go_wp2
      go_ret
      exact ⟨by rw [hf.out]; rfl, hB1.out⟩
    · have g : ¬ (n : Int) > 200 := by omega
      have hlc := long_d 200 (mny_hgt hht (by omega) (by rw [← hn.out]; omega)) (hvb.out.frame (w' := w1) (G := fun _ => True) (fun k _ hk => b1.block k hk) (fun _ _ _ => trivial))
      replace hlc : Calls Tryz.prog 36 #[.agg #[x0, x1, x2, x3, x4]] w1 _ := hlc
      have hat := hl w1 b1
      have p0 : w1.cell? ⟨w.heap.size, 0, none⟩ = some x0 := by simp only [World.cell?, hat]; rfl
      have p1 : w1.cell? ⟨w.heap.size, 1, none⟩ = some x1 := by simp only [World.cell?, hat]; rfl
      have p2 : w1.cell? ⟨w.heap.size, 2, none⟩ = some x2 := by simp only [World.cell?, hat]; rfl
      have p3 : w1.cell? ⟨w.heap.size, 3, none⟩ = some x3 := by simp only [World.cell?, hat]; rfl
      have p4 : w1.cell? ⟨w.heap.size, 4, none⟩ = some x4 := by simp only [World.cell?, hat]; rfl
      rw [← hL.out] at hlc
      clear hm hl5 hl hvb b1 hat
      go_wp2_with fail
      refine hlc.mono ?_
      rintro e w2 ⟨rfl, b2⟩
      have hB2 := hide1 (hB1.out.trans (b2.mono hB1.out.size))
      clear hlc b2 p0 p1 p2 p3 p4
      go_wp2
      go_ret
      exact ⟨by show Ending.returned (.bool (decide ((200 : Int) < (n : Int)) || L)) = _; rw [hd.out], hB2.out⟩
end Go.Proofs.YtbemaloaobeblaaGreatDoor

namespace Go.Proofs.YtbemaloaobeblaaGreatDoor
open Go.RowKit

end Go.Proofs.YtbemaloaobeblaaGreatDoor

namespace Go.Proofs.YtbemaloaobeblaaGreatDoor
open Go.RowKit Go.Shelf

set_option maxRecDepth 100000 in
theorem same_a {w : World} {a b : Option Addr} {n m c d : Nat} {l r : List UInt8} (h : BsA w (.slice a n c) l) (h' : BsA w (.slice b m d) r) : Calls Tryz.prog 22 #[.slice a n c, .slice b m d] w fun e w' => e = .returned (.bool (decide (l = r))) ∧ w' = w := by
  have h1 := conv_b h
  have h2 := conv_b h'
  have hf : Hid ((Ending.returned (.bool ((st l).toList == (st r).toList)) : Ending) = .returned (.bool (decide (l = r)))) := hide1 (by rw [st_beq])
  clear h h'
  go_enter Tryz.func22, Tryz.ntmps22
  go_wp2
  go_ret
  exact ⟨hf.out, rfl⟩
end Go.Proofs.YtbemaloaobeblaaGreatDoor

namespace Go.Proofs.YtbemaloaobeblaaGreatDoor
open Go.RowKit

theorem dec_dg : ∀ (n u : Nat), u ≤ n → ∀ b ∈ Lib.decDigits u, dg b = true
  | n, u, hn, b, hb => by
    by_cases hu : u < 10
    · rw [dec_small hu] at hb
      obtain rfl := List.mem_singleton.1 hb
      have : (UInt8.ofNat (48 + u)).toNat = 48 + u := by simp [UInt8.toNat_ofNat']; omega
      unfold dg
      simp only [this, Bool.and_eq_true, decide_eq_true_eq]; omega
    · rw [dec_big hu] at hb
      cases n with
      | zero => omega
      | succ n =>
        rcases List.mem_append.1 hb with hb | hb
        · exact dec_dg n (u / 10) (by omega) b hb
        · obtain rfl := List.mem_singleton.1 hb
          have : (UInt8.ofNat (48 + u % 10)).toNat = 48 + u % 10 := by simp [UInt8.toNat_ofNat']; omega
          unfold dg
          simp only [this, Bool.and_eq_true, decide_eq_true_eq]; omega
theorem dgs_dec : ∀ (n u : Nat), u ≤ n → dgs (Lib.decDigits u) = u
  | n, u, hn => by
    by_cases hu : u < 10
    · rw [dec_small hu]
      have : (UInt8.ofNat (48 + u)).toNat = 48 + u := by simp [UInt8.toNat_ofNat']; omega
      show 10 * 0 + ((UInt8.ofNat (48 + u)).toNat - 48) = u
      rw [this]; omega
    · cases n with
      | zero => omega
      | succ n =>
        rw [dec_big hu, dgs_snoc, dgs_dec n (u / 10) (by omega)]
        have : (UInt8.ofNat (48 + u % 10)).toNat = 48 + u % 10 := by simp [UInt8.toNat_ofNat']; omega
        rw [this]; omega
theorem nmO_dec {u : Nat} {neg : Bool} (h : u ≤ 9007199254740991) (hz : neg = true → u ≠ 0) : nmO neg (Lib.decDigits u) = some (if neg then -(u : Int) else (u : Int)) := by
  unfold nmO
  rw [dgs_dec u u (Nat.le_refl _), if_neg]
  rintro (h1 | ⟨h1, h2⟩ | h1 | ⟨h1, h2⟩)
  · exact dec_ne u h1
  · exact dec_head u u (Nat.le_refl _) h1 h2
  · omega
  · exact hz h1 h2
theorem dec_cons (u : Nat) : ∃ b m, Lib.decDigits u = b :: m ∧ dg b = true := by
  cases h : Lib.decDigits u with
  | nil => exact absurd h (dec_ne u)
  | cons b m => exact ⟨b, m, rfl, dec_dg u u (Nat.le_refl _) b (by rw [h]; simp)⟩
theorem nm_itoa {i : Int} (h : inR i = true) {r : List UInt8} (hr : nd r) : nm (Lib.itoa i ++ r) = some (i, r) := by
  have hi : -9007199254740991 ≤ i ∧ i ≤ 9007199254740991 := by simpa [inR] using h
  unfold nm Lib.itoa
  by_cases hn : i < 0
  · rw [if_pos hn, List.cons_append, hp_c, tk_c]
    obtain ⟨h1, h2⟩ := take_dg (dec_dg _ _ (Nat.le_refl i.natAbs)) hr
    rw [h1, h2, nmO_dec (by omega) (fun _ => by omega)]
    simp only [if_true, Option.map_some]
    congr 2; omega
  · rw [if_neg hn]
    obtain ⟨b, m, e, hb⟩ := dec_cons i.toNat
    have hh : hp [45] (Lib.decDigits i.toNat ++ r) = false := by
      rw [e, List.cons_append]
      obtain ⟨h1, h2⟩ := dg_b hb
      simp only [hp, List.isPrefixOf, Bool.and_eq_false_imp, beq_iff_eq]
      intro h3; subst h3; simp at h1
    have ht : tk [45] (Lib.decDigits i.toNat ++ r) = Lib.decDigits i.toNat ++ r := by
      unfold tk; unfold hp at hh; rw [if_neg (by rw [hh]; decide)]
    rw [hh, ht]
    obtain ⟨h1, h2⟩ := take_dg (dec_dg _ _ (Nat.le_refl i.toNat)) hr
    rw [h1, h2, nmO_dec (by omega) (fun h => by cases h)]
    simp only [Option.map_some]
    simp; omega
theorem cdd_r {n : Nat} (hn : n < 32) (r : List UInt8) : cdd (48 :: 48 :: hxd (n / 16) :: hxd (n % 16) :: r) = some (n, r) := by
  have h : ∀ k : Fin 32, f4 4 0 [48, 48, hxd (k.val / 16), hxd (k.val % 16)] = some k.val := by decide
  have h1 := h ⟨n, hn⟩
  obtain ⟨q, h2, h3, h4⟩ := f4_sw 4 0 _ _ h1
  have hq : q = [48, 48, hxd (n / 16), hxd (n % 16)] := by simpa using h2.symm
  subst hq
  have h5 := h4 r
  unfold cdd
  rw [show (48 :: 48 :: hxd (n / 16) :: hxd (n % 16) :: r) = [48, 48, hxd (n / 16), hxd (n % 16)] ++ r from rfl, h5]
  simp only
  rw [if_pos (.inl (by omega))]
  rfl
theorem ltr_e (x : UInt8) (r : List UInt8) : ltr (92 :: x :: r) = escN x.toNat r := by
  unfold ltr
  rw [hp_c, if_pos rfl, tk_c]; rfl
theorem q1_low {b : UInt8} (hb : b.toNat < 128) (r : List UInt8) : ltr (q1 b ++ r) = some (b.toNat, r) ∧ hp [34] (q1 b ++ r) = false := by
  unfold q1
  split
  · rename_i h; rw [h]; exact ⟨by rw [List.cons_append, List.cons_append, ltr_e]; rfl, rfl⟩
  split
  · rename_i h; rw [h]; exact ⟨by rw [List.cons_append, List.cons_append, ltr_e]; rfl, rfl⟩
  split
  · rename_i h; rw [h]; exact ⟨by rw [List.cons_append, List.cons_append, ltr_e]; rfl, rfl⟩
  split
  · rename_i h; rw [h]; exact ⟨by rw [List.cons_append, List.cons_append, ltr_e]; rfl, rfl⟩
  split
  · rename_i h; rw [h]; exact ⟨by rw [List.cons_append, List.cons_append, ltr_e]; rfl, rfl⟩
  split
  · rename_i h; rw [h]; exact ⟨by rw [List.cons_append, List.cons_append, ltr_e]; rfl, rfl⟩
  split
  · rename_i h; rw [h]; exact ⟨by rw [List.cons_append, List.cons_append, ltr_e]; rfl, rfl⟩
  split
  · rename_i h
    refine ⟨?_, rfl⟩
    rw [List.cons_append, List.cons_append, ltr_e]
    show cdd (48 :: 48 :: hxd (b.toNat / 16) :: hxd (b.toNat % 16) :: r) = _
    exact cdd_r h r
  · rename_i h34 h92 _ _ _ _ _ h32
    have e1 : ∀ c : UInt8, c.toNat ≠ b.toNat → hp [c] ([b] ++ r) = false := fun c hc => by
      simp only [hp, List.cons_append, List.isPrefixOf, Bool.and_eq_false_imp, beq_iff_eq]
      intro h3; subst h3; exact absurd rfl hc
    refine ⟨?_, e1 34 (by show (34 : Nat) ≠ _; omega)⟩
    unfold ltr
    rw [e1 92 (by show (92 : Nat) ≠ _; omega), if_neg (by decide)]
    unfold pln
    rw [List.cons_append, dec_go, Lib.decodeL_ascii b _ hb]
    simp only
    rw [if_neg (by omega)]
    rfl
theorem enc_low {b : UInt8} (hb : b.toNat < 128) : enc b.toNat = [b] := by
  rw [enc_sgn (by unfold bdc; omega)]
  unfold sgn
  rw [if_pos hb]; simp
theorem dec_hi {l : List UInt8} (hb : 128 ≤ (l.getD 0 0).toNat) (hv : ¬ ((Lib.decodeL l).1 = 65533 ∧ (Lib.decodeL l).2 = 1)) : 128 ≤ (Lib.decodeL l).1 ∧ 2 ≤ (Lib.decodeL l).2 ∧ ∀ x ∈ l.take (Lib.decodeL l).2, 128 ≤ x.toNat := by
  rw [Lib.decodeL_N] at hv ⊢
  rcases Lib.decodeN_shape l.length (l.getD 0 0).toNat (l.getD 1 0).toNat (l.getD 2 0).toNat (l.getD 3 0).toNat with ⟨c, e⟩ | ⟨c1, c2, c3, cv, e⟩ | ⟨c1, c2, c3, c4, cv, cs, e⟩ | ⟨c1, c2, c3, c4, c5, cv, cw, e⟩ | e
  · omega
  · rw [e]
    refine ⟨cv, Nat.le_refl _, ?_⟩
    rw [Lib.takeB l c2]
    simp only [List.mem_cons, List.not_mem_nil, or_false]
    rintro x (rfl | rfl) <;> omega
  · rw [e]
    refine ⟨by simp only; omega, by simp, ?_⟩
    rw [Lib.takeC l c2]
    simp only [List.mem_cons, List.not_mem_nil, or_false]
    rintro x (rfl | rfl | rfl) <;> omega
  · rw [e]
    refine ⟨by simp only; omega, by simp, ?_⟩
    rw [Lib.takeD l c2]
    simp only [List.mem_cons, List.not_mem_nil, or_false]
    rintro x (rfl | rfl | rfl | rfl) <;> omega
  · exact absurd (by rw [e]; exact ⟨rfl, rfl⟩) hv
theorem qb_hi : ∀ {q : List UInt8}, (∀ x ∈ q, 128 ≤ x.toNat) → qb q = q
  | [], _ => rfl
  | b :: q, h => by
    have hb := h b (by simp)
    have e : q1 b = [b] := by
      unfold q1
      rw [if_neg (by omega), if_neg (by omega), if_neg (by omega), if_neg (by omega), if_neg (by omega), if_neg (by omega), if_neg (by omega), if_neg (by omega)]
    show q1 b ++ qb q = _
    rw [e, qb_hi fun x hx => h x (by simp [hx])]; rfl
theorem qb_app (a b : List UInt8) : qb (a ++ b) = qb a ++ qb b := by simp [qb]
theorem ql_qb : ∀ (m : Nat) (s : List UInt8) (n : Nat) (out r : List UInt8), s.length ≤ m → s.length ≤ n → Lib.validD s = true → ql n out (qb s ++ 34 :: r) = some (out ++ s, r)
  | _, [], n, out, r, _, _, _ => by
    show ql n out (34 :: r) = _
    rw [ql_end (hp_c 34 r), tk_c, List.append_nil]
  | 0, b :: t, _, _, _, h, _, _ => by simp at h
  | m + 1, b :: t, n, out, r, hm, hn, hv => by
    simp only [List.length_cons] at hm hn
    obtain ⟨n, rfl⟩ : ∃ k, n = k + 1 := ⟨n - 1, by omega⟩
    by_cases hb : b.toNat < 128
    · have e : qb (b :: t) ++ 34 :: r = q1 b ++ (qb t ++ 34 :: r) := by show (q1 b ++ qb t) ++ _ = _; rw [List.append_assoc]
      obtain ⟨h1, h2⟩ := q1_low hb (qb t ++ 34 :: r)
      rw [e, ql_go h2 h1, enc_low hb, ql_qb m t n _ r (by omega) (by omega) (by rw [← Lib.validD_cons b t hb]; exact hv)]
      simp
    · have hne : b :: t ≠ [] := by simp
      rw [Lib.validD_step _ hne] at hv
      by_cases hbad : (Lib.decodeL (b :: t)).1 = 65533 ∧ (Lib.decodeL (b :: t)).2 = 1
      · rw [if_pos hbad] at hv; cases hv
      rw [if_neg hbad] at hv
      obtain ⟨h1, h2, h3⟩ := dec_hi (l := b :: t) (by show 128 ≤ b.toNat; omega) hbad
      have henc := Lib.encode_decode _ hne hbad
      obtain ⟨q, g1, g2, g3, g4⟩ := dec_sw hne hbad
      obtain ⟨d, hd⟩ : ∃ d, d = (b :: t).drop (Lib.decodeL (b :: t)).2 := ⟨_, rfl⟩
      rw [← hd] at hv g1
      have hq : (b :: t).take (Lib.decodeL (b :: t)).2 = q := by
        have hx : (q ++ d).take q.length = q := by simp
        rwa [← g1, g3] at hx
      rw [hq] at h3 henc
      have hdl : d.length + 2 ≤ t.length + 1 := by
        have := congrArg List.length g1
        rw [List.length_append, List.length_cons] at this; omega
      obtain ⟨x, q', rfl⟩ : ∃ x q', q = x :: q' := by cases q with | nil => exact absurd rfl g2 | cons x q' => exact ⟨x, q', rfl⟩
      have hx := h3 x (by simp)
      have e : qb (b :: t) ++ 34 :: r = (x :: q') ++ (qb d ++ 34 :: r) := by rw [g1, qb_app, qb_hi h3, List.append_assoc]
      have e1 : ∀ c : UInt8, c.toNat < 128 → hp [c] ((x :: q') ++ (qb d ++ 34 :: r)) = false := fun c hc => by
        simp only [hp, List.cons_append, List.isPrefixOf, Bool.and_eq_false_imp, beq_iff_eq]
        intro h3; subst h3; omega
      have hl : ltr ((x :: q') ++ (qb d ++ 34 :: r)) = some ((Lib.decodeL (b :: t)).1, qb d ++ 34 :: r) := by
        unfold ltr
        rw [e1 92 (by decide), if_neg (by decide)]
        unfold pln
        rw [show (x :: q') ++ (qb d ++ 34 :: r) = x :: (q' ++ (qb d ++ 34 :: r)) from rfl, dec_go, ← List.cons_append, g4, if_neg (by omega), ← g3]
        simp
      rw [e, ql_go (e1 34 (by decide)) hl]
      have he : enc (Lib.decodeL (b :: t)).1 = x :: q' := henc
      rw [he, ql_qb m d n _ r (by omega) (by omega) hv, g1]
      simp
theorem qt_qu {s : List UInt8} (hv : Lib.validD s = true) (r : List UInt8) : qt (qu s ++ r) = some (s, r) := by
  have e : qu s ++ r = 34 :: (qb s ++ 34 :: r) := by unfold qu; simp
  unfold qt
  rw [e, hp_c, if_pos rfl, tk_c, ql_qb s.length s _ [] r (Nat.le_refl _) (by have := (qb_len s).1; simp; omega) hv]
  rfl
theorem nd_c {e : UInt8} {m : List UInt8} (h : dg e = false) : nd (e :: m) := nd_pad (p := []) (by simp) h
theorem cj_cons (x y : List UInt8) (r : List (List UInt8)) : cj (x :: y :: r) = x ++ 44 :: cj (y :: r) := by simp [cj]
section
variable {α : Type} {one : List UInt8 → Option (α × List UInt8)} {e : UInt8} {f : α → List UInt8}
theorem its_cj (he : bk.contains e = false) (hc : (e == 44) = false) (hd : dg e = false) : ∀ (l : List α) (x : α) (n : Nat) (xs : List α) (r : List UInt8), l.length ≤ n → (∀ y ∈ x :: l, ∀ r, nd r → one (f y ++ r) = some (y, r)) →
    its one e n xs (cj ((x :: l).map f) ++ e :: r) = some (xs ++ x :: l, r)
  | [], x, n, xs, r, _, ho => by
    have h1 := ho x (by simp) (e :: r) (nd_c hd)
    have h2 : cj ([x].map f) ++ e :: r = f x ++ e :: r := by simp [cj]
    rw [h2, its_end h1 (by rw [sk_non r he]; exact hp_c e r), sk_non r he, tk_c]
  | y :: l, x, n, xs, r, hn, ho => by
    obtain ⟨n, rfl⟩ : ∃ k, n = k + 1 := ⟨n - 1, by simp at hn; omega⟩
    have h2 : cj ((x :: y :: l).map f) ++ e :: r = f x ++ 44 :: (cj ((y :: l).map f) ++ e :: r) := by
      rw [List.map_cons, List.map_cons, cj_cons, ← List.map_cons, List.append_assoc, List.cons_append]
    have h1 := ho x (by simp) (44 :: (cj ((y :: l).map f) ++ e :: r)) (nd_c (by decide))
    have hs : sk (44 :: (cj ((y :: l).map f) ++ e :: r)) = 44 :: (cj ((y :: l).map f) ++ e :: r) := sk_non _ (by decide)
    have h3 : hp [e] (44 :: (cj ((y :: l).map f) ++ e :: r)) = false := by simp [hp, List.isPrefixOf, hc]
    rw [h2, its_go h1 (by rw [hs]; exact h3) (by rw [hs]; exact hp_c 44 _), hs, tk_c, its_cj he hc hd l y n (xs ++ [x]) r (by simp at hn; omega) fun z hz => ho z (by simp at hz ⊢; exact .inr hz)]
    simp
theorem cj_len (L : List (List UInt8)) : L.length ≤ (cj L).length + 1 := by
  cases L with
  | nil => simp
  | cons x r =>
    have : ∀ r : List (List UInt8), r.length ≤ (r.flatMap fun y => 44 :: y).length := by
      intro r
      induction r with
      | nil => simp
      | cons y r ih => rw [List.flatMap_cons, List.length_append, List.length_cons, List.length_cons]; omega
    have := this r
    show (x :: r).length ≤ (x ++ r.flatMap fun y => 44 :: y).length + 1
    rw [List.length_append, List.length_cons]; omega
theorem rw_cj {b : UInt8} (hb : bk.contains b = false) (he : bk.contains e = false) (hc : (e == 44) = false) (hd : dg e = false) (l : List α) (r : List UInt8) (ho : ∀ y ∈ l, ∀ r, nd r → one (f y ++ r) = some (y, r))
    (hh : ∀ y ∈ l, ∃ c m, f y = c :: m ∧ bk.contains c = false ∧ (e == c) = false) : rw' one b e (b :: (cj (l.map f) ++ e :: r)) = some (l, r) := by
  unfold rw'
  rw [sk_non _ hb, hp_c, if_pos rfl, tk_c]
  cases l with
  | nil =>
    have : cj (([] : List α).map f) ++ e :: r = e :: r := rfl
    rw [this, sk_non r he, hp_c, if_pos rfl, tk_c]
  | cons x l =>
    obtain ⟨c, m, h1, h2, h3⟩ := hh x (by simp)
    obtain ⟨m', hm⟩ : ∃ m', cj ((x :: l).map f) ++ e :: r = c :: m' := ⟨_, by rw [List.map_cons]; show (f x ++ _) ++ e :: r = _; rw [h1, List.cons_append, List.cons_append]⟩
    have hs : sk (cj ((x :: l).map f) ++ e :: r) = cj ((x :: l).map f) ++ e :: r := by rw [hm, sk_non _ h2]
    have hp' : hp [e] (cj ((x :: l).map f) ++ e :: r) = false := by rw [hm]; simp [hp, List.isPrefixOf, h3]
    rw [hs, hp', if_neg (by decide), its_cj he hc hd l x _ [] r ?_ ho]
    · rfl
    · have := cj_len ((x :: l).map f)
      rw [List.length_map, List.length_cons] at this
      rw [List.length_cons, List.length_append, List.length_cons]; omega
end
theorem cz_hd : ∀ (n : Nat) (t : T), gd n t = true → ∃ c m, cz (n + 1) t = c :: m ∧ bk.contains c = false ∧ ((93 : UInt8) == c) = false
  | n, .mk k i s l p, hg => by
    unfold gd at hg
    rw [Bool.and_eq_true] at hg
    have h2 := hg.2
    unfold cz
    by_cases h0 : k = 0
    · subst h0; exact ⟨110, _, rfl, by decide, by decide⟩
    by_cases h1 : k = 1
    · subst h1
      rw [if_neg (by decide), if_pos rfl]
      cases decide (i = 1)
      · exact ⟨102, _, rfl, by decide, by decide⟩
      · exact ⟨116, _, rfl, by decide, by decide⟩
    by_cases h3 : k = 2
    · subst h3
      rw [if_neg (by decide), if_neg (by decide), if_pos rfl]
      unfold Lib.itoa
      split
      · exact ⟨45, _, rfl, by decide, by decide⟩
      · obtain ⟨b, m, e, hb⟩ := dec_cons i.toNat
        refine ⟨b, m, e, dg_bk hb, ?_⟩
        obtain ⟨g1, g2⟩ := dg_b hb
        rw [beq_eq_false_iff_ne]; intro h; subst h; simp at g2
    by_cases h4 : k = 3
    · subst h4; exact ⟨34, _, rfl, by decide, by decide⟩
    by_cases h5 : k = 4
    · subst h5; exact ⟨91, _, rfl, by decide, by decide⟩
    by_cases h6 : k = 5
    · subst h6; exact ⟨123, _, rfl, by decide, by decide⟩
    · simp [h0, h1, h3, h4, h5, h6] at h2
theorem gd_spare {n : Nat} {k i : Int} {s : List UInt8} {l : List T} {p : List (List UInt8 × T)} (h : gd n (.mk k i s l p) = true) : (k ≠ 1 → k ≠ 2 → i = 0) ∧ (k ≠ 3 → s = []) ∧ (k ≠ 4 → l = []) ∧ (k ≠ 5 → p = []) := by
  unfold gd at h
  rw [Bool.and_eq_true] at h
  have h1 : spB k i s l.length p.length = false := by simpa using h.1
  refine ⟨fun a b => ?_, fun a => ?_, fun a => ?_, fun a => ?_⟩
  · by_cases hi : i = 0
    · exact hi
    · rw [spB_1 ⟨hi, a, b⟩] at h1; cases h1
  · by_cases hs : s = []
    · exact hs
    · rw [spB_2 ⟨hs, a⟩] at h1; cases h1
  · cases l with
    | nil => rfl
    | cons x l => rw [spB_3 ⟨by simp, a⟩] at h1; cases h1
  · cases p with
    | nil => rfl
    | cons x p => rw [spB_4 ⟨by simp, a⟩] at h1; cases h1
theorem pv_word {n : Nat} {b : UInt8} {m : List UInt8} (hb : bk.contains b = false) : pv n (b :: m) = (if b.toNat = 110 then (if hp [110, 117, 108, 108] (b :: m) then some (.mk 0 0 [] [] [], tk [110, 117, 108, 108] (b :: m)) else none)
      else if b.toNat = 116 then (if hp [116, 114, 117, 101] (b :: m) then some (.mk 1 1 [] [] [], tk [116, 114, 117, 101] (b :: m)) else none)
      else if b.toNat = 102 then (if hp [102, 97, 108, 115, 101] (b :: m) then some (.mk 1 0 [] [] [], tk [102, 97, 108, 115, 101] (b :: m)) else none)
      else if b.toNat = 34 then (match qt (b :: m) with
        | none => none
        | some (s, r) => some (.mk 3 0 s [] [], r))
      else if b.toNat = 91 then (match n with
        | 0 => none
        | n + 1 => match rw' (pv n) 91 93 (b :: m) with
          | none => none
          | some (xs, r) => some (.mk 4 0 [] xs [], r))
      else if b.toNat = 123 then (match n with
        | 0 => none
        | n + 1 => match rw' (pr (pv n)) 123 125 (b :: m) with
          | none => none
          | some (ps, r) => if onc (ps.map (·.1)) then some (.mk 5 0 [] [] ps, r) else none)
      else match nm (b :: m) with
        | none => none
        | some (i, r) => some (.mk 2 i [] [] [], r)) := by
  cases n <;> (rw [pv, sk_non m hb]; rfl)
theorem pv_num {n : Nat} {i : Int} {r b' : List UInt8} {b : UInt8} {m : List UInt8} (e : b' ++ r = b :: m) (hb : b.toNat = 45 ∨ dg b = true) (hn : nm (b' ++ r) = some (i, r)) : pv n (b' ++ r) = some (.mk 2 i [] [] [], r) := by
  have hk : bk.contains b = false ∧ b.toNat < 58 ∧ b.toNat ≠ 34 := by
    rcases hb with h | h
    · refine ⟨?_, by omega, by omega⟩
      have : b = 45 := UInt8.toNat_inj.1 h
      subst this; decide
    · obtain ⟨h1, h2⟩ := dg_b h
      exact ⟨dg_bk h, by omega, by omega⟩
  rw [e] at hn ⊢
  rw [pv_word hk.1, if_neg (by omega), if_neg (by omega), if_neg (by omega), if_neg hk.2.2, if_neg (by omega), if_neg (by omega), hn]
theorem pv_cz : ∀ (n : Nat) (t : T) (r : List UInt8), gd n t = true → nd r → pv n (cz (n + 1) t ++ r) = some (t, r)
  | n, .mk k i s l p, r, hg, hr => by
    obtain ⟨e1, e2, e3, e4⟩ := gd_spare hg
    obtain ⟨g1, g2, g3, _⟩ := gd_list hg
    unfold gd at hg
    rw [Bool.and_eq_true] at hg
    have h2 := hg.2
    by_cases h0 : k = 0
    · subst h0
      rw [e1 (by decide) (by decide), e2 (by decide), e3 (by decide), e4 (by decide)]
      show pv n (110 :: ([117, 108, 108] ++ r)) = _
      rw [pv_word (by decide), if_pos (by decide), show (110 : UInt8) :: ([117, 108, 108] ++ r) = [110, 117, 108, 108] ++ r from rfl, hpw_c, if_pos rfl, tkw_c]
    by_cases h1 : k = 1
    · subst h1
      rw [e2 (by decide), e3 (by decide), e4 (by decide)]
      have hi : i = 0 ∨ i = 1 := by simpa using h2
      rcases hi with rfl | rfl
      · show pv n (102 :: ([97, 108, 115, 101] ++ r)) = _
        rw [pv_word (by decide), if_neg (by decide), if_neg (by decide), if_pos (by decide), show (102 : UInt8) :: ([97, 108, 115, 101] ++ r) = [102, 97, 108, 115, 101] ++ r from rfl, hpw_c, if_pos rfl, tkw_c]
      · show pv n (116 :: ([114, 117, 101] ++ r)) = _
        rw [pv_word (by decide), if_neg (by decide), if_pos (by decide), show (116 : UInt8) :: ([114, 117, 101] ++ r) = [116, 114, 117, 101] ++ r from rfl, hpw_c, if_pos rfl, tkw_c]
    by_cases h3 : k = 2
    · subst h3
      rw [e2 (by decide), e3 (by decide), e4 (by decide)]
      have hi : inR i = true := by simpa using h2
      have e : cz (n + 1) (.mk 2 i [] [] []) = Lib.itoa i := rfl
      rw [e]
      have hn := nm_itoa hi hr
      by_cases hneg : i < 0
      · exact pv_num (b := 45) (m := Lib.decDigits i.natAbs ++ r) (by unfold Lib.itoa; rw [if_pos hneg]; rfl) (.inl rfl) hn
      · obtain ⟨b, m, ed, hb⟩ := dec_cons i.toNat
        exact pv_num (b := b) (m := m ++ r) (by unfold Lib.itoa; rw [if_neg hneg, ed]; rfl) (.inr hb) hn
    by_cases h4 : k = 3
    · subst h4
      rw [e1 (by decide) (by decide), e3 (by decide), e4 (by decide)]
      have hv : Lib.validD s = true := by simpa using h2
      have e : cz (n + 1) (.mk 3 0 s [] []) = qu s := rfl
      rw [e]
      have hq := qt_qu hv r
      have ec : qu s ++ r = 34 :: (qb s ++ [34] ++ r) := rfl
      rw [ec] at hq ⊢
      rw [pv_word (by decide), if_neg (by decide), if_neg (by decide), if_neg (by decide), if_pos (by decide), hq]
    by_cases h5 : k = 4
    · subst h5
      rw [e1 (by decide) (by decide), e2 (by decide), e4 (by decide)]
      cases n with
      | zero => simp at h2
      | succ n =>
        have hl : ∀ t ∈ l, gd n t = true := by simpa using h2
        have e : cz (n + 1 + 1) (.mk 4 0 [] l []) ++ r = 91 :: (cj (l.map (cz (n + 1))) ++ 93 :: r) := by
          show 91 :: (cj (l.map (cz (n + 1))) ++ [93]) ++ r = _
          simp
        rw [e, pv_word (by decide), if_neg (by decide), if_neg (by decide), if_neg (by decide), if_neg (by decide), if_pos (by decide)]
        simp only
        rw [rw_cj (by decide) (by decide) (by decide) (by decide) l r (fun y hy r hr => pv_cz n y r (hl y hy) hr) (fun y hy => by
          obtain ⟨c, m, q1, q2, q3⟩ := cz_hd n y (hl y hy)
          exact ⟨c, m, q1, q2, q3⟩)]
    by_cases h6 : k = 5
    · subst h6
      rw [e1 (by decide) (by decide), e2 (by decide), e3 (by decide)]
      cases n with
      | zero => simp at h2
      | succ n =>
        simp only [Int.reduceEq, if_false, if_true, Bool.and_eq_true, List.all_eq_true] at h2
        obtain ⟨hp1, hp2⟩ := h2
        have e : cz (n + 1 + 1) (.mk 5 0 [] [] p) ++ r = 123 :: (cj (p.map fun q => qu q.1 ++ 58 :: cz (n + 1) q.2) ++ 125 :: r) := by
          show 123 :: (cj (p.map fun q => qu q.1 ++ 58 :: cz (n + 1) q.2) ++ [125]) ++ r = _
          simp
        rw [e, pv_word (by decide), if_neg (by decide), if_neg (by decide), if_neg (by decide), if_neg (by decide), if_neg (by decide), if_pos (by decide)]
        simp only
        rw [rw_cj (b := 123) (e := 125) (f := fun q : List UInt8 × T => qu q.1 ++ 58 :: cz (n + 1) q.2) (by decide) (by decide) (by decide) (by decide) p r (fun y hy r hr => ?_) (fun y _ => ⟨34, _, rfl, by decide, by decide⟩)]
        · simp only [hp2, if_true]
        · obtain ⟨q1, q2⟩ := hp1 y hy
          unfold pr
          have ea : (qu y.1 ++ 58 :: cz (n + 1) y.2) ++ r = qu y.1 ++ (58 :: (cz (n + 1) y.2 ++ r)) := by simp
          have eb : sk (qu y.1 ++ (58 :: (cz (n + 1) y.2 ++ r))) = qu y.1 ++ (58 :: (cz (n + 1) y.2 ++ r)) := by
            unfold qu; rw [List.cons_append, sk_non _ (by decide)]
          rw [ea, eb, qt_qu q1]
          simp only
          rw [sk_non _ (by decide), hp_c, if_pos rfl, tk_c, pv_cz n y.2 r q2 hr]
    · simp [h0, h1, h3, h4, h5, h6] at h2
theorem ri_eq : ∀ {A B : List Tp}, Ri ltT A → Ri ltT B → (A.map (·.1)).Nodup → A.Perm B → A = B
  | [], B, _, _, _, hp => (List.nil_perm.1 hp).symm
  | a :: A, [], _, _, _, hp => by have := hp.length_eq; simp at this
  | a :: A, b :: B, hA, hB, hn, hp => by
    have hA2 := List.pairwise_cons.1 hA
    have hB2 := List.pairwise_cons.1 hB
    have hab : a = b := by
      have ha : a ∈ b :: B := hp.mem_iff.1 (by simp)
      have hb : b ∈ a :: A := hp.mem_iff.2 (by simp)
      rcases List.mem_cons.1 ha with h | h
      · exact h
      rcases List.mem_cons.1 hb with h' | h'
      · exact h'.symm
      have l1 : bl a.1 b.1 = false := hB2.1 a h
      have l2 : bl b.1 a.1 = false := hA2.1 b h'
      have e : a.1 = b.1 := by
        rcases bl_tot a.1 b.1 with g | g | g
        · rw [l1] at g; cases g
        · exact g
        · rw [l2] at g; cases g
      rw [List.map_cons, List.nodup_cons] at hn
      exact absurd (by rw [e]; exact List.mem_map_of_mem h') hn.1
    subst hab
    rw [ri_eq hA2.2 hB2.2 (by rw [List.map_cons, List.nodup_cons] at hn; exact hn.2) ((List.perm_cons a).1 hp)]
theorem ss_eq {A B : List Tp} (hn : (A.map (·.1)).Nodup) (hp : A.Perm B) : ss ltT A = ss ltT B :=
  ri_eq (ss_ri ok_ltT A) (ss_ri ok_ltT B) (((ss_perm A).map _).nodup_iff.2 hn) (((ss_perm A).trans hp).trans (ss_perm B).symm)
def sof (n : Nat) (q : Tp) : Tp := (q.1, so n q.2)
theorem so_c (n : Nat) (k i : Int) (s : List UInt8) (l : List T) (p : List Tp) : so (n + 1) (.mk k i s l p) = .mk k i s (l.map (so n)) (ss ltT (p.map (sof n))) := rfl
theorem sof_n (n : Nat) (p : List Tp) : (p.map (sof n)).map (·.1) = p.map (·.1) := by rw [List.map_map]; rfl
theorem perm_of : ∀ {A B : List Tp}, (A.map (·.1)).Nodup → (∀ x ∈ A, x ∈ B) → A.length = B.length → A.Perm B
  | [], B, _, _, hl => by
    have : B = [] := List.length_eq_zero_iff.1 hl.symm
    rw [this]
  | a :: A, B, hn, hs, hl => by
    rw [List.map_cons, List.nodup_cons] at hn
    obtain ⟨B1, B2, rfl⟩ := List.append_of_mem (hs a (by simp))
    refine (List.Perm.cons a (perm_of hn.2 (fun x hx => ?_) ?_)).trans List.perm_middle.symm
    · have h1 := hs x (by simp [hx])
      have hne : x ≠ a := fun e => hn.1 (by rw [← e]; exact List.mem_map_of_mem hx)
      rw [List.mem_append, List.mem_cons] at h1
      rw [List.mem_append]
      rcases h1 with h | h | h
      · exact .inl h
      · exact absurd h hne
      · exact .inr h
    · rw [List.length_cons, List.length_append, List.length_cons] at hl
      rw [List.length_append]; omega
theorem sm_so : ∀ (n : Nat) (t t' : T), gd n t = true → gd n t' = true → (smB (n + 1) t t' = true ↔ so n t = so n t')
  | n, .mk k i s l p, .mk k' i' s' l' p', hg, hg' => by
    obtain ⟨g1, g2, g3, _⟩ := gd_list hg
    obtain ⟨g1', g2', g3', _⟩ := gd_list hg'
    have hsm : smB (n + 1) (.mk k i s l p) (.mk k' i' s' l' p') = true ↔ k = k' ∧ i = i' ∧ s = s' ∧ (l.length = l'.length ∧ exL (smB n) l l' = true) ∧ (p.length = p'.length ∧ smP (smB n) p p' = true) := by
      unfold smB
      simp only [Bool.and_eq_true, decide_eq_true_eq]
    rw [hsm]
    cases n with
    | zero =>
      have e1 : l = [] := by rcases g1 with h | ⟨m, e, _⟩; exact h; cases e
      have e2 : p = [] := by rcases g2 with h | ⟨m, e, _⟩; exact h; cases e
      have e3 : l' = [] := by rcases g1' with h | ⟨m, e, _⟩; exact h; cases e
      have e4 : p' = [] := by rcases g2' with h | ⟨m, e, _⟩; exact h; cases e
      subst e1; subst e2; subst e3; subst e4
      constructor
      · rintro ⟨rfl, rfl, rfl, _⟩; rfl
      · intro h
        have h : T.mk k i s [] [] = T.mk k' i' s' [] [] := h
        cases h
        exact ⟨rfl, rfl, rfl, ⟨rfl, rfl⟩, rfl, rfl⟩
    | succ n =>
      have hl : ∀ t ∈ l, gd n t = true := by
        rcases g1 with rfl | ⟨m, e, h⟩
        · simp
        · cases e; exact h
      have hl' : ∀ t ∈ l', gd n t = true := by
        rcases g1' with rfl | ⟨m, e, h⟩
        · simp
        · cases e; exact h
      have hp : ∀ q ∈ p, gd n q.2 = true := by
        rcases g2 with rfl | ⟨m, e, h⟩
        · simp
        · cases e; exact h
      have hp' : ∀ q ∈ p', gd n q.2 = true := by
        rcases g2' with rfl | ⟨m, e, h⟩
        · simp
        · cases e; exact h
      rw [so_c, so_c, T.mk.injEq]
      have hL : (l.length = l'.length ∧ exL (smB (n + 1)) l l' = true) ↔ l.map (so n) = l'.map (so n) := by
        constructor
        · rintro ⟨el, h⟩
          rw [exL_all el] at h
          refine List.ext_getElem? fun j => ?_
          rw [List.getElem?_map, List.getElem?_map]
          by_cases hj : j < l.length
          · have ha : l[j]? = some l[j] := List.getElem?_eq_getElem hj
            have hb : l'[j]? = some (l'[j]'(by omega)) := List.getElem?_eq_getElem (by omega)
            have := (sm_so n _ _ (hl _ (List.mem_of_getElem? ha)) (hl' _ (List.mem_of_getElem? hb))).1 (h j _ _ ha hb)
            rw [ha, hb, Option.map_some, Option.map_some, this]
          · rw [List.getElem?_eq_none (by omega), List.getElem?_eq_none (by omega)]
        · intro h
          have el : l.length = l'.length := by have := congrArg List.length h; simpa using this
          refine ⟨el, (exL_all el).2 fun j a b ha hb => (sm_so n a b (hl a (List.mem_of_getElem? ha)) (hl' b (List.mem_of_getElem? hb))).2 ?_⟩
          have := congrArg (·[j]?) h
          simp only [List.getElem?_map, ha, hb, Option.map_some, Option.some.injEq] at this
          exact this
      have hP : (p.length = p'.length ∧ smP (smB (n + 1)) p p' = true) ↔ ss ltT (p.map (sof n)) = ss ltT (p'.map (sof n)) := by
        rw [smP_all]
        constructor
        · rintro ⟨el, h⟩
          refine ss_eq (by rw [sof_n]; exact g3) (perm_of (by rw [sof_n]; exact g3) ?_ (by rw [List.length_map, List.length_map, el]))
          intro y hy
          obtain ⟨q, hq, rfl⟩ := List.mem_map.1 hy
          obtain ⟨x, hx, hs⟩ := h q hq
          have hxm := List.mem_of_find?_eq_some hx
          have hxe : x.1 = q.1 := by simpa using List.find?_some hx
          have := (sm_so n _ _ (hp q hq) (hp' x hxm)).1 hs
          refine List.mem_map.2 ⟨x, hxm, ?_⟩
          show (x.1, so n x.2) = (q.1, so n q.2)
          rw [hxe, this]
        · intro h
          have el : p.length = p'.length := by
            have := congrArg List.length h
            rw [ss_len, ss_len, List.length_map, List.length_map] at this; exact this
          refine ⟨el, fun q hq => ?_⟩
          have hm : sof n q ∈ ss ltT (p'.map (sof n)) := by rw [← h]; exact ss_mem.2 (List.mem_map_of_mem hq)
          obtain ⟨x, hx, hxe⟩ := List.mem_map.1 (ss_mem.1 hm)
          have hxe : (x.1, so n x.2) = (q.1, so n q.2) := hxe
          have e1 : x.1 = q.1 := (Prod.mk.inj hxe).1
          have e2 : so n x.2 = so n q.2 := (Prod.mk.inj hxe).2
          refine ⟨x, ?_, (sm_so n _ _ (hp q hq) (hp' x hx)).2 e2.symm⟩
          have := find_nd g3' hx
          rw [← e1]; exact this
      rw [hL, hP]
theorem ct_hd {t : T} (hg : gd 8 t = true) (r : List UInt8) (hr : nd r) : pv 8 (ct t ++ r) = some (so 8 t, r) := pv_cz 8 _ r (so_gd 8 hg) hr
theorem pv_ct {t : T} (hg : gd 8 t = true) : pv 8 (ct t) = some (so 8 t, []) := by
  have := ct_hd hg [] (by intro b m h; cases h)
  rwa [List.append_nil] at this
theorem ct_one {t t' : T} (hg : gd 8 t = true) (hg' : gd 8 t' = true) : smB 9 t t' = decide (ct t = ct t') := by
  rw [Bool.eq_iff_iff, decide_eq_true_iff, sm_so 8 t t' hg hg']
  constructor
  · intro h; unfold ct; rw [h]
  · intro h
    have h1 := pv_ct hg
    rw [h, pv_ct hg'] at h1
    exact ((Prod.mk.inj (Option.some.inj h1)).1).symm
end Go.Proofs.YtbemaloaobeblaaGreatDoor

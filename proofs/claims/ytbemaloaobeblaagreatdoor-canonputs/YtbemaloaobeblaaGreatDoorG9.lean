/- CN5, CN6, KR5, KR6, CN8, CN9, CN10, CN11, CP1, KT: laid together. -/
import Derived.BigQuiet
import Derived.Lib.LaidU8
import Derived.Lib.LaidTab
import Derived.LaidLaws
import Derived.PinnedBridge
import Derived.Lay
import Derived.LaidMore
import Derived.WalkKit
import Derived.ProofKit
import Derived.OpenShut
import Derived.ChangeOld
import Derived.Test.YtbemaloaobeblaaGreatDoorG8
import Derived.Test.YtbemaloaobeblaaGreatDoorG3
import Derived.Test.YtbemaloaobeblaaGreatDoorG2
import Derived.Test.YtbemaloaobeblaaGreatDoorRows
namespace Go.Proofs.YtbemaloaobeblaaGreatDoor
open Go.RowKit Go.Shelf

section
variable {P : Program} {Q : Exit → Act → World → Prop}
def wrX (l : List Oper) (fin t : Nat) : Bool := (List.range l.length).any fun i => i != fin && ((l[i]?.bind (·.dst)) == some t)
theorem wrX_of {l : List Oper} {fin i t : Nat} {o : Oper} (ho : l[i]? = some o) (hi : i ≠ fin) (hd : o.dst = some t) : wrX l fin t = true := by
  refine List.any_eq_true.2 ⟨i, List.mem_range.2 (List.getElem?_eq_some_iff.1 ho).1, ?_⟩
  rw [ho]
  simp [hi, hd]
theorem wrX_b {l : List Oper} {fin t : Nat} (h : wrB l t = false) : wrX l fin t = false := by
  cases hx : wrX l fin t with
  | false => rfl
  | true =>
    obtain ⟨i, hi, h2⟩ := List.any_eq_true.1 hx
    rw [Bool.and_eq_true] at h2
    have hil := List.mem_range.1 hi
    rw [List.getElem?_eq_getElem hil] at h2
    have : wrB l t = true := List.any_eq_true.2 ⟨l[i], List.getElem_mem hil, by simpa using h2.2⟩
    rw [this] at h; cases h
theorem wp_flowH {l : List Oper} {id : Nat} (fin : Nat) (a0 : Act) (w0 : World) (hm : P.follows .mixedOrders = true) (hac : acycB l.toArray = true) (hfin : finC l fin a0.tmps.size = true) {f : Oper} (hf : l[fin]? = some f)
    (Rr : Nat → Value → World → Prop) (hmono : ∀ i v w w', Rr i v w → Below w.heap.size w w' → Rr i v w')
    (hop : ∀ i o, l[i]? = some o → i ≠ fin → ∀ a w, Below w0.heap.size w0 w → a.tmps.size = a0.tmps.size → (∀ t, wrX l fin t = false → a.tmps.getD t undef = a0.tmps.getD t undef) → (∀ j oj d, l[j]? = some oj → oj.dst = some d → (∃ e ∈ o.after, Region.binds .any e = true ∧ e.on = j) → Rr j (a.tmps.getD d undef) w) →
      ∀ K : Act → World → Prop, (∀ v w', Below w.heap.size w w' → Rr i v w' → K (a.put o.dst v) w') → OpG P l Q o a w K)
    (hlast : ∀ a w, Below w0.heap.size w0 w → a.defers = a0.defers → a.tmps.size = a0.tmps.size → (∀ t, wrX l fin t = false → a.tmps.getD t undef = a0.tmps.getD t undef) → (∀ j oj d, l[j]? = some oj → j ≠ fin → oj.dst = some d → Rr j (a.tmps.getD d undef) w) →
      ∀ K : Act → World → Prop, (∀ a' w', Q .normal a' w' → K a' w') → OpG P l Q f a w K) : (Code.region id l.toArray true).wp P Q a0 w0 := by
  have hacyc := acyc_of (ops := l.toArray) hac
  refine wp_region_any hm (wpAny_sym hacyc (fun D a w => ((∀ j, j < l.length → D j = true) ∧ Q .normal a w) ∨ (D fin = false ∧ a.defers = a0.defers ∧ a.tmps.size = a0.tmps.size ∧ Below w0.heap.size w0 w ∧ (∀ t, wrX l fin t = false → a.tmps.getD t undef = a0.tmps.getD t undef) ∧ (∀ j oj, l[j]? = some oj → D j = true → ∀ e ∈ oj.after, Region.binds .any e = true → D e.on = true) ∧ ∀ j oj d, l[j]? = some oj → D j = true → oj.dst = some d → Rr j (a.tmps.getD d undef) w)) ?_ ?_ _ _ _ _ (by simp) ?_ ?_)
  · intro D a w hI i o ho hD hdep K hK
    have ho : l[i]? = some o := by simpa using ho
    rcases hI with ⟨h1, _⟩ | ⟨h1, hdf, hsz, hb, hsl, hcl, hr⟩
    · rw [h1 i (List.getElem?_eq_some_iff.1 ho).1] at hD; cases hD
    · by_cases hi : i = fin
      · subst hi
        rw [hf] at ho
        cases ho
        have hall : ∀ j, j < l.length → j ≠ i → D j = true := fun j hj hne => by
          obtain ⟨h3, _⟩ := finC_at hfin (List.getElem?_eq_getElem hj) hne
          cases hk : l.length with
          | zero => omega
          | succ k =>
            rw [hk] at h3
            unfold rch at h3
            rw [hf] at h3
            obtain ⟨e, he, h4⟩ := Array.any_eq_true'.1 h3
            simp only [Bool.and_eq_true, Bool.or_eq_true, beq_iff_eq] at h4
            rcases h4.2 with h5 | h5
            · rw [← h5]; exact hdep e he h4.1
            · exact rch_of hcl k e.on j h5 (hdep e he h4.1)
        refine hlast a w hb hdf hsz hsl (fun j oj d hj hne hd => hr j oj d hj (hall j (List.getElem?_eq_some_iff.1 hj).1 hne) hd) K (fun a' w' hq => hK a' w' (.inl ⟨fun j hj => ?_, hq⟩))
        by_cases hji : j = i
        · rw [hji]; exact add1_eq
        · rw [add1_ne hji]; exact hall j hj hji
      · obtain ⟨_, d, hd, hdn, hap⟩ := finC_at hfin ho hi
        have hds : d < a.tmps.size := by rw [hsz]; exact hdn
        refine hop i o ho hi a w hb hsz hsl (fun j oj d' hj hd' ⟨e, he, h3, h4⟩ => hr j oj d' hj (by rw [← h4]; exact hdep e he h3) hd') K (fun v w' hb' hR => hK _ _ (.inr ⟨?_, ?_, ?_, ?_, ?_, ?_, ?_⟩))
        · rw [add1_ne (fun e => hi e.symm)]; exact h1
        · rw [put_df]; exact hdf
        · rw [put_sz]; exact hsz
        · exact hb.trans (hb'.mono hb.size)
        · intro t ht
          rw [hd, put_of hds (fun e => by
            subst e
            have : wrX l fin t = true := wrX_of ho hi hd
            rw [this] at ht; cases ht)]
          exact hsl t ht
        · intro j oj hj hDj e he h3
          by_cases hji : j = i
          · subst hji
            rw [ho] at hj
            cases hj
            exact add1_mono (hdep e he h3)
          · rw [add1_ne hji] at hDj
            exact add1_mono (hcl j oj hj hDj e he h3)
        · intro j oj d' hj hDj hd'
          by_cases hji : j = i
          · subst hji
            rw [ho] at hj
            cases hj
            rw [hd] at hd'
            cases hd'
            rw [hd, put_at hds]
            exact hR
          · rw [add1_ne hji] at hDj
            rw [hd, put_of hds (fun e => hap j oj hj hji (by rw [hd', e]))]
            exact hmono _ _ _ _ (hr j oj d' hj hDj hd') hb'
  · intro D a w hI hall
    rcases hI with ⟨_, h⟩ | ⟨h1, _⟩
    · exact h
    · rw [hall fin (by simpa using (List.getElem?_eq_some_iff.1 hf).1)] at h1; cases h1
  · exact Nat.le_trans (List.length_filter_le _ _) (by simp)
  · have e : (fun i => (Array.replicate l.toArray.size false).getD i false) = fun _ => false := by
      funext i
      by_cases h : i < l.toArray.size <;> simp [Array.getD]
    rw [e]
    exact .inr ⟨rfl, rfl, rfl, (Below.refl _ _).drew, fun _ _ => rfl, (fun _ _ _ h => absurd h (by simp)), (fun _ _ _ _ h => absurd h (by simp))⟩
end
theorem st_cat {a b : List UInt8} (h : a.length + b.length ≤ 9000000000000000000) (w : World) : (binOp .add 9 (.string (st a)) (.string (st b))).run Tryz.prog w = .ok (.string (st (a ++ b))) w := by
  have hno : ¬ 9223372036854775807 < (st a).size + (st b).size := by rw [st_size, st_size]; omega
  simp [binOp, go_sem, Op.stringOp, st_ap]
  omega
set_option maxRecDepth 100000 in
theorem rpairs_0 {F : Nat → Prop} {w : World} {v : Value} (h : RwA F w 49 6 v []) : Calls Tryz.prog 40 #[v] w fun e w' => (∃ a cap, e = .returned (.slice a 0 cap)) ∧ Below w.heap.size w w' := by
  have hbs := bs_0P w
  have hb0 : Hid (Below w.heap.size w (w.alloc (.cells #[] 49))) := hide1 ((Below.refl _ _).alloc (Nat.le_refl _) _)
  obtain ⟨a, cap, rfl, -, -⟩ := h.sliceP
  clear h
  simp only [List.length_nil]
  go_enter Tryz.func40, Tryz.ntmps40
  cases a <;>
    (go_wp2_with fail
     go_loopw [4] (fun s8 wo => s8 = .int .i64 1 ∧ Hid (Below w.heap.size w wo)) (fun _ _ => 0)
     case atStart => exact ⟨rfl, hb0⟩
     case round =>
       obtain ⟨rfl, hb⟩ := hrel
       clear hb0 hbs
       go_wp2
       go_ret
       exact ⟨⟨_, _, rfl⟩, hb.out⟩)
set_option maxHeartbeats 4000000 in
set_option maxRecDepth 100000 in
theorem txt_5 {w : World} {sl sp : Value} {s : List UInt8} {ki : Int} {F : Nat → Prop} {cp : List (List Value)} {n : Nat} {E : Nat → Ep} {L : List (List UInt8)} (hrow : RwA F w 49 6 sp cp) (hcs : cp = (sg E 0 n).map cl) (hok : ∀ k, k < n → EpOk (E k)) (hln : L.length = n) (hn2 : n ≤ 2000000) (hlen : (cj L).length ≤ 1000000000000)
    (hval : ∀ (i : Nat) (e : Ep) (y : List UInt8), (ss ltE (sg E 0 n))[i]? = some e → L[i]? = some y → ∃ X, y = qu e.1 ++ 58 :: X ∧ e.1.length ≤ 100000 ∧ ∀ w1, Below w.heap.size w w1 → Calls Tryz.prog 39 #[.agg e.2.toArray] w1 (AnN w1 X)) : Calls Tryz.prog 39 #[.agg #[.int .i64 5, .int .i64 ki, .string (st s), sl, sp]] w (AnN w (123 :: (cj L ++ [125]))) := by
  obtain ⟨wb, hwb⟩ : ∃ wb, wb = w.alloc (.cells #[.int .i64 5, .int .i64 ki, .string (st s), sl, sp] 28) := ⟨_, rfl⟩
  have hB : Below w.heap.size w wb := by rw [hwb]; exact (Below.refl _ _).alloc (Nat.le_refl _) _
  have hn : wb.heap[w.heap.size]? = some (.cells #[.int .i64 5, .int .i64 ki, .string (st s), sl, sp] 28 (0, 0)) := by
    rw [hwb]
    show (w.heap.push _)[w.heap.size]? = _
    rw [Array.getElem?_push, if_pos rfl]
  have c0 : wb.cell? ⟨w.heap.size, 0, none⟩ = some (.int .i64 5) := by simp only [World.cell?, hn]; rfl
  have c1 : wb.cell? ⟨w.heap.size, 1, none⟩ = some (.int .i64 ki) := by simp only [World.cell?, hn]; rfl
  have c2 : wb.cell? ⟨w.heap.size, 2, none⟩ = some (.string (st s)) := by simp only [World.cell?, hn]; rfl
  have c3 : wb.cell? ⟨w.heap.size, 3, none⟩ = some sl := by simp only [World.cell?, hn]; rfl
  have c4 : wb.cell? ⟨w.heap.size, 4, none⟩ = some sp := by simp only [World.cell?, hn]; rfl
  have hz : w.heap.size < wb.heap.size := (Array.getElem?_eq_some_iff.1 hn).1
  have hrb : RwA (fun _ => True) wb 49 6 sp cp := hrow.frame (fun k _ hk => hB.block k hk) (fun _ _ _ => trivial)
  replace hB := hide1 hB
  replace hn := hide1 hn
  replace hlen := hide1 hlen
  rcases Nat.eq_zero_or_pos n with rfl | h1
  · obtain rfl : cp = [] := by rw [hcs]; rfl
    obtain rfl : L = [] := List.length_eq_zero_iff.1 hln
    have hpr := rpairs_0 hrb
    clear hval hrow hrb hcs hok hln
    go_enter Tryz.func39, Tryz.ntmps39
    go_upto_region 1 with fail
    rw [← hwb]
    clear hwb
    go_wp2_with fail
    refine hpr.mono ?_
    rintro e w1 ⟨⟨a, cap, rfl⟩, b1⟩
    have hb1 : Hid (Below w.heap.size w w1) := hide1 (hB.out.trans (b1.mono hB.out.size))
    clear hpr b1 hB
    go_wp2_with fail
    go_loopw [3, 6] (fun v i wr => i = .int .i64 0 ∧ v = .string ⟨#[]⟩ ∧ wr = w1) (fun _ _ _ => 0)
    case atStart => exact ⟨rfl, rfl, rfl⟩
    case round =>
      obtain ⟨rfl, rfl, rfl⟩ := hrel
      clear c0 c1 c2 c3 c4
      go_wp2
      go_ret
      exact ⟨rfl, hb1.out⟩
  · have hpr := rpairs_n hrb hcs hok h1 hn2
    clear hrb hcs hok
    go_enter Tryz.func39, Tryz.ntmps39
    go_upto_region 1 with fail
    rw [← hwb]
    clear hwb
    go_wp2_with fail
    refine hpr.mono ?_
    rintro e w1 ⟨g, cap, G, rfl, hgB, hR1, hG, b1⟩
    have hb1 : Hid (Below w.heap.size w w1) := hide1 (hB.out.trans (b1.mono hB.out.size))
    rw [← hG] at hval
    replace hR1 := hide1 hR1
    clear hpr b1 hB hG hn
    go_wp2_with fail
    go_loopw [3, 6] (fun v i wr => ∃ j : Nat, j ≤ n ∧ i = .int .i64 (j : Nat) ∧ v = .string (st (cj (L.take j))) ∧ Hid (Below w1.heap.size w1 wr)) (fun _ i _ => n - (intOf i).toNat)
    case atStart => exact ⟨0, by omega, rfl, rfl, hide1 (Below.refl _ _)⟩
    case round =>
      clear c0 c1 c2 c3 c4
      obtain ⟨jj, hj, rfl, rfl, hbw⟩ := hrel
      have hBr : Hid (Below w.heap.size w wr) := hide1 (hb1.out.trans (hbw.out.mono hb1.out.size))
      have hPl := hide1 (cj_take L jj)
      by_cases hjn : jj < n
      · have hlt : jj < n := hjn
        obtain ⟨y, hy⟩ : ∃ y, L[jj]? = some y := ⟨_, List.getElem?_eq_getElem (by omega)⟩
        obtain ⟨X, rfl, hnm0, hcall0⟩ := hval jj (G jj) y (by rw [sg_at hjn, Nat.zero_add]) hy
        have hRr := hide1 (hR1.out.later hbw.out)
        have hokj := hRr.out.ok jj hjn
        obtain ⟨nm, hnmE⟩ : ∃ nm, Hid (nm = (G jj).1) := ⟨_, hide1 rfl⟩
        obtain ⟨x1, x2, x3, x4, x5, hce⟩ := five_l hokj.1
        have hld1 : ∀ wa, Below wr.heap.size wr wa → (Instr.loadAt 9 (.pointer (some ⟨g, jj * 6, none⟩))).run Tryz.prog wa = .ok (.string (st nm)) wa := fun wa hwa => by
          rw [hnmE.out]
          exact ld_s0 ((hRr.out.later hwa).name hjn)
        have hld2 : ∀ wa, Below wr.heap.size wr wa → (Instr.loadAt 28 (.pointer (some ⟨g, jj * 6 + 1, none⟩))).run Tryz.prog wa = .ok (.agg #[x1, x2, x3, x4, x5]) wa := fun wa hwa => ld_mV (fun q v hq => by
          have := (hRr.out.later hwa).range hjn (q + 1) v (by unfold cl; rw [hce]; simpa using hq)
          rw [show jj * 6 + 1 + q = jj * 6 + (q + 1) by omega]
          exact this)
        have hcall : ∀ wa, Below wr.heap.size wr wa → Calls Tryz.prog 39 #[.agg #[x1, x2, x3, x4, x5]] wa (AnN wa X) := fun wa hwa => by
          have := hcall0 wa (hBr.out.trans (hwa.mono hBr.out.size))
          rw [hce] at this
          exact this
        have hnm : nm.length ≤ 100000 := by rw [hnmE.out]; exact hnm0
        have hst := cj_step hy
        rw [← hnmE.out] at hst
        have hql := (qb_len nm).2
        have hqu : (qu nm).length ≤ 600002 := by unfold qu; simp; omega
        have hXl : X.length ≤ (cj L).length := by
          have := cj_take L (jj + 1)
          rw [hst] at this
          split at this
          · rw [List.length_append, List.length_cons] at this; omega
          · rw [List.length_append, List.length_cons, List.length_append, List.length_cons] at this; omega
        have hb := hlen.out
        have hb2 := hPl.out
        obtain ⟨P, hP⟩ : ∃ P, Hid (P = if jj = 0 then [] else cj (L.take jj) ++ [44]) := ⟨_, hide1 rfl⟩
        have hPle : P.length ≤ 1000000000001 := by rw [hP.out]; split <;> simp <;> omega
        have hcat1 := fun w => st_cat (a := P) (b := qu nm) (by omega) w
        have hcat2 := fun w => st_cat (a := P ++ qu nm) (b := [58]) (by simp; omega) w
        have hcat3 := fun w => st_cat (a := P ++ qu nm ++ [58]) (b := X) (by simp; omega) w
        replace hcat2 : ∀ w, (binOp .add 9 (.string (st (P ++ qu nm))) (.string ⟨#[58]⟩)).run Tryz.prog w = .ok (.string (st (P ++ qu nm ++ [58]))) w := hcat2
        have hnext : Hid (st (P ++ qu nm ++ [58] ++ X) = st (cj (L.take (jj + 1)))) := hide1 (by
          rw [hst, hP.out]
          split
          · simp
          · simp)
        clear hcall0 hval hce hokj hrow hnm0
        have hreg : Hid (st P = if jj = 0 then st (cj (L.take jj)) else st (cj (L.take jj)) ++ ⟨#[44]⟩) := hide1 (by
          rw [hP.out]
          by_cases h0 : jj = 0
          · rw [if_pos h0, if_pos h0, h0]; rfl
          · rw [if_neg h0, if_neg h0, show (⟨#[44]⟩ : ByteArray) = st [44] from rfl, st_ap])
        have hno1 : ¬ 9223372036854775807 < (st (cj (L.take jj))).size + (⟨#[44]⟩ : ByteArray).size := by rw [st_size, show (⟨#[44]⟩ : ByteArray).size = 1 from rfl]; omega
        clear hst hql hb hb2 hPl hXl
        replace hqu := hide1 hqu
        replace hPle := hide1 hPle
        by_cases h0 : jj = 0
        · rw [if_pos h0] at hreg
          subst h0
          go_upto_region 28 with fail
          rw [← hreg.out]
          clear hno1 hreg
          refine wp_flowH 16 _ _ (by kernel_rfl) (by kernel_rfl) (by kernel_rfl) rfl (fun j v _ => v = ([(.string (st (P))), (.slice (some ⟨g, 0, none⟩) n cap), (.int .i64 (0 : Nat)), (.pointer (some ⟨g, 0 * 6, none⟩)), (.pointer (some ⟨g, 0 * 6, none⟩)), (.string (st (nm))), (.string (st (qu nm))), (.string (st (P ++ qu nm))), (.string (st (P ++ qu nm ++ [58]))), (.slice (some ⟨g, 0, none⟩) n cap), (.int .i64 (0 : Nat)), (.pointer (some ⟨g, 0 * 6, none⟩)), (.pointer (some ⟨g, 0 * 6 + 1, none⟩)), (.agg #[x1, x2, x3, x4, x5]), (.string (st (X))), (.string (st (P ++ qu nm ++ [58] ++ X))), (.string (st (P ++ qu nm ++ [58] ++ X)))] : List Value).getD j undef) (fun _ _ _ _ h _ => h) ?_ ?_
          · intro j op hop hj a wa hwa hsz hsl hdep K hK
            match j, hop with
            | 0, hop =>
              obtain rfl := Option.some.inj hop
              have p3 : a.tmps.getD 3 undef = (.string (st (P))) := hsl 3 rfl
              exact .plain rfl (wp_val (w' := wa) (v := (.string (st (P)))) (by simp only [execOp, Act.eval]; rw [show a.tmps.getD 3 undef = _ from p3]; rfl) (hK _ _ (Below.refl _ _) rfl))
            | 1, hop =>
              obtain rfl := Option.some.inj hop
              have p5 : a.tmps.getD 5 undef = (.slice (some ⟨g, 0, none⟩) n cap) := hsl 5 rfl
              exact .plain rfl (wp_val (w' := wa) (v := (.slice (some ⟨g, 0, none⟩) n cap)) (by simp only [execOp, Act.eval]; rw [show a.tmps.getD 5 undef = _ from p5]; rfl) (hK _ _ (Below.refl _ _) rfl))
            | 2, hop =>
              obtain rfl := Option.some.inj hop
              have p6 : a.tmps.getD 6 undef = (.int .i64 (0 : Nat)) := hsl 6 rfl
              exact .plain rfl (wp_val (w' := wa) (v := (.int .i64 (0 : Nat))) (by simp only [execOp, Act.eval]; rw [show a.tmps.getD 6 undef = _ from p6]; rfl) (hK _ _ (Below.refl _ _) rfl))
            | 3, hop =>
              obtain rfl := Option.some.inj hop
              have t1 : a.tmps.getD 66 undef = (.slice (some ⟨g, 0, none⟩) n cap) := hdep 1 _ 66 rfl rfl ⟨⟨1, .data⟩, by simp, rfl, rfl⟩
              have t2 : a.tmps.getD 67 undef = (.int .i64 (0 : Nat)) := hdep 2 _ 67 rfl rfl ⟨⟨2, .data⟩, by simp, rfl, rfl⟩
              exact .plain rfl (wp_val (w' := wa) (v := (.pointer (some ⟨g, 0 * 6, none⟩))) (by simp only [execOp, Act.eval]; rw [show a.tmps.getD 66 undef = _ from t1, show a.tmps.getD 67 undef = _ from t2]; simp only [Sem.run_bind, ix_sP hjn, Result.andThen_ok, Sem.run_pure]) (hK _ _ (Below.refl _ _) rfl))
            | 4, hop =>
              obtain rfl := Option.some.inj hop
              have t3 : a.tmps.getD 68 undef = (.pointer (some ⟨g, 0 * 6, none⟩)) := hdep 3 _ 68 rfl rfl ⟨⟨3, .data⟩, by simp, rfl, rfl⟩
              exact .plain rfl (wp_val (w' := wa) (v := (.pointer (some ⟨g, 0 * 6, none⟩))) (by simp only [execOp, Act.eval]; rw [show a.tmps.getD 68 undef = _ from t3]; kernel_rfl) (hK _ _ (Below.refl _ _) rfl))
            | 5, hop =>
              obtain rfl := Option.some.inj hop
              have t4 : a.tmps.getD 69 undef = (.pointer (some ⟨g, 0 * 6, none⟩)) := hdep 4 _ 69 rfl rfl ⟨⟨4, .data⟩, by simp, rfl, rfl⟩
              exact .plain rfl (wp_val (w' := wa) (v := (.string (st (nm)))) (by simp only [execOp, Act.eval]; rw [show a.tmps.getD 69 undef = _ from t4]; simp only [Sem.run_bind, hld1 _ hwa, Result.andThen_ok, Sem.run_pure]) (hK _ _ (Below.refl _ _) rfl))
            | 6, hop =>
              obtain rfl := Option.some.inj hop
              have t5 : a.tmps.getD 70 undef = (.string (st (nm))) := hdep 5 _ 70 rfl rfl ⟨⟨5, .data⟩, by simp, rfl, rfl⟩
              refine .plain rfl (oper_any (J := fun r w' => r = (.string (st (qu nm))) ∧ Below wa.heap.size wa w') 67 #[.tmp 70] _ rfl #[(.string (st (nm)))] (by simp only [List.map_toArray, List.map_cons, List.map_nil, Act.eval]; rw [show a.tmps.getD 70 undef = _ from t5]) (fun w => by kernel_rfl) ((rquote_d (w := wa) hnm).mono fun e w' h => ⟨_, h.1, rfl, h.2⟩) ?_)
              rintro r w' ⟨rfl, hb⟩
              exact hK _ _ hb rfl
            | 7, hop =>
              obtain rfl := Option.some.inj hop
              have t0 : a.tmps.getD 65 undef = (.string (st (P))) := hdep 0 _ 65 rfl rfl ⟨⟨0, .data⟩, by simp, rfl, rfl⟩
              have t6 : a.tmps.getD 71 undef = (.string (st (qu nm))) := hdep 6 _ 71 rfl rfl ⟨⟨6, .data⟩, by simp, rfl, rfl⟩
              exact .plain rfl (wp_val (w' := wa) (v := (.string (st (P ++ qu nm)))) (by simp only [execOp, Act.eval]; rw [show a.tmps.getD 65 undef = _ from t0, show a.tmps.getD 71 undef = _ from t6]; simp only [Sem.run_bind, eqg_add, hcat1, Result.andThen_ok, Sem.run_pure]) (hK _ _ (Below.refl _ _) rfl))
            | 8, hop =>
              obtain rfl := Option.some.inj hop
              have t7 : a.tmps.getD 72 undef = (.string (st (P ++ qu nm))) := hdep 7 _ 72 rfl rfl ⟨⟨7, .data⟩, by simp, rfl, rfl⟩
              exact .plain rfl (wp_val (w' := wa) (v := (.string (st (P ++ qu nm ++ [58])))) (by simp only [execOp, Act.eval]; rw [show a.tmps.getD 72 undef = _ from t7]; simp only [Sem.run_bind, eqg_add, hcat2, Result.andThen_ok, Sem.run_pure]) (hK _ _ (Below.refl _ _) rfl))
            | 9, hop =>
              obtain rfl := Option.some.inj hop
              have p5 : a.tmps.getD 5 undef = (.slice (some ⟨g, 0, none⟩) n cap) := hsl 5 rfl
              exact .plain rfl (wp_val (w' := wa) (v := (.slice (some ⟨g, 0, none⟩) n cap)) (by simp only [execOp, Act.eval]; rw [show a.tmps.getD 5 undef = _ from p5]; rfl) (hK _ _ (Below.refl _ _) rfl))
            | 10, hop =>
              obtain rfl := Option.some.inj hop
              have p6 : a.tmps.getD 6 undef = (.int .i64 (0 : Nat)) := hsl 6 rfl
              exact .plain rfl (wp_val (w' := wa) (v := (.int .i64 (0 : Nat))) (by simp only [execOp, Act.eval]; rw [show a.tmps.getD 6 undef = _ from p6]; rfl) (hK _ _ (Below.refl _ _) rfl))
            | 11, hop =>
              obtain rfl := Option.some.inj hop
              have t9 : a.tmps.getD 74 undef = (.slice (some ⟨g, 0, none⟩) n cap) := hdep 9 _ 74 rfl rfl ⟨⟨9, .data⟩, by simp, rfl, rfl⟩
              have t10 : a.tmps.getD 75 undef = (.int .i64 (0 : Nat)) := hdep 10 _ 75 rfl rfl ⟨⟨10, .data⟩, by simp, rfl, rfl⟩
              exact .plain rfl (wp_val (w' := wa) (v := (.pointer (some ⟨g, 0 * 6, none⟩))) (by simp only [execOp, Act.eval]; rw [show a.tmps.getD 74 undef = _ from t9, show a.tmps.getD 75 undef = _ from t10]; simp only [Sem.run_bind, ix_sP hjn, Result.andThen_ok, Sem.run_pure]) (hK _ _ (Below.refl _ _) rfl))
            | 12, hop =>
              obtain rfl := Option.some.inj hop
              have t11 : a.tmps.getD 76 undef = (.pointer (some ⟨g, 0 * 6, none⟩)) := hdep 11 _ 76 rfl rfl ⟨⟨11, .data⟩, by simp, rfl, rfl⟩
              exact .plain rfl (wp_val (w' := wa) (v := (.pointer (some ⟨g, 0 * 6 + 1, none⟩))) (by simp only [execOp, Act.eval]; rw [show a.tmps.getD 76 undef = _ from t11]; kernel_rfl) (hK _ _ (Below.refl _ _) rfl))
            | 13, hop =>
              obtain rfl := Option.some.inj hop
              have t12 : a.tmps.getD 77 undef = (.pointer (some ⟨g, 0 * 6 + 1, none⟩)) := hdep 12 _ 77 rfl rfl ⟨⟨12, .data⟩, by simp, rfl, rfl⟩
              exact .plain rfl (wp_val (w' := wa) (v := (.agg #[x1, x2, x3, x4, x5])) (by simp only [execOp, Act.eval]; rw [show a.tmps.getD 77 undef = _ from t12]; simp only [Sem.run_bind, hld2 _ hwa, Result.andThen_ok, Sem.run_pure]) (hK _ _ (Below.refl _ _) rfl))
            | 14, hop =>
              obtain rfl := Option.some.inj hop
              have t13 : a.tmps.getD 78 undef = (.agg #[x1, x2, x3, x4, x5]) := hdep 13 _ 78 rfl rfl ⟨⟨13, .data⟩, by simp, rfl, rfl⟩
              refine .plain rfl (oper_any (J := fun r w' => r = (.string (st (X))) ∧ Below wa.heap.size wa w') 39 #[.tmp 78] _ rfl #[(.agg #[x1, x2, x3, x4, x5])] (by simp only [List.map_toArray, List.map_cons, List.map_nil, Act.eval]; rw [show a.tmps.getD 78 undef = _ from t13]) (fun w => by kernel_rfl) ((hcall _ hwa).mono fun e w' h => ⟨_, h.1, rfl, h.2⟩) ?_)
              rintro r w' ⟨rfl, hb⟩
              exact hK _ _ hb rfl
            | 15, hop =>
              obtain rfl := Option.some.inj hop
              have t8 : a.tmps.getD 73 undef = (.string (st (P ++ qu nm ++ [58]))) := hdep 8 _ 73 rfl rfl ⟨⟨8, .data⟩, by simp, rfl, rfl⟩
              have t14 : a.tmps.getD 79 undef = (.string (st (X))) := hdep 14 _ 79 rfl rfl ⟨⟨14, .data⟩, by simp, rfl, rfl⟩
              exact .plain rfl (wp_val (w' := wa) (v := (.string (st (P ++ qu nm ++ [58] ++ X)))) (by simp only [execOp, Act.eval]; rw [show a.tmps.getD 73 undef = _ from t8, show a.tmps.getD 79 undef = _ from t14]; simp only [Sem.run_bind, eqg_add, hcat3, Result.andThen_ok, Sem.run_pure]) (hK _ _ (Below.refl _ _) rfl))
            | 16, _ => exact absurd rfl hj
            | _ + 17, hop => exact absurd hop (by simp)
          · intro a wa hwa hdf hsz hsl hrr K hK
            have t15 : a.tmps.getD 80 undef = (.string (st (P ++ qu nm ++ [58] ++ X))) := hrr 15 _ 80 rfl (by decide) rfl
            refine .plain rfl (wp_val (w' := wa) (v := (.string (st (P ++ qu nm ++ [58] ++ X)))) (by simp only [execOp, Act.eval]; rw [show a.tmps.getD 80 undef = _ from t15]; rfl) ?_)
            refine hK _ wa ?_
            have hact := act_puts hdf hsz (fun t ht => hsl t (wrX_b ht))
            clear hrr hsl hdf hsz hK t15
            simp only [List.filterMap_cons, List.filterMap_nil, List.foldl_cons, List.foldl_nil] at hact
            rw [hact]
            generalize a.tmps.getD 65 undef = y65
            generalize a.tmps.getD 66 undef = y66
            generalize a.tmps.getD 67 undef = y67
            generalize a.tmps.getD 68 undef = y68
            generalize a.tmps.getD 69 undef = y69
            generalize a.tmps.getD 70 undef = y70
            generalize a.tmps.getD 71 undef = y71
            generalize a.tmps.getD 72 undef = y72
            generalize a.tmps.getD 73 undef = y73
            generalize a.tmps.getD 74 undef = y74
            generalize a.tmps.getD 75 undef = y75
            generalize a.tmps.getD 76 undef = y76
            generalize a.tmps.getD 77 undef = y77
            generalize a.tmps.getD 78 undef = y78
            generalize a.tmps.getD 79 undef = y79
            generalize a.tmps.getD 80 undef = y80
            clear hact
            simp only [Act.put, List.setIfInBounds_toArray, List.set_cons_succ, List.set_cons_zero]
            have hbn : Hid (Below w1.heap.size w1 wa) := hide1 (hbw.out.trans (hwa.mono hbw.out.size))
            clear hld1 hld2 hcall hcat1 hcat2 hcat3 hwa hbw hRr hBr
            go_wp2
            go_roundw
            case rel => exact ⟨0 + 1, by omega, by first | rfl | go_num, by rw [← hnext.out], hbn⟩
            case measure => simp [intOf]; try omega
        · rw [if_neg h0] at hreg
          have h0' : 0 < jj := by omega
          go_upto_region 28 with fail
          rw [← hreg.out]
          clear hno1 hreg
          refine wp_flowH 16 _ _ (by kernel_rfl) (by kernel_rfl) (by kernel_rfl) rfl (fun j v _ => v = ([(.string (st (P))), (.slice (some ⟨g, 0, none⟩) n cap), (.int .i64 (jj : Nat)), (.pointer (some ⟨g, jj * 6, none⟩)), (.pointer (some ⟨g, jj * 6, none⟩)), (.string (st (nm))), (.string (st (qu nm))), (.string (st (P ++ qu nm))), (.string (st (P ++ qu nm ++ [58]))), (.slice (some ⟨g, 0, none⟩) n cap), (.int .i64 (jj : Nat)), (.pointer (some ⟨g, jj * 6, none⟩)), (.pointer (some ⟨g, jj * 6 + 1, none⟩)), (.agg #[x1, x2, x3, x4, x5]), (.string (st (X))), (.string (st (P ++ qu nm ++ [58] ++ X))), (.string (st (P ++ qu nm ++ [58] ++ X)))] : List Value).getD j undef) (fun _ _ _ _ h _ => h) ?_ ?_
          · intro j op hop hj a wa hwa hsz hsl hdep K hK
            match j, hop with
            | 0, hop =>
              obtain rfl := Option.some.inj hop
              have p3 : a.tmps.getD 3 undef = (.string (st (P))) := hsl 3 rfl
              exact .plain rfl (wp_val (w' := wa) (v := (.string (st (P)))) (by simp only [execOp, Act.eval]; rw [show a.tmps.getD 3 undef = _ from p3]; rfl) (hK _ _ (Below.refl _ _) rfl))
            | 1, hop =>
              obtain rfl := Option.some.inj hop
              have p5 : a.tmps.getD 5 undef = (.slice (some ⟨g, 0, none⟩) n cap) := hsl 5 rfl
              exact .plain rfl (wp_val (w' := wa) (v := (.slice (some ⟨g, 0, none⟩) n cap)) (by simp only [execOp, Act.eval]; rw [show a.tmps.getD 5 undef = _ from p5]; rfl) (hK _ _ (Below.refl _ _) rfl))
            | 2, hop =>
              obtain rfl := Option.some.inj hop
              have p6 : a.tmps.getD 6 undef = (.int .i64 (jj : Nat)) := hsl 6 rfl
              exact .plain rfl (wp_val (w' := wa) (v := (.int .i64 (jj : Nat))) (by simp only [execOp, Act.eval]; rw [show a.tmps.getD 6 undef = _ from p6]; rfl) (hK _ _ (Below.refl _ _) rfl))
            | 3, hop =>
              obtain rfl := Option.some.inj hop
              have t1 : a.tmps.getD 66 undef = (.slice (some ⟨g, 0, none⟩) n cap) := hdep 1 _ 66 rfl rfl ⟨⟨1, .data⟩, by simp, rfl, rfl⟩
              have t2 : a.tmps.getD 67 undef = (.int .i64 (jj : Nat)) := hdep 2 _ 67 rfl rfl ⟨⟨2, .data⟩, by simp, rfl, rfl⟩
              exact .plain rfl (wp_val (w' := wa) (v := (.pointer (some ⟨g, jj * 6, none⟩))) (by simp only [execOp, Act.eval]; rw [show a.tmps.getD 66 undef = _ from t1, show a.tmps.getD 67 undef = _ from t2]; simp only [Sem.run_bind, ix_sP hjn, Result.andThen_ok, Sem.run_pure]) (hK _ _ (Below.refl _ _) rfl))
            | 4, hop =>
              obtain rfl := Option.some.inj hop
              have t3 : a.tmps.getD 68 undef = (.pointer (some ⟨g, jj * 6, none⟩)) := hdep 3 _ 68 rfl rfl ⟨⟨3, .data⟩, by simp, rfl, rfl⟩
              exact .plain rfl (wp_val (w' := wa) (v := (.pointer (some ⟨g, jj * 6, none⟩))) (by simp only [execOp, Act.eval]; rw [show a.tmps.getD 68 undef = _ from t3]; kernel_rfl) (hK _ _ (Below.refl _ _) rfl))
            | 5, hop =>
              obtain rfl := Option.some.inj hop
              have t4 : a.tmps.getD 69 undef = (.pointer (some ⟨g, jj * 6, none⟩)) := hdep 4 _ 69 rfl rfl ⟨⟨4, .data⟩, by simp, rfl, rfl⟩
              exact .plain rfl (wp_val (w' := wa) (v := (.string (st (nm)))) (by simp only [execOp, Act.eval]; rw [show a.tmps.getD 69 undef = _ from t4]; simp only [Sem.run_bind, hld1 _ hwa, Result.andThen_ok, Sem.run_pure]) (hK _ _ (Below.refl _ _) rfl))
            | 6, hop =>
              obtain rfl := Option.some.inj hop
              have t5 : a.tmps.getD 70 undef = (.string (st (nm))) := hdep 5 _ 70 rfl rfl ⟨⟨5, .data⟩, by simp, rfl, rfl⟩
              refine .plain rfl (oper_any (J := fun r w' => r = (.string (st (qu nm))) ∧ Below wa.heap.size wa w') 67 #[.tmp 70] _ rfl #[(.string (st (nm)))] (by simp only [List.map_toArray, List.map_cons, List.map_nil, Act.eval]; rw [show a.tmps.getD 70 undef = _ from t5]) (fun w => by kernel_rfl) ((rquote_d (w := wa) hnm).mono fun e w' h => ⟨_, h.1, rfl, h.2⟩) ?_)
              rintro r w' ⟨rfl, hb⟩
              exact hK _ _ hb rfl
            | 7, hop =>
              obtain rfl := Option.some.inj hop
              have t0 : a.tmps.getD 65 undef = (.string (st (P))) := hdep 0 _ 65 rfl rfl ⟨⟨0, .data⟩, by simp, rfl, rfl⟩
              have t6 : a.tmps.getD 71 undef = (.string (st (qu nm))) := hdep 6 _ 71 rfl rfl ⟨⟨6, .data⟩, by simp, rfl, rfl⟩
              exact .plain rfl (wp_val (w' := wa) (v := (.string (st (P ++ qu nm)))) (by simp only [execOp, Act.eval]; rw [show a.tmps.getD 65 undef = _ from t0, show a.tmps.getD 71 undef = _ from t6]; simp only [Sem.run_bind, eqg_add, hcat1, Result.andThen_ok, Sem.run_pure]) (hK _ _ (Below.refl _ _) rfl))
            | 8, hop =>
              obtain rfl := Option.some.inj hop
              have t7 : a.tmps.getD 72 undef = (.string (st (P ++ qu nm))) := hdep 7 _ 72 rfl rfl ⟨⟨7, .data⟩, by simp, rfl, rfl⟩
              exact .plain rfl (wp_val (w' := wa) (v := (.string (st (P ++ qu nm ++ [58])))) (by simp only [execOp, Act.eval]; rw [show a.tmps.getD 72 undef = _ from t7]; simp only [Sem.run_bind, eqg_add, hcat2, Result.andThen_ok, Sem.run_pure]) (hK _ _ (Below.refl _ _) rfl))
            | 9, hop =>
              obtain rfl := Option.some.inj hop
              have p5 : a.tmps.getD 5 undef = (.slice (some ⟨g, 0, none⟩) n cap) := hsl 5 rfl
              exact .plain rfl (wp_val (w' := wa) (v := (.slice (some ⟨g, 0, none⟩) n cap)) (by simp only [execOp, Act.eval]; rw [show a.tmps.getD 5 undef = _ from p5]; rfl) (hK _ _ (Below.refl _ _) rfl))
            | 10, hop =>
              obtain rfl := Option.some.inj hop
              have p6 : a.tmps.getD 6 undef = (.int .i64 (jj : Nat)) := hsl 6 rfl
              exact .plain rfl (wp_val (w' := wa) (v := (.int .i64 (jj : Nat))) (by simp only [execOp, Act.eval]; rw [show a.tmps.getD 6 undef = _ from p6]; rfl) (hK _ _ (Below.refl _ _) rfl))
            | 11, hop =>
              obtain rfl := Option.some.inj hop
              have t9 : a.tmps.getD 74 undef = (.slice (some ⟨g, 0, none⟩) n cap) := hdep 9 _ 74 rfl rfl ⟨⟨9, .data⟩, by simp, rfl, rfl⟩
              have t10 : a.tmps.getD 75 undef = (.int .i64 (jj : Nat)) := hdep 10 _ 75 rfl rfl ⟨⟨10, .data⟩, by simp, rfl, rfl⟩
              exact .plain rfl (wp_val (w' := wa) (v := (.pointer (some ⟨g, jj * 6, none⟩))) (by simp only [execOp, Act.eval]; rw [show a.tmps.getD 74 undef = _ from t9, show a.tmps.getD 75 undef = _ from t10]; simp only [Sem.run_bind, ix_sP hjn, Result.andThen_ok, Sem.run_pure]) (hK _ _ (Below.refl _ _) rfl))
            | 12, hop =>
              obtain rfl := Option.some.inj hop
              have t11 : a.tmps.getD 76 undef = (.pointer (some ⟨g, jj * 6, none⟩)) := hdep 11 _ 76 rfl rfl ⟨⟨11, .data⟩, by simp, rfl, rfl⟩
              exact .plain rfl (wp_val (w' := wa) (v := (.pointer (some ⟨g, jj * 6 + 1, none⟩))) (by simp only [execOp, Act.eval]; rw [show a.tmps.getD 76 undef = _ from t11]; kernel_rfl) (hK _ _ (Below.refl _ _) rfl))
            | 13, hop =>
              obtain rfl := Option.some.inj hop
              have t12 : a.tmps.getD 77 undef = (.pointer (some ⟨g, jj * 6 + 1, none⟩)) := hdep 12 _ 77 rfl rfl ⟨⟨12, .data⟩, by simp, rfl, rfl⟩
              exact .plain rfl (wp_val (w' := wa) (v := (.agg #[x1, x2, x3, x4, x5])) (by simp only [execOp, Act.eval]; rw [show a.tmps.getD 77 undef = _ from t12]; simp only [Sem.run_bind, hld2 _ hwa, Result.andThen_ok, Sem.run_pure]) (hK _ _ (Below.refl _ _) rfl))
            | 14, hop =>
              obtain rfl := Option.some.inj hop
              have t13 : a.tmps.getD 78 undef = (.agg #[x1, x2, x3, x4, x5]) := hdep 13 _ 78 rfl rfl ⟨⟨13, .data⟩, by simp, rfl, rfl⟩
              refine .plain rfl (oper_any (J := fun r w' => r = (.string (st (X))) ∧ Below wa.heap.size wa w') 39 #[.tmp 78] _ rfl #[(.agg #[x1, x2, x3, x4, x5])] (by simp only [List.map_toArray, List.map_cons, List.map_nil, Act.eval]; rw [show a.tmps.getD 78 undef = _ from t13]) (fun w => by kernel_rfl) ((hcall _ hwa).mono fun e w' h => ⟨_, h.1, rfl, h.2⟩) ?_)
              rintro r w' ⟨rfl, hb⟩
              exact hK _ _ hb rfl
            | 15, hop =>
              obtain rfl := Option.some.inj hop
              have t8 : a.tmps.getD 73 undef = (.string (st (P ++ qu nm ++ [58]))) := hdep 8 _ 73 rfl rfl ⟨⟨8, .data⟩, by simp, rfl, rfl⟩
              have t14 : a.tmps.getD 79 undef = (.string (st (X))) := hdep 14 _ 79 rfl rfl ⟨⟨14, .data⟩, by simp, rfl, rfl⟩
              exact .plain rfl (wp_val (w' := wa) (v := (.string (st (P ++ qu nm ++ [58] ++ X)))) (by simp only [execOp, Act.eval]; rw [show a.tmps.getD 73 undef = _ from t8, show a.tmps.getD 79 undef = _ from t14]; simp only [Sem.run_bind, eqg_add, hcat3, Result.andThen_ok, Sem.run_pure]) (hK _ _ (Below.refl _ _) rfl))
            | 16, _ => exact absurd rfl hj
            | _ + 17, hop => exact absurd hop (by simp)
          · intro a wa hwa hdf hsz hsl hrr K hK
            have t15 : a.tmps.getD 80 undef = (.string (st (P ++ qu nm ++ [58] ++ X))) := hrr 15 _ 80 rfl (by decide) rfl
            refine .plain rfl (wp_val (w' := wa) (v := (.string (st (P ++ qu nm ++ [58] ++ X)))) (by simp only [execOp, Act.eval]; rw [show a.tmps.getD 80 undef = _ from t15]; rfl) ?_)
            refine hK _ wa ?_
            have hact := act_puts hdf hsz (fun t ht => hsl t (wrX_b ht))
            clear hrr hsl hdf hsz hK t15
            simp only [List.filterMap_cons, List.filterMap_nil, List.foldl_cons, List.foldl_nil] at hact
            rw [hact]
            generalize a.tmps.getD 65 undef = y65
            generalize a.tmps.getD 66 undef = y66
            generalize a.tmps.getD 67 undef = y67
            generalize a.tmps.getD 68 undef = y68
            generalize a.tmps.getD 69 undef = y69
            generalize a.tmps.getD 70 undef = y70
            generalize a.tmps.getD 71 undef = y71
            generalize a.tmps.getD 72 undef = y72
            generalize a.tmps.getD 73 undef = y73
            generalize a.tmps.getD 74 undef = y74
            generalize a.tmps.getD 75 undef = y75
            generalize a.tmps.getD 76 undef = y76
            generalize a.tmps.getD 77 undef = y77
            generalize a.tmps.getD 78 undef = y78
            generalize a.tmps.getD 79 undef = y79
            generalize a.tmps.getD 80 undef = y80
            clear hact
            simp only [Act.put, List.setIfInBounds_toArray, List.set_cons_succ, List.set_cons_zero]
            have hbn : Hid (Below w1.heap.size w1 wa) := hide1 (hbw.out.trans (hwa.mono hbw.out.size))
            clear hld1 hld2 hcall hcat1 hcat2 hcat3 hwa hbw hRr hBr
            go_wp2
            go_roundw
            case rel => exact ⟨jj + 1, by omega, by first | rfl | go_num, by rw [← hnext.out], hbn⟩
            case measure => simp [intOf]; try omega
      · have hjn2 : jj = n := by omega
        have hP : L.take jj = L := by rw [hjn2, ← hln]; exact List.take_length
        rw [hP] at hPl ⊢
        generalize cj L = C at *
        have hno1 : ¬ 9223372036854775807 < (⟨#[123]⟩ : ByteArray).size + (st C).size := by rw [st_size, show (⟨#[123]⟩ : ByteArray).size = 1 from rfl]; have := hlen.out; omega
        have hno2 : ¬ 9223372036854775807 < ((⟨#[123]⟩ : ByteArray) ++ st C).size + (⟨#[125]⟩ : ByteArray).size := by rw [show (⟨#[123]⟩ : ByteArray) = st [123] from rfl, st_ap, st_size, show (⟨#[125]⟩ : ByteArray).size = 1 from rfl]; have := hlen.out; simp; omega
        have hfin : Hid ((⟨#[123]⟩ : ByteArray) ++ st C ++ ⟨#[125]⟩ = st (123 :: (C ++ [125]))) := hide1 (by rw [show (⟨#[123]⟩ : ByteArray) = st [123] from rfl, show (⟨#[125]⟩ : ByteArray) = st [125] from rfl, st_ap, st_ap]; rfl)
        clear hval hrow hP hPl hbw
        go_wp2
        go_ret
        exact ⟨by rw [← hfin.out]; rfl, hBr.out⟩
theorem cj_mem {L : List (List UInt8)} {x : List UInt8} {j : Nat} (h : L[j]? = some x) : x.length ≤ (cj L).length := by
  have h1 := cj_take L (j + 1)
  rw [cj_step h] at h1
  split at h1
  · exact h1
  · rw [List.length_append, List.length_cons] at h1; omega
def Eq' (p : List Tp) (cp : List (List Value)) : Nat → Ep := fun k => ((p.getD k ([], .mk 0 0 [] [] [])).1, (cp.getD k []).tail)
section
variable {F : Nat → Prop} {w : World} {p : List Tp} {cp : List (List Value)}
theorem eq_at (h6 : ∀ c ∈ cp, c.length = 6) (hp : cp.length = p.length) (hp1 : ∀ (j : Nat) (q : List UInt8 × T) (c : List Value), p[j]? = some q → cp[j]? = some c → c.head? = some (Value.string (st q.1)))
    (hp2 : ∀ (j : Nat) (q : List UInt8 × T) (c : List Value), p[j]? = some q → cp[j]? = some c → VA F w q.2 c.tail) {j : Nat} (hj : j < cp.length) :
    ∃ q c, p[j]? = some q ∧ cp[j]? = some c ∧ c = cl (Eq' p cp j) ∧ (Eq' p cp j).1 = q.1 ∧ EpOk (Eq' p cp j) ∧ VA F w q.2 (Eq' p cp j).2 := by
  obtain ⟨q, hq⟩ : ∃ q, p[j]? = some q := ⟨_, List.getElem?_eq_getElem (by omega)⟩
  obtain ⟨c, hc⟩ : ∃ c, cp[j]? = some c := ⟨_, List.getElem?_eq_getElem hj⟩
  have h1 := hp1 j q c hq hc
  have h2 := hp2 j q c hq hc
  have hl := h6 c (List.mem_of_getElem? hc)
  have e1 : (p.getD j ([], .mk 0 0 [] [] [])) = q := by rw [List.getD_eq_getElem?_getD, hq]; rfl
  have e2 : cp.getD j [] = c := by rw [List.getD_eq_getElem?_getD, hc]; rfl
  refine ⟨q, c, hq, hc, ?_, by unfold Eq'; rw [e1], ?_, ?_⟩
  · unfold Eq' cl
    rw [e1, e2]
    cases c with
    | nil => simp at hl
    | cons x r => simp at h1; rw [h1]; rfl
  · unfold Eq' EpOk
    rw [e2]
    exact ⟨h2.len, h2.one⟩
  · unfold Eq'
    rw [e2]
    exact h2
end
set_option maxHeartbeats 4000000 in
set_option maxRecDepth 100000 in
theorem rtext_d : ∀ (n h : Nat) {F : Nat → Prop} {w : World} {t : T} {c : List Value}, gd n t = true → hgt h t → shT (n + 1) t → VA F w t c → (rz (n + 1) t).length ≤ 1000000000000 → Calls Tryz.prog 39 #[.agg c.toArray] w (AnN w (rz (n + 1) t))
  | _, 0, _, _, _, _, _, hh, _, _, _ => hh.elim
  | n, h + 1, F, w, .mk k i s l p, c, hg, hh, hs, hv, hlen => by
    obtain ⟨b1, b2, g1, g2⟩ := hh
    obtain ⟨s1, s2, s3⟩ := hs
    have hgl := gd_list hg
    cases hv with
    | @mk _ _ _ _ _ sl sp cl' cp r1 r2 e1 e2 hl hp1 hp2 =>
      show Calls Tryz.prog 39 #[.agg #[.int .i64 k, .int .i64 i, .string (st s), sl, sp]] w (AnN w (rz (n + 1) (.mk k i s l p)))
      unfold gd at hg
      rw [Bool.and_eq_true] at hg
      have hg2 := hg.2
      by_cases h0 : k = 0
      · subst h0; exact txt_0
      by_cases h1 : k = 1
      · subst h1; exact txt_1
      by_cases h3 : k = 2
      · subst h3; exact txt_2 (by simpa [inR] using hg2)
      by_cases h4 : k = 3
      · subst h4; exact txt_3 s1
      by_cases h5 : k = 4
      · subst h5
        cases n with
        | zero => simp at hg2
        | succ n =>
          have hga : ∀ t ∈ l, gd n t = true := by
            rcases hgl.1 with e | ⟨m, e, g⟩
            · rw [e]; intro t ht; simp at ht
            · cases e; exact g
          have hle : (cj (l.map (rz (n + 1)))).length ≤ 1000000000000 := by
            have : (rz (n + 1 + 1) (.mk 4 i s l p)).length = (cj (l.map (rz (n + 1)))).length + 2 := by show (91 :: (cj (l.map (rz (n + 1))) ++ [93])).length = _; simp
            omega
          refine txt_4 (L := l.map (rz (n + 1))) r1 (by rw [List.length_map, e1]) (by omega) hle (fun j c x hc hx w1 hb => ?_)
          rw [List.getElem?_map] at hx
          obtain ⟨u, hu, rfl⟩ := Option.map_eq_some_iff.1 hx
          have hm := List.mem_of_getElem? hu
          exact rtext_d n h (hga u hm) (g1 u hm) (s2 u hm) ((hl j u c hu hc).frame (G := fun _ => True) (fun k _ hk => hb.block k hk) (fun _ _ _ => trivial)) (Nat.le_trans (cj_mem (L := l.map (rz (n + 1))) (j := j) (by rw [List.getElem?_map, hu]; rfl)) hle)
      by_cases h6 : k = 5
      · subst h6
        cases n with
        | zero => simp at hg2
        | succ n =>
          have hga : ∀ q ∈ p, gd n q.2 = true := by
            rcases hgl.2.1 with e | ⟨m, e, g⟩
            · rw [e]; intro t ht; simp at ht
            · cases e; exact g
          have hle : (cj ((ss ltT p).map fun q => qu q.1 ++ 58 :: rz (n + 1) q.2)).length ≤ 1000000000000 := by
            have : (rz (n + 1 + 1) (.mk 5 i s l p)).length = (cj ((ss ltT p).map fun q => qu q.1 ++ 58 :: rz (n + 1) q.2)).length + 2 := by show (123 :: (cj ((ss ltT p).map fun q => qu q.1 ++ 58 :: rz (n + 1) q.2) ++ [125])).length = _; simp
            omega
          have hat := fun {j : Nat} (hj : j < cp.length) => eq_at (j := j) r2.1 e2 hp1 hp2 hj
          have hcs : cp = (sg (Eq' p cp) 0 p.length).map cl := by
            refine List.ext_getElem? fun j => ?_
            by_cases hj : j < cp.length
            · obtain ⟨q, c, _, q2, q3, _⟩ := hat hj
              rw [List.getElem?_map, sg_at (by omega), q2, q3, Nat.zero_add]; rfl
            · rw [List.getElem?_eq_none (by omega), List.getElem?_eq_none (by rw [List.length_map, sg_len]; omega)]
          have hA : A2 (fun (e : Ep) (q : Tp) => e.1 = q.1 ∧ VA F w q.2 e.2 ∧ q ∈ p) (ss ltE (sg (Eq' p cp) 0 p.length)) (ss ltT p) :=
            ss_rel (fun a b a' b' h h' => by unfold ltE ltT; rw [h.1, h'.1]) (A2.of (by rw [sg_len]) fun j a b q1 q2 => by
              have hj : j < p.length := (List.getElem?_eq_some_iff.1 q2).1
              obtain ⟨q, c, v1, _, _, v4, _, v6⟩ := hat (j := j) (by omega)
              rw [sg_at hj, Nat.zero_add] at q1
              cases q1
              rw [v1] at q2
              cases q2
              exact ⟨v4, v6, List.mem_of_getElem? v1⟩)
          refine txt_5 (n := p.length) (E := Eq' p cp) (L := (ss ltT p).map fun q => qu q.1 ++ 58 :: rz (n + 1) q.2) r2 hcs (fun j hj => by obtain ⟨_, _, _, _, _, _, x, _⟩ := hat (j := j) (by omega); exact x) (by rw [List.length_map, ss_len]) (by omega) hle (fun j e y he hy => ?_)
          rw [List.getElem?_map] at hy
          obtain ⟨q, hq, rfl⟩ := Option.map_eq_some_iff.1 hy
          obtain ⟨a1, a2, a3⟩ := hA.at he hq
          obtain ⟨t1, t2⟩ := s3 q a3
          refine ⟨rz (n + 1) q.2, by rw [a1], by rw [a1]; exact t1, fun w1 hb => ?_⟩
          have hmem := cj_mem (L := (ss ltT p).map fun q => qu q.1 ++ 58 :: rz (n + 1) q.2) (j := j) (x := qu q.1 ++ 58 :: rz (n + 1) q.2) (by rw [List.getElem?_map, hq]; rfl)
          rw [List.length_append, List.length_cons] at hmem
          exact rtext_d n h (hga q a3) (g2 q a3) t2 (a2.frame (G := fun _ => True) (fun k _ hk => hb.block k hk) (fun _ _ _ => trivial)) (by omega)
      · simp [h0, h1, h3, h4, h5, h6] at hg2
end Go.Proofs.YtbemaloaobeblaaGreatDoor

namespace Go.Proofs.YtbemaloaobeblaaGreatDoor
open Go.RowKit

set_option maxHeartbeats 4000000 in
set_option maxRecDepth 100000 in
theorem gr_neg {k i D : Int} {s : List UInt8} {sa pa : Option Addr} {nl np sc pc : Nat} {w : World} (hk : k < 0) : Calls Tryz.prog 38 #[.agg #[.int .i64 k, .int .i64 i, .string (st s), .slice sa nl sc, .slice pa np pc], .int .i64 D] w fun e w' => e = .returned (.bool false) ∧ Below w.heap.size w w' := by
  have hb0 := hide1 (below_al (w := w) (.cells #[.int .i64 k, .int .i64 i, .string (st s), .slice sa nl sc, .slice pa np pc] 28))
  have dk : decide (k < 0) = true := decide_eq_true hk
  clear hk
  go_enter Tryz.func38, Tryz.ntmps38
  go_wp2
  go_ret
  exact ⟨rfl, hb0.out⟩
set_option maxHeartbeats 4000000 in
set_option maxRecDepth 100000 in
theorem gr_big {k i D : Int} {s : List UInt8} {sa pa : Option Addr} {nl np sc pc : Nat} {w : World} (hk : 5 < k) : Calls Tryz.prog 38 #[.agg #[.int .i64 k, .int .i64 i, .string (st s), .slice sa nl sc, .slice pa np pc], .int .i64 D] w fun e w' => e = .returned (.bool false) ∧ Below w.heap.size w w' := by
  have hb0 := hide1 (below_al (w := w) (.cells #[.int .i64 k, .int .i64 i, .string (st s), .slice sa nl sc, .slice pa np pc] 28))
  have dk : decide (k < 0) = false := decide_eq_false (by omega)
  have dk2 : decide (k > 5) = true := decide_eq_true hk
  clear hk
  go_enter Tryz.func38, Tryz.ntmps38
  go_wp2
  go_ret
  exact ⟨rfl, hb0.out⟩
set_option maxHeartbeats 4000000 in
set_option maxRecDepth 100000 in
theorem gr_0l {i D : Int} {s : List UInt8} {sa pa : Option Addr} {nl np sc pc : Nat} {w : World} (hl : 0 < nl) : Calls Tryz.prog 38 #[.agg #[.int .i64 0, .int .i64 i, .string (st s), .slice sa nl sc, .slice pa np pc], .int .i64 D] w fun e w' => e = .returned (.bool false) ∧ Below w.heap.size w w' := by
  have hb0 := hide1 (below_al (w := w) (.cells #[.int .i64 (0), .int .i64 i, .string (st s), .slice sa nl sc, .slice pa np pc] 28))
  have dl : 0 < nl := hl
  clear hl
  go_enter Tryz.func38, Tryz.ntmps38
  go_wp2
  go_ret
  exact ⟨rfl, hb0.out⟩
set_option maxHeartbeats 4000000 in
set_option maxRecDepth 100000 in
theorem gr_0p {i D : Int} {s : List UInt8} {sa pa : Option Addr} {nl np sc pc : Nat} {w : World} (hl : nl = 0) (hp : 0 < np) : Calls Tryz.prog 38 #[.agg #[.int .i64 0, .int .i64 i, .string (st s), .slice sa nl sc, .slice pa np pc], .int .i64 D] w fun e w' => e = .returned (.bool false) ∧ Below w.heap.size w w' := by
  have hb0 := hide1 (below_al (w := w) (.cells #[.int .i64 (0), .int .i64 i, .string (st s), .slice sa nl sc, .slice pa np pc] 28))
  have dl : ¬ 0 < nl := by omega
  have dp : 0 < np := hp
  clear hl hp
  go_enter Tryz.func38, Tryz.ntmps38
  go_wp2
  go_ret
  exact ⟨rfl, hb0.out⟩
set_option maxHeartbeats 4000000 in
set_option maxRecDepth 100000 in
theorem gr_0s {i D : Int} {s : List UInt8} {sa pa : Option Addr} {nl np sc pc : Nat} {w : World} (hl : nl = 0) (hp : np = 0) (hs : s ≠ []) : Calls Tryz.prog 38 #[.agg #[.int .i64 0, .int .i64 i, .string (st s), .slice sa nl sc, .slice pa np pc], .int .i64 D] w fun e w' => e = .returned (.bool false) ∧ Below w.heap.size w w' := by
  have hb0 := hide1 (below_al (w := w) (.cells #[.int .i64 (0), .int .i64 i, .string (st s), .slice sa nl sc, .slice pa np pc] 28))
  have dl : ¬ 0 < nl := by omega
  have dp : ¬ 0 < np := by omega
  have ds : (st s).toList.isEmpty = false := by cases h : (st s).toList with | nil => exact absurd (st_no.1 h) hs | cons a b => rfl
  clear hl hp hs
  go_enter Tryz.func38, Tryz.ntmps38
  go_wp2
  go_ret
  exact ⟨rfl, hb0.out⟩
set_option maxHeartbeats 4000000 in
set_option maxRecDepth 100000 in
theorem gr_0i {i D : Int} {s : List UInt8} {sa pa : Option Addr} {nl np sc pc : Nat} {w : World} (hl : nl = 0) (hp : np = 0) (hs : s = []) (hi : i ≠ 0) : Calls Tryz.prog 38 #[.agg #[.int .i64 0, .int .i64 i, .string (st s), .slice sa nl sc, .slice pa np pc], .int .i64 D] w fun e w' => e = .returned (.bool false) ∧ Below w.heap.size w w' := by
  have hb0 := hide1 (below_al (w := w) (.cells #[.int .i64 (0), .int .i64 i, .string (st s), .slice sa nl sc, .slice pa np pc] 28))
  have dl : ¬ 0 < nl := by omega
  have dp : ¬ 0 < np := by omega
  have ds : (st s).toList.isEmpty = true := by rw [st_no.2 hs]; rfl
  have di : (i != 0) = true := by simpa using hi
  clear hl hp hs hi
  go_enter Tryz.func38, Tryz.ntmps38
  go_wp2
  go_ret
  exact ⟨rfl, hb0.out⟩
set_option maxHeartbeats 4000000 in
set_option maxRecDepth 100000 in
theorem gr_0t {i D : Int} {s : List UInt8} {sa pa : Option Addr} {nl np sc pc : Nat} {w : World} (hl : nl = 0) (hp : np = 0) (hs : s = []) (hi : i = 0) : Calls Tryz.prog 38 #[.agg #[.int .i64 0, .int .i64 i, .string (st s), .slice sa nl sc, .slice pa np pc], .int .i64 D] w fun e w' => e = .returned (.bool true) ∧ Below w.heap.size w w' := by
  have hb0 := hide1 (below_al (w := w) (.cells #[.int .i64 (0), .int .i64 i, .string (st s), .slice sa nl sc, .slice pa np pc] 28))
  have dl : ¬ 0 < nl := by omega
  have dp : ¬ 0 < np := by omega
  have ds : (st s).toList.isEmpty = true := by rw [st_no.2 hs]; rfl
  have di : (i != 0) = false := by simpa using hi
  clear hl hp hs hi
  go_enter Tryz.func38, Tryz.ntmps38
  go_wp2
  refine wp_loop_rounds 1 ?_
  rw [rounds_succ]; go_wp2
  refine wp_loop_rounds 1 ?_
  rw [rounds_succ]; go_wp2
  go_ret
  exact ⟨rfl, hb0.out⟩
set_option maxHeartbeats 4000000 in
set_option maxRecDepth 100000 in
theorem gr_1l {i D : Int} {s : List UInt8} {sa pa : Option Addr} {nl np sc pc : Nat} {w : World} (hl : 0 < nl) : Calls Tryz.prog 38 #[.agg #[.int .i64 1, .int .i64 i, .string (st s), .slice sa nl sc, .slice pa np pc], .int .i64 D] w fun e w' => e = .returned (.bool false) ∧ Below w.heap.size w w' := by
  have hb0 := hide1 (below_al (w := w) (.cells #[.int .i64 (1), .int .i64 i, .string (st s), .slice sa nl sc, .slice pa np pc] 28))
  have dl : 0 < nl := hl
  clear hl
  go_enter Tryz.func38, Tryz.ntmps38
  go_wp2
  go_ret
  exact ⟨rfl, hb0.out⟩
set_option maxHeartbeats 4000000 in
set_option maxRecDepth 100000 in
theorem gr_1p {i D : Int} {s : List UInt8} {sa pa : Option Addr} {nl np sc pc : Nat} {w : World} (hl : nl = 0) (hp : 0 < np) : Calls Tryz.prog 38 #[.agg #[.int .i64 1, .int .i64 i, .string (st s), .slice sa nl sc, .slice pa np pc], .int .i64 D] w fun e w' => e = .returned (.bool false) ∧ Below w.heap.size w w' := by
  have hb0 := hide1 (below_al (w := w) (.cells #[.int .i64 (1), .int .i64 i, .string (st s), .slice sa nl sc, .slice pa np pc] 28))
  have dl : ¬ 0 < nl := by omega
  have dp : 0 < np := hp
  clear hl hp
  go_enter Tryz.func38, Tryz.ntmps38
  go_wp2
  go_ret
  exact ⟨rfl, hb0.out⟩
set_option maxHeartbeats 4000000 in
set_option maxRecDepth 100000 in
theorem gr_1s {i D : Int} {s : List UInt8} {sa pa : Option Addr} {nl np sc pc : Nat} {w : World} (hl : nl = 0) (hp : np = 0) (hs : s ≠ []) : Calls Tryz.prog 38 #[.agg #[.int .i64 1, .int .i64 i, .string (st s), .slice sa nl sc, .slice pa np pc], .int .i64 D] w fun e w' => e = .returned (.bool false) ∧ Below w.heap.size w w' := by
  have hb0 := hide1 (below_al (w := w) (.cells #[.int .i64 (1), .int .i64 i, .string (st s), .slice sa nl sc, .slice pa np pc] 28))
  have dl : ¬ 0 < nl := by omega
  have dp : ¬ 0 < np := by omega
  have ds : (st s).toList.isEmpty = false := by cases h : (st s).toList with | nil => exact absurd (st_no.1 h) hs | cons a b => rfl
  clear hl hp hs
  go_enter Tryz.func38, Tryz.ntmps38
  go_wp2
  go_ret
  exact ⟨rfl, hb0.out⟩
set_option maxHeartbeats 4000000 in
set_option maxRecDepth 100000 in
theorem gr_1n {i D : Int} {s : List UInt8} {sa pa : Option Addr} {nl np sc pc : Nat} {w : World} (hl : nl = 0) (hp : np = 0) (hs : s = []) (i0 : i ≠ 0) (i1 : i ≠ 1) : Calls Tryz.prog 38 #[.agg #[.int .i64 1, .int .i64 i, .string (st s), .slice sa nl sc, .slice pa np pc], .int .i64 D] w fun e w' => e = .returned (.bool false) ∧ Below w.heap.size w w' := by
  have hb0 := hide1 (below_al (w := w) (.cells #[.int .i64 (1), .int .i64 i, .string (st s), .slice sa nl sc, .slice pa np pc] 28))
  have dl : ¬ 0 < nl := by omega
  have dp : ¬ 0 < np := by omega
  have ds : (st s).toList.isEmpty = true := by rw [st_no.2 hs]; rfl
  have d0 : (i != 0) = true := by simpa using i0
  have d1 : (i != 1) = true := by simpa using i1
  clear hl hp hs i0 i1
  go_enter Tryz.func38, Tryz.ntmps38
  go_wp2
  go_ret
  exact ⟨rfl, hb0.out⟩
set_option maxHeartbeats 4000000 in
set_option maxRecDepth 100000 in
theorem gr_10 {D : Int} {s : List UInt8} {sa pa : Option Addr} {nl np sc pc : Nat} {w : World} (hl : nl = 0) (hp : np = 0) (hs : s = []) : Calls Tryz.prog 38 #[.agg #[.int .i64 1, .int .i64 0, .string (st s), .slice sa nl sc, .slice pa np pc], .int .i64 D] w fun e w' => e = .returned (.bool true) ∧ Below w.heap.size w w' := by
  have hb0 := hide1 (below_al (w := w) (.cells #[.int .i64 (1), .int .i64 0, .string (st s), .slice sa nl sc, .slice pa np pc] 28))
  have dl : ¬ 0 < nl := by omega
  have dp : ¬ 0 < np := by omega
  have ds : (st s).toList.isEmpty = true := by rw [st_no.2 hs]; rfl
  clear hl hp hs
  go_enter Tryz.func38, Tryz.ntmps38
  go_wp2
  refine wp_loop_rounds 1 ?_
  rw [rounds_succ]; go_wp2
  refine wp_loop_rounds 1 ?_
  rw [rounds_succ]; go_wp2
  go_ret
  exact ⟨rfl, hb0.out⟩
set_option maxHeartbeats 4000000 in
set_option maxRecDepth 100000 in
theorem gr_11 {D : Int} {s : List UInt8} {sa pa : Option Addr} {nl np sc pc : Nat} {w : World} (hl : nl = 0) (hp : np = 0) (hs : s = []) : Calls Tryz.prog 38 #[.agg #[.int .i64 1, .int .i64 1, .string (st s), .slice sa nl sc, .slice pa np pc], .int .i64 D] w fun e w' => e = .returned (.bool true) ∧ Below w.heap.size w w' := by
  have hb0 := hide1 (below_al (w := w) (.cells #[.int .i64 (1), .int .i64 (1), .string (st s), .slice sa nl sc, .slice pa np pc] 28))
  have dl : ¬ 0 < nl := by omega
  have dp : ¬ 0 < np := by omega
  have ds : (st s).toList.isEmpty = true := by rw [st_no.2 hs]; rfl
  clear hl hp hs
  go_enter Tryz.func38, Tryz.ntmps38
  go_wp2
  refine wp_loop_rounds 1 ?_
  rw [rounds_succ]; go_wp2
  refine wp_loop_rounds 1 ?_
  rw [rounds_succ]; go_wp2
  go_ret
  exact ⟨rfl, hb0.out⟩
set_option maxHeartbeats 4000000 in
set_option maxRecDepth 100000 in
theorem gr_2l {i D : Int} {s : List UInt8} {sa pa : Option Addr} {nl np sc pc : Nat} {w : World} (hl : 0 < nl) : Calls Tryz.prog 38 #[.agg #[.int .i64 2, .int .i64 i, .string (st s), .slice sa nl sc, .slice pa np pc], .int .i64 D] w fun e w' => e = .returned (.bool false) ∧ Below w.heap.size w w' := by
  have hb0 := hide1 (below_al (w := w) (.cells #[.int .i64 (2), .int .i64 i, .string (st s), .slice sa nl sc, .slice pa np pc] 28))
  have dl : 0 < nl := hl
  clear hl
  go_enter Tryz.func38, Tryz.ntmps38
  go_wp2
  go_ret
  exact ⟨rfl, hb0.out⟩
set_option maxHeartbeats 4000000 in
set_option maxRecDepth 100000 in
theorem gr_2p {i D : Int} {s : List UInt8} {sa pa : Option Addr} {nl np sc pc : Nat} {w : World} (hl : nl = 0) (hp : 0 < np) : Calls Tryz.prog 38 #[.agg #[.int .i64 2, .int .i64 i, .string (st s), .slice sa nl sc, .slice pa np pc], .int .i64 D] w fun e w' => e = .returned (.bool false) ∧ Below w.heap.size w w' := by
  have hb0 := hide1 (below_al (w := w) (.cells #[.int .i64 (2), .int .i64 i, .string (st s), .slice sa nl sc, .slice pa np pc] 28))
  have dl : ¬ 0 < nl := by omega
  have dp : 0 < np := hp
  clear hl hp
  go_enter Tryz.func38, Tryz.ntmps38
  go_wp2
  go_ret
  exact ⟨rfl, hb0.out⟩
set_option maxHeartbeats 4000000 in
set_option maxRecDepth 100000 in
theorem gr_2s {i D : Int} {s : List UInt8} {sa pa : Option Addr} {nl np sc pc : Nat} {w : World} (hl : nl = 0) (hp : np = 0) (hs : s ≠ []) : Calls Tryz.prog 38 #[.agg #[.int .i64 2, .int .i64 i, .string (st s), .slice sa nl sc, .slice pa np pc], .int .i64 D] w fun e w' => e = .returned (.bool false) ∧ Below w.heap.size w w' := by
  have hb0 := hide1 (below_al (w := w) (.cells #[.int .i64 (2), .int .i64 i, .string (st s), .slice sa nl sc, .slice pa np pc] 28))
  have dl : ¬ 0 < nl := by omega
  have dp : ¬ 0 < np := by omega
  have ds : (st s).toList.isEmpty = false := by cases h : (st s).toList with | nil => exact absurd (st_no.1 h) hs | cons a b => rfl
  clear hl hp hs
  go_enter Tryz.func38, Tryz.ntmps38
  go_wp2
  go_ret
  exact ⟨rfl, hb0.out⟩
set_option maxHeartbeats 4000000 in
set_option maxRecDepth 100000 in
theorem gr_2a {i D : Int} {s : List UInt8} {sa pa : Option Addr} {nl np sc pc : Nat} {w : World} (hl : nl = 0) (hp : np = 0) (hs : s = []) (hi : i < -9007199254740991) : Calls Tryz.prog 38 #[.agg #[.int .i64 2, .int .i64 i, .string (st s), .slice sa nl sc, .slice pa np pc], .int .i64 D] w fun e w' => e = .returned (.bool false) ∧ Below w.heap.size w w' := by
  have hb0 := hide1 (below_al (w := w) (.cells #[.int .i64 (2), .int .i64 i, .string (st s), .slice sa nl sc, .slice pa np pc] 28))
  have dl : ¬ 0 < nl := by omega
  have dp : ¬ 0 < np := by omega
  have ds : (st s).toList.isEmpty = true := by rw [st_no.2 hs]; rfl
  have d0 : decide (i < -9007199254740991) = true := decide_eq_true hi
  clear hl hp hs hi
  go_enter Tryz.func38, Tryz.ntmps38
  go_wp2
  go_ret
  exact ⟨rfl, hb0.out⟩
set_option maxHeartbeats 4000000 in
set_option maxRecDepth 100000 in
theorem gr_2b {i D : Int} {s : List UInt8} {sa pa : Option Addr} {nl np sc pc : Nat} {w : World} (hl : nl = 0) (hp : np = 0) (hs : s = []) (hi : i > 9007199254740991) : Calls Tryz.prog 38 #[.agg #[.int .i64 2, .int .i64 i, .string (st s), .slice sa nl sc, .slice pa np pc], .int .i64 D] w fun e w' => e = .returned (.bool false) ∧ Below w.heap.size w w' := by
  have hb0 := hide1 (below_al (w := w) (.cells #[.int .i64 (2), .int .i64 i, .string (st s), .slice sa nl sc, .slice pa np pc] 28))
  have dl : ¬ 0 < nl := by omega
  have dp : ¬ 0 < np := by omega
  have ds : (st s).toList.isEmpty = true := by rw [st_no.2 hs]; rfl
  have d0 : decide (i < -9007199254740991) = false := decide_eq_false (by omega)
  have d1 : decide (i > 9007199254740991) = true := decide_eq_true hi
  clear hl hp hs hi
  go_enter Tryz.func38, Tryz.ntmps38
  go_wp2
  go_ret
  exact ⟨rfl, hb0.out⟩
set_option maxHeartbeats 4000000 in
set_option maxRecDepth 100000 in
theorem gr_2t {i D : Int} {s : List UInt8} {sa pa : Option Addr} {nl np sc pc : Nat} {w : World} (hl : nl = 0) (hp : np = 0) (hs : s = []) (hi : -9007199254740991 ≤ i) (hi2 : i ≤ 9007199254740991) : Calls Tryz.prog 38 #[.agg #[.int .i64 2, .int .i64 i, .string (st s), .slice sa nl sc, .slice pa np pc], .int .i64 D] w fun e w' => e = .returned (.bool true) ∧ Below w.heap.size w w' := by
  have hb0 := hide1 (below_al (w := w) (.cells #[.int .i64 (2), .int .i64 i, .string (st s), .slice sa nl sc, .slice pa np pc] 28))
  have dl : ¬ 0 < nl := by omega
  have dp : ¬ 0 < np := by omega
  have ds : (st s).toList.isEmpty = true := by rw [st_no.2 hs]; rfl
  have d0 : decide (i < -9007199254740991) = false := decide_eq_false (by omega)
  have d1 : decide (i > 9007199254740991) = false := decide_eq_false (by omega)
  clear hl hp hs hi hi2
  go_enter Tryz.func38, Tryz.ntmps38
  go_wp2
  refine wp_loop_rounds 1 ?_
  rw [rounds_succ]; go_wp2
  refine wp_loop_rounds 1 ?_
  rw [rounds_succ]; go_wp2
  go_ret
  exact ⟨rfl, hb0.out⟩
set_option maxHeartbeats 4000000 in
set_option maxRecDepth 100000 in
theorem gr_3l {i D : Int} {s : List UInt8} {sa pa : Option Addr} {nl np sc pc : Nat} {w : World} (hl : 0 < nl) : Calls Tryz.prog 38 #[.agg #[.int .i64 3, .int .i64 i, .string (st s), .slice sa nl sc, .slice pa np pc], .int .i64 D] w fun e w' => e = .returned (.bool false) ∧ Below w.heap.size w w' := by
  have hb0 := hide1 (below_al (w := w) (.cells #[.int .i64 (3), .int .i64 i, .string (st s), .slice sa nl sc, .slice pa np pc] 28))
  have dl : 0 < nl := hl
  clear hl
  go_enter Tryz.func38, Tryz.ntmps38
  go_wp2
  go_ret
  exact ⟨rfl, hb0.out⟩
set_option maxHeartbeats 4000000 in
set_option maxRecDepth 100000 in
theorem gr_3p {i D : Int} {s : List UInt8} {sa pa : Option Addr} {nl np sc pc : Nat} {w : World} (hl : nl = 0) (hp : 0 < np) : Calls Tryz.prog 38 #[.agg #[.int .i64 3, .int .i64 i, .string (st s), .slice sa nl sc, .slice pa np pc], .int .i64 D] w fun e w' => e = .returned (.bool false) ∧ Below w.heap.size w w' := by
  have hb0 := hide1 (below_al (w := w) (.cells #[.int .i64 (3), .int .i64 i, .string (st s), .slice sa nl sc, .slice pa np pc] 28))
  have dl : ¬ 0 < nl := by omega
  have dp : 0 < np := hp
  clear hl hp
  go_enter Tryz.func38, Tryz.ntmps38
  go_wp2
  go_ret
  exact ⟨rfl, hb0.out⟩
set_option maxHeartbeats 4000000 in
set_option maxRecDepth 100000 in
theorem gr_3i {i D : Int} {s : List UInt8} {sa pa : Option Addr} {nl np sc pc : Nat} {w : World} (hl : nl = 0) (hp : np = 0) (hi : i ≠ 0) : Calls Tryz.prog 38 #[.agg #[.int .i64 3, .int .i64 i, .string (st s), .slice sa nl sc, .slice pa np pc], .int .i64 D] w fun e w' => e = .returned (.bool false) ∧ Below w.heap.size w w' := by
  have hb0 := hide1 (below_al (w := w) (.cells #[.int .i64 (3), .int .i64 i, .string (st s), .slice sa nl sc, .slice pa np pc] 28))
  have dl : ¬ 0 < nl := by omega
  have dp : ¬ 0 < np := by omega
  have di : (i != 0) = true := by simpa using hi
  clear hl hp hi
  go_enter Tryz.func38, Tryz.ntmps38
  go_wp2
  go_ret
  exact ⟨rfl, hb0.out⟩
set_option maxHeartbeats 4000000 in
set_option maxRecDepth 100000 in
theorem gr_3n {i D : Int} {s : List UInt8} {sa pa : Option Addr} {nl np sc pc : Nat} {w : World} (hl : nl = 0) (hp : np = 0) (hi : i = 0) (hv : Lib.validD s = false) : Calls Tryz.prog 38 #[.agg #[.int .i64 3, .int .i64 i, .string (st s), .slice sa nl sc, .slice pa np pc], .int .i64 D] w fun e w' => e = .returned (.bool false) ∧ Below w.heap.size w w' := by
  have hb0 := hide1 (below_al (w := w) (.cells #[.int .i64 (3), .int .i64 i, .string (st s), .slice sa nl sc, .slice pa np pc] 28))
  have dl : ¬ 0 < nl := by omega
  have dp : ¬ 0 < np := by omega
  have di : (i != 0) = false := by simpa using hi
  have hc := valid_d (l := s) (w := w.alloc (.cells #[.int .i64 (3), .int .i64 i, .string (st s), .slice sa nl sc, .slice pa np pc] 28))
  rw [hv] at hc
  clear hl hp hi hv
  go_enter Tryz.func38, Tryz.ntmps38
  go_wp2_with fail
  refine hc.mono ?_
  rintro e w1 ⟨rfl, b1⟩
  have hB := hide1 (hb0.out.trans (b1.mono hb0.out.size))
  have hbx := (b1.block _ (by rw [World.size_alloc]; omega)).trans (new_at w #[.int .i64 (3), .int .i64 i, .string (st s), .slice sa nl sc, .slice pa np pc] 28)
  have c0 : w1.cell? ⟨w.heap.size, 0, none⟩ = some (.int .i64 (3)) := by simp only [World.cell?, hbx]; rfl
  have c3 : w1.cell? ⟨w.heap.size, 3, none⟩ = some (.slice sa nl sc) := by simp only [World.cell?, hbx]; rfl
  have c4 : w1.cell? ⟨w.heap.size, 4, none⟩ = some (.slice pa np pc) := by simp only [World.cell?, hbx]; rfl
  clear hc b1 hb0
  go_wp2
  go_ret
  exact ⟨rfl, hB.out⟩
set_option maxHeartbeats 4000000 in
set_option maxRecDepth 100000 in
theorem gr_3t {i D : Int} {s : List UInt8} {sa pa : Option Addr} {nl np sc pc : Nat} {w : World} (hl : nl = 0) (hp : np = 0) (hi : i = 0) (hv : Lib.validD s = true) : Calls Tryz.prog 38 #[.agg #[.int .i64 3, .int .i64 i, .string (st s), .slice sa nl sc, .slice pa np pc], .int .i64 D] w fun e w' => e = .returned (.bool true) ∧ Below w.heap.size w w' := by
  have hb0 := hide1 (below_al (w := w) (.cells #[.int .i64 (3), .int .i64 i, .string (st s), .slice sa nl sc, .slice pa np pc] 28))
  have dl : ¬ 0 < nl := by omega
  have dp : ¬ 0 < np := by omega
  have di : (i != 0) = false := by simpa using hi
  have hc := valid_d (l := s) (w := w.alloc (.cells #[.int .i64 (3), .int .i64 i, .string (st s), .slice sa nl sc, .slice pa np pc] 28))
  rw [hv] at hc
  clear hl hp hi hv
  go_enter Tryz.func38, Tryz.ntmps38
  go_wp2_with fail
  refine hc.mono ?_
  rintro e w1 ⟨rfl, b1⟩
  have hB := hide1 (hb0.out.trans (b1.mono hb0.out.size))
  have hbx := (b1.block _ (by rw [World.size_alloc]; omega)).trans (new_at w #[.int .i64 (3), .int .i64 i, .string (st s), .slice sa nl sc, .slice pa np pc] 28)
  have c0 : w1.cell? ⟨w.heap.size, 0, none⟩ = some (.int .i64 (3)) := by simp only [World.cell?, hbx]; rfl
  have c3 : w1.cell? ⟨w.heap.size, 3, none⟩ = some (.slice sa nl sc) := by simp only [World.cell?, hbx]; rfl
  have c4 : w1.cell? ⟨w.heap.size, 4, none⟩ = some (.slice pa np pc) := by simp only [World.cell?, hbx]; rfl
  clear hc b1 hb0
  go_wp2
  refine wp_loop_rounds 1 ?_
  rw [rounds_succ]; go_wp2
  refine wp_loop_rounds 1 ?_
  rw [rounds_succ]; go_wp2
  go_ret
  exact ⟨rfl, hB.out⟩
set_option maxHeartbeats 4000000 in
set_option maxRecDepth 100000 in
theorem gr_4p {i D : Int} {s : List UInt8} {sa pa : Option Addr} {nl np sc pc : Nat} {w : World} (hp : 0 < np) : Calls Tryz.prog 38 #[.agg #[.int .i64 4, .int .i64 i, .string (st s), .slice sa nl sc, .slice pa np pc], .int .i64 D] w fun e w' => e = .returned (.bool false) ∧ Below w.heap.size w w' := by
  have hb0 := hide1 (below_al (w := w) (.cells #[.int .i64 (4), .int .i64 i, .string (st s), .slice sa nl sc, .slice pa np pc] 28))
  have dp : 0 < np := hp
  clear hp
  go_enter Tryz.func38, Tryz.ntmps38
  go_wp2
  go_ret
  exact ⟨rfl, hb0.out⟩
set_option maxHeartbeats 4000000 in
set_option maxRecDepth 100000 in
theorem gr_4s {i D : Int} {s : List UInt8} {sa pa : Option Addr} {nl np sc pc : Nat} {w : World} (hp : np = 0) (hs : s ≠ []) : Calls Tryz.prog 38 #[.agg #[.int .i64 4, .int .i64 i, .string (st s), .slice sa nl sc, .slice pa np pc], .int .i64 D] w fun e w' => e = .returned (.bool false) ∧ Below w.heap.size w w' := by
  have hb0 := hide1 (below_al (w := w) (.cells #[.int .i64 (4), .int .i64 i, .string (st s), .slice sa nl sc, .slice pa np pc] 28))
  have dp : ¬ 0 < np := by omega
  have ds : (st s).toList.isEmpty = false := by cases h : (st s).toList with | nil => exact absurd (st_no.1 h) hs | cons a b => rfl
  clear hp hs
  go_enter Tryz.func38, Tryz.ntmps38
  go_wp2
  go_ret
  exact ⟨rfl, hb0.out⟩
set_option maxHeartbeats 4000000 in
set_option maxRecDepth 100000 in
theorem gr_4i {i D : Int} {s : List UInt8} {sa pa : Option Addr} {nl np sc pc : Nat} {w : World} (hp : np = 0) (hs : s = []) (hi : i ≠ 0) : Calls Tryz.prog 38 #[.agg #[.int .i64 4, .int .i64 i, .string (st s), .slice sa nl sc, .slice pa np pc], .int .i64 D] w fun e w' => e = .returned (.bool false) ∧ Below w.heap.size w w' := by
  have hb0 := hide1 (below_al (w := w) (.cells #[.int .i64 (4), .int .i64 i, .string (st s), .slice sa nl sc, .slice pa np pc] 28))
  have dp : ¬ 0 < np := by omega
  have ds : (st s).toList.isEmpty = true := by rw [st_no.2 hs]; rfl
  have di : (i != 0) = true := by simpa using hi
  clear hp hs hi
  go_enter Tryz.func38, Tryz.ntmps38
  go_wp2
  go_ret
  exact ⟨rfl, hb0.out⟩
set_option maxHeartbeats 4000000 in
set_option maxRecDepth 100000 in
theorem gr_4d {i D : Int} {s : List UInt8} {sa pa : Option Addr} {nl np sc pc : Nat} {w : World} (hp : np = 0) (hs : s = []) (hi : i = 0) (hD : D ≥ 8) : Calls Tryz.prog 38 #[.agg #[.int .i64 4, .int .i64 i, .string (st s), .slice sa nl sc, .slice pa np pc], .int .i64 D] w fun e w' => e = .returned (.bool false) ∧ Below w.heap.size w w' := by
  have hb0 := hide1 (below_al (w := w) (.cells #[.int .i64 (4), .int .i64 i, .string (st s), .slice sa nl sc, .slice pa np pc] 28))
  have dp : ¬ 0 < np := by omega
  have ds : (st s).toList.isEmpty = true := by rw [st_no.2 hs]; rfl
  have di : (i != 0) = false := by simpa using hi
  have dD : decide (D ≥ 8) = true := decide_eq_true hD
  clear hp hs hi hD
  go_enter Tryz.func38, Tryz.ntmps38
  go_wp2
  go_ret
  exact ⟨rfl, hb0.out⟩
set_option maxHeartbeats 4000000 in
set_option maxRecDepth 100000 in
theorem gr_5l {i D : Int} {s : List UInt8} {sa pa : Option Addr} {nl np sc pc : Nat} {w : World} (hl : 0 < nl) : Calls Tryz.prog 38 #[.agg #[.int .i64 5, .int .i64 i, .string (st s), .slice sa nl sc, .slice pa np pc], .int .i64 D] w fun e w' => e = .returned (.bool false) ∧ Below w.heap.size w w' := by
  have hb0 := hide1 (below_al (w := w) (.cells #[.int .i64 (5), .int .i64 i, .string (st s), .slice sa nl sc, .slice pa np pc] 28))
  have dl : 0 < nl := hl
  clear hl
  go_enter Tryz.func38, Tryz.ntmps38
  go_wp2
  go_ret
  exact ⟨rfl, hb0.out⟩
set_option maxHeartbeats 4000000 in
set_option maxRecDepth 100000 in
theorem gr_5s {i D : Int} {s : List UInt8} {sa pa : Option Addr} {nl np sc pc : Nat} {w : World} (hl : nl = 0) (hs : s ≠ []) : Calls Tryz.prog 38 #[.agg #[.int .i64 5, .int .i64 i, .string (st s), .slice sa nl sc, .slice pa np pc], .int .i64 D] w fun e w' => e = .returned (.bool false) ∧ Below w.heap.size w w' := by
  have hb0 := hide1 (below_al (w := w) (.cells #[.int .i64 (5), .int .i64 i, .string (st s), .slice sa nl sc, .slice pa np pc] 28))
  have dl : ¬ 0 < nl := by omega
  have ds : (st s).toList.isEmpty = false := by cases h : (st s).toList with | nil => exact absurd (st_no.1 h) hs | cons a b => rfl
  clear hl hs
  go_enter Tryz.func38, Tryz.ntmps38
  go_wp2
  go_ret
  exact ⟨rfl, hb0.out⟩
set_option maxHeartbeats 4000000 in
set_option maxRecDepth 100000 in
theorem gr_5i {i D : Int} {s : List UInt8} {sa pa : Option Addr} {nl np sc pc : Nat} {w : World} (hl : nl = 0) (hs : s = []) (hi : i ≠ 0) : Calls Tryz.prog 38 #[.agg #[.int .i64 5, .int .i64 i, .string (st s), .slice sa nl sc, .slice pa np pc], .int .i64 D] w fun e w' => e = .returned (.bool false) ∧ Below w.heap.size w w' := by
  have hb0 := hide1 (below_al (w := w) (.cells #[.int .i64 (5), .int .i64 i, .string (st s), .slice sa nl sc, .slice pa np pc] 28))
  have dl : ¬ 0 < nl := by omega
  have ds : (st s).toList.isEmpty = true := by rw [st_no.2 hs]; rfl
  have di : (i != 0) = true := by simpa using hi
  clear hl hs hi
  go_enter Tryz.func38, Tryz.ntmps38
  go_wp2
  go_ret
  exact ⟨rfl, hb0.out⟩
set_option maxHeartbeats 4000000 in
set_option maxRecDepth 100000 in
theorem gr_5d {i D : Int} {s : List UInt8} {sa pa : Option Addr} {nl np sc pc : Nat} {w : World} (hl : nl = 0) (hs : s = []) (hi : i = 0) (hD : D ≥ 8) : Calls Tryz.prog 38 #[.agg #[.int .i64 5, .int .i64 i, .string (st s), .slice sa nl sc, .slice pa np pc], .int .i64 D] w fun e w' => e = .returned (.bool false) ∧ Below w.heap.size w w' := by
  have hb0 := hide1 (below_al (w := w) (.cells #[.int .i64 (5), .int .i64 i, .string (st s), .slice sa nl sc, .slice pa np pc] 28))
  have dl : ¬ 0 < nl := by omega
  have ds : (st s).toList.isEmpty = true := by rw [st_no.2 hs]; rfl
  have di : (i != 0) = false := by simpa using hi
  have dD : decide (D ≥ 8) = true := decide_eq_true hD
  clear hl hs hi hD
  go_enter Tryz.func38, Tryz.ntmps38
  go_wp2
  go_ret
  exact ⟨rfl, hb0.out⟩
theorem allT_snoc {f : T → Bool} {l : List T} {i : Nat} {u : T} (hu : l[i]? = some u) (h : (l.take i).all f = true) : (l.take (i + 1)).all f = f u := by
  rw [List.take_add_one, hu, List.all_append, h]
  simp
theorem allT_of {f : T → Bool} {l : List T} {i : Nat} (h : (l.take i).all f = false) : l.all f = false := by
  rw [← List.take_append_drop i l, List.all_append, h]; rfl
set_option maxHeartbeats 8000000 in
set_option maxRecDepth 100000 in
theorem gr_4 {D : Int} {f : T → Bool} {F : Nat → Prop} {sa pa : Option Addr} {l : List T} {cl : List (List Value)} {sc pc : Nat} {w : World} (hD : D < 8) (hD0 : 0 ≤ D) (r : RwA F w Vt 5 (.slice sa cl.length sc) cl) (hl : cl.length = l.length) (hb : cl.length ≤ 1000000)
    (hc : ∀ w2, Below w.heap.size w w2 → ∀ (j : Nat) (t : T) (c : List Value), l[j]? = some t → cl[j]? = some c → Calls Tryz.prog 38 #[.agg c.toArray, .int .i64 (D + 1)] w2 fun e w3 => e = .returned (.bool (f t)) ∧ Below w2.heap.size w2 w3) :
    Calls Tryz.prog 38 #[.agg #[.int .i64 4, .int .i64 0, .string ⟨#[]⟩, .slice sa cl.length sc, .slice pa 0 pc], .int .i64 D] w fun e w' => e = .returned (.bool (l.all f)) ∧ Below w.heap.size w w' := by
  obtain ⟨wb, hwb⟩ : ∃ wb, wb = w.alloc (.cells #[.int .i64 4, .int .i64 0, .string ⟨#[]⟩, .slice sa cl.length sc, .slice pa 0 pc] 28) := ⟨_, rfl⟩
  have hb0 : Below w.heap.size w wb := by rw [hwb]; exact below_al _
  have hbx := new_at w #[.int .i64 4, .int .i64 0, .string ⟨#[]⟩, .slice sa cl.length sc, .slice pa 0 pc] 28
  rw [← hwb] at hbx
  have hsb : wb.heap.size = w.heap.size + 1 := by rw [hwb]; simp
  obtain ⟨B, hB⟩ : ∃ B, Hid (B = l.all f) := ⟨_, hide1 rfl⟩
  rw [← hB.out]
  have dD : decide (D ≥ 8) = false := decide_eq_false (by omega)
  replace hb0 := hide1 hb0
  replace hbx := hide1 hbx
  replace hsb := hide1 hsb
  replace hl := hide1 hl
  replace hc := hide1 hc
  replace r := hide1 r
  go_enter Tryz.func38, Tryz.ntmps38
  go_wp2_with fail
  rw [← hwb]
  clear hwb
  go_loopw [5] (fun x wr => ∃ i : Nat, x = .int .i64 (i : Nat) ∧ i ≤ cl.length ∧ Hid ((l.take i).all f = true) ∧ Hid (Below wb.heap.size wb wr)) (fun x _ => cl.length - (intOf x).toNat)
  case atStart => exact ⟨0, rfl, by omega, hide1 rfl, hide1 (Below.refl _ _)⟩
  case round =>
    obtain ⟨i, rfl, hin, hme, hbw⟩ := hrel
    have hbr := (hbw.out.block w.heap.size (by have := hsb.out; omega)).trans hbx.out
    have c3 : wr.cell? ⟨w.heap.size, 3, none⟩ = some (.slice sa cl.length sc) := by simp only [World.cell?, hbr]; rfl
    have c4 : wr.cell? ⟨w.heap.size, 4, none⟩ = some (.slice pa 0 pc) := by simp only [World.cell?, hbr]; rfl
    have hBw : Hid (Below w.heap.size w wr) := hide1 (hb0.out.trans (hbw.out.mono hb0.out.size))
    by_cases hlt : i < cl.length
    · obtain ⟨x, hx⟩ : ∃ x, cl[i]? = some x := ⟨_, List.getElem?_eq_getElem hlt⟩
      obtain ⟨u, hu⟩ : ∃ u, l[i]? = some u := ⟨_, List.getElem?_eq_getElem (by have := hl.out; omega)⟩
      obtain ⟨b, o, cap, hve, -, hbl, hr⟩ := r.out.at hx
      have hva : sa = some ⟨b, o, none⟩ := by cases hve; rfl
      subst hva
      obtain ⟨x0, x1, x2, x3, x4, rfl⟩ := five_l (r.out.1 x (List.mem_of_getElem? hx))
      have hr2 : wr.rangeAt b (o + i * 5) [x0, x1, x2, x3, x4] := fun j v hj => by
        rw [World.cell?_of_block (w := w) (hBw.out.block b hbl)]
        exact hr j v hj
      have hcc := hc.out wr hBw.out i u _ hu hx
      have hms := hide1 (allT_snoc hu hme.out)
      clear hve hr hx hme hu hbr
      go_wp2_with (refine wpList_load_mid rfl 28 (.tmp 119) rfl b (o + i * 5) rfl [x0, x1, x2, x3, x4] _ hr2 Tryz.underlying28 rfl (by kernel_rfl) ?_)
      refine hcc.mono ?_
      rintro e w2 ⟨rfl, b2⟩
      have hb2 := hide1 (hbw.out.trans (b2.mono hbw.out.size))
      have hB2 := hide1 (hBw.out.trans (b2.mono hBw.out.size))
      clear hcc b2 hbw hr2 c3 c4 hBw
      cases hq : f u with
      | true =>
        replace hms := hide1 (hms.out.trans hq)
        clear hq hB2
        go_wp2
        go_roundw
        case rel => exact ⟨i + 1, rfl, by omega, hms, hb2⟩
        case measure => simp [intOf]; omega
      | false =>
        have hfin : Hid ((Ending.returned (.bool false) : Ending) = .returned (.bool B) ∧ Below w.heap.size w w2) := hide1 ⟨by rw [hB.out, allT_of (hms.out.trans hq)], hB2.out⟩
        clear hms hq hB hB2 hb2
        go_wp2
        go_ret
        exact hfin.out
    · have hfin : Hid ((Ending.returned (.bool true) : Ending) = .returned (.bool B) ∧ Below w.heap.size w wr) := hide1 ⟨by
        have := hme.out
        rw [List.take_of_length_le (by have := hl.out; omega)] at this
        rw [hB.out, this], hBw.out⟩
      have hie : i = cl.length := by omega
      subst hie
      clear hme hbw hlt hB hBw hbr
      go_wp2
      refine wp_loop_rounds 1 ?_
      rw [rounds_succ]; go_wp2
      go_ret
      exact hfin.out
theorem nodup_snoc {p : List (List UInt8 × T)} {i : Nat} {q : List UInt8 × T} (hq : p[i]? = some q) (h : ((p.take i).map (·.1)).Nodup) (hn : q.1 ∉ (p.take i).map (·.1)) : ((p.take (i + 1)).map (·.1)).Nodup := by
  rw [List.take_add_one, hq, List.map_append, Option.toList_some, List.map_cons, List.map_nil]
  refine List.nodup_append.2 ⟨h, by simp, fun a ha b hb e => ?_⟩
  simp at hb
  subst hb e
  exact hn ha
theorem dup_bad {p : List (List UInt8 × T)} {i k : Nat} {q q' : List UInt8 × T} (hq : p[i]? = some q) (hq' : p[k]? = some q') (hk : k < i) (he : q'.1 = q.1) : onc (p.map (·.1)) = false := by
  unfold onc
  refine decide_eq_false fun h => ?_
  have h1 : (p.map (·.1))[i]? = some q.1 := by rw [List.getElem?_map, hq]; rfl
  have h2 : (p.map (·.1))[k]? = some q.1 := by rw [List.getElem?_map, hq', ← he]; rfl
  have := (List.getElem?_inj (List.getElem?_eq_some_iff.1 h2).1 h).1 (h2.trans h1.symm)
  omega
set_option maxHeartbeats 16000000 in
set_option maxRecDepth 100000 in
theorem gr_5 {D : Int} {f : T → Bool} {F : Nat → Prop} {sa pa : Option Addr} {p : List (List UInt8 × T)} {cp : List (List Value)} {sc pc : Nat} {w : World} (hD : D < 8) (hD0 : 0 ≤ D) (r : RwA F w Pt 6 (.slice pa cp.length pc) cp) (hl : cp.length = p.length) (hb : cp.length ≤ 1000000)
    (hn : ∀ (j : Nat) (q : List UInt8 × T) (c : List Value), p[j]? = some q → cp[j]? = some c → c.head? = some (Value.string (st q.1)))
    (hc : ∀ w2, Below w.heap.size w w2 → ∀ (j : Nat) (q : List UInt8 × T) (c : List Value), p[j]? = some q → cp[j]? = some c → Calls Tryz.prog 38 #[.agg c.tail.toArray, .int .i64 (D + 1)] w2 fun e w3 => e = .returned (.bool (f q.2)) ∧ Below w2.heap.size w2 w3) :
    Calls Tryz.prog 38 #[.agg #[.int .i64 5, .int .i64 0, .string ⟨#[]⟩, .slice sa 0 sc, .slice pa cp.length pc], .int .i64 D] w fun e w' => e = .returned (.bool (p.all (fun q => Lib.validD q.1 && f q.2) && onc (p.map (·.1)))) ∧ Below w.heap.size w w' := by
  obtain ⟨wb, hwb⟩ : ∃ wb, wb = w.alloc (.cells #[.int .i64 5, .int .i64 0, .string ⟨#[]⟩, .slice sa 0 sc, .slice pa cp.length pc] 28) := ⟨_, rfl⟩
  have hb0 : Below w.heap.size w wb := by rw [hwb]; exact below_al _
  have hbx := new_at w #[.int .i64 5, .int .i64 0, .string ⟨#[]⟩, .slice sa 0 sc, .slice pa cp.length pc] 28
  rw [← hwb] at hbx
  have hsb : wb.heap.size = w.heap.size + 1 := by rw [hwb]; simp
  obtain ⟨B, hB⟩ : ∃ B, Hid (B = (p.all (fun q => Lib.validD q.1 && f q.2) && onc (p.map (·.1)))) := ⟨_, hide1 rfl⟩
  rw [← hB.out]
  have dD : decide (D ≥ 8) = false := decide_eq_false (by omega)
  replace hb0 := hide1 hb0
  replace hbx := hide1 hbx
  replace hsb := hide1 hsb
  replace hl := hide1 hl
  replace hc := hide1 hc
  replace hn := hide1 hn
  replace r := hide1 r
  go_enter Tryz.func38, Tryz.ntmps38
  go_wp2_with fail
  rw [← hwb]
  clear hwb
  refine wp_loop_rounds 1 ?_
  rw [rounds_succ]
  have d3 : wb.cell? ⟨w.heap.size, 3, none⟩ = some (.slice sa 0 sc) := by simp only [World.cell?, hbx.out]; rfl
  go_wp2_with fail
  clear d3
  go_loopw [6] (fun x wr => ∃ i : Nat, x = .int .i64 (i : Nat) ∧ i ≤ cp.length ∧ Hid (((p.take i).map (·.1)).Nodup) ∧ Hid ((p.take i).all (fun q => Lib.validD q.1 && f q.2) = true) ∧ Hid (Below wb.heap.size wb wr)) (fun x _ => cp.length - (intOf x).toNat)
  case atStart => exact ⟨0, rfl, by omega, hide1 (by simp), hide1 rfl, hide1 (Below.refl _ _)⟩
  case round =>
    obtain ⟨i, rfl, hin, hnd, hme, hbw⟩ := hrel
    have hbr := (hbw.out.block w.heap.size (by have := hsb.out; omega)).trans hbx.out
    have c4 : wr.cell? ⟨w.heap.size, 4, none⟩ = some (.slice pa cp.length pc) := by simp only [World.cell?, hbr]; rfl
    have hBw : Hid (Below w.heap.size w wr) := hide1 (hb0.out.trans (hbw.out.mono hb0.out.size))
    by_cases hlt : i < cp.length
    · obtain ⟨x, hx⟩ : ∃ x, cp[i]? = some x := ⟨_, List.getElem?_eq_getElem hlt⟩
      obtain ⟨u, hu⟩ : ∃ u, p[i]? = some u := ⟨_, List.getElem?_eq_getElem (by have := hl.out; omega)⟩
      obtain ⟨b, o, cap, hve, -, hbl, hr⟩ := r.out.at hx
      have hva : pa = some ⟨b, o, none⟩ := by cases hve; rfl
      subst hva
      have hxn := hn.out i u x hu hx
      obtain ⟨x0, x1, x2, x3, x4, x5, rfl⟩ := arr6 (r.out.1 x (List.mem_of_getElem? hx))
      have hx0 : x0 = .string (st u.1) := by simpa using hxn
      subst hx0
      obtain ⟨wo, rfl⟩ : ∃ wo, wo = wr := ⟨_, rfl⟩
      have hcell : Hid (∀ W, Below wo.heap.size wo W → W.cell? ⟨b, o + i * 6, none⟩ = some (.string (st u.1)) ∧ W.rangeAt b (o + i * 6 + 1) [x1, x2, x3, x4, x5] ∧ W.cell? ⟨w.heap.size, 4, none⟩ = some (.slice (some ⟨b, o, none⟩) cp.length pc)) := hide1 fun W hW => by
        have hBW := hBw.out.trans (hW.mono hBw.out.size)
        refine ⟨?_, fun j v hj => ?_, ?_⟩
        · rw [World.cell?_of_block (w := w) (hBW.block b hbl)]
          exact hr 0 _ rfl
        · rw [World.cell?_of_block (w := w) (hBW.block b hbl)]
          have := hr (j + 1) v (by simpa using hj)
          rw [show o + i * 6 + 1 + j = o + i * 6 + (j + 1) by omega]
          exact this
        · have := (hW.block w.heap.size (Array.getElem?_eq_some_iff.1 hbr).1).trans hbr
          simp only [World.cell?, this]; rfl
      have hother : Hid (∀ W, Below wo.heap.size wo W → ∀ (k : Nat) (q : List UInt8 × T), p[k]? = some q → W.cell? ⟨b, o + k * 6, none⟩ = some (.string (st q.1))) := hide1 fun W hW k q hk => by
        have hBW := hBw.out.trans (hW.mono hBw.out.size)
        have hkl := (List.getElem?_eq_some_iff.1 hk).1
        obtain ⟨y, hy⟩ : ∃ y, cp[k]? = some y := ⟨_, List.getElem?_eq_getElem (by have := hl.out; omega)⟩
        obtain ⟨b', o', cap', hve', -, hbl', hr'⟩ := r.out.at hy
        cases hve'
        rw [World.cell?_of_block (w := w) (hBW.block b hbl)]
        have hyn := hn.out k q y hk hy
        obtain ⟨y0, y1, y2, y3, y4, y5, rfl⟩ := arr6 (r.out.1 y (List.mem_of_getElem? hy))
        have hy0 : y0 = .string (st q.1) := by simpa using hyn
        subst hy0
        exact hr' 0 _ rfl
      have hu2 := hide1 hu
      have hcc := hide1 (fun W (hW : Below wo.heap.size wo W) => hc.out W (hBw.out.trans (hW.mono hBw.out.size)) i u _ hu hx)
      have hms := hide1 (all_snoc (f := fun q => Lib.validD q.1 && f q.2) hu hme.out)
      clear hve hr hx hme hu hbr hxn
      go_wp2_with fail
      go_loopw [7] (fun y wr => ∃ k : Nat, y = .int .i64 (k : Nat) ∧ k ≤ i ∧ Hid (u.1 ∉ (p.take k).map (·.1)) ∧ Hid (Below wo.heap.size wo wr)) (fun y _ => i - (intOf y).toNat)
      case atStart => exact ⟨0, rfl, by omega, hide1 (by simp), hide1 (Below.refl _ _)⟩
      case round =>
        obtain ⟨k, rfl, hki, hno, hbk⟩ := hrel
        obtain ⟨ci, hri, c4k⟩ := hcell.out wr hbk.out
        have hBk := hide1 (hBw.out.trans (hbk.out.mono hBw.out.size))
        clear c4
        by_cases hklt : k < i
        · obtain ⟨q, hq⟩ : ∃ q, p[k]? = some q := ⟨_, List.getElem?_eq_getElem (by have := hl.out; omega)⟩
          have ck := hother.out wr hbk.out k q hq
          have hkl : k < cp.length := by omega
          have hse := st_eq q.1 u.1
          by_cases he : q.1 = u.1
          · have heq : ((st q.1).toList == (st u.1).toList) = true := by rw [hse]; exact decide_eq_true he
            have hfin : Hid (∀ n, (Ending.returned (.bool false) : Ending) = .returned (.bool B) ∧ Below w.heap.size w (wr.drewN n)) := hide1 fun n => ⟨by rw [hB.out, dup_bad hu2.out hq hklt he, Bool.and_false], below_drewNv hBk.out n⟩
            clear hse he hB hno hbk hBk hms hcc hother hcell hq hri
            go_wp2_with fail
            go_quiet (fail)
            go_wp2
            go_ret
            exact hfin.out _
          · have heq : ((st q.1).toList == (st u.1).toList) = false := by rw [hse]; exact decide_eq_false he
            have hno2 : Hid (u.1 ∉ (p.take (k + 1)).map (·.1)) := hide1 (by
              rw [List.take_add_one, hq, List.map_append, Option.toList_some, List.map_cons, List.map_nil, List.mem_append]
              rintro (h | h)
              · exact hno.out h
              · simp at h; exact he h.symm)
            have hbk2 := hide1 (fun n => below_drewNv hbk.out n)
            clear hse he hno hbk hBk hq hri
            go_wp2_with fail
            go_quiet (fail)
            go_wp2
            go_roundw
            case rel => exact ⟨k + 1, rfl, by omega, hno2, hide1 (hbk2.out _)⟩
            case measure => simp [intOf]; omega
        · have hke : k = i := by omega
          subst hke
          have hnd2 := hide1 (nodup_snoc hu2.out hnd.out hno.out)
          have hv := valid_d (l := u.1) (w := wr)
          clear hno hnd hother hklt hki
          go_wp2_with fail
          refine hv.mono ?_
          rintro e w2 ⟨rfl, b2⟩
          have hb2 := hide1 (hbk.out.trans (b2.mono hbk.out.size))
          have hB2 := hide1 (hBk.out.trans (b2.mono hBk.out.size))
          obtain ⟨ci2, hri2, c4k2⟩ := hcell.out w2 hb2.out
          clear hv b2 ci hri c4k hbk hBk hcell
          cases hvd : Lib.validD u.1 with
          | false =>
            have hfin : Hid ((Ending.returned (.bool false) : Ending) = .returned (.bool B) ∧ Below w.heap.size w w2) := hide1 ⟨by rw [hB.out, all_of (hms.out.trans (by simp only [hvd, Bool.false_and])), Bool.false_and], hB2.out⟩
            clear hms hB hcc hri2 hb2 hB2
            go_wp2
            go_ret
            exact hfin.out
          | true =>
            have hcg := hcc.out w2 hb2.out
            replace hcg : Calls Tryz.prog 38 #[.agg #[x1, x2, x3, x4, x5], .int .i64 (D + 1)] w2 _ := hcg
            clear hcc
            have g0 : w2.cell? ⟨b, o + k * 6 + 1, none⟩ = some x1 := hri2 0 _ rfl
            have g1 : w2.cell? ⟨b, o + k * 6 + 1 + 1, none⟩ = some x2 := hri2 1 _ rfl
            have g2 : w2.cell? ⟨b, o + k * 6 + 1 + 2, none⟩ = some x3 := hri2 2 _ rfl
            have g3 : w2.cell? ⟨b, o + k * 6 + 1 + 3, none⟩ = some x4 := hri2 3 _ rfl
            have g4 : w2.cell? ⟨b, o + k * 6 + 1 + 4, none⟩ = some x5 := hri2 4 _ rfl
            go_wp2_with fail
            clear g0 g1 g2 g3 g4
            refine hcg.mono ?_
            rintro e w3 ⟨rfl, b3⟩
            have hb3 := hide1 (hbw.out.trans ((hb2.out.trans (b3.mono hb2.out.size)).mono hbw.out.size))
            have hB3 := hide1 (hB2.out.trans (b3.mono hB2.out.size))
            clear hcg b3 hri2 ci2 c4k2 hb2 hB2
            cases hgu : f u.2 with
            | false =>
              have hfin : Hid ((Ending.returned (.bool false) : Ending) = .returned (.bool B) ∧ Below w.heap.size w w3) := hide1 ⟨by rw [hB.out, all_of (hms.out.trans (by simp only [hgu, Bool.and_false])), Bool.false_and], hB3.out⟩
              clear hms hB
              go_wp2
              go_ret
              exact hfin.out
            | true =>
              replace hms := hide1 (hms.out.trans (show (Lib.validD u.1 && f u.2) = true by rw [hvd, hgu]; rfl))
              clear hvd hgu
              go_wp2
              go_roundw
              case rel => exact ⟨k + 1, rfl, by omega, hnd2, hms, hb3⟩
              case measure => simp [intOf]; omega
    · have hfin : Hid ((Ending.returned (.bool true) : Ending) = .returned (.bool B) ∧ Below w.heap.size w wr) := hide1 ⟨by
        have h1 := hme.out
        have h2 := hnd.out
        rw [List.take_of_length_le (by have := hl.out; omega)] at h1 h2
        rw [hB.out, h1]
        unfold onc
        rw [decide_eq_true h2]; rfl, hBw.out⟩
      have hie : i = cp.length := by omega
      subst hie
      clear hme hbw hlt hB hBw hbr hnd
      go_wp2
      go_ret
      exact hfin.out
def Gok (n : Nat) : Prop := ∀ {F : Nat → Prop} {w : World} {t : T} {c : List Value} {h : Nat}, hgt h t → VA F w t c → Calls Tryz.prog 38 #[.agg c.toArray, .int .i64 (8 - n : Nat)] w fun e w' => e = .returned (.bool (gd n t)) ∧ Below w.heap.size w w'
theorem good_s {n : Nat} (hn : n ≤ 8) (ih : ∀ m, n = m + 1 → Gok m) : Gok n := by
  intro F w t c h hh hv
  cases h with
  | zero => exact hh.elim
  | succ h =>
  cases hv with
  | @mk k i s l p sl sp cl cp r1 r2 e1 e2 hl hp1 hp2 =>
    obtain ⟨b1, b2, hh1, hh2⟩ := hh
    obtain ⟨sa, sc, rfl⟩ := r1.slc
    obtain ⟨pa, pc, rfl⟩ := r2.slc
    have hfl : ∀ m, gd m (.mk k i s l p) = false → gd m (.mk k i s l p) = false := fun _ h => h
    have spf : spB k i s l.length p.length = true → gd n (.mk k i s l p) = false := fun h => by unfold gd; rw [h]; rfl
    by_cases kn : k < 0
    · rw [show gd n (.mk k i s l p) = false by unfold gd; rw [if_neg (by omega), if_neg (by omega), if_neg (by omega), if_neg (by omega), if_neg (by omega), if_neg (by omega), Bool.and_false]]
      exact gr_neg kn
    by_cases kb : 5 < k
    · rw [show gd n (.mk k i s l p) = false by unfold gd; rw [if_neg (by omega), if_neg (by omega), if_neg (by omega), if_neg (by omega), if_neg (by omega), if_neg (by omega), Bool.and_false]]
      exact gr_big kb
    have hk : k = 0 ∨ k = 1 ∨ k = 2 ∨ k = 3 ∨ k = 4 ∨ k = 5 := by omega
    clear kn kb hfl
    by_cases hs : s = []
    case neg =>
      by_cases k3 : k = 3
      · subst k3
        by_cases hl0 : cl.length = 0
        case neg =>
          rw [spf (spB_3 ⟨by omega, by omega⟩)]
          exact gr_3l (by omega)
        by_cases hp0 : cp.length = 0
        case neg =>
          rw [spf (spB_4 ⟨by omega, by omega⟩)]
          exact gr_3p hl0 (by omega)
        by_cases hi : i = 0
        case neg =>
          rw [spf (spB_1 ⟨hi, by omega, by omega⟩)]
          exact gr_3i hl0 hp0 hi
        have e : gd n (.mk 3 i s l p) = Lib.validD s := by
          unfold gd
          rw [spB_f (by omega) (fun h => h.2 rfl) (by omega) (by omega)]
          rfl
        rw [e]
        cases hv : Lib.validD s with
        | true => exact gr_3t hl0 hp0 hi hv
        | false => exact gr_3n hl0 hp0 hi hv
      · rw [spf (spB_2 ⟨hs, k3⟩)]
        rcases hk with rfl | rfl | rfl | rfl | rfl | rfl
        · by_cases hl0 : cl.length = 0
          · by_cases hp0 : cp.length = 0
            · exact gr_0s hl0 hp0 hs
            · exact gr_0p hl0 (by omega)
          · exact gr_0l (by omega)
        · by_cases hl0 : cl.length = 0
          · by_cases hp0 : cp.length = 0
            · exact gr_1s hl0 hp0 hs
            · exact gr_1p hl0 (by omega)
          · exact gr_1l (by omega)
        · by_cases hl0 : cl.length = 0
          · by_cases hp0 : cp.length = 0
            · exact gr_2s hl0 hp0 hs
            · exact gr_2p hl0 (by omega)
          · exact gr_2l (by omega)
        · exact absurd rfl k3
        · by_cases hp0 : cp.length = 0
          · exact gr_4s hp0 hs
          · exact gr_4p (by omega)
        · by_cases hl0 : cl.length = 0
          · exact gr_5s hl0 hs
          · exact gr_5l (by omega)
    case pos =>
    rcases hk with rfl | rfl | rfl | rfl | rfl | rfl
    · by_cases hl0 : cl.length = 0
      case neg => rw [spf (spB_3 ⟨by omega, by omega⟩)]; exact gr_0l (by omega)
      by_cases hp0 : cp.length = 0
      case neg => rw [spf (spB_4 ⟨by omega, by omega⟩)]; exact gr_0p hl0 (by omega)
      by_cases hi : i = 0
      case neg => rw [spf (spB_1 ⟨hi, by omega, by omega⟩)]; exact gr_0i hl0 hp0 hs hi
      have e : gd n (.mk 0 i s l p) = true := by
        unfold gd
        rw [spB_f (by omega) (fun h => h.1 hs) (by omega) (by omega)]
        rfl
      rw [e]
      exact gr_0t hl0 hp0 hs hi
    · by_cases hl0 : cl.length = 0
      case neg => rw [spf (spB_3 ⟨by omega, by omega⟩)]; exact gr_1l (by omega)
      by_cases hp0 : cp.length = 0
      case neg => rw [spf (spB_4 ⟨by omega, by omega⟩)]; exact gr_1p hl0 (by omega)
      have e : gd n (.mk 1 i s l p) = decide (i = 0 ∨ i = 1) := by
        unfold gd
        rw [spB_f (by omega) (fun h => h.1 hs) (by omega) (by omega)]
        rfl
      rw [e]
      by_cases i0 : i = 0
      · subst i0
        exact gr_10 hl0 hp0 hs
      · by_cases i1 : i = 1
        · subst i1
          exact gr_11 hl0 hp0 hs
        · rw [decide_eq_false (by omega)]
          exact gr_1n hl0 hp0 hs i0 i1
    · by_cases hl0 : cl.length = 0
      case neg => rw [spf (spB_3 ⟨by omega, by omega⟩)]; exact gr_2l (by omega)
      by_cases hp0 : cp.length = 0
      case neg => rw [spf (spB_4 ⟨by omega, by omega⟩)]; exact gr_2p hl0 (by omega)
      have e : gd n (.mk 2 i s l p) = inR i := by
        unfold gd
        rw [spB_f (by omega) (fun h => h.1 hs) (by omega) (by omega)]
        rfl
      rw [e]
      by_cases h1 : i < -9007199254740991
      · rw [show inR i = false from decide_eq_false (by omega)]
        exact gr_2a hl0 hp0 hs h1
      · by_cases h2 : i > 9007199254740991
        · rw [show inR i = false from decide_eq_false (by omega)]
          exact gr_2b hl0 hp0 hs h2
        · rw [show inR i = true from decide_eq_true (by omega)]
          exact gr_2t hl0 hp0 hs (by omega) (by omega)
    · by_cases hl0 : cl.length = 0
      case neg => rw [spf (spB_3 ⟨by omega, by omega⟩)]; exact gr_3l (by omega)
      by_cases hp0 : cp.length = 0
      case neg => rw [spf (spB_4 ⟨by omega, by omega⟩)]; exact gr_3p hl0 (by omega)
      by_cases hi : i = 0
      case neg => rw [spf (spB_1 ⟨hi, by omega, by omega⟩)]; exact gr_3i hl0 hp0 hi
      have e : gd n (.mk 3 i s l p) = Lib.validD s := by
        unfold gd
        rw [spB_f (by omega) (fun h => h.2 rfl) (by omega) (by omega)]
        rfl
      rw [e]
      cases hv : Lib.validD s with
      | true => exact gr_3t hl0 hp0 hi hv
      | false => exact gr_3n hl0 hp0 hi hv
    · by_cases hp0 : cp.length = 0
      case neg => rw [spf (spB_4 ⟨by omega, by omega⟩)]; exact gr_4p (by omega)
      by_cases hi : i = 0
      case neg => rw [spf (spB_1 ⟨hi, by omega, by omega⟩)]; exact gr_4i hp0 hs hi
      cases n with
      | zero =>
        rw [show gd 0 (.mk 4 i s l p) = false by unfold gd; rw [spB_f (by omega) (fun h => h.1 hs) (by omega) (by omega)]; rfl]
        exact gr_4d hp0 hs hi (by omega)
      | succ n =>
        rw [show gd (n + 1) (.mk 4 i s l p) = l.all (gd n) by unfold gd; rw [spB_f (by omega) (fun h => h.1 hs) (by omega) (by omega)]; rfl]
        subst hi hs
        have hq := gr_4 (D := ((8 - (n + 1) : Nat) : Int)) (f := gd n) (F := F) (sa := sa) (pa := pa) (l := l) (cl := cl) (sc := sc) (pc := pc) (w := w) (by omega) (by omega) r1 e1 (by omega) (fun w2 hb j t c h1 h2 => by
          rw [show ((8 - (n + 1) : Nat) : Int) + 1 = ((8 - n : Nat) : Int) by omega]
          exact ih n rfl (hh1 t (List.mem_of_getElem? h1)) ((hl j t c h1 h2).frame (w' := w2) (G := F) (fun j _ hj => hb.block j hj) (fun _ h _ => h)))
        rw [← hp0] at hq
        exact hq
    · by_cases hl0 : cl.length = 0
      case neg => rw [spf (spB_3 ⟨by omega, by omega⟩)]; exact gr_5l (by omega)
      by_cases hi : i = 0
      case neg => rw [spf (spB_1 ⟨hi, by omega, by omega⟩)]; exact gr_5i hl0 hs hi
      cases n with
      | zero =>
        rw [show gd 0 (.mk 5 i s l p) = false by unfold gd; rw [spB_f (by omega) (fun h => h.1 hs) (by omega) (by omega)]; rfl]
        exact gr_5d hl0 hs hi (by omega)
      | succ n =>
        have e5 : gd (n + 1) (.mk 5 i s l p) = (p.all (fun q => Lib.validD q.1 && gd n q.2) && onc (p.map (·.1))) := by
          conv => lhs; unfold gd
          rw [spB_f (by omega) (fun h => h.1 hs) (by omega) (by omega)]
          rfl
        rw [e5]
        subst hi hs
        have hq := gr_5 (D := ((8 - (n + 1) : Nat) : Int)) (f := gd n) (F := F) (sa := sa) (pa := pa) (p := p) (cp := cp) (sc := sc) (pc := pc) (w := w) (by omega) (by omega) r2 e2 (by omega) hp1 (fun w2 hb j q c h1 h2 => by
          rw [show ((8 - (n + 1) : Nat) : Int) + 1 = ((8 - n : Nat) : Int) by omega]
          exact ih n rfl (hh2 q (List.mem_of_getElem? h1)) ((hp2 j q c h1 h2).frame (w' := w2) (G := F) (fun j _ hj => hb.block j hj) (fun _ h _ => h)))
        rw [← hl0] at hq
        exact hq
theorem good_d : ∀ n, n ≤ 8 → Gok n
  | 0, h => good_s h fun m e => by cases e
  | n + 1, h => good_s h fun m e => by cases e; exact good_d n (by omega)
end Go.Proofs.YtbemaloaobeblaaGreatDoor

namespace Go.Proofs.YtbemaloaobeblaaGreatDoor
open Go.RowKit Go.Shelf

def AnRT (w : World) (t : T) (e : Ending) (w' : World) : Prop := ∃ v bad, e = .returned (.tuple #[v, .int .i64 bad]) ∧ Below w.heap.size w w' ∧
  ((gd 8 t = false ∧ v = .slice none 0 0 ∧ bad = 1) ∨ (gd 8 t = true ∧ 4096 < (ct t).length ∧ v = .slice none 0 0 ∧ bad = 10) ∨
    (gd 8 t = true ∧ (ct t).length ≤ 4096 ∧ bad = 0 ∧ ∃ g cap, v = .slice (some ⟨g, 0, none⟩) (ct t).length cap ∧ (ct t).length ≤ cap ∧ BsA w' v (ct t)))
set_option maxHeartbeats 4000000 in
set_option maxRecDepth 100000 in
theorem rput_d {h : Nat} {F : Nat → Prop} {w : World} {t : T} {c : List Value} (hh : hgt h t) (hs : shT 9 t) (hv : VA F w t c) (hlen : gd 8 t = true → (ct t).length ≤ 1000000000000) : Calls Tryz.prog 21 #[.agg c.toArray] w (AnRT w t) := by
  obtain ⟨x0, x1, x2, x3, x4, rfl⟩ := five_l hv.len
  obtain ⟨wb, hwb⟩ : ∃ wb, wb = w.alloc (.cells #[x0, x1, x2, x3, x4] 28) := ⟨_, rfl⟩
  have hB : Below w.heap.size w wb := by rw [hwb]; exact (Below.refl _ _).alloc (Nat.le_refl _) _
  have hn : wb.heap[w.heap.size]? = some (.cells #[x0, x1, x2, x3, x4] 28 (0, 0)) := by
    rw [hwb]
    show (w.heap.push _)[w.heap.size]? = _
    rw [Array.getElem?_push, if_pos rfl]
  have hvb : VA F wb t [x0, x1, x2, x3, x4] := hv.frame (fun k _ hk => hB.block k hk) (fun _ h _ => h)
  have hck := good_d 8 (Nat.le_refl 8) hh hvb
  replace hck : Calls Tryz.prog 38 #[.agg #[x0, x1, x2, x3, x4], .int .i64 0] wb _ := hck
  have hql : w.heap.size < wb.heap.size := (Array.getElem?_eq_some_iff.1 hn).1
  have hl : ∀ wa, Below wb.heap.size wb wa → wa.rangeAt w.heap.size 0 [x0, x1, x2, x3, x4] := fun wa hwa j u hj => by
    have hx := (hwa.block w.heap.size hql).trans hn
    simp only [World.cell?, hx]
    rw [Nat.zero_add]
    simpa using hj
  have hl5 := hl wb (Below.refl _ _)
  replace hB := hide1 hB
  replace hvb := hide1 hvb
  clear hv hn
  show Calls Tryz.prog 21 #[.agg #[x0, x1, x2, x3, x4]] w _
  go_enter Tryz.func21, Tryz.ntmps21
  go_upto_region 1 with fail
  rw [← hwb]
  clear hwb
  go_wp2_with (first | refine wpList_load_mid rfl 28 (.tmp 1) rfl w.heap.size 0 rfl [x0, x1, x2, x3, x4] _ hl5 Tryz.underlying28 rfl (by kernel_rfl) ?_ | fail)
  refine hck.mono ?_
  rintro e w1 ⟨rfl, b1⟩
  have hB1 := hide1 (hB.out.trans (b1.mono hB.out.size))
  cases hg : gd 8 t with
  | false =>
    clear hck hl5 hl
    go_wp2
    go_ret2
    exact ⟨_, _, rfl, hB1.out, .inl ⟨hg, rfl, rfl⟩⟩
  | true =>
    have htx := rtext_d 8 h hg hh hs (hvb.out.frame (w' := w1) (G := fun _ => True) (fun k _ hk => b1.block k hk) (fun _ _ _ => trivial)) (by rw [rz_cz 8 t hg]; exact hlen hg)
    rw [rz_cz 8 t hg] at htx
    replace htx : Calls Tryz.prog 39 #[.agg #[x0, x1, x2, x3, x4]] w1 (AnN w1 (ct t)) := htx
    have hl1 := hl w1 b1
    clear hck hl5 hl hvb b1 hlen
    go_wp2_with (first | refine wpList_load_mid rfl 28 (.tmp 1) rfl w.heap.size 0 rfl [x0, x1, x2, x3, x4] _ hl1 Tryz.underlying28 rfl (by kernel_rfl) ?_ | fail)
    refine htx.mono ?_
    rintro e w2 ⟨rfl, b2⟩
    have hB2 := hide1 (hB1.out.trans (b2.mono hB1.out.size))
    have hsz := st_size (ct t)
    clear htx b2 hl1
    by_cases hov : 4096 < (ct t).length
    · have hov' : ((ct t).length : Int) > 4096 := by omega
      have hf : Hid (AnRT w t (.returned (.tuple #[.slice none 0 0, .int .i64 10])) w2) := hide1 ⟨_, _, rfl, hB2.out, .inr (.inl ⟨hg, hov, rfl, rfl⟩)⟩
      go_wp2
      go_ret2
      exact hf.out
    · have hov' : ¬ ((ct t).length : Int) > 4096 := by omega
      obtain ⟨w3, cap, hcv, hcap, hbs, hbw⟩ := cvb w2 (ct t)
      have hf : Hid (AnRT w t (.returned (.tuple #[.slice (some ⟨w2.heap.size, 0, none⟩) (ct t).length cap, .int .i64 0])) w3) := hide1 ⟨_, _, rfl, hB2.out.trans (hbw.mono hB2.out.size), .inr (.inr ⟨hg, by omega, rfl, _, _, rfl, hcap, hbs⟩)⟩
      clear hbs hbw hcap
      go_wp2
      go_ret2
      exact hf.out
def lgB : Nat → T → Bool
  | 0, _ => false
  | h + 1, .mk _ _ s l p => decide (5000 < s.length) || l.any (lgB h) || p.any fun q => decide (5000 < q.1.length) || lgB h q.2
theorem bxw_rng (w : World) {x0 x1 x2 x3 x4 : Value} : (bxw w #[x0, x1, x2, x3, x4]).rangeAt w.heap.size 0 [x0, x1, x2, x3, x4] := fun j u hj => by
  have hx := bxw_at w #[x0, x1, x2, x3, x4]
  simp only [World.cell?, hx]
  rw [Nat.zero_add]
  simpa using hj
def bxp (w : World) (c : Array Value) : World := (w.alloc (.cells #[.string ⟨#[]⟩, .int .i64 0, .int .i64 0, .string ⟨#[]⟩, .slice none 0 0, .slice none 0 0] 49)).setRow w.heap.size c
theorem bxp_z (w : World) : (w.alloc (.cells #[.string ⟨#[]⟩, .int .i64 0, .int .i64 0, .string ⟨#[]⟩, .slice none 0 0, .slice none 0 0] 49)).heap[w.heap.size]? = some (.cells #[.string ⟨#[]⟩, .int .i64 0, .int .i64 0, .string ⟨#[]⟩, .slice none 0 0, .slice none 0 0] 49 (0, 0)) := by
  show (w.heap.push _)[w.heap.size]? = _
  rw [Array.getElem?_push, if_pos rfl]
theorem bxp_at (w : World) (c : Array Value) : (bxp w c).heap[w.heap.size]? = some (.cells c 49 (0, 0)) := setRow_heap _ w.heap.size _ c _ _ (bxp_z w)
theorem bxp_bl (w : World) (c : Array Value) : Below w.heap.size w (bxp w c) := ⟨rfl, rfl, rfl, by simp [bxp, World.setRow], fun k hk => (setRow_other _ _ k _ (by omega)).trans (by
  show (w.heap.push _)[k]? = _
  rw [Array.getElem?_push, if_neg (by omega)])⟩
theorem any_stop {α : Type} {f : α → Bool} {l : List α} {j : Nat} {x : α} (h : l[j]? = some x) (hf : f x = true) : l.any f = true := List.any_eq_true.2 ⟨x, List.mem_of_getElem? h, hf⟩
theorem any_no {α : Type} {f : α → Bool} {l : List α} (h : ∀ (j : Nat) (x : α), l[j]? = some x → f x = false) : l.any f = false := by
  cases hx : l.any f with
  | false => rfl
  | true =>
    obtain ⟨x, hm, h2⟩ := List.any_eq_true.1 hx
    obtain ⟨j, hj⟩ := List.getElem?_of_mem hm
    rw [h j x hj] at h2; cases h2
set_option maxHeartbeats 8000000 in
set_option maxRecDepth 100000 in
theorem long_s {h : Nat} (ih : ∀ {F : Nat → Prop} {w : World} {t : T} {c : List Value}, hgt h t → VA F w t c → Calls Tryz.prog 36 #[.agg c.toArray] w fun e w' => e = .returned (.bool (lgB h t)) ∧ Below w.heap.size w w')
    {F : Nat → Prop} {w : World} {t : T} {c : List Value} (hh : hgt (h + 1) t) (hv : VA F w t c) : Calls Tryz.prog 36 #[.agg c.toArray] w fun e w' => e = .returned (.bool (lgB (h + 1) t)) ∧ Below w.heap.size w w' := by
  cases hv with
  | @mk k ki s l p sl sp cl cp r1 r2 e1 e2 hl hp1 hp2 =>
    obtain ⟨hw1, hw2, hh1, hh2⟩ := hh
    have hw1' : cl.length ≤ 1000000000 := by rw [e1]; omega
    have hw2' : cp.length ≤ 1000000000 := by rw [e2]; omega
    obtain ⟨sa, sc, rfl⟩ : ∃ va vc, sl = .slice va cl.length vc := by
      obtain ⟨_, ⟨a, cap, h1, h2⟩ | ⟨b, o, cap, cur, fz, h1, _⟩⟩ := r1
      · exact ⟨a, cap, by rw [h1, h2]; rfl⟩
      · exact ⟨_, cap, h1⟩
    obtain ⟨pa, pc, rfl⟩ : ∃ va vc, sp = .slice va cp.length vc := by
      obtain ⟨_, ⟨a, cap, h1, h2⟩ | ⟨b, o, cap, cur, fz, h1, _⟩⟩ := r2
      · exact ⟨a, cap, by rw [h1, h2]; rfl⟩
      · exact ⟨_, cap, h1⟩
    obtain ⟨wb, hwb⟩ : ∃ wb, wb = w.alloc (.cells #[.int .i64 k, .int .i64 ki, .string (st s), .slice sa cl.length sc, .slice pa cp.length pc] 28) := ⟨_, rfl⟩
    have hb0 : Below w.heap.size w wb := by rw [hwb]; exact (Below.refl _ _).alloc (Nat.le_refl _) _
    have hbx : wb.heap[w.heap.size]? = some (.cells #[.int .i64 k, .int .i64 ki, .string (st s), .slice sa cl.length sc, .slice pa cp.length pc] 28 (0, 0)) := by
      rw [hwb]
      show (w.heap.push _)[w.heap.size]? = _
      rw [Array.getElem?_push, if_pos rfl]
    have hz : w.heap.size < wb.heap.size := (Array.getElem?_eq_some_iff.1 hbx).1
    obtain ⟨M, hM⟩ : ∃ M, Hid (M = lgB (h + 1) (.mk k ki s l p)) := ⟨_, hide1 rfl⟩
    rw [← hM.out]
    have hMe : Hid (M = (decide (5000 < s.length) || l.any (lgB h) || p.any fun q => decide (5000 < q.1.length) || lgB h q.2)) := hide1 hM.out
    have c2 : wb.cell? ⟨w.heap.size, 2, none⟩ = some (.string (st s)) := by simp only [World.cell?, hbx]; rfl
    have c3 : wb.cell? ⟨w.heap.size, 3, none⟩ = some (.slice sa cl.length sc) := by simp only [World.cell?, hbx]; rfl
    have hsz := st_size s
    replace e1 := hide1 e1
    replace e2 := hide1 e2
    replace hb0 := hide1 hb0
    replace hbx := hide1 hbx
    clear hM
    show Calls Tryz.prog 36 #[.agg #[.int .i64 k, .int .i64 ki, .string (st s), .slice sa cl.length sc, .slice pa cp.length pc]] w _
    go_enter Tryz.func36, Tryz.ntmps36
    go_upto_region 1 with fail
    rw [← hwb]
    clear hwb
    by_cases hs5 : 5000 < s.length
    · have g : (s.length : Int) > 5000 := by omega
      have hMt : M = true := by rw [hMe.out]; simp [hs5]
      go_wp2
      go_ret
      exact ⟨by rw [hMt]; rfl, hb0.out⟩
    · have g : ¬ (s.length : Int) > 5000 := by omega
      go_wp2_with fail
      go_loopw [14] (fun i wr => ∃ j : Nat, j ≤ cl.length ∧ i = .int .i64 (j : Nat) ∧ Hid (∀ (q : Nat) (x : T), q < j → l[q]? = some x → lgB h x = false) ∧ Hid (Below wb.heap.size wb wr)) (fun i _ => cl.length - (intOf i).toNat)
      case atStart => exact ⟨0, by omega, rfl, hide1 (fun q x hq => by omega), hide1 (Below.refl _ _)⟩
      case round =>
        clear c2 c3 hsz g
        obtain ⟨j, hj, rfl, hno, hbw⟩ := hrel
        have hB : Hid (Below w.heap.size w wr) := hide1 (hb0.out.trans (hbw.out.mono hb0.out.size))
        by_cases hlt : j < cl.length
        · obtain ⟨x, hx⟩ : ∃ x, cl[j]? = some x := ⟨_, List.getElem?_eq_getElem hlt⟩
          obtain ⟨u, hu⟩ : ∃ u, l[j]? = some u := ⟨_, List.getElem?_eq_getElem (by have := e1.out; omega)⟩
          have hxu := hl j u x hu hx
          obtain ⟨b, o, cap, hve, -, hbl, hr⟩ := r1.at hx
          have hva : sa = some ⟨b, o, none⟩ := by cases hve; rfl
          subst hva
          obtain ⟨x0, x1, x2, x3, x4, rfl⟩ := five_l (r1.1 x (List.mem_of_getElem? hx))
          have hr2 : wr.rangeAt b (o + j * 5) [x0, x1, x2, x3, x4] := fun q v hj => by
            rw [World.cell?_of_block (w := w) (hB.out.block b hbl)]
            exact hr q v hj
          have hone := hxu.one
          have hlA := bxw_bl wr #[x0, x1, x2, x3, x4]
          have hl5 := bxw_rng wr (x0 := x0) (x1 := x1) (x2 := x2) (x3 := x3) (x4 := x4)
          have hB2 : Hid (Below w.heap.size w (bxw wr #[x0, x1, x2, x3, x4])) := hide1 (hB.out.trans (hlA.mono hB.out.size))
          have hc := ih (c := [x0, x1, x2, x3, x4]) (hh1 u (List.mem_of_getElem? hu)) (VA.frame (c := [x0, x1, x2, x3, x4]) hxu (w' := bxw wr #[x0, x1, x2, x3, x4]) (G := F) (fun j _ hj => hB2.out.block j hj) (fun _ h _ => h))
          replace hc : Calls Tryz.prog 36 #[.agg #[x0, x1, x2, x3, x4]] (bxw wr #[x0, x1, x2, x3, x4]) _ := hc
          have hbn := hide1 (hbw.out.trans (hlA.mono hbw.out.size))
          clear hve hr hx hxu hlA
          go_upto_region 6 with (first | refine wpList_load_mid rfl 28 (.tmp 16) rfl b (o + j * 5) rfl [x0, x1, x2, x3, x4] _ hr2 Tryz.underlying28 rfl (by kernel_rfl) ?_ | refine wpList_store_row rfl 28 (.tmp 4) (.tmp 17) rfl wr.heap.size #[x0, x1, x2, x3, x4] rfl rfl 28 _ (bxw_z wr) (by kernel_rfl) rfl (by simpa using hone) ?_)
          rw [show (wr.alloc (.cells #[.int .i64 0, .int .i64 0, .string ⟨#[]⟩, .slice none 0 0, .slice none 0 0] 28)).setRow wr.heap.size #[x0, x1, x2, x3, x4] = bxw wr #[x0, x1, x2, x3, x4] from rfl]
          generalize bxw wr #[x0, x1, x2, x3, x4] = wA at *
          go_wp2_with (first | refine wpList_load_mid rfl 28 (.tmp 4) rfl wr.heap.size 0 rfl [x0, x1, x2, x3, x4] _ hl5 Tryz.underlying28 rfl (by kernel_rfl) ?_ | fail)
          refine hc.mono ?_
          rintro e w2 ⟨rfl, b2⟩
          have hb2 := hide1 (hbn.out.trans (b2.mono hbn.out.size))
          have hB3 := hide1 (hB2.out.trans (b2.mono hB2.out.size))
          clear hc b2 hbw hB hr2 hl5 hbn hB2 hone
          cases hg : lgB h u with
          | true =>
            have hMt : M = true := by rw [hMe.out, any_stop hu hg]; simp
            go_wp2
            go_ret
            exact ⟨by rw [hMt]; rfl, hB3.out⟩
          | false =>
            have hno2 : Hid (∀ (q : Nat) (x : T), q < j + 1 → l[q]? = some x → lgB h x = false) := hide1 (fun q x hq hx => by
              by_cases e : q = j
              · subst e; rw [hu] at hx; cases hx; exact hg
              · exact hno.out q x (by omega) hx)
            go_wp2
            go_roundw
            case rel => exact ⟨j + 1, by omega, by first | rfl | go_num, hno2, hb2⟩
            case measure => simp [intOf]; omega
        · have hA : l.any (lgB h) = false := any_no (fun q x hq => hno.out q x (by have h8 := (List.getElem?_eq_some_iff.1 hq).1; have h9 := e1.out; omega) hq)
          have hbr := (hbw.out.block w.heap.size hz).trans hbx.out
          have c4 : wr.cell? ⟨w.heap.size, 4, none⟩ = some (.slice pa cp.length pc) := by simp only [World.cell?, hbr]; rfl
          have hMe2 : Hid (M = p.any fun q => decide (5000 < q.1.length) || lgB h q.2) := hide1 (by rw [hMe.out, hA]; simp [hs5])
          clear hA hMe hno hbr
          go_wp2_with fail
          generalize hwq : wr = wq at *
          clear hwq
          go_loopw [24] (fun i wr => ∃ j : Nat, j ≤ cp.length ∧ i = .int .i64 (j : Nat) ∧ Hid (∀ (q : Nat) (x : List UInt8 × T), q < j → p[q]? = some x → (decide (5000 < x.1.length) || lgB h x.2) = false) ∧ Hid (Below wq.heap.size wq wr)) (fun i _ => cp.length - (intOf i).toNat)
          case atStart => exact ⟨0, by omega, rfl, hide1 (fun q x hq => by omega), hide1 (Below.refl _ _)⟩
          case round =>
            clear c4
            obtain ⟨j, hj, rfl, hno, hbt⟩ := hrel
            have hBt : Hid (Below w.heap.size w wr) := hide1 (hB.out.trans (hbt.out.mono hB.out.size))
            by_cases hlt : j < cp.length
            · obtain ⟨x, hx⟩ : ∃ x, cp[j]? = some x := ⟨_, List.getElem?_eq_getElem hlt⟩
              obtain ⟨u, hu⟩ : ∃ u, p[j]? = some u := ⟨_, List.getElem?_eq_getElem (by have := e2.out; omega)⟩
              have hxu := hp2 j u x hu hx
              have hnm := hp1 j u x hu hx
              obtain ⟨b, o, cap, hve, -, hbl, hr⟩ := r2.at hx
              have hva : pa = some ⟨b, o, none⟩ := by cases hve; rfl
              subst hva
              obtain ⟨x0, x1, x2, x3, x4, x5, rfl⟩ := arr6 (r2.1 x (List.mem_of_getElem? hx))
              obtain rfl : x0 = .string (st u.1) := by simpa using hnm
              have hr2 : wr.rangeAt b (o + j * 6) [.string (st u.1), x1, x2, x3, x4, x5] := fun q v hj => by
                rw [World.cell?_of_block (w := w) (hBt.out.block b hbl)]
                exact hr q v hj
              have hone := hxu.one
              have hlA := bxp_bl wr #[.string (st u.1), x1, x2, x3, x4, x5]
              have hat := bxp_at wr #[.string (st u.1), x1, x2, x3, x4, x5]
              have hB2 : Hid (Below w.heap.size w (bxp wr #[.string (st u.1), x1, x2, x3, x4, x5])) := hide1 (hBt.out.trans (hlA.mono hBt.out.size))
              have hc := ih (c := [x1, x2, x3, x4, x5]) (hh2 u (List.mem_of_getElem? hu)) (VA.frame (c := [x1, x2, x3, x4, x5]) hxu (w' := bxp wr #[.string (st u.1), x1, x2, x3, x4, x5]) (G := F) (fun j _ hj => hB2.out.block j hj) (fun _ h _ => h))
              replace hc : Calls Tryz.prog 36 #[.agg #[x1, x2, x3, x4, x5]] (bxp wr #[.string (st u.1), x1, x2, x3, x4, x5]) _ := hc
              have hbn := hide1 (hbt.out.trans (hlA.mono hbt.out.size))
              clear hve hr hx hxu hlA hnm
              go_upto_region 12 with (first | refine wpList_load_mid rfl 49 (.tmp 26) rfl b (o + j * 6) rfl [.string (st u.1), x1, x2, x3, x4, x5] _ hr2 Tryz.underlying49 rfl (by kernel_rfl) ?_ | refine wpList_store_row rfl 49 (.tmp 6) (.tmp 27) rfl wr.heap.size #[.string (st u.1), x1, x2, x3, x4, x5] rfl rfl 49 _ (bxp_z wr) (by kernel_rfl) rfl (by simpa [Value.oneCell'] using hone) ?_)
              rw [show (wr.alloc (.cells #[.string ⟨#[]⟩, .int .i64 0, .int .i64 0, .string ⟨#[]⟩, .slice none 0 0, .slice none 0 0] 49)).setRow wr.heap.size #[.string (st u.1), x1, x2, x3, x4, x5] = bxp wr #[.string (st u.1), x1, x2, x3, x4, x5] from rfl]
              generalize bxp wr #[.string (st u.1), x1, x2, x3, x4, x5] = wP at *
              have p0 : wP.cell? ⟨wr.heap.size, 0, none⟩ = some (.string (st u.1)) := by simp only [World.cell?, hat]; rfl
              have p1 : wP.cell? ⟨wr.heap.size, 1, none⟩ = some x1 := by simp only [World.cell?, hat]; rfl
              have p2 : wP.cell? ⟨wr.heap.size, 2, none⟩ = some x2 := by simp only [World.cell?, hat]; rfl
              have p3 : wP.cell? ⟨wr.heap.size, 3, none⟩ = some x3 := by simp only [World.cell?, hat]; rfl
              have p4 : wP.cell? ⟨wr.heap.size, 4, none⟩ = some x4 := by simp only [World.cell?, hat]; rfl
              have p5 : wP.cell? ⟨wr.heap.size, 5, none⟩ = some x5 := by simp only [World.cell?, hat]; rfl
              have hz1 := st_size u.1
              clear hat hone hr2 hBt hbt
              by_cases hn5 : 5000 < u.1.length
              · have hMt : M = true := by rw [hMe2.out]; exact any_stop hu (by simp [hn5])
                have g1 : (u.1.length : Int) > 5000 := by omega
                clear hc p1 p2 p3 p4 p5
                go_wp2
                go_ret
                exact ⟨by rw [hMt]; rfl, hB2.out⟩
              · have g1 : ¬ (u.1.length : Int) > 5000 := by omega
                go_wp2_with fail
                refine hc.mono ?_
                rintro e w2 ⟨rfl, b2⟩
                have hb2 := hide1 (hbn.out.trans (b2.mono hbn.out.size))
                have hB3 := hide1 (hB2.out.trans (b2.mono hB2.out.size))
                clear hc b2 p1 p2 p3 p4 p5 hbn hB2 p0 hz1
                cases hg : lgB h u.2 with
                | true =>
                  have hMt : M = true := by rw [hMe2.out]; exact any_stop hu (by simp [hg])
                  go_wp2
                  go_ret
                  exact ⟨by rw [hMt]; rfl, hB3.out⟩
                | false =>
                  have hno2 : Hid (∀ (q : Nat) (x : List UInt8 × T), q < j + 1 → p[q]? = some x → (decide (5000 < x.1.length) || lgB h x.2) = false) := hide1 (fun q x hq hx => by
                    by_cases e : q = j
                    · subst e; rw [hu] at hx; cases hx; simp [hn5, hg]
                    · exact hno.out q x (by omega) hx)
                  go_wp2
                  go_roundw
                  case rel => exact ⟨j + 1, by omega, by first | rfl | go_num, hno2, hb2⟩
                  case measure => simp [intOf]; omega
            · have hA : (p.any fun q => decide (5000 < q.1.length) || lgB h q.2) = false := any_no (fun q x hq => hno.out q x (by have h8 := (List.getElem?_eq_some_iff.1 hq).1; have h9 := e2.out; omega) hq)
              have hMf : M = false := by rw [hMe2.out, hA]
              clear hA hMe2 hno
              go_wp2
              go_ret
              exact ⟨by rw [hMf]; rfl, hBt.out⟩
theorem long_d : ∀ (h : Nat) {F : Nat → Prop} {w : World} {t : T} {c : List Value}, hgt h t → VA F w t c → Calls Tryz.prog 36 #[.agg c.toArray] w fun e w' => e = .returned (.bool (lgB h t)) ∧ Below w.heap.size w w'
  | 0, _, _, _, _, hh, _ => hh.elim
  | h + 1, _, _, _, _, hh, hv => long_s (fun h1 h2 => long_d h h1 h2) hh hv
set_option maxHeartbeats 8000000 in
set_option maxRecDepth 100000 in
theorem heavy_d {F : Nat → Prop} {w : World} {t : T} {c : List Value} (hv : VA F w t c) :
    ∃ X : Bool, (X = false → hgt 200 t ∧ lgB 200 t = false ∧ ∃ h, ht h t ∧ mny h t 200 ≤ 200) ∧ Calls Tryz.prog 19 #[.agg c.toArray] w fun e w' => e = .returned (.bool X) ∧ Below w.heap.size w w' := by
  obtain ⟨h, hht⟩ := hv.ht
  obtain ⟨n, hn⟩ : ∃ n, Hid (n = mny h t 200) := ⟨_, hide1 rfl⟩
  obtain ⟨x0, x1, x2, x3, x4, rfl⟩ := five_l hv.len
  obtain ⟨wb, hwb⟩ : ∃ wb, wb = w.alloc (.cells #[x0, x1, x2, x3, x4] 28) := ⟨_, rfl⟩
  have hB : Below w.heap.size w wb := by rw [hwb]; exact (Below.refl _ _).alloc (Nat.le_refl _) _
  have hnb : wb.heap[w.heap.size]? = some (.cells #[x0, x1, x2, x3, x4] 28 (0, 0)) := by
    rw [hwb]
    show (w.heap.push _)[w.heap.size]? = _
    rw [Array.getElem?_push, if_pos rfl]
  have hvb : VA F wb t [x0, x1, x2, x3, x4] := hv.frame (fun k _ hk => hB.block k hk) (fun _ h _ => h)
  have hm := many_d h (k := 200) hht (by omega) hvb
  replace hm : Calls Tryz.prog 35 #[.agg #[x0, x1, x2, x3, x4], .int .i64 200] wb _ := hm
  rw [← hn.out] at hm
  have hql : w.heap.size < wb.heap.size := (Array.getElem?_eq_some_iff.1 hnb).1
  have hl : ∀ wa, Below wb.heap.size wb wa → wa.heap[w.heap.size]? = some (.cells #[x0, x1, x2, x3, x4] 28 (0, 0)) := fun wa hwa => (hwa.block w.heap.size hql).trans hnb
  have hl5 : wb.rangeAt w.heap.size 0 [x0, x1, x2, x3, x4] := fun j u hj => by
    simp only [World.cell?, hnb]
    rw [Nat.zero_add]
    simpa using hj
  obtain ⟨L, hL⟩ : ∃ L, Hid (L = lgB 200 t) := ⟨_, hide1 rfl⟩
  have hd : Hid (decide ((200 : Int) < (n : Int)) = decide (200 < n)) := hide1 (decide_eq_decide.2 (by omega))
  refine ⟨decide (200 < n) || L, fun hx => ?_, ?_⟩
  · rw [Bool.or_eq_false_iff] at hx
    have h1 : ¬ 200 < n := of_decide_eq_false hx.1
    exact ⟨mny_hgt hht (by omega) (by rw [← hn.out]; omega), by rw [← hL.out]; exact hx.2, h, hht, by rw [← hn.out]; omega⟩
  · replace hB := hide1 hB
    replace hvb := hide1 hvb
    clear hv hnb
    show Calls Tryz.prog 19 #[.agg #[x0, x1, x2, x3, x4]] w _
    go_enter Tryz.func19, Tryz.ntmps19
    go_upto_region 1 with fail
    rw [← hwb]
    clear hwb
    go_wp2_with (first | refine wpList_load_mid rfl 28 (.tmp 1) rfl w.heap.size 0 rfl [x0, x1, x2, x3, x4] _ hl5 Tryz.underlying28 rfl (by kernel_rfl) ?_ | fail)
    refine hm.mono ?_
    rintro e w1 ⟨rfl, b1⟩
    have hB1 := hide1 (hB.out.trans (b1.mono hB.out.size))
    by_cases h2 : 200 < n
    · have g : (n : Int) > 200 := by omega
      have hf : Hid ((decide (200 < n) || L) = true) := hide1 (by simp [h2])
      clear hm hl5 hl hvb
      go_wp2
      go_ret
      exact ⟨by rw [hf.out]; rfl, hB1.out⟩
    · have g : ¬ (n : Int) > 200 := by omega
      have hlc := long_d 200 (mny_hgt hht (by omega) (by rw [← hn.out]; omega)) (hvb.out.frame (w' := w1) (G := fun _ => True) (fun k _ hk => b1.block k hk) (fun _ _ _ => trivial))
      replace hlc : Calls Tryz.prog 36 #[.agg #[x0, x1, x2, x3, x4]] w1 _ := hlc
      have hat := hl w1 b1
      have p0 : w1.cell? ⟨w.heap.size, 0, none⟩ = some x0 := by simp only [World.cell?, hat]; rfl
      have p1 : w1.cell? ⟨w.heap.size, 1, none⟩ = some x1 := by simp only [World.cell?, hat]; rfl
      have p2 : w1.cell? ⟨w.heap.size, 2, none⟩ = some x2 := by simp only [World.cell?, hat]; rfl
      have p3 : w1.cell? ⟨w.heap.size, 3, none⟩ = some x3 := by simp only [World.cell?, hat]; rfl
      have p4 : w1.cell? ⟨w.heap.size, 4, none⟩ = some x4 := by simp only [World.cell?, hat]; rfl
      rw [← hL.out] at hlc
      clear hm hl5 hl hvb b1 hat
      go_wp2_with fail
      refine hlc.mono ?_
      rintro e w2 ⟨rfl, b2⟩
      have hB2 := hide1 (hB1.out.trans (b2.mono hB1.out.size))
      clear hlc b2 p0 p1 p2 p3 p4
      go_wp2
      go_ret
      exact ⟨by show Ending.returned (.bool (decide ((200 : Int) < (n : Int)) || L)) = _; rw [hd.out], hB2.out⟩
end Go.Proofs.YtbemaloaobeblaaGreatDoor

namespace Go.Proofs.YtbemaloaobeblaaGreatDoor
open Go.RowKit

theorem lg_sh : ∀ (n m : Nat) (t : T), n ≤ m → lgB m t = false → shT n t
  | 0, _, _, _, _ => True.intro
  | n + 1, 0, _, h, _ => by omega
  | n + 1, m + 1, .mk k i s l p, h, hg => by
    have hg' : (decide (5000 < s.length) || l.any (lgB m) || p.any fun q => decide (5000 < q.1.length) || lgB m q.2) = false := hg
    rw [Bool.or_eq_false_iff, Bool.or_eq_false_iff] at hg'
    obtain ⟨⟨g1, g2⟩, g3⟩ := hg'
    refine ⟨by have := of_decide_eq_false g1; omega, fun t ht => ?_, fun q hq => ?_⟩
    · exact lg_sh n m t (by omega) (by have := List.any_eq_false.1 g2 t ht; simpa using this)
    · have h2 := List.any_eq_false.1 g3 q hq
      simp only [Bool.or_eq_true, decide_eq_true_eq, not_or] at h2
      exact ⟨by omega, lg_sh n m q.2 (by omega) (by simpa using h2.2)⟩
theorem cj_sum : ∀ (L : List (List UInt8)), (cj L).length ≤ (L.map fun x => x.length + 1).sum
  | [] => by simp [cj]
  | x :: r => by
    have : ∀ r : List (List UInt8), (r.flatMap fun y => 44 :: y).length = (r.map fun x => x.length + 1).sum := by
      intro r
      induction r with
      | nil => rfl
      | cons y r ih => rw [List.flatMap_cons, List.length_append, ih, List.map_cons, List.sum_cons]; simp
    show (x ++ r.flatMap fun y => 44 :: y).length ≤ _
    rw [List.length_append, this, List.map_cons, List.sum_cons]
    omega
theorem mnL_sum {f : T → Nat → Nat} {last : Nat} {g : T → Nat} : ∀ (l : List T) (n : Nat), (∀ t ∈ l, ∀ k, f t k ≤ k → g t ≤ 1300000 * f t k) → mnL f last l n ≤ last → (l.map g).sum + 1300000 * n ≤ 1300000 * mnL f last l n
  | [], n, _, _ => by simp [mnL]
  | t :: r, n, hg, h => by
    have hge := mnL_ge (f := f) (last := last) (t :: r) n
    have hn : n ≤ last := by omega
    have e : mnL f last (t :: r) n = mnL f last r (n + f t (last - n)) := by rw [mnL, if_pos hn]
    rw [e] at h ⊢
    have h2 := mnL_ge (f := f) (last := last) r (n + f t (last - n))
    have h3 := hg t (by simp) (last - n) (by omega)
    have h4 := mnL_sum r _ (fun t ht => hg t (by simp [ht])) h
    rw [List.map_cons, List.sum_cons]
    omega
theorem sum_le {α : Type} {f g : α → Nat} : ∀ (l : List α), (∀ x ∈ l, f x ≤ g x) → (l.map f).sum ≤ (l.map g).sum
  | [], _ => Nat.le_refl _
  | x :: r, h => by
    have h1 := h x (by simp)
    have h2 := sum_le r (fun y hy => h y (by simp [hy]))
    simp only [List.map_cons, List.sum_cons]
    omega
theorem itoa_len {i : Int} (h : -9007199254740991 ≤ i ∧ i ≤ 9007199254740991) : (Lib.itoa i).length ≤ 21 := by
  unfold Lib.itoa
  split
  · have := dec_len20 (u := i.natAbs) (by omega)
    simp; omega
  · have := dec_len20 (u := i.toNat) (by omega)
    omega
theorem qu_len {s : List UInt8} (h : s.length ≤ 100000) : (qu s).length ≤ 600002 := by
  have := (qb_len s).2
  unfold qu
  simp; omega
theorem rz_len : ∀ (n h : Nat) (t : T) (last : Nat), gd n t = true → ht h t → shT (n + 1) t → mny h t last ≤ last → (rz (n + 1) t).length + 650000 ≤ 1300000 * mny h t last
  | _, 0, _, _, _, hh, _, _ => hh.elim
  | n, h + 1, .mk k i s l p, last, hg, hh, hs, hm => by
    obtain ⟨hh1, hh2⟩ := hh
    obtain ⟨s1, s2, s3⟩ := hs
    have hgl := gd_list hg
    have hp1 := mny_pos (h + 1) (.mk k i s l p) last
    have hN : mny (h + 1) (.mk k i s l p) last = mnL (mny h) last (p.map (·.2)) (mnL (mny h) last l 1) := rfl
    unfold gd at hg
    rw [Bool.and_eq_true] at hg
    have hg2 := hg.2
    by_cases h0 : k = 0
    · subst h0
      have e : (rz (n + 1) (.mk 0 i s l p)).length = 4 := rfl
      rw [e]; omega
    by_cases h1 : k = 1
    · subst h1
      have : (Lib.formatBool (decide (i = 1))).length ≤ 5 := by cases decide (i = 1) <;> decide
      have e : rz (n + 1) (.mk 1 i s l p) = Lib.formatBool (decide (i = 1)) := rfl
      rw [e]; omega
    by_cases h3 : k = 2
    · subst h3
      have := itoa_len (i := i) (by simpa [inR] using hg2)
      have e : rz (n + 1) (.mk 2 i s l p) = Lib.itoa i := rfl
      rw [e]; omega
    by_cases h4 : k = 3
    · subst h4
      have := qu_len s1
      have e : rz (n + 1) (.mk 3 i s l p) = qu s := rfl
      rw [e]; omega
    rw [hN] at hm ⊢
    have hge := mnL_ge (f := mny h) (last := last) (p.map (·.2)) (mnL (mny h) last l 1)
    have hge1 := mnL_ge (f := mny h) (last := last) l 1
    by_cases h5 : k = 4
    · subst h5
      cases n with
      | zero => simp at hg2
      | succ n =>
        have hga : ∀ t ∈ l, gd n t = true := by
          rcases hgl.1 with e | ⟨m, e, g⟩
          · rw [e]; intro t ht; simp at ht
          · cases e; exact g
        have hs1 := mnL_sum (f := mny h) (last := last) (g := fun t => (rz (n + 1) t).length + 650000) l 1 (fun t ht k hk => rz_len n h t k (hga t ht) (hh1 t ht) (s2 t ht) hk) (by omega)
        have hc := cj_sum (l.map (rz (n + 1)))
        have hle : ((l.map (rz (n + 1))).map fun x => x.length + 1).sum ≤ (l.map fun t => (rz (n + 1) t).length + 650000).sum := by
          rw [List.map_map]
          exact sum_le l (fun t _ => Nat.add_le_add_left (by decide) _)
        have e : (rz (n + 1 + 1) (.mk 4 i s l p)).length = (cj (l.map (rz (n + 1)))).length + 2 := by show (91 :: (cj (l.map (rz (n + 1))) ++ [93])).length = _; simp
        rw [e]
        omega
    by_cases h6 : k = 5
    · subst h6
      cases n with
      | zero => simp at hg2
      | succ n =>
        have hga : ∀ q ∈ p, gd n q.2 = true := by
          rcases hgl.2.1 with e | ⟨m, e, g⟩
          · rw [e]; intro t ht; simp at ht
          · cases e; exact g
        obtain ⟨C, hC⟩ : ∃ C : Nat, C = 650000 := ⟨_, rfl⟩
        have hs1 := mnL_sum (f := mny h) (last := last) (g := fun t => (rz (n + 1) t).length + C) (p.map (·.2)) (mnL (mny h) last l 1) (fun t ht k hk => by
          obtain ⟨q, hq, rfl⟩ := List.mem_map.1 ht
          have := rz_len n h q.2 k (hga q hq) (hh2 q hq) (s3 q hq).2 hk
          rw [hC]; exact this) (by omega)
        have hc := cj_sum ((ss ltT p).map fun q => qu q.1 ++ 58 :: rz (n + 1) q.2)
        have hpm : (((ss ltT p).map fun q => qu q.1 ++ 58 :: rz (n + 1) q.2).map fun x => x.length + 1).sum = ((p.map fun q => qu q.1 ++ 58 :: rz (n + 1) q.2).map fun x => x.length + 1).sum := (((ss_perm (lt := ltT) p).map _).map _).sum_nat
        have hle : ((p.map fun q => qu q.1 ++ 58 :: rz (n + 1) q.2).map fun x => x.length + 1).sum ≤ ((p.map (·.2)).map fun t => (rz (n + 1) t).length + C).sum := by
          rw [List.map_map, List.map_map]
          exact sum_le p (fun q hq => by
            have := qu_len (s3 q hq).1
            have e2 : (qu q.1 ++ 58 :: rz (n + 1) q.2).length = (qu q.1).length + ((rz (n + 1) q.2).length + 1) := by rw [List.length_append, List.length_cons]
            simp only [Function.comp]
            rw [e2]
            omega)
        have e : (rz (n + 1 + 1) (.mk 5 i s l p)).length = (cj ((ss ltT p).map fun q => qu q.1 ++ 58 :: rz (n + 1) q.2)).length + 2 := by show (123 :: (cj ((ss ltT p).map fun q => qu q.1 ++ 58 :: rz (n + 1) q.2) ++ [125])).length = _; simp
        rw [e]
        omega
    · simp [h0, h1, h3, h4, h5, h6] at hg2
end Go.Proofs.YtbemaloaobeblaaGreatDoor

namespace Go.Proofs.YtbemaloaobeblaaGreatDoor
open Go.RowKit Go.Shelf

theorem ct_len {t : T} {h : Nat} (hg : gd 8 t = true) (hh : ht h t) (hm : mny h t 200 ≤ 200) (hl : lgB 200 t = false) : (ct t).length ≤ 1000000000000 := by
  have h1 := rz_len 8 h t 200 hg hh (lg_sh 9 200 t (by omega) hl) hm
  rw [rz_cz 8 t hg] at h1
  show (cz 9 (so 8 t)).length ≤ _
  generalize (cz 9 (so 8 t)).length = N at *
  generalize mny h t 200 = M at *
  omega
set_option maxRecDepth 100000 in
theorem same_a {w : World} {a b : Option Addr} {n m c d : Nat} {l r : List UInt8} (h : BsA w (.slice a n c) l) (h' : BsA w (.slice b m d) r) : Calls Tryz.prog 22 #[.slice a n c, .slice b m d] w fun e w' => e = .returned (.bool (decide (l = r))) ∧ w' = w := by
  have h1 := conv_b h
  have h2 := conv_b h'
  have hf : Hid ((Ending.returned (.bool ((st l).toList == (st r).toList)) : Ending) = .returned (.bool (decide (l = r)))) := hide1 (by rw [st_beq])
  clear h h'
  go_enter Tryz.func22, Tryz.ntmps22
  go_wp2
  go_ret
  exact ⟨hf.out, rfl⟩
set_option maxHeartbeats 8000000 in
set_option maxRecDepth 100000 in
theorem puts_walk {w : World} {t : T} {c : Array Value} (hv : VA (· < w.heap.size) w t c.toList) (hs : ∀ n, sbd n t) (hT : Ev w) (h8 : 8 ≤ w.heap.size) : Calls Tryz.prog 4 #[.agg c] w fun e w' => e = .returned (.bool true) ∧ Below w.heap.size w w' := by
  obtain ⟨x0, x1, x2, x3, x4, hce⟩ := five_l hv.len
  obtain rfl : c = #[x0, x1, x2, x3, x4] := by cases c; simp at hce; simp [hce]
  obtain ⟨wb, hwb⟩ : ∃ wb, wb = w.alloc (.cells #[x0, x1, x2, x3, x4] 28) := ⟨_, rfl⟩
  have hB : Below w.heap.size w wb := by rw [hwb]; exact (Below.refl _ _).alloc (Nat.le_refl _) _
  have hnb : wb.heap[w.heap.size]? = some (.cells #[x0, x1, x2, x3, x4] 28 (0, 0)) := by
    rw [hwb]
    show (w.heap.push _)[w.heap.size]? = _
    rw [Array.getElem?_push, if_pos rfl]
  have hql : w.heap.size < wb.heap.size := (Array.getElem?_eq_some_iff.1 hnb).1
  have hTb := hT.below hB (by omega)
  have hal := alive_c hTb (by omega)
  have hvf : Hid (∀ wa, Below w.heap.size w wa → VA (fun _ => True) wa t [x0, x1, x2, x3, x4]) := hide1 (fun wa hwa => VA.frame (c := [x0, x1, x2, x3, x4]) hv (w' := wa) (G := fun _ => True) (fun k hk _ => hwa.block k hk) (fun _ _ _ => trivial))
  have hl : Hid (∀ wa, Below wb.heap.size wb wa → wa.rangeAt w.heap.size 0 [x0, x1, x2, x3, x4]) := hide1 (fun wa hwa j u hj => by
    have hx := (hwa.block w.heap.size hql).trans hnb
    simp only [World.cell?, hx]
    rw [Nat.zero_add]
    simpa using hj)
  replace hTb := hide1 hTb
  replace hB := hide1 hB
  replace hs := hide1 hs
  clear hv hce hT hnb
  go_enter Tryz.func4, Tryz.ntmps4
  go_upto_region 1 with fail
  rw [← hwb]
  clear hwb
  go_wp2_with fail
  refine hal.mono ?_
  rintro e w1 ⟨rfl, b1⟩
  have g1 : Hid (Below wb.heap.size wb w1) := hide1 b1
  have B1 := hide1 (hB.out.trans (b1.mono hB.out.size))
  have hl1 := hl.out w1 b1
  obtain ⟨X, hX, hhv⟩ := heavy_d (hvf.out w1 B1.out)
  replace hhv : Calls Tryz.prog 19 #[.agg #[x0, x1, x2, x3, x4]] w1 _ := hhv
  clear hal b1
  go_wp2_with (first | refine wpList_load_mid rfl 28 (.tmp 1) rfl w.heap.size 0 rfl [x0, x1, x2, x3, x4] _ hl1 Tryz.underlying28 rfl (by kernel_rfl) ?_ | fail)
  refine hhv.mono ?_
  rintro e w2 ⟨rfl, b2⟩
  have g2 := hide1 (g1.out.trans (b2.mono g1.out.size))
  have B2 := hide1 (B1.out.trans (b2.mono B1.out.size))
  clear hhv b2 hl1 g1 B1
  cases X with
  | true =>
    go_wp2
    go_ret
    exact ⟨rfl, B2.out⟩
  | false =>
    obtain ⟨q1, q2, h, q3, q4⟩ := hX rfl
    have hl2 := hl.out w2 g2.out
    have hpu := put_c q1 (hs.out 200) (hvf.out w2 B2.out) (hTb.out.below g2.out (by omega)) (by have := g2.out.size; omega)
    replace hpu : Calls Tryz.prog 20 #[.agg #[x0, x1, x2, x3, x4]] w2 _ := hpu
    clear hX
    go_wp2_with (first | refine wpList_load_mid rfl 28 (.tmp 1) rfl w.heap.size 0 rfl [x0, x1, x2, x3, x4] _ hl2 Tryz.underlying28 rfl (by kernel_rfl) ?_ | fail)
    refine hpu.mono ?_
    rintro e w3 ⟨v, ev, rfl, b3, hans⟩
    have g3 := hide1 (g2.out.trans (b3.mono g2.out.size))
    have B3 := hide1 (B2.out.trans (b3.mono B2.out.size))
    have hl3 := hl.out w3 g3.out
    have hrp := rput_d q1 (lg_sh 9 200 t (by omega) q2) (hvf.out w3 B3.out) (fun hg => ct_len hg q3 q4 q2)
    replace hrp : Calls Tryz.prog 21 #[.agg #[x0, x1, x2, x3, x4]] w3 _ := hrp
    clear hpu b3 hl2 g2
    go_wp2_with (first | refine wpList_load_mid rfl 28 (.tmp 1) rfl w.heap.size 0 rfl [x0, x1, x2, x3, x4] _ hl3 Tryz.underlying28 rfl (by kernel_rfl) ?_ | fail)
    refine hrp.mono ?_
    rintro e w4 ⟨v', bad, rfl, b4, hans'⟩
    have B4 := hide1 (B3.out.trans (b4.mono B3.out.size))
    obtain ⟨a, n, c1, b, m, d, l, E, rfl, rfl, s1, s2, s3⟩ : ∃ (a : Option Addr) (n c1 : Nat) (b : Option Addr) (m d : Nat) (l : List UInt8) (E : Value), v = .slice a n c1 ∧ v' = .slice b m d ∧ BsA w4 v l ∧ BsA w4 v' l ∧ Calls Tryz.prog 14 #[ev] w4 fun e w' => e = .returned (.int .i64 bad) ∧ w' = w4 := by
      rcases hans with ⟨e1, rfl, rfl⟩ | ⟨e1, e2, rfl, rfl⟩ | ⟨e1, e2, rfl, ho⟩
      · rcases hans' with ⟨_, rfl, rfl⟩ | ⟨e1', _⟩ | ⟨e1', _⟩
        · exact ⟨none, 0, 0, none, 0, 0, [], .nilIface, rfl, rfl, ⟨none, 0, rfl, .inl rfl⟩, ⟨none, 0, rfl, .inl rfl⟩, num_1 w4⟩
        · rw [e1] at e1'; cases e1'
        · rw [e1] at e1'; cases e1'
      · rcases hans' with ⟨e1', _⟩ | ⟨_, _, rfl, rfl⟩ | ⟨_, e2', _⟩
        · rw [e1] at e1'; cases e1'
        · exact ⟨none, 0, 0, none, 0, 0, [], .nilIface, rfl, rfl, ⟨none, 0, rfl, .inl rfl⟩, ⟨none, 0, rfl, .inl rfl⟩, num_10 w4⟩
        · omega
      · rcases hans' with ⟨e1', _⟩ | ⟨_, e2', _⟩ | ⟨_, _, rfl, gg, cap, rfl, hcap, hbs⟩
        · rw [e1] at e1'; cases e1'
        · omega
        · obtain ⟨oa, oc, rfl⟩ := ho.slc
          exact ⟨oa, _, oc, _, _, cap, ct t, .nilIface, rfl, rfl, ho.bs.below b4, hbs, num_0 w4⟩
    have hsm := same_a s1 s2
    rw [decide_eq_true rfl] at hsm
    clear hrp hans hans' b4 hl3 g3 s1 s2
    go_wp2_with fail
    refine hsm.mono ?_
    rintro e w5 ⟨rfl, rfl⟩
    go_wp2_with fail
    refine s3.mono ?_
    rintro e w6 ⟨rfl, rfl⟩
    go_wp2
    go_ret
    exact ⟨rfl, B4.out⟩
end Go.Proofs.YtbemaloaobeblaaGreatDoor

namespace Go.Proofs.YtbemaloaobeblaaGreatDoor
open Go.ChangeShapes Go.WideShapes Go.ChangeAt Go.RowKit

def laidJ : List (String × DataW Unit) := [("math/bits.deBruijn32tab", Rows.laid_math_bits_deBruijn32tab), ("math/bits.deBruijn64tab", Rows.laid_math_bits_deBruijn64tab), ("internal/strconv.uint64pow10", Rows.laid_internal_strconv_uint64pow10), ("unicode/utf8.acceptRanges", Rows.laid_unicode_utf8_acceptRanges), ("strconv.ErrRange", Rows.laid_strconv_ErrRange), ("strconv.ErrSyntax", Rows.laid_strconv_ErrSyntax), ("unicode/utf8.first", Rows.laid_unicode_utf8_first)]
theorem acc_L : (Rows.laid_unicode_utf8_acceptRanges : DataW Unit) = Lib.acceptData := by kernel_rfl
theorem pow_L : (Rows.laid_internal_strconv_uint64pow10 : DataW Unit) = Lib.tabData .u64 Lib.pow10Tab := by kernel_rfl
theorem fst_L : Rows.laid_unicode_utf8_first = Lib.firstData := Pinned.utf8First_eq
theorem err_cell {W : World} {n nm : String} {d : DataW Unit} {g : Nat} {t : TypeId} {ms : Array (String × TypeId)} (hg : Tryz.prog.globalNamed n = some g) (ht : (Tryz.prog.globals[g]?).map (·.type) = some t) (hi : Tryz.prog.underlying t = some (.interface ms))
    (h : Lib.VarReads Tryz.prog W n (.iface nm d)) : ∃ te pe, W.cell? ⟨g, 0, none⟩ = some (.iface te pe) := by
  obtain ⟨g', t', cs, fuel, p, hg', hty, hvar, hd⟩ := h
  obtain rfl := Option.some.inj (hg.symm.trans hg')
  obtain rfl := Option.some.inj (ht.symm.trans hty)
  obtain ⟨f1, u, v, e, hn, h1⟩ := iface_of_trod hi hd
  refine ⟨u, v, ?_⟩
  rw [World.var?_cell hg hvar 0, ← Array.getElem?_toList, e]
  rfl
theorem of_laidJ {W : World} (h : laidMetH Tryz.prog laidJ W) : Ev W ∧ 8 ≤ W.heap.size := by
  rw [MakeChecks.laidMetH_plain _ _ _ (by kernel_rfl)] at h
  have r1 : Lib.VarReads Tryz.prog W "unicode/utf8.first" Lib.firstData := fst_L ▸ Lib.laidMet.reads h (by simp [laidJ])
  have r2 : Lib.VarReads Tryz.prog W "unicode/utf8.acceptRanges" Lib.acceptData := acc_L ▸ Lib.laidMet.reads h (by simp [laidJ])
  have r3 : Lib.VarReads Tryz.prog W "internal/strconv.uint64pow10" (Lib.tabData .u64 Lib.pow10Tab) := pow_L ▸ Lib.laidMet.reads h (by simp [laidJ])
  have r4 : Lib.VarReads Tryz.prog W "strconv.ErrSyntax" Rows.laid_strconv_ErrSyntax := Lib.laidMet.reads h (by simp [laidJ])
  have r5 : Lib.VarReads Tryz.prog W "strconv.ErrRange" Rows.laid_strconv_ErrRange := Lib.laidMet.reads h (by simp [laidJ])
  have r6 : Lib.VarReads Tryz.prog W "math/bits.deBruijn64tab" Rows.laid_math_bits_deBruijn64tab := Lib.laidMet.reads h (by simp [laidJ])
  refine ⟨⟨utf8Tabs_of_reads lays260 ⟨by kernel_rfl, by kernel_rfl, by kernel_rfl, by kernel_rfl, by kernel_rfl, by kernel_rfl, by kernel_rfl⟩ r1 r2, ?_, ?_, ?_⟩, ?_⟩
  · obtain ⟨g, t, cs, fuel, p, hg, hty, hvar, hd⟩ := r3
    have e1 : Tryz.prog.globalNamed "internal/strconv.uint64pow10" = some 3 := by kernel_rfl
    obtain rfl := Option.some.inj (e1.symm.trans hg)
    have e2 : (Tryz.prog.globals[3]?).map (·.type) = some 161 := by kernel_rfl
    obtain rfl := Option.some.inj (e2.symm.trans hty)
    unfold Lib.TabIs
    rw [hvar, ← Lib.cells_of_tab Tryz.underlying161 Tryz.underlying125 (by kernel_rfl) (by kernel_rfl) hd]
  · exact err_cell (by kernel_rfl) (by kernel_rfl) Tryz.underlying30 r4
  · exact err_cell (by kernel_rfl) (by kernel_rfl) Tryz.underlying30 r5
  · obtain ⟨g, t, cs, fuel, p, hg, hty, hvar, hd⟩ := r6
    have e1 : Tryz.prog.globalNamed "math/bits.deBruijn64tab" = some 7 := by kernel_rfl
    obtain rfl := Option.some.inj (e1.symm.trans hg)
    unfold World.var? at hvar
    rw [hg] at hvar
    simp only [Option.bind_some] at hvar
    rcases Nat.lt_or_ge 7 W.heap.size with h' | h'
    · exact h'
    · rw [Array.getElem?_eq_none h'] at hvar; cases hvar
theorem laid_metJ (os : Os) (args : Array Value) : laidMetH Tryz.prog laidJ ((World.laidAll Tryz.prog os laidJ).forCall (fun _ _ => 0) ⟨#[], args, []⟩).memory := by
  rw [MakeChecks.laidMetH_plain _ _ _ (by kernel_rfl)]
  exact laidMet_laidAll _ (by kernel_rfl) (by kernel_rfl)
end Go.Proofs.YtbemaloaobeblaaGreatDoor

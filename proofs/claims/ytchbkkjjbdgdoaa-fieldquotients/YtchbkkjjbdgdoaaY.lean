/- Whole values in blocks, by type; a key that came in. -/
import Derived.Test.YtchbkkjjbdgdoaaX3
import Derived.Test.YtchbkkjjbdgdoaaT
import Derived.ProofKit
import Derived.OpenShut
import Derived.ShutString
import Derived.ChangeOld
namespace Go.Proofs.Ytchbkkjjbdgdoaa
open Go.RowKit

theorem ld_row {P : Program} {t t0 : TypeId} {c : Array Value} {d : TypeDesc} (hu : P.underlying t = some d) (hd : (match d with | .struct _ | .array _ _ => true | _ => false) = true) (hi : (P.info? t).map (·.size) = some c.size)
    (w : World) (q : Nat) (hrow : w.heap[q]? = some (.cells c t0 (0, 0))) : (Instr.loadAt t (.pointer (some ⟨q, 0, none⟩))).run P w = .ok (.agg c) w := by
  have hr := run_loadVar_row (P := P) w q t0 t c (0, 0) _ hrow hu hd hi
  simp only [Instr.loadAt, Instr.sureAddr, Sem.run_bind, Sem.run_pure, Result.andThen_ok, hr]
theorem st_row {P : Program} {t t0 : TypeId} {c n : Array Value} (hi : (P.info? t).map (·.size) = some n.size) (hsz : c.size = n.size) (h1 : n.all (·.oneCell') = true)
    (w : World) (q : Nat) (hrow : w.heap[q]? = some (.cells c t0 (0, 0))) : (Instr.storeAt t (.pointer (some ⟨q, 0, none⟩)) (.agg n)).run P w = .ok () (w.setRow q n) := by
  have hr := run_storeVar_row (P := P) w q t0 t c n hrow hi hsz h1
  simp only [Instr.storeAt, Instr.sureAddr, Sem.run_bind, Sem.run_pure, Result.andThen_ok, hr]
theorem bx_agg {P : Program} {t : TypeId} {c : Array Value} (w : World) : (Instr.box t (.agg c)).run P w = .ok (.pointer (some ⟨w.heap.size, 0, none⟩)) (w.alloc (.cells c t)) := by
  simp [Instr.box, go_sem]

/-- An element's cells, as one name. -/
def ce (n : Nat) : Array Value := cs (dig n)
theorem ldE {n : Nat} (t0 : TypeId) (w : World) (q : Nat) (h : w.heap[q]? = some (.cells (ce n) t0 (0, 0))) : (Instr.loadAt 33 (.pointer (some ⟨q, 0, none⟩))).run Try.prog w = .ok (el (dig n)) w :=
  ld_row (c := ce n) Try.underlying33 rfl (by kernel_rfl) w q h
theorem stE {n : Nat} {c : Array Value} (t0 : TypeId) (hc : c.size = 4) (w : World) (q : Nat) (h : w.heap[q]? = some (.cells c t0 (0, 0))) : (Instr.storeAt 33 (.pointer (some ⟨q, 0, none⟩)) (el (dig n))).run Try.prog w = .ok () (w.setRow q (ce n)) :=
  st_row (n := ce n) (by kernel_rfl) hc (cs_one (dig n)) w q h
theorem alE (w : World) : (Instr.alloc 33 true (.tuple #[])).run Try.prog w = .ok (.pointer (some ⟨w.heap.size, 0, none⟩)) (w.alloc (.cells (ce 0) 33)) := by
  simp [Instr.alloc, go_sem]
  rfl
theorem bxE {n : Nat} (w : World) : (Instr.box 33 (el (dig n))).run Try.prog w = .ok (.pointer (some ⟨w.heap.size, 0, none⟩)) (w.alloc (.cells (ce n) 33)) := bx_agg (c := ce n) w
theorem ce_size (n : Nat) : (ce n).size = 4 := rfl
theorem bdE (w : World) : (Instr.build 33 #[]).run Try.prog w = .ok (el (dig 0)) w := by kernel_rfl

/-- A key's cells, as one name. -/
def ck (b : Nat → Nat) : Array Value := arr 32 fun i => .int .u8 (b i)
theorem ck_size (b : Nat → Nat) : (ck b).size = 32 := arr_size _ _
theorem ldK {b : Nat → Nat} (t0 : TypeId) (w : World) (q : Nat) (h : w.heap[q]? = some (.cells (ck b) t0 (0, 0))) : (Instr.loadAt 23 (.pointer (some ⟨q, 0, none⟩))).run Try.prog w = .ok (.agg (ck b)) w :=
  ld_row (c := ck b) Try.underlying23 rfl (by rw [ck_size]; kernel_rfl) w q h
theorem bxK {b : Nat → Nat} (w : World) : (Instr.box 23 (.agg (ck b))).run Try.prog w = .ok (.pointer (some ⟨w.heap.size, 0, none⟩)) (w.alloc (.cells (ck b) 23)) := bx_agg w

theorem is_t {m n : Nat} (hm : m < pp) (hn : n < pp) (h : m = n) (w : World) : Calls Try.prog 20 #[el (dig m), el (dig n)] w fun e w' => e = .returned (.bool true) ∧ Below w.heap.size w w' := by
  have := is_d hm hn w
  rwa [decide_eq_true h] at this
theorem is_f {m n : Nat} (hm : m < pp) (hn : n < pp) (h : m ≠ n) (w : World) : Calls Try.prog 20 #[el (dig m), el (dig n)] w fun e w' => e = .returned (.bool false) ∧ Below w.heap.size w w' := by
  have := is_d hm hn w
  rwa [decide_eq_false h] at this
theorem even_b {m : Nat} {b : Bool} (hm : m < pp) (h : decide (m % 2 = 0) = b) (w : World) : Calls Try.prog 15 #[el (dig m)] w fun e w' => e = .returned (.bool b) ∧ Below w.heap.size w w' := by
  have := even_d hm w
  rwa [h] at this
theorem of_k {b : Nat → Nat} (hb : ∀ i, b i < 256) (w : World) : Calls Try.prog 12 #[.agg (ck b)] w fun e w' => e = .returned (el (dig (ofb b))) ∧ Below w.heap.size w w' := of_d hb w
theorem int_lit {m : Nat} (h : m < 9223372036854775808) (w : World) : Calls Try.prog 13 #[.int .i64 (m : Int)] w fun e w' => e = .returned (el (dig m)) ∧ Below w.heap.size w w' := int_pos_d h w
theorem ofb_lt (b : Nat → Nat) : ofb b < pp := mod_pp _

theorem sym_cond_t {P : Program} {W w : World} {s : List SV} {m : List Blk} {β : Nat → Nat} {a : Act} {Q : Exit → Act → World → Prop} {t : Tmp} {x y : Code} (h : St W s m β a w) (ht : Nat.blt t s.length = true) (hs : slot s t = .inl (.bool true)) (hk : x.wp P Q a w) : (Code.cond (.tmp t) x y).wp P Q a w := wp_cond_true (h.eval ht hs) hk
theorem sym_cond_f {P : Program} {W w : World} {s : List SV} {m : List Blk} {β : Nat → Nat} {a : Act} {Q : Exit → Act → World → Prop} {t : Tmp} {x y : Code} (h : St W s m β a w) (ht : Nat.blt t s.length = true) (hs : slot s t = .inl (.bool false)) (hk : y.wp P Q a w) : (Code.cond (.tmp t) x y).wp P Q a w := wp_cond_false (h.eval ht hs) hk
theorem sym_then {P : Program} {w : World} {a : Act} {Q : Exit → Act → World → Prop} {y : Code} (h : y.wp P Q a w) : Exit.then (y.wp P Q) Q .normal a w := h

section
variable {H : Type} {enc : TypeId × Value → H} {P : Program} {w : World} {base : Nat} {spare : Nat → Bool} {held : Bool}
theorem open_key {r : Reach} {b0 : Nat} {t e : TypeId} {v : Value} {d : DataW H} {p : List MemPlace} (ht : P.underlying t = some (.array 32 e)) (he : P.underlying e = some (.int .u8)) (hce : P.cellsOf e = 1) (hct : P.cellsOf t = 32)
    (hv : Value.okWide P w r b0 t v) (h : DataW.Trod enc P w base spare held t v d p) : ∃ b : Nat → Nat, (∀ i, b i < 256) ∧ v = .agg (ck b) := by
  unfold Value.okWide at hv
  rw [ht] at hv
  obtain ⟨cs, rfl, -, -⟩ := hv
  obtain ⟨fuel, h⟩ := h
  obtain ⟨xs, m, rfl, -, hl, hx, hi⟩ := DataW.trod_array ht h
  have hcell : ∀ i, i < 32 → ∃ n : Nat, n < 256 ∧ cs[i]? = some (.int .u8 (n : Int)) := by
    intro i hi32
    have h1 := hi i hi32
    have h2 : xs[i]? = some xs[i] := by simp [hx, hi32]
    rw [h2, hce, Nat.mul_one] at h1
    obtain ⟨n, hc, -, hw⟩ := DataW.trod_int he h1
    have h3 : cs[i]? = some (.int .u8 n) := by
      have := congrArg (·[0]?) hc
      simpa [List.getElem?_take, List.getElem?_drop, Value.cells] using this
    simp only [Lit.wf, Bool.and_eq_true, decide_eq_true_eq] at hw
    have e1 : IntKind.u8.min = 0 := rfl
    have e2 : IntKind.u8.max = 255 := rfl
    refine ⟨n.toNat, by omega, ?_⟩
    rw [h3, show ((n.toNat : Nat) : Int) = n by omega]
  have hsz : cs.size = 32 := by
    have h7 : cs.toList.length = P.cellsOf t := by simpa [Value.cells] using hl
    simp at h7; omega
  refine ⟨fun i => (match cs[i]? with
    | some (.int _ n) => n.toNat % 256
    | _ => 0), fun i => ?_, ?_⟩
  · dsimp only
    split
    · exact Nat.mod_lt _ (by omega)
    · omega
  · refine congrArg Value.agg ?_
    apply Array.ext_getElem?
    intro i
    by_cases hi32 : i < 32
    · obtain ⟨n, hn, hc⟩ := hcell i hi32
      unfold ck
      rw [arr_get _ _ _ hi32, hc]
      simp only [hc, Int.toNat_natCast, Nat.mod_eq_of_lt hn]
    · rw [Array.getElem?_eq_none (by omega), Array.getElem?_eq_none (by rw [ck_size]; omega)]
end
end Go.Proofs.Ytchbkkjjbdgdoaa

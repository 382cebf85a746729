/- The contracts of Int, and of what grows a power: first's closure. -/
import Derived.Test.YtgiemldmphbolaaJ
import Derived.Test.YtgiemldmphbolaaW6
namespace Go.Proofs.Ytgiemldmphbolaa
open Go.RowKit

/-- The cells of an element. -/
abbrev cs (x : Nat → Nat) : Array Value := #[.int .u64 (x 0), .int .u64 (x 1), .int .u64 (x 2), .int .u64 (x 3)]

theorem cs_one (x : Nat → Nat) : (cs x).all (·.oneCell') = true := by
  rw [Array.all_eq_true_iff_forall_mem]
  intro v hv
  simp only [cs, List.mem_toArray, List.mem_cons, List.not_mem_nil, or_false] at hv
  rcases hv with rfl | rfl | rfl | rfl <;> rfl

theorem ok_four (m : Nat) (hm : m < 18446744073709551616) : Ok (four m 0 0 0) ∧ nm (four m 0 0 0) = m := by
  refine ⟨⟨fun i => ?_, ?_⟩, ?_⟩
  · match i with
    | 0 => exact hm
    | 1 => show 0 < _; omega
    | 2 => show 0 < _; omega
    | _ + 3 => show 0 < _; omega
  · show num m 0 0 0 < pp; unfold num pp; omega
  · show num m 0 0 0 = m; unfold num; omega

set_option maxHeartbeats 1000000 in
theorem int_neg (m : Nat) (h1 : 1 ≤ m) (h2 : m ≤ 9223372036854775808) :
    ∃ x : Nat → Nat, Ok x ∧ Hid (nm x = (pp - m) % pp) ∧
    ∀ w, Calls Try.prog 51 #[.int .i64 (-(m : Int))] w fun e w' => e = .returned (el x) ∧ Below w.heap.size w w' := by
  have o0 := ok_four 0 (by omega); have o1 := ok_four m (by omega)
  obtain ⟨z, hz, e1, c1⟩ := minus_any _ _ o0.1 o1.1
  refine ⟨z, hz, hide1 ?_, fun w => ?_⟩
  · rw [e1.out, o0.2, o1.2, Nat.zero_add]
  have hw : IntKind.u64.wrap (-(m : Int)) = 18446744073709551616 - (m : Int) := by rw [IntKind.wrap_u64]; omega
  have hw2 : IntKind.u64.wrap (-(18446744073709551616 - (m : Int))) = (m : Int) := by rw [IntKind.wrap_u64]; omega
  have hneg : (-(m : Int)) < 0 := by omega
  have hA1 := @aft_cell; have hA2 := @aft_frozen; have hA3 := @aft_set
  clear e1 hz
  go_enter Try.func51, Try.ntmps51
  go_wp2_with fail
  refine (c1 _).mono ?_
  rintro e w1 ⟨rfl, hb1⟩
  obtain ⟨g, rfl⟩ := aft_of hb1
  clear hb1 c1
  go_wp2_with fail
  exact bodyPost_ret (v := el z) (by simp [results, Try.results51, go_sem, hA1]) rfl ⟨rfl, bnext (below1 _ _) (aft_below _ _)⟩

theorem int_pos (m : Nat) (h2 : m < 9223372036854775808) (w : World) :
    Calls Try.prog 51 #[.int .i64 (m : Int)] w fun e w' => e = .returned (el (four m 0 0 0)) ∧ Below w.heap.size w w' := by
  have hneg : ¬ ((m : Int)) < 0 := by omega
  have h3 : (m : Int) < 9223372036854775808 := by omega
  go_enter Try.func51, Try.ntmps51
  go_wp2_with fail
  exact bodyPost_ret (v := el (four m 0 0 0)) (by simp [results, Try.results51, go_sem, four]) rfl ⟨rfl, below1 _ _⟩

theorem aft_none (w : World) : aft w ⟨#[], w.drawn⟩ = w := by simp [aft]
theorem world_ext : ∀ a c : World, a.heap = c.heap → a.tape = c.tape → a.drawn = c.drawn → a.os = c.os → a.output = c.output → a = c := by
  rintro ⟨h1, h2, h3, h4, h5⟩ ⟨k1, k2, k3, k4, k5⟩ e1 e2 e3 e4 e5
  simp only at e1 e2 e3 e4 e5
  subst e1 e2 e3 e4 e5
  rfl
theorem setRow_twice {w : World} {b : Nat} {old : Array Value} {t : TypeId} {fr : Nat × Nat} (hrow : w.heap[b]? = some (.cells old t fr)) (c d : Array Value) : (w.setRow b c).setRow b d = w.setRow b d := by
  refine world_ext _ _ ?_ rfl rfl rfl rfl
  apply Array.ext_getElem?
  intro k
  by_cases h : k = b
  · subst h
    rw [setRow_heap _ _ _ _ _ _ (setRow_heap _ _ _ _ _ _ hrow), setRow_heap _ _ _ _ _ _ hrow]
  · rw [setRow_other _ _ _ _ h, setRow_other _ _ _ _ h, setRow_other _ _ _ _ h]

theorem results_agg {P : Program} {fn : Func} {p : Tmp} {ty : TypeId} {u : World} {b : Nat} {c : Array Value} {t0 : TypeId} {d : TypeDesc} (h : fn.results = #[.cell p ty]) (tmps : Array Value) (ht : tmps[p]?.getD undef = .pointer (some ⟨b, 0, none⟩))
    (hu : P.underlying ty = some d) (hd : (match d with | .struct _ | .array _ _ => true | _ => false) = true) (hi : (P.info? ty).map (·.size) = some c.size) (hrow : u.heap[b]? = some (.cells c t0 (0, 0))) : (results fn tmps).run P u = .ok (.agg c) u := by
  have hr := run_loadVar_row (P := P) u b t0 ty c (0, 0) _ hrow hu hd hi
  simp only [results, h]
  simp [ht, asAddr, hr]

theorem pow_step (x k : Nat) : x ^ (2 ^ k) % pp * (x ^ (2 ^ k) % pp) % pp = x ^ (2 ^ (k + 1)) % pp := by
  rw [← Nat.mul_mod, ← Nat.pow_add, Nat.pow_succ, Nat.mul_two]

set_option maxHeartbeats 2000000 in
/-- What grows a power: the power in block b is squared so many times, then multiplied. -/
theorem grow_any (t b : Nat) (ht : t < 1000) (x y : Nat → Nat) (hx : Ok x) (hy : Ok y) (t0 : TypeId) (w : World) (hrow : w.heap[b]? = some (.cells (cs x) t0 (0, 0))) :
    Calls Try.prog 89 #[.int .i64 t, el y, .pointer (some ⟨b, 0, none⟩)] w fun e w' => ∃ z : Nat → Nat, Ok z ∧ Hid (nm z = nm x ^ (2 ^ t) * nm y % pp) ∧ e = .returned (el z) ∧ Mod b w w' ∧ w'.heap[b]? = some (.cells (cs z) t0 (0, 0)) := by
  have hlt := row_lt hrow
  have ht2 : (t : Int) < 1000 := by omega
  go_enter Try.func89, Try.ntmps89
  go_wp2
  go_loopw [7] (fun i wr => ∃ (k : Nat) (z : Nat → Nat) (g : Gr), k ≤ t ∧ i = .int .i64 k ∧ Ok z ∧ Hid (nm z = nm x ^ (2 ^ k) % pp) ∧ wr = aft (((w.setRow b (cs z)).alloc (.cells (cs y) 29)).alloc (.cells #[.int .u64 0, .int .u64 0, .int .u64 0, .int .u64 0] 29)) g) (fun i _ => t - (intOf i).toNat)
  case atStart =>
    refine ⟨0, x, ⟨#[], w.drawn⟩, by omega, rfl, hx, hide1 ?_, ?_⟩
    · rw [Nat.pow_zero, Nat.pow_one, Nat.mod_eq_of_lt hx.2]
    · rw [setRow_self w b _ _ _ hrow]; exact (aft_none _).symm
  case round =>
    obtain ⟨k, z, g, hk, rfl, hz, ez, rfl⟩ := hrel
    have hr1 : (aft (((w.setRow b (cs z)).alloc (.cells (cs y) 29)).alloc (.cells #[.int .u64 0, .int .u64 0, .int .u64 0, .int .u64 0] 29)) g).heap[b]? = some (.cells (cs z) t0 (0, 0)) := row_aft (row_up (row_up (setRow_heap _ _ _ _ _ _ hrow)))
    by_cases hkt : k < t
    · have hkt2 : (k : Int) < (t : Int) := by omega
      obtain ⟨v, hv, ev, cv⟩ := times_el z z hz hz
      go_wp2_with (refine wpList_load_agg rfl 29 (.tmp 2) rfl b _ _ rfl Try.underlying29 rfl (by kernel_rfl) hr1 ?_)
      refine (cv _).mono ?_
      rintro e w1 ⟨rfl, hb1⟩
      obtain ⟨g2, rfl⟩ := aft_of hb1
      clear hb1 cv
      rw [aft_aft]
      clear hr1
      generalize (Gr.mk (g.bl ++ g2.bl) g2.dr) = g3
      have hr2 : (aft (((w.setRow b (cs z)).alloc (.cells (cs y) 29)).alloc (.cells #[.int .u64 0, .int .u64 0, .int .u64 0, .int .u64 0] 29)) g3).heap[b]? = some (.cells (cs z) t0 (0, 0)) := row_aft (row_up (row_up (setRow_heap _ _ _ _ _ _ hrow)))
      have hs2 : Hid ((aft (((w.setRow b (cs z)).alloc (.cells (cs y) 29)).alloc (.cells #[.int .u64 0, .int .u64 0, .int .u64 0, .int .u64 0] 29)) g3).setRow b (cs v) = aft (((w.setRow b (cs v)).alloc (.cells (cs y) 29)).alloc (.cells #[.int .u64 0, .int .u64 0, .int .u64 0, .int .u64 0] 29)) g3) := hide1 (by
        rw [setRow_aft _ _ _ _ (by simp; omega), setRow_alloc _ _ _ _ (by simp; omega), setRow_alloc _ _ _ _ (by simp; omega), setRow_twice hrow])
      go_wp2_with (refine wpList_store_row rfl 29 (.tmp 2) (.tmp 11) rfl b (cs v) _ _ rfl rfl (by kernel_rfl) hr2 rfl (cs_one v) hs2.out ?_)
      go_roundw
      case rel => exact ⟨k + 1, v, g3, by omega, by go_num, hv, hide1 (by rw [ev.out, ez.out, pow_step]), rfl⟩
      case measure => simp [intOf]; omega
    · obtain rfl : k = t := by omega
      obtain ⟨v, hv, ev, cv⟩ := times_el z y hz hy
      have hr0 : (aft (((w.setRow b (cs z)).alloc (.cells (cs y) 29)).alloc (.cells #[.int .u64 0, .int .u64 0, .int .u64 0, .int .u64 0] 29)) g).heap[w.heap.size]? = some (.cells (cs y) 29 (0, 0)) := by
        have := row_aft (g := g) (row2_0 (w.setRow b (cs z)) (.cells (cs y) 29) (.cells #[.int .u64 0, .int .u64 0, .int .u64 0, .int .u64 0] 29))
        rwa [size_setRow] at this
      go_wp2_with (first
        | (refine wpList_load_agg rfl 29 (.tmp 2) rfl b _ _ rfl Try.underlying29 rfl (by kernel_rfl) hr1 ?_)
        | (refine wpList_load_agg rfl 29 (.tmp 4) rfl w.heap.size _ _ rfl Try.underlying29 rfl (by kernel_rfl) hr0 ?_))
      refine (cv _).mono ?_
      rintro e w1 ⟨rfl, hb1⟩
      obtain ⟨g2, rfl⟩ := aft_of hb1
      clear hb1 cv
      rw [aft_aft]
      clear hr1 hr0
      generalize (Gr.mk (g.bl ++ g2.bl) g2.dr) = g3
      have hr2 : (aft (((w.setRow b (cs z)).alloc (.cells (cs y) 29)).alloc (.cells #[.int .u64 0, .int .u64 0, .int .u64 0, .int .u64 0] 29)) g3).heap[b]? = some (.cells (cs z) t0 (0, 0)) := row_aft (row_up (row_up (setRow_heap _ _ _ _ _ _ hrow)))
      have hs2 : Hid ((aft (((w.setRow b (cs z)).alloc (.cells (cs y) 29)).alloc (.cells #[.int .u64 0, .int .u64 0, .int .u64 0, .int .u64 0] 29)) g3).setRow b (cs v) = aft (((w.setRow b (cs v)).alloc (.cells (cs y) 29)).alloc (.cells #[.int .u64 0, .int .u64 0, .int .u64 0, .int .u64 0] 29)) g3) := hide1 (by
        rw [setRow_aft _ _ _ _ (by simp; omega), setRow_alloc _ _ _ _ (by simp; omega), setRow_alloc _ _ _ _ (by simp; omega), setRow_twice hrow])
      have hr3 : (aft (((w.setRow b (cs v)).alloc (.cells (cs y) 29)).alloc (.cells #[.int .u64 0, .int .u64 0, .int .u64 0, .int .u64 0] 29)) g3).heap[b]? = some (.cells (cs v) t0 (0, 0)) := row_aft (row_up (row_up (setRow_heap _ _ _ _ _ _ hrow)))
      have hr4 : (aft (((w.setRow b (cs v)).alloc (.cells (cs y) 29)).alloc (.cells #[.int .u64 0, .int .u64 0, .int .u64 0, .int .u64 0] 29)) g3).heap[w.heap.size + 1]? = some (.cells #[.int .u64 0, .int .u64 0, .int .u64 0, .int .u64 0] 29 (0, 0)) := by
        have := row_aft (g := g3) (row2_1 (w.setRow b (cs v)) (.cells (cs y) 29) (.cells #[.int .u64 0, .int .u64 0, .int .u64 0, .int .u64 0] 29))
        rwa [size_setRow] at this
      go_wp2_with (first
        | (refine wpList_store_row rfl 29 (.tmp 2) (.tmp 15) rfl b (cs v) _ _ rfl rfl (by kernel_rfl) hr2 rfl (cs_one v) hs2.out ?_)
        | (refine wpList_load_agg rfl 29 (.tmp 2) rfl b _ _ rfl Try.underlying29 rfl (by kernel_rfl) hr3 ?_)
        | (refine wpList_store_row rfl 29 (.tmp 5) (.tmp 16) rfl (w.heap.size + 1) (cs v) _ _ rfl rfl (by kernel_rfl) hr4 rfl (cs_one v) rfl ?_))
      have hm : Mod b w ((aft (((w.setRow b (cs v)).alloc (.cells (cs y) 29)).alloc (.cells #[.int .u64 0, .int .u64 0, .int .u64 0, .int .u64 0] 29)) g3).setRow (w.heap.size + 1) (cs v)) := by
        have h1 := (Mod.setRow b w (cs v)).trans (Mod.of_below (b := b) (bnext (below2 (w.setRow b (cs v)) (.cells (cs y) 29) (.cells #[.int .u64 0, .int .u64 0, .int .u64 0, .int .u64 0] 29)) (aft_below _ g3)))
        refine ⟨h1.os, h1.tape, h1.output, by simpa using h1.size, fun p hp hpb => ?_⟩
        rw [setRow_other _ _ _ _ (by omega)]
        exact h1.row p hp hpb
      exact bodyPost_ret (v := el v) (results_agg rfl _ rfl Try.underlying29 rfl (by kernel_rfl) (setRow_heap _ _ _ _ _ _ hr4)) rfl ⟨v, hv, hide1 (by rw [ev.out, ez.out, Nat.mod_mul_mod]), rfl, hm, by rw [setRow_other _ _ _ _ (by omega)]; exact hr3⟩
end Go.Proofs.Ytgiemldmphbolaa

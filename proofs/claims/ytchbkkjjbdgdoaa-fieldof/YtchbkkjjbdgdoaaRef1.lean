/- The reference's numbers of 22 figures: the prime, which is below, and a difference. -/
import Derived.Test.YtchbkkjjbdgdoaaX5
namespace Go.Proofs.Ytchbkkjjbdgdoaa
open Go.RowKit

/-- Figure number i of a number. -/
def dg (n i : Nat) : Nat := n / 4096 ^ i % 4096
theorem dg_lt (n i : Nat) : dg n i < 4096 := Nat.mod_lt _ (by omega)
def prF (k j : Nat) : Nat := if j < k then 4095 else 0
theorem prF_next (k : Nat) : ai 22 (updN (prF k) k 4095) = ai 22 (prF (k + 1)) := ai_congr fun i _ => by
  unfold updN prF
  by_cases h : i = k
  · subst h; simp
  · have : (i < k + 1) = (i < k) := by simp; omega
    simp [h, this]
theorem prF_end : ai 22 (updN (updN (prF 21) 0 4077) 21 7) = ai 22 (dg pp) := ai_congr (by decide +kernel)

set_option maxHeartbeats 1000000 in
theorem prime_r (W0 : World) : Calls Try.prog 37 #[] W0 fun e w' => e = .returned (.agg (ai 22 (dg pp))) ∧ Below W0.heap.size W0 w' := by
  rw [← prF_end]
  refine sym_enter Try.func37 Try.ntmps37 rfl [.inl undef, .inl undef, .inl undef, .inl undef, .inl undef, .inl undef, .inl undef, .inl undef, .inl undef, .inl undef, .inl undef, .inl undef] (by kernel_rfl) (by kernel_rfl) ?_
  intro β a h
  refine sym_seq ?_
  refine St.region h [.inr (0, 0), .inl undef, .inl undef, .inl undef, .inl undef, .inl undef, .inl undef, .inl undef, .inl undef, .inl undef, .inl undef, .inl undef] [.inl undef, .inl undef, .inl undef, .inl undef, .inl undef, .inl undef, .inl undef, .inl undef, .inl undef, .inl undef, .inl undef, .inl undef] [(ai 22 (fun _ => 0), 25)] [(ai 22 (fun _ => 0), 25)] [#[]] [⟨some 0, none, none, false⟩] (by kernel_rfl) (by kernel_rfl) (by kernel_rfl) (by kernel_rfl) (by kernel_rfl) (by kernel_rfl) (by kernel_rfl) (by kernel_rfl) (by kernel_rfl) ?_ ?_
  · refine ok_cons (ok_alloc (b := 0) al22 rfl (by kernel_rfl) rfl (by kernel_rfl) (by kernel_rfl)) ?_
    exact ok_nil
  clear h; intro β a w h
  refine sym_then ?_
  refine sym_seq ?_
  refine St.region h [.inr (0, 0), .inr (1, 0), .inl undef, .inl undef, .inl undef, .inl undef, .inl undef, .inl undef, .inl undef, .inl undef, .inl undef, .inl undef] [.inr (0, 0), .inl undef, .inl undef, .inl undef, .inl undef, .inl undef, .inl undef, .inl undef, .inl undef, .inl undef, .inl undef, .inl undef] [(ai 22 (fun _ => 0), 25), (ai 22 (fun _ => 0), 25)] [(ai 22 (fun _ => 0), 25), (ai 22 (fun _ => 0), 25)] [#[], #[]] [⟨some 1, none, none, false⟩] (by kernel_rfl) (by kernel_rfl) (by kernel_rfl) (by kernel_rfl) (by kernel_rfl) (by kernel_rfl) (by kernel_rfl) (by kernel_rfl) (by kernel_rfl) ?_ ?_
  · refine ok_cons (ok_alloc (b := 1) al22 rfl (by kernel_rfl) rfl (by kernel_rfl) (by kernel_rfl)) ?_
    exact ok_nil
  clear h; intro β a w h
  refine sym_then ?_
  refine sym_seq ?_
  refine sym_seq ?_
  refine St.region h [.inr (0, 0), .inr (1, 0), .inl (.int .i64 ((0 : Nat) : Int)), .inl undef, .inl undef, .inl undef, .inl undef, .inl undef, .inl undef, .inl undef, .inl undef, .inl undef] [.inr (0, 0), .inr (1, 0), .inl undef, .inl undef, .inl undef, .inl undef, .inl undef, .inl undef, .inl undef, .inl undef, .inl undef, .inl undef] [(ai 22 (fun _ => 0), 25), (ai 22 (fun _ => 0), 25)] [(ai 22 (fun _ => 0), 25), (ai 22 (fun _ => 0), 25)] [#[], #[]] [⟨none, none, none, false⟩] (by kernel_rfl) (by kernel_rfl) (by kernel_rfl) (by kernel_rfl) (by kernel_rfl) (by kernel_rfl) (by kernel_rfl) (by kernel_rfl) (by kernel_rfl) ?_ ?_
  · refine ok_cons (ok_mv (Or.inr rfl) (by kernel_rfl) rfl (by kernel_rfl) (by kernel_rfl)) ?_
    exact ok_nil
  clear h; intro β a w h
  refine sym_then ?_
  refine blk_in ?_
  replace h := St.setm h 1 (c := ai 22 (fun _ => 0)) (c' := ai 22 (prF 0)) (t := 25) (m' := [(ai 22 (fun _ => 0), 25), (ai 22 (prF 0), 25)]) (ai_congr fun i _ => (by simp [prF])) (by kernel_rfl) (by kernel_rfl)
  refine loop_up 21 (fun k a w => ∃ (x3 x4 x5 x6 x7 x8 : SV) (β : Nat → Nat), St W0 [.inr (0, 0), .inr (1, 0), .inl (.int .i64 ((k : Nat) : Int)), x3, x4, x5, x6, x7, x8, .inl undef, .inl undef, .inl undef] [(ai 22 (fun _ => 0), 25), (ai 22 (prF k), 25)] β a w) ⟨_, _, _, _, _, _, β, h⟩ ?_
  clear h; rintro k a w hkk ⟨x3, x4, x5, x6, x7, x8, β, h⟩
  rcases Nat.lt_or_ge k 21 with hltk | hgek
  · refine sym_seq ?_
    refine sym_seq ?_
    refine St.region h [.inr (0, 0), .inr (1, 0), .inl (.int .i64 ((k : Nat) : Int)), .inl (.int .i64 ((k : Nat) : Int)), .inl (.bool true), x5, x6, x7, x8, .inl undef, .inl undef, .inl undef] [.inr (0, 0), .inr (1, 0), .inl (.int .i64 ((k : Nat) : Int)), .inl undef, .inl undef, x5, x6, x7, x8, .inl undef, .inl undef, .inl undef] [(ai 22 (fun _ => 0), 25), (ai 22 (prF k), 25)] [(ai 22 (fun _ => 0), 25), (ai 22 (prF k), 25)] [#[], #[]] [⟨none, none, none, false⟩, ⟨none, none, none, false⟩] (by kernel_rfl) (by kernel_rfl) (by kernel_rfl) (by kernel_rfl) (by kernel_rfl) (by kernel_rfl) (by kernel_rfl) (by kernel_rfl) (by kernel_rfl) ?_ ?_
    · refine ok_cons (ok_mv (Or.inl rfl) (by kernel_rfl) rfl (by kernel_rfl) (by kernel_rfl)) ?_
      refine ok_cons (ok_bin (x1 := .int .i64 ((k : Nat) : Int)) (u1 := .int .i64 ((21 : Nat) : Int)) (v := .bool true) (lt_i (m := ((k : Nat) : Int)) (n := ((21 : Nat) : Int)) (decide_eq_true (by omega))) rfl (by kernel_rfl) rfl (by kernel_rfl) (by kernel_rfl) (by kernel_rfl) (by kernel_rfl) (by kernel_rfl)) ?_
      exact ok_nil
    clear h; intro β a w h
    refine sym_then ?_
    refine sym_cond_t h (by kernel_rfl) (by kernel_rfl) ?_
    refine wp_skip ?_
    refine sym_then ?_
    refine sym_seq ?_
    refine blk_in ?_
    refine St.region h [.inr (0, 0), .inr (1, 0), .inl (.int .i64 ((k : Nat) : Int)), .inl (.int .i64 ((k : Nat) : Int)), .inl (.bool true), x5, x6, .inl (.int .i64 ((k : Nat) : Int)), .inr (1, k), .inl undef, .inl undef, .inl undef] [.inr (0, 0), .inr (1, 0), .inl (.int .i64 ((k : Nat) : Int)), .inl (.int .i64 ((k : Nat) : Int)), .inl (.bool true), x5, x6, .inl undef, .inl undef, .inl undef, .inl undef, .inl undef] [(ai 22 (fun _ => 0), 25), (ai 22 (updN (prF k) k 4095), 25)] [(ai 22 (fun _ => 0), 25), (ai 22 (prF k), 25)] [#[], ai 22 (updN (prF k) k 4095)] [⟨none, none, none, false⟩, ⟨none, none, none, false⟩, ⟨none, some 1, none, false⟩] (by kernel_rfl) (by kernel_rfl) (by kernel_rfl) (by kernel_rfl) (by kernel_rfl) (by kernel_rfl) (by kernel_rfl) (by kernel_rfl) (by kernel_rfl) ?_ ?_
    · refine ok_cons (ok_mv (Or.inl rfl) (by kernel_rfl) rfl (by kernel_rfl) (by kernel_rfl)) ?_
      refine ok_cons (ok_iaddr (b := 1) (off := 0) (off' := k) (u := .int .i64 ((k : Nat) : Int)) (ix22 (i := k) (by omega)) rfl (by kernel_rfl) rfl (by kernel_rfl) (by kernel_rfl) (by kernel_rfl) (by kernel_rfl)) ?_
      refine ok_cons (ok_store (b := 1) (off := k) (u := .int .i64 ((4095 : Nat) : Int)) (c := ai 22 (prF k)) (n := ai 22 (updN (prF k) k 4095)) (st_at (n := 22) (F := (prF k)) (i := k) (v := 4095) (t0 := 25) (by omega)) rfl (by kernel_rfl) rfl (by kernel_rfl) (by kernel_rfl) (by kernel_rfl) (by kernel_rfl) (by kernel_rfl)) ?_
      exact ok_nil
    clear h; intro β a w h
    refine blk_norm ?_
    refine sym_then ?_
    refine St.region h [.inr (0, 0), .inr (1, 0), .inl (.int .i64 (((k + 1) : Nat) : Int)), .inl (.int .i64 ((k : Nat) : Int)), .inl (.bool true), .inl (.int .i64 ((k : Nat) : Int)), .inl (.int .i64 (((k + 1) : Nat) : Int)), .inl (.int .i64 ((k : Nat) : Int)), .inr (1, k), .inl undef, .inl undef, .inl undef] [.inr (0, 0), .inr (1, 0), .inl undef, .inl (.int .i64 ((k : Nat) : Int)), .inl (.bool true), .inl undef, .inl undef, .inl (.int .i64 ((k : Nat) : Int)), .inr (1, k), .inl undef, .inl undef, .inl undef] [(ai 22 (fun _ => 0), 25), (ai 22 (updN (prF k) k 4095), 25)] [(ai 22 (fun _ => 0), 25), (ai 22 (updN (prF k) k 4095), 25)] [#[], #[]] [⟨none, none, none, true⟩, ⟨none, none, none, false⟩, ⟨none, none, none, false⟩] (by kernel_rfl) (by kernel_rfl) (by kernel_rfl) (by kernel_rfl) (by kernel_rfl) (by kernel_rfl) (by kernel_rfl) (by kernel_rfl) (by kernel_rfl) ?_ ?_
    · refine ok_cons (ok_mv0 rfl (by kernel_rfl) rfl (by kernel_rfl) (by kernel_rfl)) ?_
      refine ok_cons (ok_bin (x1 := .int .i64 ((k : Nat) : Int)) (u1 := .int .i64 ((1 : Nat) : Int)) (v := .int .i64 (((k + 1) : Nat) : Int)) (ad_i (m := k) (n := 1) (by omega)) rfl (by kernel_rfl) rfl (by kernel_rfl) (by kernel_rfl) (by kernel_rfl) (by kernel_rfl) (by kernel_rfl)) ?_
      refine ok_cons (ok_mv (Or.inr rfl) (by kernel_rfl) rfl (by kernel_rfl) (by kernel_rfl)) ?_
      exact ok_nil
    clear h; intro β a w h
    replace h := St.setm h 1 (c := ai 22 (updN (prF k) k 4095)) (c' := ai 22 (prF (k + 1))) (t := 25) (m' := [(ai 22 (fun _ => 0), 25), (ai 22 (prF (k + 1)), 25)]) (prF_next k) (by kernel_rfl) (by kernel_rfl)
    exact ⟨hltk, _, _, _, _, _, _, _, h⟩
  · obtain rfl : k = 21 := by omega
    refine sym_seq ?_
    refine sym_seq ?_
    refine St.region h [.inr (0, 0), .inr (1, 0), .inl (.int .i64 ((21 : Nat) : Int)), .inl (.int .i64 ((21 : Nat) : Int)), .inl (.bool false), x5, x6, x7, x8, .inl undef, .inl undef, .inl undef] [.inr (0, 0), .inr (1, 0), .inl (.int .i64 ((21 : Nat) : Int)), .inl undef, .inl undef, x5, x6, x7, x8, .inl undef, .inl undef, .inl undef] [(ai 22 (fun _ => 0), 25), (ai 22 (prF 21), 25)] [(ai 22 (fun _ => 0), 25), (ai 22 (prF 21), 25)] [#[], #[]] [⟨none, none, none, false⟩, ⟨none, none, none, false⟩] (by kernel_rfl) (by kernel_rfl) (by kernel_rfl) (by kernel_rfl) (by kernel_rfl) (by kernel_rfl) (by kernel_rfl) (by kernel_rfl) (by kernel_rfl) ?_ ?_
    · refine ok_cons (ok_mv (Or.inl rfl) (by kernel_rfl) rfl (by kernel_rfl) (by kernel_rfl)) ?_
      refine ok_cons (ok_bin (x1 := .int .i64 ((21 : Nat) : Int)) (u1 := .int .i64 ((21 : Nat) : Int)) (v := .bool false) (lt_i (m := ((21 : Nat) : Int)) (n := ((21 : Nat) : Int)) (decide_eq_false (by omega))) rfl (by kernel_rfl) rfl (by kernel_rfl) (by kernel_rfl) (by kernel_rfl) (by kernel_rfl) (by kernel_rfl)) ?_
      exact ok_nil
    clear h; intro β a w h
    refine sym_then ?_
    refine sym_cond_f h (by kernel_rfl) (by kernel_rfl) ?_
    refine wp_exit ?_
    refine then_exit ?_
    refine then_exit ?_
    refine blk_exit ?_
    refine sym_then ?_
    refine sym_seq ?_
    refine St.region h [.inr (0, 0), .inr (1, 0), .inl (.int .i64 ((21 : Nat) : Int)), .inl (.int .i64 ((21 : Nat) : Int)), .inl (.bool false), x5, x6, x7, x8, .inr (1, 0), .inl undef, .inl undef] [.inr (0, 0), .inr (1, 0), .inl (.int .i64 ((21 : Nat) : Int)), .inl (.int .i64 ((21 : Nat) : Int)), .inl (.bool false), x5, x6, x7, x8, .inl undef, .inl undef, .inl undef] [(ai 22 (fun _ => 0), 25), (ai 22 (updN (prF 21) 0 4077), 25)] [(ai 22 (fun _ => 0), 25), (ai 22 (prF 21), 25)] [#[], ai 22 (updN (prF 21) 0 4077)] [⟨none, none, none, false⟩, ⟨none, some 1, none, false⟩] (by kernel_rfl) (by kernel_rfl) (by kernel_rfl) (by kernel_rfl) (by kernel_rfl) (by kernel_rfl) (by kernel_rfl) (by kernel_rfl) (by kernel_rfl) ?_ ?_
    · refine ok_cons (ok_iaddr (b := 1) (off := 0) (off' := 0) (u := .int .i64 ((0 : Nat) : Int)) (ix22 (i := 0) (by omega)) rfl (by kernel_rfl) rfl (by kernel_rfl) (by kernel_rfl) (by kernel_rfl) (by kernel_rfl)) ?_
      refine ok_cons (ok_store (b := 1) (off := 0) (u := .int .i64 ((4077 : Nat) : Int)) (c := ai 22 (prF 21)) (n := ai 22 (updN (prF 21) 0 4077)) (st_at (n := 22) (F := (prF 21)) (i := 0) (v := 4077) (t0 := 25) (by omega)) rfl (by kernel_rfl) rfl (by kernel_rfl) (by kernel_rfl) (by kernel_rfl) (by kernel_rfl) (by kernel_rfl)) ?_
      exact ok_nil
    clear h; intro β a w h
    refine sym_then ?_
    refine sym_seq ?_
    refine St.region h [.inr (0, 0), .inr (1, 0), .inl (.int .i64 ((21 : Nat) : Int)), .inl (.int .i64 ((21 : Nat) : Int)), .inl (.bool false), x5, x6, x7, x8, .inr (1, 0), .inr (1, 21), .inl undef] [.inr (0, 0), .inr (1, 0), .inl (.int .i64 ((21 : Nat) : Int)), .inl (.int .i64 ((21 : Nat) : Int)), .inl (.bool false), x5, x6, x7, x8, .inr (1, 0), .inl undef, .inl undef] [(ai 22 (fun _ => 0), 25), (ai 22 (updN (updN (prF 21) 0 4077) 21 7), 25)] [(ai 22 (fun _ => 0), 25), (ai 22 (updN (prF 21) 0 4077), 25)] [#[], ai 22 (updN (updN (prF 21) 0 4077) 21 7)] [⟨none, none, none, false⟩, ⟨none, some 1, none, false⟩] (by kernel_rfl) (by kernel_rfl) (by kernel_rfl) (by kernel_rfl) (by kernel_rfl) (by kernel_rfl) (by kernel_rfl) (by kernel_rfl) (by kernel_rfl) ?_ ?_
    · refine ok_cons (ok_iaddr (b := 1) (off := 0) (off' := 21) (u := .int .i64 ((21 : Nat) : Int)) (ix22 (i := 21) (by omega)) rfl (by kernel_rfl) rfl (by kernel_rfl) (by kernel_rfl) (by kernel_rfl) (by kernel_rfl)) ?_
      refine ok_cons (ok_store (b := 1) (off := 21) (u := .int .i64 ((7 : Nat) : Int)) (c := ai 22 (updN (prF 21) 0 4077)) (n := ai 22 (updN (updN (prF 21) 0 4077) 21 7)) (st_at (n := 22) (F := (updN (prF 21) 0 4077)) (i := 21) (v := 7) (t0 := 25) (by omega)) rfl (by kernel_rfl) rfl (by kernel_rfl) (by kernel_rfl) (by kernel_rfl) (by kernel_rfl) (by kernel_rfl)) ?_
      exact ok_nil
    clear h; intro β a w h
    refine sym_then ?_
    refine sym_seq ?_
    refine St.region h [.inr (0, 0), .inr (1, 0), .inl (.int .i64 ((21 : Nat) : Int)), .inl (.int .i64 ((21 : Nat) : Int)), .inl (.bool false), x5, x6, x7, x8, .inr (1, 0), .inr (1, 21), .inl (.agg (ai 22 (updN (updN (prF 21) 0 4077) 21 7)))] [.inr (0, 0), .inr (1, 0), .inl (.int .i64 ((21 : Nat) : Int)), .inl (.int .i64 ((21 : Nat) : Int)), .inl (.bool false), x5, x6, x7, x8, .inr (1, 0), .inr (1, 21), .inl undef] [(ai 22 (updN (updN (prF 21) 0 4077) 21 7), 25), (ai 22 (updN (updN (prF 21) 0 4077) 21 7), 25)] [(ai 22 (fun _ => 0), 25), (ai 22 (updN (updN (prF 21) 0 4077) 21 7), 25)] [ai 22 (updN (updN (prF 21) 0 4077) 21 7), #[]] [⟨none, none, some 1, false⟩, ⟨none, some 0, none, false⟩] (by kernel_rfl) (by kernel_rfl) (by kernel_rfl) (by kernel_rfl) (by kernel_rfl) (by kernel_rfl) (by kernel_rfl) (by kernel_rfl) (by kernel_rfl) ?_ ?_
    · refine ok_cons (ok_load (b := 1) (off := 0) (c := ai 22 (updN (updN (prF 21) 0 4077) 21 7)) (v := .agg (ai 22 (updN (updN (prF 21) 0 4077) 21 7))) (ld22 (F := (updN (updN (prF 21) 0 4077) 21 7)) 25) rfl (by kernel_rfl) rfl (by kernel_rfl) (by kernel_rfl) (by kernel_rfl)) ?_
      refine ok_cons (ok_store (b := 0) (off := 0) (u := .agg (ai 22 (updN (updN (prF 21) 0 4077) 21 7))) (c := ai 22 (fun _ => 0)) (n := ai 22 (updN (updN (prF 21) 0 4077) 21 7)) (st22 (F := (updN (updN (prF 21) 0 4077) 21 7)) (c := ai 22 (fun _ => 0)) 25 (ai_size _ _)) rfl (by kernel_rfl) rfl (by kernel_rfl) (by kernel_rfl) (by kernel_rfl) (by kernel_rfl) (by kernel_rfl)) ?_
      exact ok_nil
    clear h; intro β a w h
    refine sym_then ?_
    refine wp_ret ?_
    exact sym_retc (b := 0) (t0 := 25) (c := ai 22 (updN (updN (prF 21) 0 4077) 21 7)) h Try.results37 (by kernel_rfl) (by kernel_rfl) (by kernel_rfl) Try.underlying25 rfl (by rw [ai_size]; kernel_rfl) (fun hb => ⟨rfl, hb⟩)
end Go.Proofs.Ytchbkkjjbdgdoaa

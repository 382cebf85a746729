/- The contracts of first and ones: the power by 2^250 - 1, grown by a closure. -/
import Derived.Test.YtgiemldmphbolaaK
namespace Go.Proofs.Ytgiemldmphbolaa
open Go.RowKit

theorem make_fn (fn : Fn) (first cap : Array Value) (w : World) : (Instr.makeFunc fn first cap).run Try.prog w = .ok (.func fn first cap) w := rfl

theorem first_any (x : Nat → Nat) (w : World) :
    Calls Try.prog 88 #[el x] w fun e w' => ∃ b : Nat, e = .returned (.func (.func 89) #[] #[.pointer (some ⟨b, 0, none⟩)]) ∧ Hid (b = w.heap.size + 1) ∧ Below w.heap.size w w' ∧ w'.heap[b]? = some (.cells (cs x) 29 (0, 0)) := by
  have hmf := make_fn
  go_enter Try.func88, Try.ntmps88
  go_wp2
  go_ret
  exact ⟨_, rfl, hide1 rfl, below2 _ _ _, row2_1 _ _ _⟩

theorem pw_step {X a y e f t z : Nat} (ha : a = X ^ e % pp) (hy : y = X ^ f % pp) (hz : z = a ^ (2 ^ t) * y % pp) : z = X ^ (e * 2 ^ t + f) % pp := by
  rw [hz, ha, hy, Nat.pow_add, Nat.pow_mul, Nat.mul_mod_mod, Nat.mul_mod, ← Nat.pow_mod, ← Nat.mul_mod]

theorem below_mod {w u v : World} {b : Nat} (h : Below w.heap.size w u) (m : Mod b u v) (hb : w.heap.size ≤ b) : Below w.heap.size w v :=
  ((Mod.of_below (b := b) h).trans m).below hb
theorem below_up {w u : World} (h : Below w.heap.size w u) (o : Obj) : Below w.heap.size w (u.alloc o) := bnext h (below1 u o)

set_option maxHeartbeats 4000000 in
theorem ones_any (x : Nat → Nat) (hx : Ok x) (w : World) :
    Calls Try.prog 85 #[el x] w fun e w' => ∃ (z : Nat → Nat) (E b : Nat), Ok z ∧ Hid (E = 1809251394333065553493296640760748560207343510400633813116524750123642650623) ∧ Hid (nm z = nm x ^ E % pp) ∧ e = .returned (.func (.func 89) #[] #[.pointer (some ⟨b, 0, none⟩)]) ∧ w.heap.size ≤ b ∧ Below w.heap.size w w' ∧ w'.heap[b]? = some (.cells (cs z) 29 (0, 0)) := by
  obtain ⟨X, HX⟩ : ∃ X, Hid (nm x = X) := ⟨_, hide1 rfl⟩
  rw [HX.out]
  obtain ⟨ea, hea⟩ : ∃ ea, Hid (ea = 1) := ⟨_, hide1 rfl⟩
  have qa : Hid (nm x = X ^ ea % pp) := hide1 (by rw [hea.out, Nat.pow_one, ← HX.out, Nat.mod_eq_of_lt hx.2])
  go_enter Try.func85, Try.ntmps85
  have ra := row1_0 w (.cells (cs x) 29)
  go_wp2_with fail
  refine (first_any x _).mono ?_
  rintro e u0 ⟨b, rfl, hb, hb0, rb0⟩
  replace ra := row_below ra hb0
  have hw0 : Below w.heap.size w u0 := bnext (below1 _ _) hb0
  clear hb0
  have na : w.heap.size ≠ b := by have := hb.out; simp at this; omega
  have hbw : w.heap.size ≤ b := by have := hb.out; simp at this; omega
  clear hb
  go_wp2_with (refine wpList_load_agg rfl 29 (.tmp 1) rfl w.heap.size _ _ rfl Try.underlying29 rfl (by kernel_rfl) ra ?_)
  refine (grow_any 1 b (by omega) x x hx hx _ _ rb0).mono ?_
  rintro e u1 ⟨z1, ok1, s1, rfl, m1, rb1⟩
  replace ra := row_mod ra m1 na
  have hw1 := below_mod hw0 m1 hbw
  obtain ⟨e1, he1⟩ : ∃ e1, Hid (e1 = ea * 2 ^ 1 + ea) := ⟨_, hide1 rfl⟩
  have q1 : Hid (nm z1 = X ^ e1 % pp) := hide1 (by rw [he1.out]; exact pw_step qa.out qa.out s1.out)
  clear m1 s1 rb0 hw0
  have ntwo : u1.heap.size ≠ b := by have := row_lt rb1; omega
  replace ra := row_up (o := .cells (cs z1) 29) ra
  replace rb1 := row_up (o := .cells (cs z1) 29) rb1
  have rtwo := row_new u1 (.cells (cs z1) 29)
  replace hw1 := below_up hw1 (.cells (cs z1) 29)
  go_wp2_with (refine wpList_load_agg rfl 29 (.tmp 4) rfl u1.heap.size _ _ rfl Try.underlying29 rfl (by kernel_rfl) rtwo ?_)
  refine (grow_any 2 b (by omega) z1 z1 ok1 ok1 _ _ rb1).mono ?_
  rintro e u2 ⟨z2, ok2, s2, rfl, m2, rb2⟩
  replace ra := row_mod ra m2 na
  replace rtwo := row_mod rtwo m2 ntwo
  have hw2 := below_mod hw1 m2 hbw
  obtain ⟨e2, he2⟩ : ∃ e2, Hid (e2 = e1 * 2 ^ 2 + e1) := ⟨_, hide1 rfl⟩
  have q2 : Hid (nm z2 = X ^ e2 % pp) := hide1 (by rw [he2.out]; exact pw_step q1.out q1.out s2.out)
  clear m2 s2 rb1 hw1
  go_wp2_with (refine wpList_load_agg rfl 29 (.tmp 1) rfl w.heap.size _ _ rfl Try.underlying29 rfl (by kernel_rfl) ra ?_)
  refine (grow_any 1 b (by omega) z2 x ok2 hx _ _ rb2).mono ?_
  rintro e u3 ⟨z3, ok3, s3, rfl, m3, rb3⟩
  replace ra := row_mod ra m3 na
  replace rtwo := row_mod rtwo m3 ntwo
  have hw3 := below_mod hw2 m3 hbw
  obtain ⟨e3, he3⟩ : ∃ e3, Hid (e3 = e2 * 2 ^ 1 + ea) := ⟨_, hide1 rfl⟩
  have q3 : Hid (nm z3 = X ^ e3 % pp) := hide1 (by rw [he3.out]; exact pw_step q2.out qa.out s3.out)
  clear m3 s3 rb2 hw2
  have nfive : u3.heap.size ≠ b := by have := row_lt rb3; omega
  replace ra := row_up (o := .cells (cs z3) 29) ra
  replace rtwo := row_up (o := .cells (cs z3) 29) rtwo
  replace rb3 := row_up (o := .cells (cs z3) 29) rb3
  have rfive := row_new u3 (.cells (cs z3) 29)
  replace hw3 := below_up hw3 (.cells (cs z3) 29)
  go_wp2_with (refine wpList_load_agg rfl 29 (.tmp 5) rfl u3.heap.size _ _ rfl Try.underlying29 rfl (by kernel_rfl) rfive ?_)
  refine (grow_any 5 b (by omega) z3 z3 ok3 ok3 _ _ rb3).mono ?_
  rintro e u4 ⟨z4, ok4, s4, rfl, m4, rb4⟩
  replace ra := row_mod ra m4 na
  replace rtwo := row_mod rtwo m4 ntwo
  replace rfive := row_mod rfive m4 nfive
  have hw4 := below_mod hw3 m4 hbw
  obtain ⟨e4, he4⟩ : ∃ e4, Hid (e4 = e3 * 2 ^ 5 + e3) := ⟨_, hide1 rfl⟩
  have q4 : Hid (nm z4 = X ^ e4 % pp) := hide1 (by rw [he4.out]; exact pw_step q3.out q3.out s4.out)
  clear m4 s4 rb3 hw3
  have nten : u4.heap.size ≠ b := by have := row_lt rb4; omega
  replace ra := row_up (o := .cells (cs z4) 29) ra
  replace rtwo := row_up (o := .cells (cs z4) 29) rtwo
  replace rfive := row_up (o := .cells (cs z4) 29) rfive
  replace rb4 := row_up (o := .cells (cs z4) 29) rb4
  have rten := row_new u4 (.cells (cs z4) 29)
  replace hw4 := below_up hw4 (.cells (cs z4) 29)
  go_wp2_with (refine wpList_load_agg rfl 29 (.tmp 6) rfl u4.heap.size _ _ rfl Try.underlying29 rfl (by kernel_rfl) rten ?_)
  refine (grow_any 10 b (by omega) z4 z4 ok4 ok4 _ _ rb4).mono ?_
  rintro e u5 ⟨z5, ok5, s5, rfl, m5, rb5⟩
  replace ra := row_mod ra m5 na
  replace rtwo := row_mod rtwo m5 ntwo
  replace rfive := row_mod rfive m5 nfive
  replace rten := row_mod rten m5 nten
  have hw5 := below_mod hw4 m5 hbw
  obtain ⟨e5, he5⟩ : ∃ e5, Hid (e5 = e4 * 2 ^ 10 + e4) := ⟨_, hide1 rfl⟩
  have q5 : Hid (nm z5 = X ^ e5 % pp) := hide1 (by rw [he5.out]; exact pw_step q4.out q4.out s5.out)
  clear m5 s5 rb4 hw4
  have ntwenty : u5.heap.size ≠ b := by have := row_lt rb5; omega
  replace ra := row_up (o := .cells (cs z5) 29) ra
  replace rtwo := row_up (o := .cells (cs z5) 29) rtwo
  replace rfive := row_up (o := .cells (cs z5) 29) rfive
  replace rten := row_up (o := .cells (cs z5) 29) rten
  replace rb5 := row_up (o := .cells (cs z5) 29) rb5
  have rtwenty := row_new u5 (.cells (cs z5) 29)
  replace hw5 := below_up hw5 (.cells (cs z5) 29)
  go_wp2_with (refine wpList_load_agg rfl 29 (.tmp 7) rfl u5.heap.size _ _ rfl Try.underlying29 rfl (by kernel_rfl) rtwenty ?_)
  refine (grow_any 20 b (by omega) z5 z5 ok5 ok5 _ _ rb5).mono ?_
  rintro e u6 ⟨z6, ok6, s6, rfl, m6, rb6⟩
  replace ra := row_mod ra m6 na
  replace rtwo := row_mod rtwo m6 ntwo
  replace rfive := row_mod rfive m6 nfive
  replace rten := row_mod rten m6 nten
  replace rtwenty := row_mod rtwenty m6 ntwenty
  have hw6 := below_mod hw5 m6 hbw
  obtain ⟨e6, he6⟩ : ∃ e6, Hid (e6 = e5 * 2 ^ 20 + e5) := ⟨_, hide1 rfl⟩
  have q6 : Hid (nm z6 = X ^ e6 % pp) := hide1 (by rw [he6.out]; exact pw_step q5.out q5.out s6.out)
  clear m6 s6 rb5 hw5
  go_wp2_with (refine wpList_load_agg rfl 29 (.tmp 6) rfl u4.heap.size _ _ rfl Try.underlying29 rfl (by kernel_rfl) rten ?_)
  refine (grow_any 10 b (by omega) z6 z4 ok6 ok4 _ _ rb6).mono ?_
  rintro e u7 ⟨z7, ok7, s7, rfl, m7, rb7⟩
  replace ra := row_mod ra m7 na
  replace rtwo := row_mod rtwo m7 ntwo
  replace rfive := row_mod rfive m7 nfive
  replace rten := row_mod rten m7 nten
  replace rtwenty := row_mod rtwenty m7 ntwenty
  have hw7 := below_mod hw6 m7 hbw
  obtain ⟨e7, he7⟩ : ∃ e7, Hid (e7 = e6 * 2 ^ 10 + e4) := ⟨_, hide1 rfl⟩
  have q7 : Hid (nm z7 = X ^ e7 % pp) := hide1 (by rw [he7.out]; exact pw_step q6.out q4.out s7.out)
  clear m7 s7 rb6 hw6
  have nfifty : u7.heap.size ≠ b := by have := row_lt rb7; omega
  replace ra := row_up (o := .cells (cs z7) 29) ra
  replace rtwo := row_up (o := .cells (cs z7) 29) rtwo
  replace rfive := row_up (o := .cells (cs z7) 29) rfive
  replace rten := row_up (o := .cells (cs z7) 29) rten
  replace rtwenty := row_up (o := .cells (cs z7) 29) rtwenty
  replace rb7 := row_up (o := .cells (cs z7) 29) rb7
  have rfifty := row_new u7 (.cells (cs z7) 29)
  replace hw7 := below_up hw7 (.cells (cs z7) 29)
  go_wp2_with (refine wpList_load_agg rfl 29 (.tmp 8) rfl u7.heap.size _ _ rfl Try.underlying29 rfl (by kernel_rfl) rfifty ?_)
  refine (grow_any 50 b (by omega) z7 z7 ok7 ok7 _ _ rb7).mono ?_
  rintro e u8 ⟨z8, ok8, s8, rfl, m8, rb8⟩
  replace ra := row_mod ra m8 na
  replace rtwo := row_mod rtwo m8 ntwo
  replace rfive := row_mod rfive m8 nfive
  replace rten := row_mod rten m8 nten
  replace rtwenty := row_mod rtwenty m8 ntwenty
  replace rfifty := row_mod rfifty m8 nfifty
  have hw8 := below_mod hw7 m8 hbw
  obtain ⟨e8, he8⟩ : ∃ e8, Hid (e8 = e7 * 2 ^ 50 + e7) := ⟨_, hide1 rfl⟩
  have q8 : Hid (nm z8 = X ^ e8 % pp) := hide1 (by rw [he8.out]; exact pw_step q7.out q7.out s8.out)
  clear m8 s8 rb7 hw7
  have nhundred : u8.heap.size ≠ b := by have := row_lt rb8; omega
  replace ra := row_up (o := .cells (cs z8) 29) ra
  replace rtwo := row_up (o := .cells (cs z8) 29) rtwo
  replace rfive := row_up (o := .cells (cs z8) 29) rfive
  replace rten := row_up (o := .cells (cs z8) 29) rten
  replace rtwenty := row_up (o := .cells (cs z8) 29) rtwenty
  replace rfifty := row_up (o := .cells (cs z8) 29) rfifty
  replace rb8 := row_up (o := .cells (cs z8) 29) rb8
  have rhundred := row_new u8 (.cells (cs z8) 29)
  replace hw8 := below_up hw8 (.cells (cs z8) 29)
  go_wp2_with (refine wpList_load_agg rfl 29 (.tmp 9) rfl u8.heap.size _ _ rfl Try.underlying29 rfl (by kernel_rfl) rhundred ?_)
  refine (grow_any 100 b (by omega) z8 z8 ok8 ok8 _ _ rb8).mono ?_
  rintro e u9 ⟨z9, ok9, s9, rfl, m9, rb9⟩
  replace ra := row_mod ra m9 na
  replace rtwo := row_mod rtwo m9 ntwo
  replace rfive := row_mod rfive m9 nfive
  replace rten := row_mod rten m9 nten
  replace rtwenty := row_mod rtwenty m9 ntwenty
  replace rfifty := row_mod rfifty m9 nfifty
  replace rhundred := row_mod rhundred m9 nhundred
  have hw9 := below_mod hw8 m9 hbw
  obtain ⟨e9, he9⟩ : ∃ e9, Hid (e9 = e8 * 2 ^ 100 + e8) := ⟨_, hide1 rfl⟩
  have q9 : Hid (nm z9 = X ^ e9 % pp) := hide1 (by rw [he9.out]; exact pw_step q8.out q8.out s9.out)
  clear m9 s9 rb8 hw8
  go_wp2_with (refine wpList_load_agg rfl 29 (.tmp 8) rfl u7.heap.size _ _ rfl Try.underlying29 rfl (by kernel_rfl) rfifty ?_)
  refine (grow_any 50 b (by omega) z9 z7 ok9 ok7 _ _ rb9).mono ?_
  rintro e u10 ⟨z10, ok10, s10, rfl, m10, rb10⟩
  replace ra := row_mod ra m10 na
  replace rtwo := row_mod rtwo m10 ntwo
  replace rfive := row_mod rfive m10 nfive
  replace rten := row_mod rten m10 nten
  replace rtwenty := row_mod rtwenty m10 ntwenty
  replace rfifty := row_mod rfifty m10 nfifty
  replace rhundred := row_mod rhundred m10 nhundred
  have hw10 := below_mod hw9 m10 hbw
  obtain ⟨e10, he10⟩ : ∃ e10, Hid (e10 = e9 * 2 ^ 50 + e7) := ⟨_, hide1 rfl⟩
  have q10 : Hid (nm z10 = X ^ e10 % pp) := hide1 (by rw [he10.out]; exact pw_step q9.out q7.out s10.out)
  clear m10 s10 rb9 hw9
  go_wp2_with fail
  go_ret
  refine ⟨z10, e10, b, ok10, hide1 ?_, q10, rfl, hbw, hw10, rb10⟩
  have h0 := hea.out
  have h1 := he1.out
  have h2 := he2.out
  have h3 := he3.out
  have h4 := he4.out
  have h5 := he5.out
  have h6 := he6.out
  have h7 := he7.out
  have h8 := he8.out
  have h9 := he9.out
  have h10 := he10.out
  clear q1 ok1 q2 ok2 q3 ok3 q4 ok4 q5 ok5 q6 ok6 q7 ok7 q8 ok8 q9 ok9 q10 ok10 ra rtwo rfive rten rtwenty rfifty rhundred hx qa
  simp only [Nat.reducePow] at h1 h2 h3 h4 h5 h6 h7 h8 h9 h10
  omega
end Go.Proofs.Ytgiemldmphbolaa

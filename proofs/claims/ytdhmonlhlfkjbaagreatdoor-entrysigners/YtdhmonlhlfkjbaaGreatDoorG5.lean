/- CA1, CA4, CS1, CS2, KE1, KE2, KE3, JF3, JF5, JF6, KE4, KE5, KE6, KS1, KPL, KS2, CS3, CS4, CS5, CS6: laid together. -/
import Derived.Lib.AppendStr
import Derived.Lib.Bytealg
import Derived.OrdersIn
import Derived.Maps.OwnIn
import Derived.Test.YtdhmonlhlfkjbaaGreatDoorG4
import Derived.Test.YtdhmonlhlfkjbaaGreatDoorG1
import Derived.Test.YtdhmonlhlfkjbaaGreatDoorG3
import Derived.Test.YtdhmonlhlfkjbaaGreatDoorG2
namespace Go.Proofs.YtdhmonlhlfkjbaaGreatDoor
open Go.RowKit Go.Shelf

def hxd (n : Nat) : UInt8 := UInt8.ofNat (if n < 10 then 48 + n else 87 + n)
def q1 (b : UInt8) : List UInt8 :=
  if b.toNat = 34 then [92, 34] else if b.toNat = 92 then [92, 92] else if b.toNat = 8 then [92, 98] else if b.toNat = 9 then [92, 116] else if b.toNat = 10 then [92, 110] else if b.toNat = 12 then [92, 102] else if b.toNat = 13 then [92, 114]
  else if b.toNat < 32 then [92, 117, 48, 48, hxd (b.toNat / 16), hxd (b.toNat % 16)] else [b]
def qb (s : List UInt8) : List UInt8 := s.flatMap q1
def qu (s : List UInt8) : List UInt8 := 34 :: (qb s ++ [34])
theorem q1_len (b : UInt8) : 1 ≤ (q1 b).length ∧ (q1 b).length ≤ 6 := by
  unfold q1; (repeat' split) <;> simp
theorem qb_len : ∀ s : List UInt8, s.length ≤ (qb s).length ∧ (qb s).length ≤ 6 * s.length
  | [] => by simp [qb]
  | b :: s => by
    have h1 := q1_len b
    have h2 := qb_len s
    have e : qb (b :: s) = q1 b ++ qb s := rfl
    rw [e, List.length_append, List.length_cons]
    omega
theorem qb_snoc (s : List UInt8) (b : UInt8) : qb (s ++ [b]) = qb s ++ q1 b := by simp [qb]
theorem cells_one (b : UInt8) : Lib.byteCells [b] = [.int .u8 (b.toNat : Nat)] := rfl
theorem str_cells (s : List UInt8) : Lib.strCells (st s) = Lib.byteCells s := rfl
theorem IsB.at {T e : TypeId} {B b : Nat} {bs : List Value} {w : World} (h : Lib.BuilderAt T e B b (.pointer (some ⟨b, 0, none⟩)) bs w) : Lib.IsBuilder T e B b bs w := .inr h
abbrev Bd (B b : Nat) (l : List UInt8) (w : World) : Prop := Lib.IsBuilder Bt Ut B b (Lib.byteCells l) w
theorem byteCells_len (l : List UInt8) : (Lib.byteCells l).length = l.length := by simp [Lib.byteCells]
theorem wb_d {B b : Nat} {l : List UInt8} {w : World} (c : UInt8) (h : Bd B b l w) (hl : l.length + 1 ≤ 140737488355328) (hB : B ≤ w.heap.size) :
    Calls Tryz.prog 139 #[.pointer (some ⟨b, 0, none⟩), .int .u8 (c.toNat : Nat)] w fun e w' => e = .returned .nilIface ∧ Bd B b (l ++ [c]) w' ∧ Below B w w' := by
  refine (Builder_WriteByte B b _ (c.toNat : Nat) w h (by rw [byteCells_len]; exact hl) hB).mono ?_
  rintro e w' ⟨rfl, h1, h2⟩
  exact ⟨rfl, by unfold Bd; rw [cells_app, cells_one]; exact .inr h1, h2⟩
theorem ws_d {B b : Nat} {l : List UInt8} {w : World} (s : List UInt8) (h : Bd B b l w) (hl : l.length + s.length ≤ 140737488355328) (hB : B ≤ w.heap.size) :
    Calls Tryz.prog 178 #[.pointer (some ⟨b, 0, none⟩), .string (st s)] w fun e w' => (∃ n, e = .returned (.tuple #[.int .i64 n, .nilIface])) ∧ Bd B b (l ++ s) w' ∧ Below B w w' := by
  refine (Builder_WriteString B b _ (st s) w h (by rw [byteCells_len, st_size]; exact hl) hB).mono ?_
  rintro e w' ⟨rfl, h1, h2⟩
  exact ⟨⟨_, rfl⟩, by unfold Bd; rw [cells_app, ← str_cells]; exact .inr h1, h2⟩
theorem bd_new (w : World) : Bd w.heap.size w.heap.size [] (w.alloc (.cells #[.pointer none, .slice none 0 0] Bt)) :=
  .inl ⟨Nat.le_refl _, .slice none 0 0, by
    show (w.heap.push _)[w.heap.size]? = _
    rw [Array.getElem?_push, if_pos rfl], ⟨rfl, .inl ⟨rfl, rfl⟩⟩, by simp [Value.ownBlock]⟩
theorem hx_b {n : Nat} (h : n < 16) {h'} : (⟨#[48, 49, 50, 51, 52, 53, 54, 55, 56, 57, 97, 98, 99, 100, 101, 102]⟩ : ByteArray)[n]'h' = hxd n := by
  rcases (by omega : n = 0 ∨ n = 1 ∨ n = 2 ∨ n = 3 ∨ n = 4 ∨ n = 5 ∨ n = 6 ∨ n = 7 ∨ n = 8 ∨ n = 9 ∨ n = 10 ∨ n = 11 ∨ n = 12 ∨ n = 13 ∨ n = 14 ∨ n = 15) with h | h | h | h | h | h | h | h | h | h | h | h | h | h | h | h <;> subst h <;> rfl
theorem bits_and15 {c : Nat} (hc : c < 256) : bits .and .u8 ((c : Nat) : Int) 15 = ((c % 16 : Nat) : Int) := by
  have : ∀ c : Fin 256, bits .and .u8 ((c.val : Nat) : Int) 15 = ((c.val % 16 : Nat) : Int) := by decide +kernel
  exact this ⟨c, hc⟩
set_option maxHeartbeats 1600000 in
set_option maxRecDepth 100000 in
theorem plain_d {B b : Nat} {l : List UInt8} {w : World} (c : UInt8) (h : Bd B b l w) (hl : l.length + 8 ≤ 140737488355328) (hB : B ≤ w.heap.size) :
    Calls Tryz.prog 179 #[.pointer (some ⟨b, 0, none⟩), .int .u8 (c.toNat : Nat)] w fun e w' => e = .returned (.tuple #[]) ∧ Bd B b (l ++ if c.toNat < 32 then [92, 117, 48, 48, hxd (c.toNat / 16), hxd (c.toNat % 16)] else [c]) w' ∧ Below B w w' := by
  have hc := c.toNat_lt
  by_cases h32 : c.toNat < 32
  · have h1 := ws_d [92, 117, 48, 48] h (by simp; omega) hB
    replace h1 : Calls Tryz.prog 178 #[.pointer (some ⟨b, 0, none⟩), .string ⟨#[92, 117, 48, 48]⟩] w _ := h1
    rw [if_pos h32]
    have g : ((c.toNat : Int) < 32) := by omega
    replace h := hide1 h
    go_enter Tryz.func179, Tryz.ntmps179
    go_wp2_with fail
    refine h1.mono ?_
    rintro e w1 ⟨⟨n1, rfl⟩, hb1, bw1⟩
    have bs1 := bw1.size
    clear h1
    replace hb1 := hide1 hb1
    replace bw1 := hide1 bw1
    go_wp2_with fail
    refine (wb_d _ hb1.out (by simp; omega) (by omega)).mono ?_
    rintro e w2 ⟨rfl, hb2, bw2⟩
    rw [hx_b (by omega)] at hb2
    have bs2 := bw2.size
    replace hb2 := hide1 hb2
    replace bw2 := hide1 bw2
    clear hb1
    have ha := bits_and15 hc
    go_wp2_with fail
    refine (wb_d _ hb2.out (by simp; omega) (by omega)).mono ?_
    rintro e w3 ⟨rfl, hb3, bw3⟩
    rw [hx_b (by omega)] at hb3
    have hf : Hid (Bd B b (l ++ [92, 117, 48, 48, hxd (c.toNat / 16), hxd (c.toNat % 16)]) w3) := hide1 (by simpa using hb3)
    have hbw : Hid (Below B w w3) := hide1 ((bw1.out.trans bw2.out).trans bw3)
    clear hb3 bw3 hb2 bw1 bw2 ha
    go_wp2
    go_end0
    exact ⟨rfl, hf.out, hbw.out⟩
  · have h1 := wb_d c h (by omega) hB
    rw [if_neg h32]
    have g : ¬ ((c.toNat : Int) < 32) := by omega
    replace h := hide1 h
    go_enter Tryz.func179, Tryz.ntmps179
    go_wp2_with fail
    refine h1.mono ?_
    rintro e w' ⟨rfl, h2, h3⟩
    replace h2 := hide1 h2
    replace h3 := hide1 h3
    go_wp2
    first
    | (go_end0; exact ⟨rfl, h2.out, h3.out⟩)
    | (refine bodyPost_ret (results_none rfl _ _ _) rfl ?_; exact ⟨rfl, h2.out, h3.out⟩)
theorem ecp_34 {B b : Nat} {l : List UInt8} {w : World} (h : Bd B b l w) (hl : l.length + 8 ≤ 140737488355328) (hB : B ≤ w.heap.size) : Calls Tryz.prog 140 #[.pointer (some ⟨b, 0, none⟩), .int .u8 34] w fun e w' => e = .returned (.tuple #[]) ∧ Bd B b (l ++ [92, 34]) w' ∧ Below B w w' := by
  have h1 := wb_d 92 h (by omega) hB
  replace h := hide1 h
  go_enter Tryz.func140, Tryz.ntmps140
  go_wp2_with fail
  refine h1.mono ?_
  rintro e w1 ⟨rfl, hb1, bw1⟩
  have h2 := wb_d 34 hb1 (by simp; omega) (by have := bw1.size; omega)
  clear h1 hb1
  replace bw1 := hide1 bw1
  go_wp2_with fail
  refine h2.mono ?_
  rintro e w2 ⟨rfl, hb2, bw2⟩
  rw [List.append_assoc] at hb2
  replace hb2 := hide1 hb2
  have hbw := hide1 (bw1.out.trans bw2)
  clear h2 bw2
  go_wp2
  go_end0
  exact ⟨rfl, hb2.out, hbw.out⟩
theorem ecp_92 {B b : Nat} {l : List UInt8} {w : World} (h : Bd B b l w) (hl : l.length + 8 ≤ 140737488355328) (hB : B ≤ w.heap.size) : Calls Tryz.prog 140 #[.pointer (some ⟨b, 0, none⟩), .int .u8 92] w fun e w' => e = .returned (.tuple #[]) ∧ Bd B b (l ++ [92, 92]) w' ∧ Below B w w' := by
  have h1 := wb_d 92 h (by omega) hB
  replace h := hide1 h
  go_enter Tryz.func140, Tryz.ntmps140
  go_wp2_with fail
  refine h1.mono ?_
  rintro e w1 ⟨rfl, hb1, bw1⟩
  have h2 := wb_d 92 hb1 (by simp; omega) (by have := bw1.size; omega)
  clear h1 hb1
  replace bw1 := hide1 bw1
  go_wp2_with fail
  refine h2.mono ?_
  rintro e w2 ⟨rfl, hb2, bw2⟩
  rw [List.append_assoc] at hb2
  replace hb2 := hide1 hb2
  have hbw := hide1 (bw1.out.trans bw2)
  clear h2 bw2
  go_wp2
  go_end0
  exact ⟨rfl, hb2.out, hbw.out⟩
theorem ecp_8 {B b : Nat} {l : List UInt8} {w : World} (h : Bd B b l w) (hl : l.length + 8 ≤ 140737488355328) (hB : B ≤ w.heap.size) : Calls Tryz.prog 140 #[.pointer (some ⟨b, 0, none⟩), .int .u8 8] w fun e w' => e = .returned (.tuple #[]) ∧ Bd B b (l ++ [92, 98]) w' ∧ Below B w w' := by
  have h1 := ws_d [92, 98] h (by simp; omega) hB
  replace h1 : Calls Tryz.prog 178 #[.pointer (some ⟨b, 0, none⟩), .string ⟨#[92, 98]⟩] w _ := h1
  replace h := hide1 h
  go_enter Tryz.func140, Tryz.ntmps140
  go_wp2_with fail
  refine h1.mono ?_
  rintro e w1 ⟨⟨n1, rfl⟩, hb1, bw1⟩
  replace hb1 := hide1 hb1
  replace bw1 := hide1 bw1
  clear h1
  go_wp2
  go_end0
  exact ⟨rfl, hb1.out, bw1.out⟩
theorem ecp_9 {B b : Nat} {l : List UInt8} {w : World} (h : Bd B b l w) (hl : l.length + 8 ≤ 140737488355328) (hB : B ≤ w.heap.size) : Calls Tryz.prog 140 #[.pointer (some ⟨b, 0, none⟩), .int .u8 9] w fun e w' => e = .returned (.tuple #[]) ∧ Bd B b (l ++ [92, 116]) w' ∧ Below B w w' := by
  have h1 := ws_d [92, 116] h (by simp; omega) hB
  replace h1 : Calls Tryz.prog 178 #[.pointer (some ⟨b, 0, none⟩), .string ⟨#[92, 116]⟩] w _ := h1
  replace h := hide1 h
  go_enter Tryz.func140, Tryz.ntmps140
  go_wp2_with fail
  refine h1.mono ?_
  rintro e w1 ⟨⟨n1, rfl⟩, hb1, bw1⟩
  replace hb1 := hide1 hb1
  replace bw1 := hide1 bw1
  clear h1
  go_wp2
  go_end0
  exact ⟨rfl, hb1.out, bw1.out⟩
theorem ecp_10 {B b : Nat} {l : List UInt8} {w : World} (h : Bd B b l w) (hl : l.length + 8 ≤ 140737488355328) (hB : B ≤ w.heap.size) : Calls Tryz.prog 140 #[.pointer (some ⟨b, 0, none⟩), .int .u8 10] w fun e w' => e = .returned (.tuple #[]) ∧ Bd B b (l ++ [92, 110]) w' ∧ Below B w w' := by
  have h1 := ws_d [92, 110] h (by simp; omega) hB
  replace h1 : Calls Tryz.prog 178 #[.pointer (some ⟨b, 0, none⟩), .string ⟨#[92, 110]⟩] w _ := h1
  replace h := hide1 h
  go_enter Tryz.func140, Tryz.ntmps140
  go_wp2_with fail
  refine h1.mono ?_
  rintro e w1 ⟨⟨n1, rfl⟩, hb1, bw1⟩
  replace hb1 := hide1 hb1
  replace bw1 := hide1 bw1
  clear h1
  go_wp2
  go_end0
  exact ⟨rfl, hb1.out, bw1.out⟩
theorem ecp_12 {B b : Nat} {l : List UInt8} {w : World} (h : Bd B b l w) (hl : l.length + 8 ≤ 140737488355328) (hB : B ≤ w.heap.size) : Calls Tryz.prog 140 #[.pointer (some ⟨b, 0, none⟩), .int .u8 12] w fun e w' => e = .returned (.tuple #[]) ∧ Bd B b (l ++ [92, 102]) w' ∧ Below B w w' := by
  have h1 := ws_d [92, 102] h (by simp; omega) hB
  replace h1 : Calls Tryz.prog 178 #[.pointer (some ⟨b, 0, none⟩), .string ⟨#[92, 102]⟩] w _ := h1
  replace h := hide1 h
  go_enter Tryz.func140, Tryz.ntmps140
  go_wp2_with fail
  refine h1.mono ?_
  rintro e w1 ⟨⟨n1, rfl⟩, hb1, bw1⟩
  replace hb1 := hide1 hb1
  replace bw1 := hide1 bw1
  clear h1
  go_wp2
  go_end0
  exact ⟨rfl, hb1.out, bw1.out⟩
theorem ecp_13 {B b : Nat} {l : List UInt8} {w : World} (h : Bd B b l w) (hl : l.length + 8 ≤ 140737488355328) (hB : B ≤ w.heap.size) : Calls Tryz.prog 140 #[.pointer (some ⟨b, 0, none⟩), .int .u8 13] w fun e w' => e = .returned (.tuple #[]) ∧ Bd B b (l ++ [92, 114]) w' ∧ Below B w w' := by
  have h1 := ws_d [92, 114] h (by simp; omega) hB
  replace h1 : Calls Tryz.prog 178 #[.pointer (some ⟨b, 0, none⟩), .string ⟨#[92, 114]⟩] w _ := h1
  replace h := hide1 h
  go_enter Tryz.func140, Tryz.ntmps140
  go_wp2_with fail
  refine h1.mono ?_
  rintro e w1 ⟨⟨n1, rfl⟩, hb1, bw1⟩
  replace hb1 := hide1 hb1
  replace bw1 := hide1 bw1
  clear h1
  go_wp2
  go_end0
  exact ⟨rfl, hb1.out, bw1.out⟩
set_option maxRecDepth 100000 in
theorem ecp_o {B b : Nat} {l : List UInt8} {w : World} (c : UInt8) (h34 : c.toNat ≠ 34) (h92 : c.toNat ≠ 92) (h8 : c.toNat ≠ 8) (h9 : c.toNat ≠ 9) (h10 : c.toNat ≠ 10) (h12 : c.toNat ≠ 12) (h13 : c.toNat ≠ 13) (h : Bd B b l w) (hl : l.length + 8 ≤ 140737488355328) (hB : B ≤ w.heap.size) : Calls Tryz.prog 140 #[.pointer (some ⟨b, 0, none⟩), .int .u8 (c.toNat : Nat)] w fun e w' => e = .returned (.tuple #[]) ∧ Bd B b (l ++ if c.toNat < 32 then [92, 117, 48, 48, hxd (c.toNat / 16), hxd (c.toNat % 16)] else [c]) w' ∧ Below B w w' := by
  have h1 := plain_d c h hl hB
  generalize (if c.toNat < 32 then [92, 117, 48, 48, hxd (c.toNat / 16), hxd (c.toNat % 16)] else [c]) = r at h1 ⊢
  have n34 : ((c.toNat : Int) == 34) = false := by simp; omega
  have n92 : ((c.toNat : Int) == 92) = false := by simp; omega
  have n8 : ((c.toNat : Int) == 8) = false := by simp; omega
  have n9 : ((c.toNat : Int) == 9) = false := by simp; omega
  have n10 : ((c.toNat : Int) == 10) = false := by simp; omega
  have n12 : ((c.toNat : Int) == 12) = false := by simp; omega
  have n13 : ((c.toNat : Int) == 13) = false := by simp; omega
  replace h := hide1 h
  go_enter Tryz.func140, Tryz.ntmps140
  go_wp2_with fail
  refine h1.mono ?_
  rintro e w1 ⟨rfl, hb1, bw1⟩
  replace hb1 := hide1 hb1
  replace bw1 := hide1 bw1
  clear h1
  go_wp2
  go_end0
  exact ⟨rfl, hb1.out, bw1.out⟩
theorem escape_d {B b : Nat} {l : List UInt8} {w : World} (c : UInt8) (h : Bd B b l w) (hl : l.length + 8 ≤ 140737488355328) (hB : B ≤ w.heap.size) : Calls Tryz.prog 140 #[.pointer (some ⟨b, 0, none⟩), .int .u8 (c.toNat : Nat)] w fun e w' => e = .returned (.tuple #[]) ∧ Bd B b (l ++ q1 c) w' ∧ Below B w w' := by
  unfold q1
  by_cases h34 : c.toNat = 34
  · rw [if_pos h34, h34]
    exact ecp_34 h hl hB
  rw [if_neg h34]
  by_cases h92 : c.toNat = 92
  · rw [if_pos h92, h92]
    exact ecp_92 h hl hB
  rw [if_neg h92]
  by_cases h8 : c.toNat = 8
  · rw [if_pos h8, h8]
    exact ecp_8 h hl hB
  rw [if_neg h8]
  by_cases h9 : c.toNat = 9
  · rw [if_pos h9, h9]
    exact ecp_9 h hl hB
  rw [if_neg h9]
  by_cases h10 : c.toNat = 10
  · rw [if_pos h10, h10]
    exact ecp_10 h hl hB
  rw [if_neg h10]
  by_cases h12 : c.toNat = 12
  · rw [if_pos h12, h12]
    exact ecp_12 h hl hB
  rw [if_neg h12]
  by_cases h13 : c.toNat = 13
  · rw [if_pos h13, h13]
    exact ecp_13 h hl hB
  rw [if_neg h13]
  exact ecp_o c h34 h92 h8 h9 h10 h12 h13 h hl hB
set_option maxHeartbeats 1600000 in
set_option maxRecDepth 100000 in
theorem quote_d {w : World} {s : List UInt8} (hs : s.length ≤ 1000000) : Calls Tryz.prog 88 #[.string (st s)] w fun e w' => e = .returned (.string (st (qu s))) ∧ Below w.heap.size w w' := by
  have hb0 := bd_new w
  have bw0 : Below w.heap.size w (w.alloc (.cells #[.pointer none, .slice none 0 0] Bt)) := (Below.refl _ _).alloc (Nat.le_refl _) _
  have h0 := wb_d 34 hb0 (by simp) bw0.size
  have hlen : Hid ((st s).size = s.length) := hide1 (st_size s)
  replace hb0 := hide1 hb0
  replace bw0 := hide1 bw0
  go_enter Tryz.func88, Tryz.ntmps88
  go_wp2_with fail
  refine h0.mono ?_
  rintro e w1 ⟨rfl, hb1, bw1⟩
  have hb2 : Hid (Bd w.heap.size w.heap.size (34 :: qb (s.take 0)) w1) := hide1 hb1
  have bw2 : Hid (Below w.heap.size w w1) := hide1 (bw0.out.trans bw1)
  clear h0 hb1 bw1 hb0 bw0
  go_wp2_with fail
  rw [hlen.out]
  go_loopw [8] (fun s8 wr => ∃ i : Nat, s8 = .int .i64 (i : Nat) ∧ i ≤ s.length ∧ Hid (Bd w.heap.size w.heap.size (34 :: qb (s.take i)) wr) ∧ Hid (Below w.heap.size w wr)) (fun s8 _ => s.length - (intOf s8).toNat)
  case atStart => exact ⟨0, rfl, Nat.zero_le _, hb2, bw2⟩
  case round =>
    obtain ⟨i, rfl, hi, hb, hbw⟩ := hrel
    have hql : Hid ((34 :: qb (s.take i)).length ≤ 6000001) := hide1 (by have := (qb_len (s.take i)).2; rw [List.length_take] at this; simp; omega)
    by_cases hlt : i < s.length
    · have hsz : i < (st s).size := by rw [hlen.out]; exact hlt
      have hstep : Hid (34 :: qb (s.take i) ++ q1 s[i] = 34 :: qb (s.take (i + 1))) := hide1 (by
        have : s.take (i + 1) = s.take i ++ [s[i]] := (List.take_append_getElem hlt).symm
        rw [this, qb_snoc]; rfl)
      have hsB := hbw.out.size
      go_wp2_with fail
      refine (escape_d _ hb.out (by have := hql.out; omega) hsB).mono ?_
      rintro e w2 ⟨rfl, hb3, bw3⟩
      have hb4 : Hid (Bd w.heap.size w.heap.size (34 :: qb (s.take (i + 1))) w2) := hide1 (hstep.out ▸ hb3)
      have bw4 := hide1 (hbw.out.trans bw3)
      clear hb3 bw3 hb hbw hstep hql
      go_wp2
      go_roundw
      case rel => exact ⟨i + 1, by first | rfl | (congr 1; omega) | go_num, hlt, hb4, bw4⟩
      case measure => simp [intOf]; omega
    · obtain rfl : i = s.length := by omega
      have h5 := wb_d 34 hb.out (by have := hql.out; omega) hbw.out.size
      have hsz : ¬ s.length < (st s).size := by rw [hlen.out]; omega
      rw [List.take_length] at h5
      clear hql
      go_wp2_with fail
      refine h5.mono ?_
      rintro e w5 ⟨rfl, hb5, bw5⟩
      have bw6 := hide1 (hbw.out.trans bw5)
      have h6 := Builder_String_any w.heap.size w.heap.size _ w5 hb5 bw6.out.size
      clear h5 hb hbw hb5 bw5
      go_wp2_with fail
      refine h6.mono ?_
      rintro e w7 ⟨rfl, bw7⟩
      have bw8 := hide1 (bw6.out.trans bw7)
      clear h6 bw7 bw6
      go_wp2
      go_ret
      exact ⟨rfl, bw8.out⟩
def cj : List (List UInt8) → List UInt8
  | [] => []
  | x :: r => x ++ r.flatMap fun y => 44 :: y
theorem cj_snoc (xs : List (List UInt8)) (x : List UInt8) : cj (xs ++ [x]) = if xs = [] then x else cj xs ++ 44 :: x := by
  cases xs with
  | nil => simp [cj]
  | cons y r => simp [cj]
def cz : Nat → T → List UInt8
  | 0, _ => []
  | n + 1, .mk k i s l p => if k = 0 then [110, 117, 108, 108] else if k = 1 then Lib.formatBool (decide (i = 1)) else if k = 2 then Lib.itoa i else if k = 3 then qu s
    else if k = 4 then 91 :: (cj (l.map (cz n)) ++ [93]) else if k = 5 then 123 :: (cj (p.map fun q => qu q.1 ++ 58 :: cz n q.2) ++ [125]) else []
theorem wpList_aps {w : World} {ops : Array Oper} {rest : List Oper} {o : Oper} {a : Act} {Q : Exit → Act → World → Prop} (hgd : o.guard = none) (s x : Operand)
    (ho : o.op = .call { callee := .builtin .append, args := #[s, x], argTypes := #[22, 9] }) (B : Nat) (v : Value) (l : List UInt8) (hs : a.eval s = v) (hown : Ow w B v l)
    (m : List UInt8) (hx : a.eval x = .string (st m)) (hn : l.length + m.length ≤ 1000000) (hB : B ≤ w.heap.size)
    (h : ∀ v' w', Ow w' B v' (l ++ m) → w.grownBy w' v.ownBlock → (∀ k, v'.ownBlock = some k → v.ownBlock = some k ∨ w.heap.size ≤ k) → wpList Tryz.prog ops Q rest (a.put o.dst v') w') : wpList Tryz.prog ops Q (o :: rest) a w := by
  refine wpList_plain hgd fun K hK => ?_
  obtain ⟨i0, hi, he⟩ := Option.map_eq_some_iff.1 info_u8
  simp only [Prod.mk.injEq] at he
  obtain ⟨hz0, hz1, hz2⟩ := he
  have hsz := st_size m
  obtain ⟨v', w', hr, h2, h3, _⟩ := Go.Lib.run_append_own_string (P := Tryz.prog) (w := w) B 22 9 o.type 5 i0 Tryz.underlying22 Tryz.underlying9 hi hz0 hz1 hz2 v l.length (bv l) hown (st m) (by unfold maxLen; omega) (by omega) hB
  have hblk : ∀ k, v'.ownBlock = some k → v.ownBlock = some k ∨ w.heap.size ≤ k := by
    rcases id hown.2 with ⟨rfl, hl0⟩ | ⟨g, cap, cur, rfl, hbg, hg, hnc, hcm, hcs, htake⟩
    · obtain rfl : l = [] := List.length_eq_zero_iff.1 hl0
      obtain ⟨v2, w2, hr2, h4, _⟩ := Go.Lib.run_append_own_string (P := Tryz.prog) (w := w) w.heap.size 22 9 o.type 5 i0 Tryz.underlying22 Tryz.underlying9 hi hz0 hz1 hz2 (.slice none 0 0) 0 [] (World.ownsRow_nil w w.heap.size 5 1) (st m) (by unfold maxLen; omega) (by omega) (Nat.le_refl _)
      rw [hr] at hr2
      cases hr2
      intro k hk
      obtain ⟨_, ⟨rfl, _⟩ | ⟨g', cap', cur', rfl, hB', _⟩⟩ := h4
      · cases hk
      · cases hk; exact .inr hB'
    · intro k hk
      by_cases hroom : l.length + (st m).size ≤ cap
      · have hr2 := Go.Lib.run_append_room_string (P := Tryz.prog) w 22 9 o.type 5 i0 Tryz.underlying22 Tryz.underlying9 hi hz1 g l.length cap cur hg (st m) hroom (by rw [Nat.mul_one] at hcs; omega)
        rw [hr] at hr2
        cases hr2
        exact .inl hk
      · have holds : ∀ j u, (bv l)[j]? = some u → w.cell? ((⟨g, 0, none⟩ : Addr).add j) = some u := World.ownsRow.cells (g := g) hown rfl
        have hr2 := Go.Lib.run_append_grow_string (P := Tryz.prog) w 22 9 o.type 5 i0 (.int .u8 0) Tryz.underlying22 Tryz.underlying9 hi hz0 ⟨g, 0, none⟩ l.length cap (bv l) (by rw [hz1, bv_len, Nat.mul_one]) holds (st m) (by omega) (by omega) (by rw [hz2]; exact growslice_fits (by omega) (by omega))
        rw [hr] at hr2
        cases hr2
        cases hk
        exact .inr (Nat.le_refl _)
  have h2' : Ow w' B v' (l ++ m) := by
    unfold Ow
    rw [bv_app, List.length_append, ← hsz]
    exact h2
  unfold Oper.wp execOp
  simp only [ho, resolve, invoke, builtin, Sem.run_bind, Sem.run_pure, Result.andThen_ok, List.map_toArray, List.map_cons, List.map_nil, hs, hx, hr]
  exact hK _ _ (h v' w' h2' h3 hblk)
structure Wk (q : Nat) (ov ov' : Value) (w w' : World) : Prop where
  os : w'.os = w.os
  tape : w'.tape = w.tape
  output : w'.output = w.output
  size : w.heap.size ≤ w'.heap.size
  block : ∀ k, k < w.heap.size → k ≠ q → ov.ownBlock ≠ some k → w'.heap[k]? = w.heap[k]?
  own : ∀ k, ov'.ownBlock = some k → ov.ownBlock = some k ∨ w.heap.size ≤ k
theorem Wk.refl (q : Nat) (ov : Value) (w : World) : Wk q ov ov w w := ⟨rfl, rfl, rfl, Nat.le_refl _, fun _ _ _ _ => rfl, fun _ h => .inl h⟩
theorem Wk.trans {q : Nat} {a b c : Value} {w w1 w2 : World} (h : Wk q a b w w1) (h2 : Wk q b c w1 w2) : Wk q a c w w2 :=
  ⟨h2.os.trans h.os, h2.tape.trans h.tape, h2.output.trans h.output, Nat.le_trans h.size h2.size, fun k hk hq ho => (h2.block k (Nat.lt_of_lt_of_le hk h.size) hq fun e => (h.own k e).elim ho fun e => by omega).trans (h.block k hk hq ho),
    fun k e => (h2.own k e).elim (h.own k) fun e => .inr (Nat.le_trans h.size e)⟩
theorem Wk.below {q : Nat} {a b : Value} {w w1 w2 : World} (h : Wk q a b w w1) (h2 : Below w1.heap.size w1 w2) : Wk q a b w w2 :=
  ⟨h2.os.trans h.os, h2.tape.trans h.tape, h2.output.trans h.output, Nat.le_trans h.size h2.size, fun k hk hq ho => (h2.block k (Nat.lt_of_lt_of_le hk h.size)).trans (h.block k hk hq ho), h.own⟩
theorem Wk.ofB {q : Nat} {a : Value} {w w1 : World} (h : Below w.heap.size w w1) : Wk q a a w w1 := (Wk.refl q a w).below h
structure Wt (w : World) (q : Nat) (ov : Value) (z : List UInt8) : Prop where
  box : w.heap[q]? = some (.cells #[ov, .bool (decide (4096 < z.length))] 72 (0, 0))
  own : ∃ out, Ow w (q + 1) ov out ∧ out.length ≤ 4096 ∧ (4096 < z.length ∨ out = z)
theorem Wt.below {w w' : World} {q : Nat} {ov : Value} {z : List UInt8} (h : Wt w q ov z) (hb : Below w.heap.size w w') : Wt w' q ov z := by
  obtain ⟨h1, out, h2, h3⟩ := h
  exact ⟨(hb.block q (Array.getElem?_eq_some_iff.1 h1).1).trans h1, out, h2.later hb, h3⟩
theorem Ow.row {w : World} {q : Nat} {v : Value} {l : List UInt8} (h : Ow w (q + 1) v l) (c : Array Value) : Ow (w.setRow q c) (q + 1) v l :=
  own_kept h fun k e => setRow_other w q k c (by have := h.block k e; omega)
theorem Wk.row {w : World} {q : Nat} (ov ov' : Value) (c : Array Value) (ho : ∀ k, ov'.ownBlock = some k → ov.ownBlock = some k ∨ w.heap.size ≤ k) : Wk q ov ov' w (w.setRow q c) :=
  ⟨rfl, rfl, rfl, by simp [World.setRow], fun k _ hq _ => setRow_other w q k c hq, ho⟩
theorem sw_row {w : World} {q i : Nat} {c : Array Value} {v : Value} (h : w.heap[q]? = some (.cells c 72 (0, 0))) : w.setCell ⟨q, i, none⟩ v = w.setRow q (c.setIfInBounds i v) := setCell_eq_setRow w q i _ _ (0, 0) v h
set_option maxHeartbeats 1600000 in
set_option maxRecDepth 100000 in
theorem add_d {w : World} {q : Nat} {ov : Value} {z s : List UInt8} (h : Wt w q ov z) : Calls Tryz.prog 45 #[.pointer (some ⟨q, 0, none⟩), .string (st s)] w fun e w' => e = .returned (.tuple #[]) ∧ ∃ ov', Wt w' q ov' (z ++ s) ∧ Wk q ov ov' w w' := by
  obtain ⟨hbx, out, hown, hl, hz⟩ := h
  have hsz : Hid ((st s).size = s.length) := hide1 (st_size s)
  have f0 : w.frozen? ⟨q, 0, none⟩ = false := by simp [World.frozen?, hbx]
  have f1 : w.frozen? ⟨q, 1, none⟩ = false := by simp [World.frozen?, hbx]
  have hql := (Array.getElem?_eq_some_iff.1 hbx).1
  by_cases hov : 4096 < z.length
  · rw [decide_eq_true hov] at hbx
    have c1 : w.cell? ⟨q, 1, none⟩ = some (.bool true) := by simp only [World.cell?, hbx]; rfl
    have e1 : w.setCell ⟨q, 1, none⟩ (.bool true) = w.setRow q #[ov, .bool true] := by rw [sw_row hbx]; rfl
    have hn := setRow_heap w q _ #[ov, .bool true] _ _ hbx
    have c2 : (w.setCell ⟨q, 1, none⟩ (.bool true)).cell? ⟨q, 1, none⟩ = some (.bool true) := by rw [e1]; simp only [World.cell?, hn]; rfl
    have hf : Hid (Wt (w.setCell ⟨q, 1, none⟩ (.bool true)) q ov (z ++ s) ∧ Wk q ov ov w (w.setCell ⟨q, 1, none⟩ (.bool true))) := hide1 (by
      have hzs : 4096 < (z ++ s).length := by rw [List.length_append]; omega
      rw [e1]
      exact ⟨⟨by rw [decide_eq_true hzs]; exact hn, out, hown.row _, hl, .inl hzs⟩, Wk.row _ _ _ fun _ h => .inl h⟩)
    clear hown hz hbx e1 hn
    go_enter Tryz.func45, Tryz.ntmps45
    go_wp2
    go_end0
    exact ⟨rfl, ov, hf.out⟩
  · obtain rfl : out = z := hz.resolve_left hov
    rw [decide_eq_false hov] at hbx
    obtain ⟨oa, oc, rfl⟩ := hown.slc
    have c0 : w.cell? ⟨q, 0, none⟩ = some (.slice oa out.length oc) := by simp only [World.cell?, hbx]; rfl
    have c1 : w.cell? ⟨q, 1, none⟩ = some (.bool false) := by simp only [World.cell?, hbx]; rfl
    obtain ⟨N, hN⟩ : ∃ N, Hid (N = out.length) := ⟨_, hide1 rfl⟩
    by_cases hs : 4096 < out.length + s.length
    · have e1 : w.setCell ⟨q, 1, none⟩ (.bool true) = w.setRow q #[.slice oa out.length oc, .bool true] := by rw [sw_row hbx]; rfl
      have hn := setRow_heap w q _ #[.slice oa out.length oc, .bool true] _ _ hbx
      have c2 : (w.setCell ⟨q, 1, none⟩ (.bool true)).cell? ⟨q, 1, none⟩ = some (.bool true) := by rw [e1]; simp only [World.cell?, hn]; rfl
      have hf : Hid (Wt (w.setCell ⟨q, 1, none⟩ (.bool true)) q (.slice oa out.length oc) (out ++ s) ∧ Wk q (.slice oa out.length oc) (.slice oa out.length oc) w (w.setCell ⟨q, 1, none⟩ (.bool true))) := hide1 (by
        have hzs : 4096 < (out ++ s).length := by rw [List.length_append]; omega
        rw [e1]
        exact ⟨⟨by rw [decide_eq_true hzs]; exact hn, out, hown.row _, hl, .inl hzs⟩, Wk.row _ _ _ fun _ h => .inl h⟩)
      have ht : (4096 : Int) - (out.length : Int) < ((st s).size : Int) := by rw [hsz.out]; omega
      clear hown hz hbx e1 hn
      go_enter Tryz.func45, Tryz.ntmps45
      go_wp2
      go_end0
      exact ⟨rfl, _, hf.out⟩
    · have e1 : w.setCell ⟨q, 1, none⟩ (.bool false) = w.setRow q #[.slice oa out.length oc, .bool false] := by rw [sw_row hbx]; rfl
      have hn := setRow_heap w q _ #[.slice oa out.length oc, .bool false] _ _ hbx
      obtain ⟨w1, hw1⟩ : ∃ w1, w1 = w.setCell ⟨q, 1, none⟩ (.bool false) := ⟨_, rfl⟩
      rw [← hw1] at e1
      rw [← e1] at hn
      have c2 : w1.cell? ⟨q, 1, none⟩ = some (.bool false) := by simp only [World.cell?, hn]; rfl
      have c3 : w1.cell? ⟨q, 0, none⟩ = some (.slice oa out.length oc) := by simp only [World.cell?, hn]; rfl
      have hown1 : Ow w1 (q + 1) (.slice oa out.length oc) out := by rw [e1]; exact hown.row _
      have hk1 : Wk q (.slice oa out.length oc) (.slice oa out.length oc) w w1 := by rw [e1]; exact Wk.row _ _ _ fun _ h => .inl h
      have hs1 : q + 1 ≤ w1.heap.size := (Array.getElem?_eq_some_iff.1 hn).1
      have ht : ¬ (4096 : Int) - (out.length : Int) < ((st s).size : Int) := by rw [hsz.out]; omega
      have hz3 : Hid (decide (4096 < (out ++ s).length) = false ∧ (out ++ s).length ≤ 4096) := hide1 (by
        rw [List.length_append]
        exact ⟨decide_eq_false hs, by omega⟩)
      replace hk1 := hide1 hk1
      replace hn := hide1 hn
      clear hown hz hbx e1
      go_enter Tryz.func45, Tryz.ntmps45
      go_upto_region 1 with fail
      rw [← hw1]
      clear hw1
      go_wp2_with (at_builtin; refine wpList_aps rfl (.tmp 31) (.tmp 32) rfl (q + 1) _ out rfl hown1 s rfl (by omega) hs1 ?_; intro v2 w2 hown2 hg2 hb2; obtain ⟨oa2, oc2, hv2⟩ := hown2.slc; subst hv2; have hn2 : w2.heap[q]? = some (.cells #[.slice oa out.length oc, .bool false] 72 (0, 0)) := (hg2.block q (by omega) (fun e => by have := hown1.block q e.symm; omega)).trans hn.out; have c4 : w2.cell? ⟨q, 0, none⟩ = some (.slice oa out.length oc) := (by simp only [World.cell?, hn2]; rfl); have f4 : w2.frozen? ⟨q, 0, none⟩ = false := (by simp [World.frozen?, hn2]); replace hn2 := hide1 hn2; replace hown2 := hide1 hown2; replace hg2 := hide1 hg2; replace hb2 := hide1 hb2)
      go_end0
      rw [← List.length_append]
      have e3 : w2.setCell ⟨q, 0, none⟩ (.slice oa2 (out ++ s).length oc2) = w2.setRow q #[(.slice oa2 (out ++ s).length oc2), .bool false] := by rw [sw_row hn2.out]; rfl
      rw [e3]
      have hn3 := setRow_heap w2 q _ #[(.slice oa2 (out ++ s).length oc2), .bool false] _ _ hn2.out
      refine ⟨rfl, (.slice oa2 (out ++ s).length oc2), ⟨by rw [hz3.out.1]; exact hn3, out ++ s, hown2.out.row _, hz3.out.2, .inr rfl⟩, ?_⟩
      have hg := hg2.out
      exact hk1.out.trans ⟨hg.os, hg.tape, hg.output, by simpa [World.setRow] using hg.size, fun k hk hq ho => (setRow_other w2 q k _ hq).trans (hg.block k hk (fun e => ho e.symm)), hb2.out⟩
end Go.Proofs.YtdhmonlhlfkjbaaGreatDoor

namespace Go.Proofs.YtdhmonlhlfkjbaaGreatDoor
section
variable {α : Type} (lt : α → α → Bool)
def mg : List α → List α → List α
  | [], B => B
  | x :: A, B => B.takeWhile (lt · x) ++ x :: mg A (B.dropWhile (lt · x))
def ss (L : List α) : List α := L.foldl (fun P x => mg lt P [x]) []
def Ri (L : List α) : Prop := L.Pairwise fun a b => lt b a = false
structure Ok : Prop where
  irr : ∀ a, lt a a = false
  tr : ∀ a b c, lt a b = true → lt b c = true → lt a c = true
  wk : ∀ a b c, lt a b = true → lt a c = true ∨ lt c b = true
variable {lt}
theorem mg_nil (A : List α) : mg lt A [] = A := by
  induction A with
  | nil => rfl
  | cons x A ih => simp [mg, ih]
theorem tw_app {p : α → Bool} {B C : List α} (h : ∀ c ∈ C, p c = false) : (B ++ C).takeWhile p = B.takeWhile p ∧ (B ++ C).dropWhile p = B.dropWhile p ++ C := by
  induction B with
  | nil =>
    cases C with
    | nil => simp
    | cons c C => have := h c (by simp); simp [this]
  | cons b B ih =>
    by_cases hb : p b = true
    · simp [hb, ih.1, ih.2]
    · simp [hb]
theorem tw_all {p : α → Bool} {B C : List α} (h : ∀ b ∈ B, p b = true) : (B ++ C).takeWhile p = B ++ C.takeWhile p ∧ (B ++ C).dropWhile p = C.dropWhile p := by
  induction B with
  | nil => simp
  | cons b B ih =>
    have h1 := h b (by simp)
    have h2 := ih fun x hx => h x (by simp [hx])
    simp [h1, h2.1, h2.2]
theorem mg_split {A2 B2 : List α} : ∀ {A1 B1 : List α}, (∀ b ∈ B1, ∀ a ∈ A2, lt b a = true) → (∀ a ∈ A1, ∀ b ∈ B2, lt b a = false) → mg lt (A1 ++ A2) (B1 ++ B2) = mg lt A1 B1 ++ mg lt A2 B2
  | [], B1, h1, h2 => by
    cases A2 with
    | nil => simp [mg]
    | cons x A =>
      have h := tw_all (p := (lt · x)) (B := B1) (C := B2) fun b hb => h1 b hb x (by simp)
      simp only [List.nil_append, mg]
      rw [h.1, h.2, List.append_assoc]
  | x :: A1, B1, h1, h2 => by
    have h := tw_app (p := (lt · x)) (B := B1) (C := B2) fun b hb => h2 x (by simp) b hb
    simp only [List.cons_append, mg]
    rw [h.1, h.2, mg_split (fun b hb a ha => h1 b ((List.dropWhile_sublist _).subset hb) a ha) (fun a ha b hb => h2 a (by simp [ha]) b hb), List.append_assoc, List.cons_append]
theorem or_rot (p q r s : Prop) : (p ∨ q ∨ r ∨ s) ↔ ((q ∨ r) ∨ (p ∨ s)) := by grind
theorem mg_mem {x : α} : ∀ {A B : List α}, x ∈ mg lt A B ↔ x ∈ A ∨ x ∈ B
  | [], B => by simp [mg]
  | y :: A, B => by
    have h : x ∈ B ↔ x ∈ B.takeWhile (lt · y) ∨ x ∈ B.dropWhile (lt · y) := by
      rw [← List.mem_append, List.takeWhile_append_dropWhile]
    simp only [mg, List.mem_append, List.mem_cons, mg_mem (A := A), h]
    exact or_rot _ _ _ _
theorem mg_len : ∀ (A B : List α), (mg lt A B).length = A.length + B.length
  | [], B => by simp [mg]
  | y :: A, B => by
    have h := congrArg List.length (List.takeWhile_append_dropWhile (p := (lt · y)) (l := B))
    rw [List.length_append] at h
    simp only [mg, List.length_append, List.length_cons, mg_len A]
    omega
theorem mg_perm : ∀ (A B : List α), (mg lt A B).Perm (A ++ B)
  | [], B => by simp [mg]
  | y :: A, B => by
    simp only [mg, List.cons_append]
    refine List.perm_middle.trans (List.Perm.cons _ ?_)
    refine ((mg_perm A _).append_left _).trans ?_
    rw [← List.append_assoc]
    refine (List.perm_append_comm.append_right _).trans ?_
    rw [List.append_assoc, List.takeWhile_append_dropWhile]
theorem part (h : Ok lt) (x : α) : ∀ {A : List α}, Ri lt A → ∃ A1 A2, A = A1 ++ A2 ∧ (∀ a ∈ A1, lt x a = false) ∧ (∀ a ∈ A2, lt x a = true)
  | [], _ => ⟨[], [], rfl, by simp, by simp⟩
  | a :: A, hr => by
    have hr2 := List.pairwise_cons.1 hr
    cases hx : lt x a with
    | true => exact ⟨[], a :: A, rfl, by simp, fun b hb => by
        rcases List.mem_cons.1 hb with rfl | hb
        · exact hx
        · rcases h.wk x a b hx with h3 | h3
          · exact h3
          · rw [hr2.1 b hb] at h3; cases h3⟩
    | false =>
      obtain ⟨A1, A2, e, h1, h2⟩ := part h x hr2.2
      exact ⟨a :: A1, A2, by rw [e]; rfl, fun b hb => by
        rcases List.mem_cons.1 hb with rfl | hb
        · exact hx
        · exact h1 b hb, h2⟩
theorem part' (h : Ok lt) (x : α) : ∀ {A : List α}, Ri lt A → (∀ a ∈ A.dropWhile (lt · x), lt a x = false)
  | [], _ => by simp
  | a :: A, hr => by
    have hr2 := List.pairwise_cons.1 hr
    cases hx : lt a x with
    | true => simp only [List.dropWhile_cons, hx, if_true]; exact part' h x hr2.2
    | false =>
      simp only [List.dropWhile_cons, hx]
      intro b hb
      rcases List.mem_cons.1 (by simpa using hb) with rfl | hb
      · exact hx
      · cases hbx : lt b x with
        | false => rfl
        | true =>
          rcases h.wk b x a hbx with h3 | h3
          · rw [hr2.1 b hb] at h3; cases h3
          · rw [hx] at h3; cases h3
theorem tw_mem {p : α → Bool} {x : α} : ∀ {B : List α}, x ∈ B.takeWhile p → p x = true
  | [], h => by simp at h
  | b :: B, h => by
    rw [List.takeWhile_cons] at h
    split at h
    · rename_i hb
      rcases List.mem_cons.1 h with rfl | h
      · exact hb
      · exact tw_mem h
    · simp at h
theorem mg_ri (h : Ok lt) : ∀ {A B : List α}, Ri lt A → Ri lt B → Ri lt (mg lt A B)
  | [], B, _, hB => hB
  | x :: A, B, hA, hB => by
    have hA2 := List.pairwise_cons.1 hA
    have hd := part' h x hB
    have hB2 : Ri lt (B.takeWhile (lt · x) ++ B.dropWhile (lt · x)) := by rw [List.takeWhile_append_dropWhile]; exact hB
    have hB3 := List.pairwise_append.1 hB2
    refine List.pairwise_append.2 ⟨hB3.1, List.pairwise_cons.2 ⟨fun b hb => ?_, mg_ri h hA2.2 hB3.2.1⟩, fun a ha b hb => ?_⟩
    · rcases mg_mem.1 hb with hb | hb
      · exact hA2.1 b hb
      · exact hd b hb
    · have hax := tw_mem ha
      rcases List.mem_cons.1 hb with rfl | hb
      · cases e : lt b a with
        | false => rfl
        | true => have := h.tr _ _ _ e hax; rw [h.irr] at this; cases this
      · rcases mg_mem.1 hb with hb | hb
        · cases e : lt b a with
          | false => rfl
          | true => have := h.tr _ _ _ e hax; rw [hA2.1 b hb] at this; cases this
        · exact hB3.2.2 a ha b hb
theorem mg_one (h : Ok lt) {A B : List α} (x : α) (hA : Ri lt A) (hB : Ri lt B) : mg lt (mg lt A B) [x] = mg lt A (mg lt B [x]) := by
  obtain ⟨A1, A2, rfl, a1, a2⟩ := part h x hA
  obtain ⟨B1, B2, rfl, b1, b2⟩ := part h x hB
  have q : ∀ {a b : α}, lt x a = false → lt x b = true → lt a b = true := fun {a b} ha hb => by
    rcases h.wk x b a hb with h3 | h3
    · rw [ha] at h3; cases h3
    · exact h3
  have q2 : ∀ {a b : α}, lt x a = false → lt x b = true → lt b a = false := fun {a b} ha hb => by
    cases e : lt b a with
    | false => rfl
    | true => have := h.tr _ _ _ (q ha hb) e; rw [h.irr] at this; cases this
  have e1 : mg lt (A1 ++ A2) (B1 ++ B2) = mg lt A1 B1 ++ mg lt A2 B2 := mg_split (fun b hb a ha => q (b1 b hb) (a2 a ha)) (fun a ha b hb => q2 (a1 a ha) (b2 b hb))
  have ins : ∀ {S1 S2 : List α}, (∀ s ∈ S1, lt x s = false) → (∀ s ∈ S2, lt x s = true) → mg lt (S1 ++ S2) [x] = S1 ++ x :: S2 := fun {S1 S2} h1 h2 => by
    have e := mg_split (lt := lt) (A1 := S1) (A2 := S2) (B1 := []) (B2 := [x]) (by simp) (fun a ha b hb => by rcases List.mem_singleton.1 hb with rfl; exact h1 a ha)
    have e2 := mg_split (lt := lt) (A1 := []) (A2 := S2) (B1 := [x]) (B2 := []) (fun b hb a ha => by rcases List.mem_singleton.1 hb with rfl; exact h2 a ha) (by simp)
    simp only [List.nil_append, List.append_nil, mg_nil, mg] at e e2
    rw [e, e2]
    rfl
  rw [e1, ins (fun s hs => (mg_mem.1 hs).elim (a1 s) (b1 s)) (fun s hs => (mg_mem.1 hs).elim (a2 s) (b2 s)), ins b1 b2]
  rw [show B1 ++ x :: B2 = (B1 ++ [x]) ++ B2 by simp]
  rw [mg_split (B1 := B1 ++ [x]) (fun b hb a ha => by
    rcases List.mem_append.1 hb with hb | hb
    · exact q (b1 b hb) (a2 a ha)
    · rcases List.mem_singleton.1 hb with rfl; exact a2 a ha) (fun a ha b hb => q2 (a1 a ha) (b2 b hb))]
  have e3 := mg_split (lt := lt) (A1 := A1) (A2 := []) (B1 := B1) (B2 := [x]) (by simp) (fun a ha b hb => by rcases List.mem_singleton.1 hb with rfl; exact a1 a ha)
  simp only [List.append_nil, mg] at e3
  rw [e3]
  simp
theorem ss_snoc (L : List α) (x : α) : ss lt (L ++ [x]) = mg lt (ss lt L) [x] := by simp [ss]
theorem rev_ind {P : List α → Prop} (h0 : P []) (h1 : ∀ L x, P L → P (L ++ [x])) (L : List α) : P L := by
  have h : ∀ M : List α, P M.reverse := fun M => by
    induction M with
    | nil => exact h0
    | cons x M ih => rw [List.reverse_cons]; exact h1 _ _ ih
  have := h L.reverse
  rwa [List.reverse_reverse] at this
theorem ss_ri (h : Ok lt) (L : List α) : Ri lt (ss lt L) := by
  refine rev_ind (P := fun L => Ri lt (ss lt L)) List.Pairwise.nil (fun L x ih => ?_) L
  rw [ss_snoc]
  exact mg_ri h ih (List.pairwise_singleton _ _)
theorem ss_len (L : List α) : (ss lt L).length = L.length := by
  refine rev_ind (P := fun L => (ss lt L).length = L.length) rfl (fun L x ih => ?_) L
  rw [ss_snoc, mg_len, ih]
  simp
theorem ss_perm (L : List α) : (ss lt L).Perm L := by
  refine rev_ind (P := fun L => (ss lt L).Perm L) (List.Perm.refl _) (fun L x ih => ?_) L
  rw [ss_snoc]
  exact (mg_perm _ _).trans (ih.append_right _)
theorem ss_app (h : Ok lt) (L M : List α) : ss lt (L ++ M) = mg lt (ss lt L) (ss lt M) := by
  refine rev_ind (P := fun M => ss lt (L ++ M) = mg lt (ss lt L) (ss lt M)) ?_ (fun M x ih => ?_) M
  · simp [ss, mg_nil]
  · rw [← List.append_assoc, ss_snoc, ih, ss_snoc, mg_one h x (ss_ri h L) (ss_ri h M)]
end

section
variable {α : Type} {lt : α → α → Bool}
def sg (F : Nat → α) (a n : Nat) : List α := (List.range n).map fun i => F (a + i)
def sr (F : Nat → α) (a b n : Nat) : Nat → α := fun k => if a ≤ k ∧ k < a + n then F (k - a + b) else if b ≤ k ∧ k < b + n then F (k - b + a) else F k
def rot (F : Nat → α) (a m b : Nat) : Nat → α := fun k => if a ≤ k ∧ k < a + (b - m) then F (k - a + m) else if a + (b - m) ≤ k ∧ k < b then F (k - (b - m)) else F k
theorem sg_len (F : Nat → α) (a n : Nat) : (sg F a n).length = n := by simp [sg]
theorem sg_at {F : Nat → α} {a n j : Nat} (h : j < n) : (sg F a n)[j]? = some (F (a + j)) := by simp [sg, List.getElem?_map, List.getElem?_range h]
theorem sg_mem {F : Nat → α} {a n : Nat} {x : α} : x ∈ sg F a n ↔ ∃ k, a ≤ k ∧ k < a + n ∧ F k = x := by
  simp only [sg, List.mem_map, List.mem_range]
  constructor
  · rintro ⟨i, hi, rfl⟩
    exact ⟨a + i, by omega, by omega, rfl⟩
  · rintro ⟨k, h1, h2, rfl⟩
    exact ⟨k - a, by omega, by congr 1; omega⟩
theorem sg_congr {F G : Nat → α} {a b n : Nat} (h : ∀ i, i < n → F (a + i) = G (b + i)) : sg F a n = sg G b n := by
  refine List.map_congr_left fun i hi => h i (List.mem_range.1 hi)
theorem sg_app (F : Nat → α) (a n m : Nat) : sg F a (n + m) = sg F a n ++ sg F (a + n) m := by
  simp only [sg, List.range_add, List.map_append, List.map_map]
  congr 1
  refine List.map_congr_left fun i _ => ?_
  simp [Nat.add_assoc]
theorem sg_one (F : Nat → α) (a : Nat) : sg F a 1 = [F a] := by simp [sg]
theorem sg_nil (F : Nat → α) (a : Nat) : sg F a 0 = [] := rfl
theorem sg_cut (F : Nat → α) {a m b : Nat} (h1 : a ≤ m) (h2 : m ≤ b) : sg F a (b - a) = sg F a (m - a) ++ sg F m (b - m) := by
  have := sg_app F a (m - a) (b - m)
  rw [show m - a + (b - m) = b - a by omega, show a + (m - a) = m by omega] at this
  exact this
theorem rot_id (F : Nat → α) {a m b : Nat} (h : a = m ∨ m = b) : rot F a m b = F := by
  funext k
  unfold rot
  rcases h with rfl | rfl
  · split
    · congr 1; omega
    · split
      · omega
      · rfl
  · split
    · omega
    · split
      · congr 1; omega
      · rfl
theorem rot_gt (F : Nat → α) {m i j : Nat} (h1 : j < i) (h2 : i ≤ m) : rot (sr F (m - i) m j) (m - (i - j)) m (m + j) = rot F (m - i) m (m + j) := by
  funext k
  unfold rot sr
  try dsimp only
  (repeat' split) <;> first | rfl | omega | (congr 1; omega)
theorem rot_lt (F : Nat → α) {m i j : Nat} (h1 : i < j) (h2 : i ≤ m) : rot (sr F (m - i) (m + j - i) i) (m - i) m (m + (j - i)) = rot F (m - i) m (m + j) := by
  funext k
  unfold rot sr
  try dsimp only
  (repeat' split) <;> first | rfl | omega | (congr 1; omega)
theorem rot_eq (F : Nat → α) {m i : Nat} (h2 : i ≤ m) : sr F (m - i) m i = rot F (m - i) m (m + i) := by
  funext k
  unfold rot sr
  try dsimp only
  (repeat' split) <;> first | rfl | omega | (congr 1; omega)
theorem sr_0 (F : Nat → α) (a b : Nat) : sr F a b 0 = F := by
  funext k
  unfold sr
  try dsimp only
  (repeat' split) <;> first | rfl | omega
theorem sr_s (F : Nat → α) {a b i : Nat} (h : a + i < b) : sr (sr F a b i) (a + i) (b + i) 1 = sr F a b (i + 1) := by
  funext k
  unfold sr
  try dsimp only
  (repeat' split) <;> first | rfl | omega | (congr 1; omega)
theorem rot_up (F : Nat → α) {a k : Nat} (h : a ≤ k) : sr (rot F a (a + 1) (k + 1)) k (k + 1) 1 = rot F a (a + 1) (k + 2) := by
  funext x
  unfold rot sr
  try dsimp only
  (repeat' split) <;> first | rfl | omega | (congr 1; omega)
theorem rot_dn (F : Nat → α) {m k : Nat} (h : k + 1 ≤ m) : sr (rot F (k + 1) m (m + 1)) (k + 1) k 1 = rot F k m (m + 1) := by
  funext x
  unfold rot sr
  try dsimp only
  (repeat' split) <;> first | rfl | omega | (congr 1; omega)
theorem rot_mg {F : Nat → α} {a s m e b : Nat} (h1 : a ≤ s) (h2 : s ≤ m) (h3 : m ≤ e) (h4 : e ≤ b)
    (hl : ∀ k, m ≤ k → k < e → ∀ k', s ≤ k' → k' < m → lt (F k) (F k') = true) (hg : ∀ k', a ≤ k' → k' < s → ∀ k, e ≤ k → k < b → lt (F k) (F k') = false) :
    mg lt (sg F a (m - a)) (sg F m (b - m)) = mg lt (sg (rot F s m e) a (s - a)) (sg (rot F s m e) s (e - m)) ++ mg lt (sg (rot F s m e) (s + (e - m)) (m - s)) (sg (rot F s m e) e (b - e)) := by
  have e1 : sg (rot F s m e) a (s - a) = sg F a (s - a) := sg_congr fun i hi => by
    unfold rot; rw [if_neg (by omega), if_neg (by omega)]
  have e2 : sg (rot F s m e) s (e - m) = sg F m (e - m) := sg_congr fun i hi => by
    unfold rot; rw [if_pos (by omega)]; congr 1; omega
  have e3 : sg (rot F s m e) (s + (e - m)) (m - s) = sg F s (m - s) := sg_congr fun i hi => by
    unfold rot; rw [if_neg (by omega), if_pos (by omega)]; congr 1; omega
  have e4 : sg (rot F s m e) e (b - e) = sg F e (b - e) := sg_congr fun i hi => by
    unfold rot; rw [if_neg (by omega), if_neg (by omega)]
  rw [e1, e2, e3, e4, sg_cut F h1 h2, sg_cut F h3 h4]
  refine mg_split (fun x hx y hy => ?_) (fun y hy x hx => ?_)
  · obtain ⟨k, g1, g2, rfl⟩ := sg_mem.1 hx
    obtain ⟨k', g3, g4, rfl⟩ := sg_mem.1 hy
    exact hl k g1 (by omega) k' g3 (by omega)
  · obtain ⟨k, g1, g2, rfl⟩ := sg_mem.1 hx
    obtain ⟨k', g3, g4, rfl⟩ := sg_mem.1 hy
    exact hg k' g3 (by omega) k g1 (by omega)
def Mgd (lt : α → α → Bool) (F : Nat → α) (a m b : Nat) (G : Nat → α) : Prop := (∀ k, k < a ∨ b ≤ k → G k = F k) ∧ sg G a (b - a) = mg lt (sg F a (m - a)) (sg F m (b - m))
theorem mg_l1 {x : α} {B : List α} (h : ∀ b ∈ B, lt b x = false) : mg lt [x] B = x :: B := by
  have := tw_app (p := (lt · x)) (B := []) h
  simp only [List.nil_append, List.takeWhile_nil, List.dropWhile_nil] at this
  simp [mg, this.1, this.2]
theorem mg_r1 {x : α} : ∀ {A : List α}, (∀ a ∈ A, lt x a = false) → mg lt A [x] = A ++ [x]
  | [], _ => rfl
  | a :: A, h => by
    have h1 := h a (by simp)
    have h2 := mg_r1 (A := A) (x := x) fun b hb => h b (List.mem_cons_of_mem _ hb)
    simp [mg, h1, h2]
theorem mgd_l {F : Nat → α} {a i b : Nat} (h1 : a + 1 ≤ i) (h2 : i ≤ b) (hl : ∀ k, a + 1 ≤ k → k < i → lt (F k) (F a) = true) (hg : ∀ k, i ≤ k → k < b → lt (F k) (F a) = false) : Mgd lt F a (a + 1) b (rot F a (a + 1) i) := by
  refine ⟨fun k hk => by unfold rot; rw [if_neg (by omega), if_neg (by omega)], ?_⟩
  rw [rot_mg (s := a) (e := i) (Nat.le_refl _) (by omega) h1 h2 (fun k g1 g2 k' g3 g4 => by obtain rfl : k' = a := by omega
                                                                                            exact hl k g1 g2) (fun k' g1 g2 => by omega)]
  rw [Nat.sub_self, sg_nil, show a + 1 - a = 1 by omega, sg_one]
  simp only [mg]
  have hx : rot F a (a + 1) i (a + (i - (a + 1))) = F a := by unfold rot; rw [if_neg (by omega), if_pos (by omega)]; congr 1; omega
  rw [hx]
  have hB : ∀ x ∈ sg (rot F a (a + 1) i) i (b - i), lt x (F a) = false := fun x hx => by
    obtain ⟨k, g1, g2, rfl⟩ := sg_mem.1 hx
    have : rot F a (a + 1) i k = F k := by unfold rot; rw [if_neg (by omega), if_neg (by omega)]
    rw [this]
    exact hg k g1 (by omega)
  have hm := mg_l1 hB
  simp only [mg] at hm
  rw [hm, sg_cut (rot F a (a + 1) i) (a := a) (m := i) (b := b) (by omega) h2]
  rw [sg_cut (rot F a (a + 1) i) (a := a) (m := i - 1) (b := i) (by omega) (by omega), show i - (i - 1) = 1 by omega, sg_one, show i - 1 = a + (i - (a + 1)) by omega, hx]
  rw [show a + (i - (a + 1)) - a = i - (a + 1) by omega]
  simp
theorem mgd_r {F : Nat → α} {a i m : Nat} (h1 : a ≤ i) (h2 : i ≤ m) (hl : ∀ k, a ≤ k → k < i → lt (F m) (F k) = false) (hg : ∀ k, i ≤ k → k < m → lt (F m) (F k) = true) : Mgd lt F a m (m + 1) (rot F i m (m + 1)) := by
  refine ⟨fun k hk => by unfold rot; rw [if_neg (by omega), if_neg (by omega)], ?_⟩
  rw [rot_mg (s := i) (e := m + 1) h1 h2 (by omega) (Nat.le_refl _) (fun k g1 g2 k' g3 g4 => by obtain rfl : k = m := by omega
                                                                                                exact hg k' g3 g4) (fun k' g1 g2 k g3 g4 => by omega)]
  rw [Nat.sub_self, sg_nil, show m + 1 - m = 1 by omega, sg_one, mg_nil]
  have hx : rot F i m (m + 1) i = F m := by unfold rot; rw [if_pos (by omega)]; congr 1; omega
  rw [hx, mg_r1 (fun x hx => by
    obtain ⟨k, g1, g2, rfl⟩ := sg_mem.1 hx
    have : rot F i m (m + 1) k = F k := by unfold rot; rw [if_neg (by omega), if_neg (by omega)]
    rw [this]
    exact hl k g1 (by omega))]
  rw [sg_cut (rot F i m (m + 1)) (a := a) (m := i) (b := m + 1) h1 (by omega), sg_cut (rot F i m (m + 1)) (a := i) (m := i + 1) (b := m + 1) (by omega) (by omega), show i + 1 - i = 1 by omega, sg_one, hx, show m + 1 - (i + 1) = m - i by omega]
  simp
def Rs (lt : α → α → Bool) (F : Nat → α) (a b : Nat) : Prop := ∀ i j, a ≤ i → i < j → j < b → lt (F j) (F i) = false
theorem rs_sg {F : Nat → α} {a b : Nat} : Rs lt F a b ↔ Ri lt (sg F a (b - a)) := by
  unfold Ri sg
  rw [List.pairwise_map]
  constructor
  · intro h
    refine List.pairwise_lt_range.imp_of_mem fun {i j} hi hj hij => ?_
    rw [List.mem_range] at hi hj
    exact h _ _ (by omega) (by omega) (by omega)
  · intro h i j h1 h2 h3
    have := List.pairwise_iff_getElem.1 h (i - a) (j - a) (by simp; omega) (by simp; omega) (by omega)
    simp only [List.getElem_range] at this
    rw [show a + (i - a) = i by omega, show a + (j - a) = j by omega] at this
    exact this
theorem mgd_two {F G H : Nat → α} {a s m e b : Nat} (h1 : a ≤ s) (h2 : s ≤ m) (h3 : m ≤ e) (h4 : e ≤ b)
    (hl : ∀ k, m ≤ k → k < e → ∀ k', s ≤ k' → k' < m → lt (F k) (F k') = true) (hg : ∀ k', a ≤ k' → k' < s → ∀ k, e ≤ k → k < b → lt (F k) (F k') = false)
    (hG : Mgd lt (rot F s m e) a s (s + (e - m)) G) (hH : Mgd lt G (s + (e - m)) e b H) : Mgd lt F a m b H := by
  refine ⟨fun k hk => ?_, ?_⟩
  · rw [hH.1 k (by omega), hG.1 k (by omega)]
    unfold rot; rw [if_neg (by omega), if_neg (by omega)]
  · rw [rot_mg h1 h2 h3 h4 hl hg, sg_cut H (a := a) (m := s + (e - m)) (b := b) (by omega) (by omega)]
    have e1 : sg H a (s + (e - m) - a) = sg G a (s + (e - m) - a) := sg_congr fun i hi => hH.1 _ (by omega)
    have e2 : sg G (s + (e - m)) (e - (s + (e - m))) = sg (rot F s m e) (s + (e - m)) (m - s) := by
      rw [show e - (s + (e - m)) = m - s by omega]
      exact sg_congr fun i hi => hG.1 _ (by omega)
    have e3 : sg G e (b - e) = sg (rot F s m e) e (b - e) := sg_congr fun i hi => hG.1 _ (by omega)
    rw [e1, hG.2, hH.2, e2, e3, show s + (e - m) - s = e - m by omega]
theorem mgd_nl {F : Nat → α} {a b : Nat} : Mgd lt F a a b F := ⟨fun _ _ => rfl, by simp [sg_nil, mg]⟩
theorem mgd_nr {F : Nat → α} {a b : Nat} : Mgd lt F a b b F := ⟨fun _ _ => rfl, by simp [sg_nil, mg_nil]⟩
def Std (lt : α → α → Bool) (F : Nat → α) (a b : Nat) (G : Nat → α) : Prop := (∀ k, k < a ∨ b ≤ k → G k = F k) ∧ sg G a (b - a) = ss lt (sg F a (b - a))
theorem std_rs (h : Ok lt) {F G : Nat → α} {a b : Nat} (hs : Std lt F a b G) : Rs lt G a b := by
  rw [rs_sg, hs.2]; exact ss_ri h _
theorem std_1 {F : Nat → α} {a b : Nat} (h : b ≤ a + 1) : Std lt F a b F := ⟨fun _ _ => rfl, by
  rcases (by omega : b - a = 0 ∨ b - a = 1) with e | e <;> rw [e] <;> simp [sg, ss, mg]⟩
theorem std_s {F G H : Nat → α} {a m : Nat} (h : a ≤ m) (hs : Std lt F a m G) (hm : Mgd lt G a m (m + 1) H) : Std lt F a (m + 1) H := by
  refine ⟨fun k hk => by rw [hm.1 k (by omega), hs.1 k (by omega)], ?_⟩
  rw [hm.2, hs.2, sg_cut F h (Nat.le_succ m), show m + 1 - m = 1 by omega, sg_one, sg_one, hs.1 m (by omega), ss_snoc]
end
end Go.Proofs.YtdhmonlhlfkjbaaGreatDoor

namespace Go.Proofs.YtdhmonlhlfkjbaaGreatDoor
open Go.Op
abbrev bl := bytesLess
theorem u8_tri (a b : UInt8) : a < b ∨ a = b ∨ b < a := by
  rcases Nat.lt_trichotomy a.toNat b.toNat with h | h | h
  · exact .inl h
  · exact .inr (.inl (UInt8.toNat_inj.1 h))
  · exact .inr (.inr h)
theorem bl_irr : ∀ a : List UInt8, bl a a = false
  | [] => rfl
  | x :: a => by simp [bl, bytesLess, show bytesLess a a = false from bl_irr a]
theorem bl_c {x y : UInt8} {a b : List UInt8} : bl (x :: a) (y :: b) = true ↔ x < y ∨ (x = y ∧ bl a b = true) := by
  simp [bl, bytesLess]
theorem bl_tr : ∀ a b c : List UInt8, bl a b = true → bl b c = true → bl a c = true
  | _, [], _, h, _ => by simp [bl, bytesLess] at h
  | _, _ :: _, [], _, h => by simp [bl, bytesLess] at h
  | [], _ :: _, _ :: _, _, _ => rfl
  | x :: a, y :: b, z :: c, h1, h2 => by
    rw [bl_c] at h1 h2 ⊢
    rcases h1 with h1 | ⟨rfl, h1⟩
    · rcases h2 with h2 | ⟨rfl, h2⟩
      · exact .inl (UInt8.lt_trans h1 h2)
      · exact .inl h1
    · rcases h2 with h2 | ⟨rfl, h2⟩
      · exact .inl h2
      · exact .inr ⟨rfl, bl_tr a b c h1 h2⟩
theorem bl_tot : ∀ a b : List UInt8, bl a b = true ∨ a = b ∨ bl b a = true
  | [], [] => .inr (.inl rfl)
  | [], _ :: _ => .inl rfl
  | _ :: _, [] => .inr (.inr rfl)
  | x :: a, y :: b => by
    rw [bl_c, bl_c]
    rcases u8_tri x y with h | rfl | h
    · exact .inl (.inl h)
    · rcases bl_tot a b with h | rfl | h
      · exact .inl (.inr ⟨rfl, h⟩)
      · exact .inr (.inl rfl)
      · exact .inr (.inr (.inr ⟨rfl, h⟩))
    · exact .inr (.inr (.inl h))
theorem bl_wk (a b c : List UInt8) (h : bl a b = true) : bl a c = true ∨ bl c b = true := by
  rcases bl_tot a c with h1 | rfl | h1
  · exact .inl h1
  · exact .inr h
  · exact .inr (bl_tr _ _ _ h1 h)
theorem cmp_bl : ∀ a b : List UInt8, (Lib.compareBytes a b < 0 ↔ bl a b = true)
  | [], [] => by simp [Lib.compareBytes, bl, bytesLess]
  | [], _ :: _ => by simp [Lib.compareBytes, bl, bytesLess]
  | _ :: _, [] => by simp [Lib.compareBytes, bl, bytesLess]
  | x :: a, y :: b => by
    rw [bl_c, Lib.compareBytes]
    rcases u8_tri x y with h | rfl | h
    · simp [h]
    · have hx : ¬ x < x := UInt8.lt_irrefl x
      simp [hx, cmp_bl a b]
    · have h2 : ¬ x < y := fun h2 => UInt8.lt_irrefl x (UInt8.lt_trans h2 h)
      have h3 : x ≠ y := fun e => by subst e; exact h2 h
      simp [h, h2, h3]
end Go.Proofs.YtdhmonlhlfkjbaaGreatDoor

namespace Go.Proofs.YtdhmonlhlfkjbaaGreatDoor
open Go.RowKit

theorem gd_list {n : Nat} {k i : Int} {s : List UInt8} {l : List T} {p : List (List UInt8 × T)} (h : gd n (.mk k i s l p) = true) : (l = [] ∨ ∃ m, n = m + 1 ∧ ∀ t ∈ l, gd m t = true) ∧ (p = [] ∨ ∃ m, n = m + 1 ∧ ∀ q ∈ p, gd m q.2 = true) ∧ (p.map (·.1)).Nodup ∧ (k ≠ 5 → p = []) := by
  unfold gd at h
  rw [Bool.and_eq_true] at h
  obtain ⟨h1, h2⟩ := h
  have h1 : spB k i s l.length p.length = false := by simpa using h1
  have hl : k ≠ 4 → l = [] := fun hk => by
    cases l with
    | nil => rfl
    | cons a l => rw [spB_3 ⟨by simp, hk⟩] at h1; cases h1
  have hp : k ≠ 5 → p = [] := fun hk => by
    cases p with
    | nil => rfl
    | cons a p => rw [spB_4 ⟨by simp, hk⟩] at h1; cases h1
  refine ⟨?_, ?_, ?_, hp⟩
  · by_cases k4 : k = 4
    · subst k4
      simp only [show ¬ (4 : Int) = 0 by omega, show ¬ (4 : Int) = 1 by omega, show ¬ (4 : Int) = 2 by omega, show ¬ (4 : Int) = 3 by omega, if_false, if_true] at h2
      cases n with
      | zero => cases h2
      | succ n => exact .inr ⟨n, rfl, List.all_eq_true.1 h2⟩
    · exact .inl (hl k4)
  · by_cases k5 : k = 5
    · subst k5
      simp only [show ¬ (5 : Int) = 0 by omega, show ¬ (5 : Int) = 1 by omega, show ¬ (5 : Int) = 2 by omega, show ¬ (5 : Int) = 3 by omega, show ¬ (5 : Int) = 4 by omega, if_false, if_true] at h2
      cases n with
      | zero => cases h2
      | succ n =>
        rw [Bool.and_eq_true] at h2
        refine .inr ⟨n, rfl, fun q hq => ?_⟩
        have := List.all_eq_true.1 h2.1 q hq
        rw [Bool.and_eq_true] at this
        exact this.2
    · exact .inl (hp k5)
  · by_cases k5 : k = 5
    · subst k5
      simp only [show ¬ (5 : Int) = 0 by omega, show ¬ (5 : Int) = 1 by omega, show ¬ (5 : Int) = 2 by omega, show ¬ (5 : Int) = 3 by omega, show ¬ (5 : Int) = 4 by omega, if_false, if_true] at h2
      cases n with
      | zero => cases h2
      | succ n =>
        rw [Bool.and_eq_true] at h2
        exact of_decide_eq_true h2.2
    · rw [hp k5]; simp
section
variable {k i : Int} {s : List UInt8} {sa pa sa' pa' : Option Addr} {A P A' P' sc pc sc' pc' : Nat} {w : World}
end
section
variable {F : Fence} {n : Nat} {P : Program} {ops : Array Oper} {Q : Exit → Act → World → Prop}
end
section
variable {F : Fence} {n : Nat} {P : Program} {ops : Array Oper} {Q : Exit → Act → World → Prop}
def OpI (F : Fence) (n : Nat) (P : Program) (l : List Oper) (Q : Exit → Act → World → Prop) (o : Oper) (a : Act) (w : World) (K : Act → World → Prop) : Prop :=
  (Region.wanted o (yielded l.toArray a.tmps) = true ∧ o.wpIn F n P a w K Q) ∨ (Region.wanted o (yielded l.toArray a.tmps) = false ∧ K (a.put o.dst undef) w)
theorem OpI.plain {l : List Oper} {o : Oper} {a : Act} {w : World} {K : Act → World → Prop} (hg : o.guard = none) (h : o.wpIn F n P a w K Q) : OpI F n P l Q o a w K := .inl ⟨by unfold Region.wanted; rw [hg], h⟩
theorem OpI.want {l : List Oper} {o : Oper} {a : Act} {w : World} {K : Act → World → Prop} {j d : Nat} {b : Bool} (hg : o.guard = some (j, b)) (hd : (l[j]?).bind (·.dst) = some d) (hs : d < a.tmps.size) (hv : a.tmps.getD d undef = .bool b) (h : o.wpIn F n P a w K Q) : OpI F n P l Q o a w K := by
  refine .inl ⟨?_, h⟩
  have ht : a.tmps[d]? = some (.bool b) := by
    rw [Array.getElem?_eq_getElem hs]
    simpa [Array.getD, hs] using hv
  unfold Region.wanted yielded
  rw [hg]
  simp [hd, ht]
theorem OpI.skip {l : List Oper} {o : Oper} {a : Act} {w : World} {K : Act → World → Prop} {j d : Nat} {b : Bool} (hg : o.guard = some (j, b)) (hd : (l[j]?).bind (·.dst) = some d) (hs : d < a.tmps.size) (hv : a.tmps.getD d undef = .bool (!b)) (h : K (a.put o.dst undef) w) : OpI F n P l Q o a w K := by
  refine .inr ⟨?_, h⟩
  have ht : a.tmps[d]? = some (.bool (!b)) := by
    rw [Array.getElem?_eq_getElem hs]
    simpa [Array.getD, hs] using hv
  unfold Region.wanted yielded
  rw [hg]
  cases b <;> simp [hd, ht]
end
section
variable {F : Fence} {n : Nat} {P : Program} {Q : Exit → Act → World → Prop}
end
end Go.Proofs.YtdhmonlhlfkjbaaGreatDoor

namespace Go.Proofs.YtdhmonlhlfkjbaaGreatDoor
open Go.RowKit Go.Shelf Go.Maps
attribute [local go_sem] Oper.semAt_some

structure Pb (w : World) (c c' : Array Value) (bm mb mn : Nat) (D : DataW Unit) (W : World) : Prop where
  bw : Below w.heap.size w W
  b2 : W.heap[w.heap.size]? = some (.cells c 55 (0, 0))
  b3 : W.heap[w.heap.size + 1]? = some (.cells c' 55 (0, 0))
  b4 : W.heap[w.heap.size + 2]? = some (.cells #[.bool false] 4 (0, 0))
  b5 : W.heap[bm]? = some (.cells #[.map (some mb)] 179 (0, 0))
  mp : W.ownsMap Tryz.prog 9 (plainElem Tryz.prog 3) mb mn D
theorem Pb.later {w W W' : World} {c c' : Array Value} {bm mb mn : Nat} {D : DataW Unit} (h : Pb w c c' bm mb mn D W) (k : Below W.heap.size W W') : Pb w c c' bm mb mn D W' :=
  ⟨h.bw.trans (k.mono h.bw.size), (k.block _ (Array.getElem?_eq_some_iff.1 h.b2).1).trans h.b2, (k.block _ (Array.getElem?_eq_some_iff.1 h.b3).1).trans h.b3, (k.block _ (Array.getElem?_eq_some_iff.1 h.b4).1).trans h.b4, (k.block _ (Array.getElem?_eq_some_iff.1 h.b5).1).trans h.b5, map_same h.mp (k.block _ h.mp.lt)⟩
theorem Pb.own {w W W' : World} {c c' : Array Value} {bm mb mn B : Nat} {D : DataW Unit} {row : Option Nat} (h : Pb w c c' bm mb mn D W) (hg : W.grownBy W' row) (hr : ∀ r, row = some r → B ≤ r) (h1 : w.heap.size + 3 ≤ B) (h2 : bm < B) (h3 : mb < B) : Pb w c c' bm mb mn D W' := by
  have ne : ∀ j, j < B → some j ≠ row := fun j hj e => by have := hr j e.symm; omega
  exact ⟨⟨hg.os.trans h.bw.os, hg.tape.trans h.bw.tape, hg.output.trans h.bw.output, Nat.le_trans h.bw.size hg.size, fun j hj => (hg.block j (Nat.lt_of_lt_of_le hj h.bw.size) (ne j (by omega))).trans (h.bw.block j hj)⟩, (hg.block _ (Array.getElem?_eq_some_iff.1 h.b2).1 (ne _ (by omega))).trans h.b2, (hg.block _ (Array.getElem?_eq_some_iff.1 h.b3).1 (ne _ (by omega))).trans h.b3, (hg.block _ (Array.getElem?_eq_some_iff.1 h.b4).1 (ne _ (by omega))).trans h.b4, (hg.block _ (Array.getElem?_eq_some_iff.1 h.b5).1 (ne _ h2)).trans h.b5, map_same h.mp (hg.block _ h.mp.lt (ne _ h3))⟩
attribute [local go_sem] Oper.semAt_some

end Go.Proofs.YtdhmonlhlfkjbaaGreatDoor

namespace Go.Proofs.YtdhmonlhlfkjbaaGreatDoor
open Go.RowKit Go.Shelf
section
variable {k i : Int} {s : List UInt8} {sa pa sa' pa' : Option Addr} {A P A' P' sc pc sc' pc' : Nat} {w : World}
end
end Go.Proofs.YtdhmonlhlfkjbaaGreatDoor

namespace Go.Proofs.YtdhmonlhlfkjbaaGreatDoor
open Go.RowKit
section
variable {P : Program} {Q : Exit → Act → World → Prop}
end
end Go.Proofs.YtdhmonlhlfkjbaaGreatDoor

namespace Go.Proofs.YtdhmonlhlfkjbaaGreatDoor
open Go.RowKit Go.Shelf
section
variable {P : Program} {Q : Exit → Act → World → Prop}
def Hop5 (P : Program) (Q : Exit → Act → World → Prop) (l : List Oper) (n : Nat) (a0 : Act) (dd : Nat → Nat) (Rr : (Nat → Bool) → Nat → Value → World → Prop) (M : (Nat → Bool) → World → Prop) (i : Nat) (o : Oper) : Prop :=
  ∀ (D : Nat → Bool) (a : Act) (w : World), M D w → (∀ t, (∀ j, j < n → dd j ≠ t) → a.tmps.getD t undef = a0.tmps.getD t undef) → (∀ e ∈ o.after, Region.binds .any e = true → Rr D e.on (a.tmps.getD (dd e.on) undef) w ∧ D e.on = true) → D i = false → (∀ j oj, l[j]? = some oj → D j = true → ∀ e ∈ oj.after, Region.binds .any e = true → D e.on = true) →
    ∀ K : Act → World → Prop, (∀ v w', Rr (add1 D i) i v w' → M (add1 D i) w' → (∀ j u, j ≠ i → u = a.tmps.getD (dd j) undef → Rr D j u w → Rr (add1 D i) j u w') → K (a.put o.dst v) w') → Region.wanted o (yielded l.toArray a.tmps) = true ∧ o.wp P a w K Q
theorem wp_rel5 {l : List Oper} {id : Nat} (a0 : Act) (w0 : World) (Rr : (Nat → Bool) → Nat → Value → World → Prop) (M : (Nat → Bool) → World → Prop) (dd : Nat → Nat) (hm : P.follows .mixedOrders = true) (hac : acycB l.toArray = true) (n : Nat) (hn : l.length = n)
    (hdst : ∀ i o, l[i]? = some o → (o.dst = some (dd i) ∧ dd i < a0.tmps.size) ∨ (o.dst = none ∧ ∀ D v w, Rr D i v w → Rr D i undef w) ∧ a0.tmps.size ≤ dd i)
    (hinj : ∀ i j, i < n → j < n → dd i = dd j → i = j) (hdf : a0.defers = []) (h0 : M (fun _ => false) w0.drew)
    (hop : ∀ i o, l[i]? = some o → Hop5 P Q l n a0 dd Rr M i o)
    (hend : ∀ (D : Nat → Bool) (a : Act) (w : World), (∀ i, i < n → D i = true) → a.defers = [] → a.tmps.size = a0.tmps.size → M D w → (∀ t, (∀ j, j < n → dd j ≠ t) → a.tmps.getD t undef = a0.tmps.getD t undef) → (∀ i, i < n → Rr D i (a.tmps.getD (dd i) undef) w) → a = (l.filterMap (·.dst)).foldl (fun s d => s.put (some d) (a.tmps.getD d undef)) a0 → Q .normal a w) : (Code.region id l.toArray true).wp P Q a0 w0 := by
  subst hn
  have hacyc := acyc_of (ops := l.toArray) hac
  refine wp_region_any hm (wpAny_sym hacyc (fun D a w => a.defers = [] ∧ a.tmps.size = a0.tmps.size ∧ M D w ∧ (∀ t, (∀ j, j < l.length → dd j ≠ t) → a.tmps.getD t undef = a0.tmps.getD t undef) ∧ (∀ i, i < l.length → D i = true → Rr D i (a.tmps.getD (dd i) undef) w) ∧ ∀ j oj, l[j]? = some oj → D j = true → ∀ e ∈ oj.after, Region.binds .any e = true → D e.on = true) ?_ ?_ l.toArray.size _ a0 _ (by simp) ?_ ?_)
  · rintro D a w ⟨h1, h2, h3, h4, h5, h6⟩ i o ho hD hdep K hK
    have ho' : l[i]? = some o := by simpa using ho
    have hil : i < l.length := (List.getElem?_eq_some_iff.1 ho').1
    left
    refine hop i o ho' D a w h3 h4 (fun e he hb => ⟨h5 e.on (by have := hacyc i o ho e he hb; omega) (hdep e he hb), hdep e he hb⟩) (by simpa using hD) h6 K fun v w' hR hM hmono => hK _ _ ?_
    have hold : ∀ j, j < l.length → j ≠ i → add1 D i j = true → Rr (add1 D i) j (a.tmps.getD (dd j) undef) w' := fun j hj hne hDj => hmono j _ hne rfl (h5 j hj (by unfold add1 at hDj; rwa [if_neg hne] at hDj))
    have hcl : ∀ j oj, l[j]? = some oj → add1 D i j = true → ∀ e ∈ oj.after, Region.binds .any e = true → add1 D i e.on = true := by
      intro j oj hj hDj e he hb
      unfold add1
      split
      · rfl
      · unfold add1 at hDj
        split at hDj
        · rename_i hji
          subst hji
          rw [ho'] at hj; cases hj
          exact hdep e he hb
        · exact h6 j oj hj hDj e he hb
    rcases hdst i o ho' with ⟨hd, hlt⟩ | ⟨⟨hd, hu⟩, hge⟩
    · have hdi : dd i < a.tmps.size := by rw [h2]; exact hlt
      rw [hd]
      refine ⟨h1, by unfold Act.put; simpa using h2, hM, fun t ht => ?_, fun j hj hDj => ?_, hcl⟩
      · rw [putg_ hdi, if_neg (fun e => ht i hil e.symm)]; exact h4 t ht
      · rw [putg_ hdi]
        by_cases e : dd j = dd i
        · rw [if_pos e, hinj j i hj hil e]; exact hR
        · rw [if_neg e]; exact hold j hj (fun e2 => e (by rw [e2])) hDj
    · rw [hd]
      refine ⟨h1, h2, hM, h4, fun j hj hDj => ?_, hcl⟩
      by_cases e : j = i
      · subst e
        have hz : a.tmps.getD (dd j) undef = undef := by
          rw [Array.getD_eq_getD_getElem?, Array.getElem?_eq_none (by rw [h2]; exact hge)]; rfl
        rw [show (a.put none v).tmps.getD (dd j) undef = undef from hz]
        exact hu _ _ _ hR
      · exact hold j hj e hDj
  · rintro D a w ⟨h1, h2, h3, h4, h5, _⟩ hall
    refine hend D a w (fun i hi => hall i (by simpa using hi)) h1 h2 h3 h4 (fun i hi => h5 i hi (hall i (by simpa using hi))) (act_puts (h1.trans hdf.symm) h2 fun t ht => ?_)
    by_cases hts : t < a0.tmps.size
    · refine h4 t fun j hj e => ?_
      rcases hdst j _ (List.getElem?_eq_getElem hj) with ⟨hd, _⟩ | ⟨_, hge⟩
      · unfold wrB at ht
        rw [List.any_eq_false] at ht
        exact ht _ (List.getElem_mem hj) (by rw [hd, e]; simp)
      · omega
    · rw [Array.getD_eq_getD_getElem?, Array.getD_eq_getD_getElem?, Array.getElem?_eq_none (by omega), Array.getElem?_eq_none (by omega)]
  · exact Nat.le_trans (List.length_filter_le _ _) (by simp)
  · have e : ∀ i, (Array.replicate l.toArray.size false).getD i false = false := by
      intro i
      by_cases h : i < l.toArray.size <;> simp [Array.getD]
    have ef : (fun i => (Array.replicate l.toArray.size false).getD i false) = fun _ => false := funext e
    refine ⟨hdf, rfl, ?_, fun _ _ => rfl, fun i _ hi => ?_, fun i _ _ hi => ?_⟩
    · exact ef ▸ h0
    · replace hi : (Array.replicate l.toArray.size false).getD i false = true := hi
      rw [e] at hi; cases hi
    · replace hi : (Array.replicate l.toArray.size false).getD i false = true := hi
      rw [e] at hi; cases hi
end
end Go.Proofs.YtdhmonlhlfkjbaaGreatDoor

namespace Go.Proofs.YtdhmonlhlfkjbaaGreatDoor
open Go.RowKit

structure Ob (w w' : World) (g : Nat) : Prop where
  os : w'.os = w.os
  tape : w'.tape = w.tape
  output : w'.output = w.output
  size : w'.heap.size = w.heap.size
  block : ∀ k, k ≠ g → w'.heap[k]? = w.heap[k]?
theorem Ob.refl (w : World) (g : Nat) : Ob w w g := ⟨rfl, rfl, rfl, rfl, fun _ _ => rfl⟩
abbrev Ep := List UInt8 × List Value
def cl (e : Ep) : List Value := .string (st e.1) :: e.2
def ltE (e e' : Ep) : Bool := bl e.1 e'.1
theorem ok_ltE : Ok ltE := ⟨fun _ => bl_irr _, fun _ _ _ => bl_tr _ _ _, fun _ _ _ => bl_wk _ _ _⟩
def EpOk (e : Ep) : Prop := e.2.length = 5 ∧ e.2.all (·.oneCell') = true
theorem EpOk.len {e : Ep} (h : EpOk e) : (cl e).length = 6 := by simp [cl, h.1]
theorem EpOk.one {e : Ep} (h : EpOk e) : (cl e).all (·.oneCell') = true := by
  show (true && e.2.all (·.oneCell')) = true
  rw [h.2]; rfl
def upd' {α : Type} (F : Nat → α) (x : Nat) (e : α) : Nat → α := fun k => if k = x then e else F k
structure Rw (w : World) (B g n cap : Nat) (F : Nat → Ep) : Prop where
  row : w.ownsRow B 69 6 (.slice (some ⟨g, 0, none⟩) n cap) n ((sg F 0 n).map cl).flatten
  ok : ∀ k, k < n → EpOk (F k)
section
variable {w w' : World} {B g n cap : Nat} {F : Nat → Ep}
theorem Rw.lens (h : Rw w B g n cap F) : ∀ c ∈ (sg F 0 n).map cl, c.length = 6 := fun c hc => by
  obtain ⟨e, he, rfl⟩ := List.mem_map.1 hc
  obtain ⟨k, _, hk, rfl⟩ := sg_mem.1 he
  exact (h.ok k (by omega)).len
theorem Rw.congr (h : Rw w B g n cap F) {G : Nat → Ep} (e : ∀ k, k < n → G k = F k) : Rw w B g n cap G := by
  refine ⟨?_, fun k hk => by rw [e k hk]; exact h.ok k hk⟩
  rw [sg_congr (F := G) (G := F) (b := 0) fun i hi => by rw [Nat.zero_add]; exact e i hi]
  exact h.row
theorem Rw.keep (h : Rw w B g n cap F) (hb : w'.heap[g]? = w.heap[g]?) : Rw w' B g n cap F :=
  ⟨own_kept h.row fun b e => by have : b = g := by simpa [Value.ownBlock] using e.symm
                                subst this; exact hb, h.ok⟩
theorem Rw.later (h : Rw w B g n cap F) (hb : Below w.heap.size w w') : Rw w' B g n cap F := by
  obtain ⟨cur, hg, _⟩ := own_cur h.row
  exact h.keep (hb.block g (Array.getElem?_eq_some_iff.1 hg).1)
theorem Rw.lt (h : Rw w B g n cap F) : B ≤ g ∧ g < w.heap.size := by
  obtain ⟨cur, hg, _, hB⟩ := own_cur h.row
  exact ⟨hB, (Array.getElem?_eq_some_iff.1 hg).1⟩
theorem Rw.range (h : Rw w B g n cap F) {x : Nat} (hx : x < n) : w.rangeAt g (x * 6) (cl (F x)) := by
  have h1 := own_rows (F := fun _ => True) (cs := (sg F 0 n).map cl) (by rw [List.length_map, sg_len]; exact h.row) h.lens (fun _ _ => trivial)
  obtain ⟨b, o, cap', e, _, _, h2⟩ := h1.at (i := x) (c := cl (F x)) (by rw [List.getElem?_map, sg_at hx, Nat.zero_add]; rfl)
  have e2 := congrArg (fun v => match v with | Value.slice (some a) _ _ => some (a.block, a.off) | _ => none) e
  simp only [Option.some.injEq, Prod.mk.injEq] at e2
  obtain ⟨rfl, rfl⟩ := e2
  rw [Nat.zero_add] at h2
  exact h2
theorem Rw.load (h : Rw w B g n cap F) {x : Nat} (hx : x < n) : (Instr.loadAt 69 (.pointer (some ⟨g, x * 6, none⟩))).run Tryz.prog w = .ok (.agg (cl (F x)).toArray) w := by
  have hl := (h.ok x hx).len
  simp only [Instr.loadAt, Instr.sureAddr, Sem.run_bind, Sem.run_pure, Result.andThen_ok, run_loadVar_mid w g (x * 6) 69 (cl (F x)) _ (h.range hx) Tryz.underlying69 rfl (by rw [hl]; kernel_rfl)]
theorem Ob.trans {w w' w2 : World} {g : Nat} (h : Ob w w' g) (h2 : Ob w' w2 g) : Ob w w2 g :=
  ⟨h2.os.trans h.os, h2.tape.trans h.tape, h2.output.trans h.output, h2.size.trans h.size, fun k hk => (h2.block k hk).trans (h.block k hk)⟩
theorem Ob.rowset {w w' : World} {g : Nat} {c : Array Value} (h : Ob w w' g) : Ob w (w'.setRow g c) g :=
  ⟨h.os, h.tape, h.output, by rw [← h.size]; simp [World.setRow], fun k hk => (setRow_other w' g k _ hk).trans (h.block k hk)⟩
theorem Rw.store (h : Rw w B g n cap F) {x : Nat} (hx : x < n) {e : Ep} (he : EpOk e) : ∃ c, (Instr.storeAt 69 (.pointer (some ⟨g, x * 6, none⟩)) (.agg (cl e).toArray)).run Tryz.prog w = .ok () (w.setRow g c) ∧ Rw (w.setRow g c) B g n cap (upd' F x e) := by
  obtain ⟨cur, hg, hcur, hB⟩ := own_cur h.row
  have hl := he.len
  have hfit : x * 6 + 6 ≤ n * 6 := by omega
  have hst := st_eP (c := (cl e).toArray) hg (by simpa using hl) (Nat.le_trans hfit hcur) (by simpa using he.one)
  have hp := own_piece h.row (c := (cl e).toArray) (m := 6) (by simpa using hl) hfit hg
  refine ⟨_, hst, ?_, fun k hk => ?_⟩
  · have hs := flat_set h.lens x (cl e) (by rw [List.length_map, sg_len]; exact hx)
    simp only [] at hp
    rw [← hs] at hp
    have e2 : ((sg F 0 n).map cl).set x (cl e) = (sg (upd' F x e) 0 n).map cl := by
      refine List.ext_getElem? fun j => ?_
      rw [List.getElem?_set, List.length_map, sg_len, List.getElem?_map, List.getElem?_map]
      by_cases hj : j < n
      · rw [sg_at hj, sg_at hj, Nat.zero_add]
        unfold upd'
        by_cases e3 : x = j
        · subst e3; simp [hx]
        · rw [if_neg e3, if_neg (fun e4 => e3 e4.symm)]
      · rw [List.getElem?_eq_none (by rw [sg_len]; omega), List.getElem?_eq_none (by rw [sg_len]; omega)]
        split
        · rename_i e3; subst e3; exact absurd hx hj
        · rfl
    rw [← e2]
    exact hp
  · unfold upd'
    split
    · exact he
    · exact h.ok k hk
end
def fsw {α : Type} (D1 D2 : Bool) (F : Nat → α) (x y : Nat) : Nat → α := fun k => if D1 = true ∧ k = x then F y else if D2 = true ∧ k = y then F x else F k
def Msw (W : World) (B g n cap : Nat) (F : Nat → Ep) (x y : Nat) (D1 D2 : Bool) (w : World) : Prop := (EpOk (F x) ∧ EpOk (F y)) ∧ Rw w B g n cap (fsw D1 D2 F x y) ∧ Ob W w g
section
variable {W w : World} {B g n cap x y : Nat} {F : Nat → Ep} {D : Nat → Bool} {D1 D2 : Bool}
theorem msw_ne {i s1 s2 : Nat} (h1 : s1 ≠ i) (h2 : s2 ≠ i) (h : Msw W B g n cap F x y (D s1) (D s2) w) : Msw W B g n cap F x y (add1 D i s1) (add1 D i s2) w := by
  rw [add1_ne h1, add1_ne h2]; exact h
theorem fsw_00 : fsw false false F x y = F := by funext k; simp [fsw]
theorem fsw_11 : fsw true true F x y = sr F x y 1 := by
  funext k
  unfold fsw sr
  simp only [true_and]
  (repeat' split) <;> first | rfl | omega | (congr 1; omega)
theorem msw_start (hx : x < n) (hy : y < n) (h : Rw W B g n cap F) : Msw W B g n cap F x y false false W.drew := by
  refine ⟨⟨h.ok x hx, h.ok y hy⟩, ?_, ⟨rfl, rfl, rfl, rfl, fun _ _ => rfl⟩⟩
  rw [fsw_00]
  exact h.keep rfl
theorem msw_00 (h1 : D1 = false) (h2 : D2 = false) (h : Msw W B g n cap F x y D1 D2 w) : Rw w B g n cap F := by
  subst h1; subst h2
  have := h.2.1
  rwa [fsw_00] at this
theorem msw_1 {s1 s2 : Nat} (h12 : s2 ≠ s1) (_ : x ≠ y) (hx : x < n) (hD : D s1 = false) (h : Msw W B g n cap F x y (D s1) (D s2) w) :
    ∃ c, (Instr.storeAt 69 (.pointer (some ⟨g, x * 6, none⟩)) (.agg (cl (F y)).toArray)).run Tryz.prog w = .ok () (w.setRow g c) ∧ Msw W B g n cap F x y (add1 D s1 s1) (add1 D s1 s2) (w.setRow g c) := by
  obtain ⟨c, h1, h2⟩ := h.2.1.store hx h.1.2
  refine ⟨c, h1, h.1, ?_, h.2.2.rowset⟩
  rw [add1_eq, add1_ne h12]
  refine h2.congr fun k hk => ?_
  unfold fsw upd'
  rw [hD]
  simp only [true_and]
  (repeat' split) <;> first | rfl | omega | (exfalso; simp_all)
theorem msw_2 {s1 s2 : Nat} (h12 : s1 ≠ s2) (hxy : x ≠ y) (hy : y < n) (hD : D s2 = false) (h : Msw W B g n cap F x y (D s1) (D s2) w) :
    ∃ c, (Instr.storeAt 69 (.pointer (some ⟨g, y * 6, none⟩)) (.agg (cl (F x)).toArray)).run Tryz.prog w = .ok () (w.setRow g c) ∧ Msw W B g n cap F x y (add1 D s2 s1) (add1 D s2 s2) (w.setRow g c) := by
  obtain ⟨c, h1, h2⟩ := h.2.1.store hy h.1.1
  refine ⟨c, h1, h.1, ?_, h.2.2.rowset⟩
  rw [add1_eq, add1_ne h12]
  refine h2.congr fun k hk => ?_
  unfold fsw upd'
  rw [hD]
  simp only [true_and]
  (repeat' split) <;> first | rfl | omega | (exfalso; simp_all; done) | (exfalso; simp_all; omega)
theorem msw_11 (_ : x ≠ y) (h1 : D1 = true) (h2 : D2 = true) (h : Msw W B g n cap F x y D1 D2 w) : Rw w B g n cap (sr F x y 1) ∧ Ob W w g := by
  subst h1; subst h2
  have := h.2
  rwa [fsw_11] at this
end
theorem eqg_add {t : TypeId} {x u : Operand} {a b : Value} {w : World} : (eqGuard .add t x u a b).run Tryz.prog w = .ok () w := rfl
theorem add_n {a b : Nat} (h : a + b ≤ 1000000000) (w : World) : (binOp .add 3 (.int .i64 (a : Nat)) (.int .i64 (b : Nat))).run Tryz.prog w = .ok (.int .i64 (a + b : Nat)) w := by
  have e : ((a + b : Nat) : Int) = (a : Int) + (b : Int) := by omega
  have hwr : IntKind.i64.wrap ((a : Int) + (b : Int)) = (a : Int) + (b : Int) := by go_unwrap
  rw [e]
  simp [go_sem, hwr]
def SRv (g n cap xa xb i : Nat) (F : Nat → Ep) : Nat → Value → Prop
  | 0, v => v = (.slice (some ⟨g, 0, none⟩) n cap)
  | 1, v => v = (.int .i64 (xa : Nat))
  | 2, v => v = (.int .i64 (i : Nat))
  | 3, v => v = (.int .i64 (xa + i : Nat))
  | 4, v => v = (.slice (some ⟨g, 0, none⟩) n cap)
  | 5, v => v = (.int .i64 (xb : Nat))
  | 6, v => v = (.int .i64 (i : Nat))
  | 7, v => v = (.int .i64 (xb + i : Nat))
  | 8, v => v = (.slice (some ⟨g, 0, none⟩) n cap)
  | 9, v => v = (.int .i64 (xb : Nat))
  | 10, v => v = (.int .i64 (i : Nat))
  | 11, v => v = (.int .i64 (xb + i : Nat))
  | 12, v => v = .pointer (some ⟨g, (xb + i) * 6, none⟩)
  | 13, v => v = .agg (cl (F (xb + i))).toArray
  | 14, v => v = (.slice (some ⟨g, 0, none⟩) n cap)
  | 15, v => v = (.int .i64 (xa : Nat))
  | 16, v => v = (.int .i64 (i : Nat))
  | 17, v => v = (.int .i64 (xa + i : Nat))
  | 18, v => v = .pointer (some ⟨g, (xa + i) * 6, none⟩)
  | 19, v => v = .agg (cl (F (xa + i))).toArray
  | 20, v => v = .pointer (some ⟨g, (xa + i) * 6, none⟩)
  | 22, v => v = .pointer (some ⟨g, (xb + i) * 6, none⟩)
  | _, _ => True
def SRvd : Nat → Nat
  | 0 => 16
  | 1 => 17
  | 2 => 18
  | 3 => 19
  | 4 => 20
  | 5 => 21
  | 6 => 22
  | 7 => 23
  | 8 => 24
  | 9 => 25
  | 10 => 26
  | 11 => 27
  | 12 => 28
  | 13 => 29
  | 14 => 30
  | 15 => 31
  | 16 => 32
  | 17 => 33
  | 18 => 34
  | 19 => 35
  | 20 => 36
  | 21 => 1021
  | 22 => 37
  | 23 => 1023
  | i => 2000 + i

set_option maxHeartbeats 4000000 in
set_option maxRecDepth 100000 in
theorem swr_d {w : World} {B g n cap xa xb m : Nat} {F : Nat → Ep} {fv : Value} (h : Rw w B g n cap F) (hab : xa + m ≤ xb) (hbn : xb + m ≤ n) (hn : n ≤ 2000000) :
    Calls Tryz.prog 213 #[.slice (some ⟨g, 0, none⟩) n cap, .int .i64 (xa : Nat), .int .i64 (xb : Nat), .int .i64 (m : Nat), fv] w fun e w' => e = .returned (.tuple #[]) ∧ Rw w' B g n cap (sr F xa xb m) ∧ Ob w w' g := by
  have h0 : Hid (Rw w B g n cap (sr F xa xb 0)) := hide1 (by rw [sr_0]; exact h)
  clear h
  go_enter Tryz.func213, Tryz.ntmps213
  go_wp2_with fail
  go_loopw [10] (fun s10 wr => ∃ i : Nat, i ≤ m ∧ s10 = .int .i64 (i : Nat) ∧ Hid (Rw wr B g n cap (sr F xa xb i)) ∧ Hid (Ob w wr g)) (fun s _ => m - (intOf s).toNat)
  case atStart => exact ⟨0, by omega, rfl, h0, hide1 (Ob.refl w g)⟩
  case round =>
    obtain ⟨i, hi, rfl, hR, hO⟩ := hrel
    by_cases hlt : i < m
    · have hxy : xa + i ≠ xb + i := by omega
      have hxn : xa + i < n := by omega
      have hyn : xb + i < n := by omega
      have hadA := fun w => add_n (a := xa) (b := i) (by omega) w
      have hadB := fun w => add_n (a := xb) (b := i) (by omega) w
      have hsr : Hid (sr (sr F xa xb i) (xa + i) (xb + i) 1 = sr F xa xb (i + 1)) := hide1 (sr_s F (by omega))
      go_upto_region 3 with fail
      refine wp_rel5 _ _ (fun _ j v _ => SRv g n cap xa xb i (sr F xa xb i) j v) (fun D w => Msw wr B g n cap (sr F xa xb i) (xa + i) (xb + i) (D 21) (D 23) w) SRvd (by kernel_rfl) (by kernel_rfl) 24 (by kernel_rfl) ?_ ?_ rfl (msw_start hxn hyn hR.out) ?_ ?_
      · intro ix o ho
        match ix, ho with
        | 0, ho => obtain rfl := Option.some.inj ho; exact .inl ⟨rfl, by show 16 < 38; decide⟩
        | 1, ho => obtain rfl := Option.some.inj ho; exact .inl ⟨rfl, by show 17 < 38; decide⟩
        | 2, ho => obtain rfl := Option.some.inj ho; exact .inl ⟨rfl, by show 18 < 38; decide⟩
        | 3, ho => obtain rfl := Option.some.inj ho; exact .inl ⟨rfl, by show 19 < 38; decide⟩
        | 4, ho => obtain rfl := Option.some.inj ho; exact .inl ⟨rfl, by show 20 < 38; decide⟩
        | 5, ho => obtain rfl := Option.some.inj ho; exact .inl ⟨rfl, by show 21 < 38; decide⟩
        | 6, ho => obtain rfl := Option.some.inj ho; exact .inl ⟨rfl, by show 22 < 38; decide⟩
        | 7, ho => obtain rfl := Option.some.inj ho; exact .inl ⟨rfl, by show 23 < 38; decide⟩
        | 8, ho => obtain rfl := Option.some.inj ho; exact .inl ⟨rfl, by show 24 < 38; decide⟩
        | 9, ho => obtain rfl := Option.some.inj ho; exact .inl ⟨rfl, by show 25 < 38; decide⟩
        | 10, ho => obtain rfl := Option.some.inj ho; exact .inl ⟨rfl, by show 26 < 38; decide⟩
        | 11, ho => obtain rfl := Option.some.inj ho; exact .inl ⟨rfl, by show 27 < 38; decide⟩
        | 12, ho => obtain rfl := Option.some.inj ho; exact .inl ⟨rfl, by show 28 < 38; decide⟩
        | 13, ho => obtain rfl := Option.some.inj ho; exact .inl ⟨rfl, by show 29 < 38; decide⟩
        | 14, ho => obtain rfl := Option.some.inj ho; exact .inl ⟨rfl, by show 30 < 38; decide⟩
        | 15, ho => obtain rfl := Option.some.inj ho; exact .inl ⟨rfl, by show 31 < 38; decide⟩
        | 16, ho => obtain rfl := Option.some.inj ho; exact .inl ⟨rfl, by show 32 < 38; decide⟩
        | 17, ho => obtain rfl := Option.some.inj ho; exact .inl ⟨rfl, by show 33 < 38; decide⟩
        | 18, ho => obtain rfl := Option.some.inj ho; exact .inl ⟨rfl, by show 34 < 38; decide⟩
        | 19, ho => obtain rfl := Option.some.inj ho; exact .inl ⟨rfl, by show 35 < 38; decide⟩
        | 20, ho => obtain rfl := Option.some.inj ho; exact .inl ⟨rfl, by show 36 < 38; decide⟩
        | 21, ho => obtain rfl := Option.some.inj ho; exact .inr ⟨⟨rfl, fun _ _ _ _ => trivial⟩, by show 38 ≤ 1021; decide⟩
        | 22, ho => obtain rfl := Option.some.inj ho; exact .inl ⟨rfl, by show 37 < 38; decide⟩
        | 23, ho => obtain rfl := Option.some.inj ho; exact .inr ⟨⟨rfl, fun _ _ _ _ => trivial⟩, by show 38 ≤ 1023; decide⟩
        | _ + 24, ho => exact absurd ho (by simp)
      · intro ix jx hi hj e; unfold SRvd at e; split at e <;> split at e <;> omega
      · intro ix o ho
        match ix, ho with
        | 0, ho =>
          obtain rfl := Option.some.inj ho
          intro D a w hM hsl hdep hDi hcl K hK
          have hp0 : a.tmps.getD 0 undef = (.slice (some ⟨g, 0, none⟩) n cap) := hsl 0 (by intro j hj; unfold SRvd; split <;> omega)
          refine ⟨rfl, ?_⟩
          refine wp_val (w' := w) (v := (.slice (some ⟨g, 0, none⟩) n cap)) (by simp only [execOp, Act.eval]; rw [show a.tmps.getD 0 undef = _ from hp0]; rfl) ?_
          exact hK _ _ rfl (msw_ne (by decide) (by decide) hM) (fun _ _ _ _ h => h)
        | 1, ho =>
          obtain rfl := Option.some.inj ho
          intro D a w hM hsl hdep hDi hcl K hK
          have hp1 : a.tmps.getD 1 undef = (.int .i64 (xa : Nat)) := hsl 1 (by intro j hj; unfold SRvd; split <;> omega)
          refine ⟨rfl, ?_⟩
          refine wp_val (w' := w) (v := (.int .i64 (xa : Nat))) (by simp only [execOp, Act.eval]; rw [show a.tmps.getD 1 undef = _ from hp1]; rfl) ?_
          exact hK _ _ rfl (msw_ne (by decide) (by decide) hM) (fun _ _ _ _ h => h)
        | 2, ho =>
          obtain rfl := Option.some.inj ho
          intro D a w hM hsl hdep hDi hcl K hK
          have hp10 : a.tmps.getD 10 undef = (.int .i64 (i : Nat)) := hsl 10 (by intro j hj; unfold SRvd; split <;> omega)
          refine ⟨rfl, ?_⟩
          refine wp_val (w' := w) (v := (.int .i64 (i : Nat))) (by simp only [execOp, Act.eval]; rw [show a.tmps.getD 10 undef = _ from hp10]; rfl) ?_
          exact hK _ _ rfl (msw_ne (by decide) (by decide) hM) (fun _ _ _ _ h => h)
        | 3, ho =>
          obtain rfl := Option.some.inj ho
          intro D a w hM hsl hdep hDi hcl K hK
          have e1 := (hdep ⟨1, .data⟩ (by simp) rfl).1
          have e2 := (hdep ⟨2, .data⟩ (by simp) rfl).1
          refine ⟨rfl, ?_⟩
          refine wp_val (w' := w) (v := (.int .i64 (xa + i : Nat))) (by simp only [execOp, Act.eval]; rw [show a.tmps.getD 17 undef = _ from e1, show a.tmps.getD 18 undef = _ from e2]; simp only [Sem.run_bind, eqg_add, hadA, Result.andThen_ok, Sem.run_pure]) ?_
          exact hK _ _ rfl (msw_ne (by decide) (by decide) hM) (fun _ _ _ _ h => h)
        | 4, ho =>
          obtain rfl := Option.some.inj ho
          intro D a w hM hsl hdep hDi hcl K hK
          have hp0 : a.tmps.getD 0 undef = (.slice (some ⟨g, 0, none⟩) n cap) := hsl 0 (by intro j hj; unfold SRvd; split <;> omega)
          refine ⟨rfl, ?_⟩
          refine wp_val (w' := w) (v := (.slice (some ⟨g, 0, none⟩) n cap)) (by simp only [execOp, Act.eval]; rw [show a.tmps.getD 0 undef = _ from hp0]; rfl) ?_
          exact hK _ _ rfl (msw_ne (by decide) (by decide) hM) (fun _ _ _ _ h => h)
        | 5, ho =>
          obtain rfl := Option.some.inj ho
          intro D a w hM hsl hdep hDi hcl K hK
          have hp2 : a.tmps.getD 2 undef = (.int .i64 (xb : Nat)) := hsl 2 (by intro j hj; unfold SRvd; split <;> omega)
          refine ⟨rfl, ?_⟩
          refine wp_val (w' := w) (v := (.int .i64 (xb : Nat))) (by simp only [execOp, Act.eval]; rw [show a.tmps.getD 2 undef = _ from hp2]; rfl) ?_
          exact hK _ _ rfl (msw_ne (by decide) (by decide) hM) (fun _ _ _ _ h => h)
        | 6, ho =>
          obtain rfl := Option.some.inj ho
          intro D a w hM hsl hdep hDi hcl K hK
          have hp10 : a.tmps.getD 10 undef = (.int .i64 (i : Nat)) := hsl 10 (by intro j hj; unfold SRvd; split <;> omega)
          refine ⟨rfl, ?_⟩
          refine wp_val (w' := w) (v := (.int .i64 (i : Nat))) (by simp only [execOp, Act.eval]; rw [show a.tmps.getD 10 undef = _ from hp10]; rfl) ?_
          exact hK _ _ rfl (msw_ne (by decide) (by decide) hM) (fun _ _ _ _ h => h)
        | 7, ho =>
          obtain rfl := Option.some.inj ho
          intro D a w hM hsl hdep hDi hcl K hK
          have e5 := (hdep ⟨5, .data⟩ (by simp) rfl).1
          have e6 := (hdep ⟨6, .data⟩ (by simp) rfl).1
          refine ⟨rfl, ?_⟩
          refine wp_val (w' := w) (v := (.int .i64 (xb + i : Nat))) (by simp only [execOp, Act.eval]; rw [show a.tmps.getD 21 undef = _ from e5, show a.tmps.getD 22 undef = _ from e6]; simp only [Sem.run_bind, eqg_add, hadB, Result.andThen_ok, Sem.run_pure]) ?_
          exact hK _ _ rfl (msw_ne (by decide) (by decide) hM) (fun _ _ _ _ h => h)
        | 8, ho =>
          obtain rfl := Option.some.inj ho
          intro D a w hM hsl hdep hDi hcl K hK
          have hp0 : a.tmps.getD 0 undef = (.slice (some ⟨g, 0, none⟩) n cap) := hsl 0 (by intro j hj; unfold SRvd; split <;> omega)
          refine ⟨rfl, ?_⟩
          refine wp_val (w' := w) (v := (.slice (some ⟨g, 0, none⟩) n cap)) (by simp only [execOp, Act.eval]; rw [show a.tmps.getD 0 undef = _ from hp0]; rfl) ?_
          exact hK _ _ rfl (msw_ne (by decide) (by decide) hM) (fun _ _ _ _ h => h)
        | 9, ho =>
          obtain rfl := Option.some.inj ho
          intro D a w hM hsl hdep hDi hcl K hK
          have hp2 : a.tmps.getD 2 undef = (.int .i64 (xb : Nat)) := hsl 2 (by intro j hj; unfold SRvd; split <;> omega)
          refine ⟨rfl, ?_⟩
          refine wp_val (w' := w) (v := (.int .i64 (xb : Nat))) (by simp only [execOp, Act.eval]; rw [show a.tmps.getD 2 undef = _ from hp2]; rfl) ?_
          exact hK _ _ rfl (msw_ne (by decide) (by decide) hM) (fun _ _ _ _ h => h)
        | 10, ho =>
          obtain rfl := Option.some.inj ho
          intro D a w hM hsl hdep hDi hcl K hK
          have hp10 : a.tmps.getD 10 undef = (.int .i64 (i : Nat)) := hsl 10 (by intro j hj; unfold SRvd; split <;> omega)
          refine ⟨rfl, ?_⟩
          refine wp_val (w' := w) (v := (.int .i64 (i : Nat))) (by simp only [execOp, Act.eval]; rw [show a.tmps.getD 10 undef = _ from hp10]; rfl) ?_
          exact hK _ _ rfl (msw_ne (by decide) (by decide) hM) (fun _ _ _ _ h => h)
        | 11, ho =>
          obtain rfl := Option.some.inj ho
          intro D a w hM hsl hdep hDi hcl K hK
          have e9 := (hdep ⟨9, .data⟩ (by simp) rfl).1
          have e10 := (hdep ⟨10, .data⟩ (by simp) rfl).1
          refine ⟨rfl, ?_⟩
          refine wp_val (w' := w) (v := (.int .i64 (xb + i : Nat))) (by simp only [execOp, Act.eval]; rw [show a.tmps.getD 25 undef = _ from e9, show a.tmps.getD 26 undef = _ from e10]; simp only [Sem.run_bind, eqg_add, hadB, Result.andThen_ok, Sem.run_pure]) ?_
          exact hK _ _ rfl (msw_ne (by decide) (by decide) hM) (fun _ _ _ _ h => h)
        | 12, ho =>
          obtain rfl := Option.some.inj ho
          intro D a w hM hsl hdep hDi hcl K hK
          have e8 := (hdep ⟨8, .data⟩ (by simp) rfl).1
          have e11 := (hdep ⟨11, .data⟩ (by simp) rfl).1
          refine ⟨rfl, ?_⟩
          refine wp_val (w' := w) (v := .pointer (some ⟨g, (xb + i) * 6, none⟩)) (by simp only [execOp, Act.eval]; rw [show a.tmps.getD 24 undef = _ from e8, show a.tmps.getD 27 undef = _ from e11]; simp only [Sem.run_bind, ix_sP hyn, Result.andThen_ok, Sem.run_pure]) ?_
          exact hK _ _ rfl (msw_ne (by decide) (by decide) hM) (fun _ _ _ _ h => h)
        | 13, ho =>
          obtain rfl := Option.some.inj ho
          intro D a w hM hsl hdep hDi hcl K hK
          have e12 := (hdep ⟨12, .data⟩ (by simp) rfl).1
          have hD21 : D 21 = false := by cases h9 : D 21 with | false => rfl | true => have := hcl 21 _ rfl h9 ⟨13, .data⟩ (by simp) rfl; rw [this] at hDi; cases hDi
          have hD23 : D 23 = false := by cases h9 : D 23 with | false => rfl | true => have := hcl 23 _ rfl h9 ⟨13, .phase⟩ (by simp) rfl; rw [this] at hDi; cases hDi
          have hl := (msw_00 hD21 hD23 hM).load hyn
          refine ⟨rfl, ?_⟩
          refine wp_val (w' := w) (v := .agg (cl ((sr F xa xb i) (xb + i))).toArray) (by simp only [execOp, Act.eval]; rw [show a.tmps.getD 28 undef = _ from e12]; simp only [Sem.run_bind, hl, Result.andThen_ok, Sem.run_pure]) ?_
          exact hK _ _ rfl (msw_ne (by decide) (by decide) hM) (fun _ _ _ _ h => h)
        | 14, ho =>
          obtain rfl := Option.some.inj ho
          intro D a w hM hsl hdep hDi hcl K hK
          have hp0 : a.tmps.getD 0 undef = (.slice (some ⟨g, 0, none⟩) n cap) := hsl 0 (by intro j hj; unfold SRvd; split <;> omega)
          refine ⟨rfl, ?_⟩
          refine wp_val (w' := w) (v := (.slice (some ⟨g, 0, none⟩) n cap)) (by simp only [execOp, Act.eval]; rw [show a.tmps.getD 0 undef = _ from hp0]; rfl) ?_
          exact hK _ _ rfl (msw_ne (by decide) (by decide) hM) (fun _ _ _ _ h => h)
        | 15, ho =>
          obtain rfl := Option.some.inj ho
          intro D a w hM hsl hdep hDi hcl K hK
          have hp1 : a.tmps.getD 1 undef = (.int .i64 (xa : Nat)) := hsl 1 (by intro j hj; unfold SRvd; split <;> omega)
          refine ⟨rfl, ?_⟩
          refine wp_val (w' := w) (v := (.int .i64 (xa : Nat))) (by simp only [execOp, Act.eval]; rw [show a.tmps.getD 1 undef = _ from hp1]; rfl) ?_
          exact hK _ _ rfl (msw_ne (by decide) (by decide) hM) (fun _ _ _ _ h => h)
        | 16, ho =>
          obtain rfl := Option.some.inj ho
          intro D a w hM hsl hdep hDi hcl K hK
          have hp10 : a.tmps.getD 10 undef = (.int .i64 (i : Nat)) := hsl 10 (by intro j hj; unfold SRvd; split <;> omega)
          refine ⟨rfl, ?_⟩
          refine wp_val (w' := w) (v := (.int .i64 (i : Nat))) (by simp only [execOp, Act.eval]; rw [show a.tmps.getD 10 undef = _ from hp10]; rfl) ?_
          exact hK _ _ rfl (msw_ne (by decide) (by decide) hM) (fun _ _ _ _ h => h)
        | 17, ho =>
          obtain rfl := Option.some.inj ho
          intro D a w hM hsl hdep hDi hcl K hK
          have e15 := (hdep ⟨15, .data⟩ (by simp) rfl).1
          have e16 := (hdep ⟨16, .data⟩ (by simp) rfl).1
          refine ⟨rfl, ?_⟩
          refine wp_val (w' := w) (v := (.int .i64 (xa + i : Nat))) (by simp only [execOp, Act.eval]; rw [show a.tmps.getD 31 undef = _ from e15, show a.tmps.getD 32 undef = _ from e16]; simp only [Sem.run_bind, eqg_add, hadA, Result.andThen_ok, Sem.run_pure]) ?_
          exact hK _ _ rfl (msw_ne (by decide) (by decide) hM) (fun _ _ _ _ h => h)
        | 18, ho =>
          obtain rfl := Option.some.inj ho
          intro D a w hM hsl hdep hDi hcl K hK
          have e14 := (hdep ⟨14, .data⟩ (by simp) rfl).1
          have e17 := (hdep ⟨17, .data⟩ (by simp) rfl).1
          refine ⟨rfl, ?_⟩
          refine wp_val (w' := w) (v := .pointer (some ⟨g, (xa + i) * 6, none⟩)) (by simp only [execOp, Act.eval]; rw [show a.tmps.getD 30 undef = _ from e14, show a.tmps.getD 33 undef = _ from e17]; simp only [Sem.run_bind, ix_sP hxn, Result.andThen_ok, Sem.run_pure]) ?_
          exact hK _ _ rfl (msw_ne (by decide) (by decide) hM) (fun _ _ _ _ h => h)
        | 19, ho =>
          obtain rfl := Option.some.inj ho
          intro D a w hM hsl hdep hDi hcl K hK
          have e18 := (hdep ⟨18, .data⟩ (by simp) rfl).1
          have hD21 : D 21 = false := by cases h9 : D 21 with | false => rfl | true => have := hcl 21 _ rfl h9 ⟨19, .phase⟩ (by simp) rfl; rw [this] at hDi; cases hDi
          have hD23 : D 23 = false := by cases h9 : D 23 with | false => rfl | true => have := hcl 23 _ rfl h9 ⟨19, .data⟩ (by simp) rfl; rw [this] at hDi; cases hDi
          have hl := (msw_00 hD21 hD23 hM).load hxn
          refine ⟨rfl, ?_⟩
          refine wp_val (w' := w) (v := .agg (cl ((sr F xa xb i) (xa + i))).toArray) (by simp only [execOp, Act.eval]; rw [show a.tmps.getD 34 undef = _ from e18]; simp only [Sem.run_bind, hl, Result.andThen_ok, Sem.run_pure]) ?_
          exact hK _ _ rfl (msw_ne (by decide) (by decide) hM) (fun _ _ _ _ h => h)
        | 20, ho =>
          obtain rfl := Option.some.inj ho
          intro D a w hM hsl hdep hDi hcl K hK
          have e0 := (hdep ⟨0, .data⟩ (by simp) rfl).1
          have e3 := (hdep ⟨3, .data⟩ (by simp) rfl).1
          refine ⟨rfl, ?_⟩
          refine wp_val (w' := w) (v := .pointer (some ⟨g, (xa + i) * 6, none⟩)) (by simp only [execOp, Act.eval]; rw [show a.tmps.getD 16 undef = _ from e0, show a.tmps.getD 19 undef = _ from e3]; simp only [Sem.run_bind, ix_sP hxn, Result.andThen_ok, Sem.run_pure]) ?_
          exact hK _ _ rfl (msw_ne (by decide) (by decide) hM) (fun _ _ _ _ h => h)
        | 21, ho =>
          obtain rfl := Option.some.inj ho
          intro D a w hM hsl hdep hDi hcl K hK
          have e20 := (hdep ⟨20, .data⟩ (by simp) rfl).1
          have e13 := (hdep ⟨13, .data⟩ (by simp) rfl).1
          obtain ⟨c, hst, hM2⟩ := msw_1 (s1 := 21) (s2 := 23) (by decide) hxy hxn hDi hM
          refine ⟨rfl, ?_⟩
          refine wp_skp (w' := w.setRow g c) (by simp only [execOp, Act.eval]; rw [show a.tmps.getD 36 undef = _ from e20, show a.tmps.getD 29 undef = _ from e13]; simp only [Sem.run_bind, hst, Result.andThen_ok, Sem.run_pure]) ?_
          exact hK _ _ trivial hM2 (fun _ _ _ _ h => h)
        | 22, ho =>
          obtain rfl := Option.some.inj ho
          intro D a w hM hsl hdep hDi hcl K hK
          have e4 := (hdep ⟨4, .data⟩ (by simp) rfl).1
          have e7 := (hdep ⟨7, .data⟩ (by simp) rfl).1
          refine ⟨rfl, ?_⟩
          refine wp_val (w' := w) (v := .pointer (some ⟨g, (xb + i) * 6, none⟩)) (by simp only [execOp, Act.eval]; rw [show a.tmps.getD 20 undef = _ from e4, show a.tmps.getD 23 undef = _ from e7]; simp only [Sem.run_bind, ix_sP hyn, Result.andThen_ok, Sem.run_pure]) ?_
          exact hK _ _ rfl (msw_ne (by decide) (by decide) hM) (fun _ _ _ _ h => h)
        | 23, ho =>
          obtain rfl := Option.some.inj ho
          intro D a w hM hsl hdep hDi hcl K hK
          have e22 := (hdep ⟨22, .data⟩ (by simp) rfl).1
          have e19 := (hdep ⟨19, .data⟩ (by simp) rfl).1
          obtain ⟨c, hst, hM2⟩ := msw_2 (s1 := 21) (s2 := 23) (by decide) hxy hyn hDi hM
          refine ⟨rfl, ?_⟩
          refine wp_skp (w' := w.setRow g c) (by simp only [execOp, Act.eval]; rw [show a.tmps.getD 37 undef = _ from e22, show a.tmps.getD 35 undef = _ from e19]; simp only [Sem.run_bind, hst, Result.andThen_ok, Sem.run_pure]) ?_
          exact hK _ _ trivial hM2 (fun _ _ _ _ h => h)
        | _ + 24, ho => exact absurd ho (by simp)
      · intro D a wt hall hd hs hM hsl hr hact
        replace hM := msw_11 hxy (hall 21 (by decide)) (hall 23 (by decide)) hM
        simp only [List.filterMap_cons, List.filterMap_nil, List.foldl_cons, List.foldl_nil] at hact
        rw [hact]
        generalize a.tmps.getD 16 undef = y16
        generalize a.tmps.getD 17 undef = y17
        generalize a.tmps.getD 18 undef = y18
        generalize a.tmps.getD 19 undef = y19
        generalize a.tmps.getD 20 undef = y20
        generalize a.tmps.getD 21 undef = y21
        generalize a.tmps.getD 22 undef = y22
        generalize a.tmps.getD 23 undef = y23
        generalize a.tmps.getD 24 undef = y24
        generalize a.tmps.getD 25 undef = y25
        generalize a.tmps.getD 26 undef = y26
        generalize a.tmps.getD 27 undef = y27
        generalize a.tmps.getD 28 undef = y28
        generalize a.tmps.getD 29 undef = y29
        generalize a.tmps.getD 30 undef = y30
        generalize a.tmps.getD 31 undef = y31
        generalize a.tmps.getD 32 undef = y32
        generalize a.tmps.getD 33 undef = y33
        generalize a.tmps.getD 34 undef = y34
        generalize a.tmps.getD 35 undef = y35
        generalize a.tmps.getD 36 undef = y36
        generalize a.tmps.getD 37 undef = y37
        clear hact hsl hr hd hs hall a
        simp only [Act.put, List.setIfInBounds_toArray, List.set_cons_succ, List.set_cons_zero]
        obtain ⟨hR2, hO2⟩ := hM
        rw [hsr.out] at hR2
        have hR3 := hide1 hR2
        have hO3 : Hid (Ob w wt g) := hide1 (hO.out.trans hO2)
        clear hR2 hO2 hsr hadA hadB
        go_wp2
        go_roundw
        case rel => exact ⟨i + 1, by omega, by go_num, hR3, hO3⟩
        case measure => simp [intOf]; omega
    · obtain rfl : i = m := by omega
      go_wp2
      go_end0
      exact ⟨rfl, hR.out, hO.out⟩
set_option maxHeartbeats 4000000 in
set_option maxRecDepth 100000 in
theorem rot_d {w : World} {B g n cap xa xm xb : Nat} {F : Nat → Ep} {fv : Value} (h : Rw w B g n cap F) (ham : xa < xm) (hmb : xm < xb) (hbn : xb ≤ n) (hn : n ≤ 2000000) :
    Calls Tryz.prog 201 #[.slice (some ⟨g, 0, none⟩) n cap, .int .i64 (xa : Nat), .int .i64 (xm : Nat), .int .i64 (xb : Nat), fv] w fun e w' => e = .returned (.tuple #[]) ∧ Rw w' B g n cap (rot F xa xm xb) ∧ Ob w w' g := by
  have h0 := hide1 h
  clear h
  go_enter Tryz.func201, Tryz.ntmps201
  go_wp2_with fail
  go_loopw [10, 11] (fun s10 s11 wr => ∃ (i j : Nat) (G : Nat → Ep), s10 = .int .i64 (i : Nat) ∧ s11 = .int .i64 (j : Nat) ∧ 1 ≤ i ∧ 1 ≤ j ∧ i ≤ xm ∧ xm + j ≤ n ∧ Hid (Rw wr B g n cap G) ∧ Hid (rot G (xm - i) xm (xm + j) = rot F xa xm xb) ∧ Hid (Ob w wr g)) (fun s10 s11 _ => (intOf s10).toNat + (intOf s11).toNat)
  case atStart =>
    exact ⟨xm - xa, xb - xm, F, by congr 1; omega, by congr 1; omega, by omega, by omega, by omega, by omega, h0, hide1 (by congr 1 <;> omega), hide1 (Ob.refl w g)⟩
  case round =>
    obtain ⟨i, j, G, rfl, rfl, hi, hj, him, hjn, hR, hG, hO⟩ := hrel
    rcases Nat.lt_trichotomy i j with hlt | heq | hgt
    · have q1 : ((i : Int) != (j : Int)) = true := by simp; omega
      have q2 : ¬ (j : Int) < (i : Int) := by omega
      have hc := swr_d (fv := fv) (xa := xm - i) (xb := xm + j - i) (m := i) hR.out (by omega) (by omega) hn
      have e1 : ((xm - i : Nat) : Int) = (xm : Int) - (i : Int) := by omega
      have e2 : ((xm + j - i : Nat) : Int) = (xm : Int) + (j : Int) - (i : Int) := by omega
      rw [e1, e2] at hc
      have hG2 : Hid (rot (sr G (xm - i) (xm + j - i) i) (xm - i) xm (xm + (j - i)) = rot F xa xm xb) := hide1 (by rw [rot_lt G hlt him]; exact hG.out)
      replace e1 := hide1 e1
      replace e2 := hide1 e2
      go_wp2_with fail
      refine hc.mono ?_
      rintro e w1 ⟨rfl, hR1, hO1⟩
      have hR2 := hide1 hR1
      have hO2 : Hid (Ob w w1 g) := hide1 (hO.out.trans hO1)
      clear hc hR1 hO1 hR hO hG
      go_wp2
      go_roundw
      case rel => exact ⟨i, j - i, _, rfl, by congr 1; omega, hi, by omega, him, by omega, hR2, hG2, hO2⟩
      case measure => simp [intOf]; omega
    · subst heq
      have q1 : ((i : Int) != (i : Int)) = false := by simp
      have hc := swr_d (fv := fv) (xa := xm - i) (xb := xm) (m := i) hR.out (by omega) (by omega) hn
      have e1 : ((xm - i : Nat) : Int) = (xm : Int) - (i : Int) := by omega
      rw [e1] at hc
      have hG2 : Hid (sr G (xm - i) xm i = rot F xa xm xb) := hide1 (by rw [rot_eq G him]; exact hG.out)
      replace e1 := hide1 e1
      go_wp2_with fail
      refine hc.mono ?_
      rintro e w1 ⟨rfl, hR1, hO1⟩
      rw [hG2.out] at hR1
      have hR2 := hide1 hR1
      have hO2 : Hid (Ob w w1 g) := hide1 (hO.out.trans hO1)
      clear hc hR1 hO1 hR hO hG hG2
      go_wp2
      go_end0
      exact ⟨rfl, hR2.out, hO2.out⟩
    · have q1 : ((i : Int) != (j : Int)) = true := by simp; omega
      have q2 : (j : Int) < (i : Int) := by omega
      have hc := swr_d (fv := fv) (xa := xm - i) (xb := xm) (m := j) hR.out (by omega) (by omega) hn
      have e1 : ((xm - i : Nat) : Int) = (xm : Int) - (i : Int) := by omega
      rw [e1] at hc
      have hG2 : Hid (rot (sr G (xm - i) xm j) (xm - (i - j)) xm (xm + j) = rot F xa xm xb) := hide1 (by rw [rot_gt G hgt him]; exact hG.out)
      replace e1 := hide1 e1
      go_wp2_with fail
      refine hc.mono ?_
      rintro e w1 ⟨rfl, hR1, hO1⟩
      have hR2 := hide1 hR1
      have hO2 : Hid (Ob w w1 g) := hide1 (hO.out.trans hO1)
      clear hc hR1 hO1 hR hO hG
      go_wp2
      go_roundw
      case rel => exact ⟨i - j, j, _, by congr 1; omega, rfl, by omega, hj, by omega, hjn, hR2, hG2, hO2⟩
      case measure => simp [intOf]; omega
theorem eqg_gtr {t : TypeId} {x u : Operand} {a b : Value} {w : World} : (eqGuard .gtr t x u a b).run Tryz.prog w = .ok () w := rfl
theorem eqg_lss {t : TypeId} {x u : Operand} {a b : Value} {w : World} : (eqGuard .lss t x u a b).run Tryz.prog w = .ok () w := rfl
theorem sub1_n {a : Nat} (h : 1 ≤ a) (hb : a ≤ 1000000000) (w : World) : (binOp .sub 3 (.int .i64 (a : Nat)) (.int .i64 1)).run Tryz.prog w = .ok (.int .i64 (a - 1 : Nat)) w := by
  have e : ((a - 1 : Nat) : Int) = (a : Int) - 1 := by omega
  have hwr : IntKind.i64.wrap ((a : Int) - 1) = (a : Int) - 1 := by go_unwrap
  rw [e]
  simp [go_sem, hwr]
theorem gt_n (a b : Nat) (w : World) : (binOp .gtr 3 (.int .i64 (a : Nat)) (.int .i64 (b : Nat))).run Tryz.prog w = .ok (.bool (decide (b < a))) w := by
  simp [go_sem]
theorem lt_z (z : Int) (w : World) : (binOp .lss 3 (.int .i64 z) (.int .i64 0)).run Tryz.prog w = .ok (.bool (decide (z < 0))) w := by
  simp [go_sem]
section
variable {P : Program} {Q : Exit → Act → World → Prop}
theorem oper_anyv {o : Oper} {a : Act} {w : World} {K : Act → World → Prop} (f : FuncId) (x : Operand) (xs : Array Operand) (tys : Array TypeId) (ho : o.op = .call { callee := .value x, args := xs, argTypes := tys }) (hx : a.eval x = .func (.func f) #[] #[]) (vs : Array Value) (hv : xs.map a.eval = vs) (he : ∀ w, (callFunc f vs).run P w = .ok (.enter f vs) w) {J : Value → World → Prop}
    (hc : Calls P f vs w fun e w' => ∃ r, e = .returned r ∧ J r w') (h : ∀ r w', J r w' → K (a.put o.dst r) w') : o.wp P a w K Q := by
  unfold Oper.wp execOp
  simp only [ho, resolve, invoke, Sem.run_bind, hv, hx, Deferred.ofValue, Sem.run_pure, Result.andThen_ok, Array.append_empty, Array.empty_append, he, Oper.upon_enter]
  exact hc.mono (by rintro e w' ⟨r, rfl, hJ⟩; exact h r w' hJ)
end
def zc (e e' : Ep) : Int := Lib.compareBytes e.1 e'.1
theorem zc_lt (e e' : Ep) (w : World) : (binOp .lss 3 (.int .i64 (zc e e')) (.int .i64 0)).run Tryz.prog w = .ok (.bool (ltE e e')) w := by
  rw [lt_z]
  have : decide (zc e e' < 0) = ltE e e' := by
    have h := cmp_bl e.1 e'.1
    unfold zc ltE
    cases hb : bl e.1 e'.1 with
    | true => rw [decide_eq_true (h.2 hb)]
    | false => rw [decide_eq_false (fun q => by rw [h.1 q] at hb; cases hb)]
  rw [this]
set_option maxRecDepth 100000 in
theorem cmp_d {w : World} {e e' : Ep} (h : EpOk e) (h' : EpOk e') : Calls Tryz.prog 95 #[.agg (cl e).toArray, .agg (cl e').toArray] w fun r w' => r = .returned (.int .i64 (zc e e')) ∧ Below w.heap.size w w' := by
  obtain ⟨s, r⟩ := e
  obtain ⟨s', r'⟩ := e'
  obtain ⟨x1, x2, x3, x4, x5, rfl⟩ := five_l h.1
  obtain ⟨y1, y2, y3, y4, y5, rfl⟩ := five_l h'.1
  have hc := fun w => strings_Compare (st s) (st s') w
  have hb : Hid (Below w.heap.size w ((w.alloc (.cells #[.string (st s), x1, x2, x3, x4, x5] 69)).alloc (.cells #[.string (st s'), y1, y2, y3, y4, y5] 69))) := hide1 (((Below.refl _ _).alloc (Nat.le_refl _) _).alloc (by simp) _)
  have hz : Hid ((.returned (.int .i64 (Lib.compareBytes (st s).data.toList (st s').data.toList)) : Ending) = .returned (.int .i64 (zc (s, [x1, x2, x3, x4, x5]) (s', [y1, y2, y3, y4, y5])))) := hide1 rfl
  generalize Lib.compareBytes (st s).data.toList (st s').data.toList = Z at *
  generalize zc (s, [x1, x2, x3, x4, x5]) (s', [y1, y2, y3, y4, y5]) = Z' at *
  show Calls Tryz.prog 95 #[.agg #[.string (st s), x1, x2, x3, x4, x5], .agg #[.string (st s'), y1, y2, y3, y4, y5]] w _
  clear h h'
  go_enter Tryz.func95, Tryz.ntmps95
  go_wp2_with fail
  refine (hc _).mono ?_
  rintro e w1 ⟨rfl, rfl⟩
  go_wp2
  go_ret
  exact ⟨hz.out, hb.out⟩
def ISv (g n cap jj : Nat) (F : Nat → Ep) : Nat → Value → Prop
  | 0, v => v = (.slice (some ⟨g, 0, none⟩) n cap)
  | 1, v => v = (.int .i64 (jj : Nat))
  | 2, v => v = (.slice (some ⟨g, 0, none⟩) n cap)
  | 3, v => v = (.int .i64 (jj : Nat))
  | 4, v => v = (.int .i64 (jj - 1 : Nat))
  | 5, v => v = (.slice (some ⟨g, 0, none⟩) n cap)
  | 6, v => v = (.int .i64 (jj : Nat))
  | 7, v => v = (.int .i64 (jj - 1 : Nat))
  | 8, v => v = .pointer (some ⟨g, (jj - 1) * 6, none⟩)
  | 9, v => v = .agg (cl (F (jj - 1))).toArray
  | 10, v => v = (.slice (some ⟨g, 0, none⟩) n cap)
  | 11, v => v = (.int .i64 (jj : Nat))
  | 12, v => v = .pointer (some ⟨g, (jj) * 6, none⟩)
  | 13, v => v = .agg (cl (F (jj))).toArray
  | 14, v => v = .pointer (some ⟨g, (jj) * 6, none⟩)
  | 16, v => v = .pointer (some ⟨g, (jj - 1) * 6, none⟩)
  | _, _ => True
def ISvd : Nat → Nat
  | 0 => 37
  | 1 => 38
  | 2 => 39
  | 3 => 40
  | 4 => 41
  | 5 => 42
  | 6 => 43
  | 7 => 44
  | 8 => 45
  | 9 => 46
  | 10 => 47
  | 11 => 48
  | 12 => 49
  | 13 => 50
  | 14 => 51
  | 15 => 1015
  | 16 => 52
  | 17 => 1017
  | i => 2000 + i

theorem Ob.kg {w w' : World} {g : Nat} (h : Ob w w' g) : Kg g w w' := ⟨h.os, h.tape, h.output, by rw [h.size]; exact Nat.le_refl _, fun q _ hn => h.block q hn⟩
theorem Kg.ofB {w w' : World} {g : Nat} (h : Below w.heap.size w w') : Kg g w w' := ⟨h.os, h.tape, h.output, h.size, fun q hq _ => h.block q hq⟩
set_option maxHeartbeats 8000000 in
set_option maxRecDepth 100000 in
theorem ins_d {w : World} {B g n cap xa xb : Nat} {F : Nat → Ep} (h : Rw w B g n cap F) (hbn : xb ≤ n) (han : xa ≤ n) (hn : n ≤ 2000000) :
    Calls Tryz.prog 180 #[.slice (some ⟨g, 0, none⟩) n cap, .int .i64 (xa : Nat), .int .i64 (xb : Nat), (.func (.func 95) #[] #[])] w fun e w' => e = .returned (.tuple #[]) ∧ ∃ G, Std ltE F xa xb G ∧ Rw w' B g n cap G ∧ Kg g w w' := by
  have h0 := hide1 h
  clear h
  go_enter Tryz.func180, Tryz.ntmps180
  go_wp2_with fail
  go_loopw [8] (fun s8 wo => ∃ (i : Nat) (G : Nat → Ep), s8 = .int .i64 (i : Nat) ∧ xa + 1 ≤ i ∧ i ≤ n + 1 ∧ (i ≤ xb ∨ xb ≤ xa + 1) ∧ (xb ≤ xa + 1 → i = xa + 1) ∧ Hid (xb ≤ xa + 1 → G = F) ∧ Hid (Std ltE F xa i G) ∧ Hid (Rw wo B g n cap G) ∧ Hid (Kg g w wo)) (fun s8 _ => n + 1 - (intOf s8).toNat)
  case atStart => exact ⟨xa + 1, F, by first | rfl | (congr 1; omega) | go_num, by omega, by omega, by omega, fun _ => rfl, hide1 fun _ => rfl, hide1 (std_1 (Nat.le_refl _)), h0, hide1 (Kg.refl g w)⟩
  case round =>
    obtain ⟨i, G, rfl, hi1, hi2, hi3, hi4, hGF, hstd, hRo, hKo⟩ := hrel
    by_cases hlt : i < xb
    · have hix : i < xb := hlt
      have hrs := hide1 (std_rs ok_ltE hstd.out)
      go_wp2_with fail
      go_loopw [9] (fun s9 wr => ∃ jj : Nat, s9 = .int .i64 (jj : Nat) ∧ xa ≤ jj ∧ jj ≤ i ∧ Hid (∀ k, jj ≤ k → k < i → ltE (G i) (G k) = true) ∧ Hid (Rw wr B g n cap (rot G jj i (i + 1))) ∧ Hid (Kg g w wr)) (fun s9 _ => (intOf s9).toNat)
      case atStart => exact ⟨i, by first | rfl | (congr 1; omega), by omega, Nat.le_refl _, hide1 fun k h1 h2 => by omega, hide1 (by rw [rot_id G (.inl rfl)]; exact hRo.out), hKo⟩
      case round =>
        obtain ⟨jj, rfl, hj1, hj2, hpast, hR, hK⟩ := hrel
        have hfin : ltE (G i) (G (jj - 1)) = false ∨ jj = xa → Hid (Std ltE F xa (i + 1) (rot G jj i (i + 1))) := fun hx => hide1 (std_s (by omega) hstd.out (mgd_r hj1 hj2 (fun k h1 h2 => by
          rcases hx with hx | hx
          · by_cases ek : k = jj - 1
            · rw [ek]; exact hx
            · cases e : ltE (G i) (G k) with
              | false => rfl
              | true =>
                rcases ok_ltE.wk (G i) (G k) (G (jj - 1)) e with h3 | h3
                · rw [hx] at h3; cases h3
                · rw [hrs.out k (jj - 1) h1 (by omega) (by omega)] at h3; cases h3
          · omega) hpast.out))
        by_cases hgt' : xa < jj
        · have hjn : jj < n := by omega
          have hj1n : jj - 1 < n := by omega
          have hsb := fun w => sub1_n (a := jj) (by omega) (by omega) w
          have hgt : ∀ w : World, (binOp .gtr 3 (.int .i64 (jj : Nat)) (.int .i64 (xa : Nat))).run Tryz.prog w = .ok (.bool true) w := fun w => by rw [gt_n, decide_eq_true hgt']
          have e1 : rot G jj i (i + 1) jj = G i := by unfold rot; rw [if_pos (by omega)]; congr 1; omega
          have e2 : rot G jj i (i + 1) (jj - 1) = G (jj - 1) := by unfold rot; rw [if_neg (by omega), if_neg (by omega)]
          have hok1 : EpOk (G i) := e1 ▸ hR.out.ok jj hjn
          have hok2 : EpOk (G (jj - 1)) := e2 ▸ hR.out.ok (jj - 1) hj1n
          have hld1 : ∀ wa, Below wr.heap.size wr wa → (Instr.loadAt 69 (.pointer (some ⟨g, jj * 6, none⟩))).run Tryz.prog wa = .ok (.agg (cl (G i)).toArray) wa := fun wa hwa => e1 ▸ (hR.out.later hwa).load hjn
          have hld2 : ∀ wa, Below wr.heap.size wr wa → (Instr.loadAt 69 (.pointer (some ⟨g, (jj - 1) * 6, none⟩))).run Tryz.prog wa = .ok (.agg (cl (G (jj - 1))).toArray) wa := fun wa hwa => e2 ▸ (hR.out.later hwa).load hj1n
          obtain ⟨R, hRd⟩ : ∃ R, Hid (R = ltE (G i) (G (jj - 1))) := ⟨_, hide1 rfl⟩
          have hzr : ∀ w, (binOp .lss 3 (.int .i64 (zc (G i) (G (jj - 1)))) (.int .i64 0)).run Tryz.prog w = .ok (.bool R) w := fun w => by rw [hRd.out]; exact zc_lt _ _ w
          replace e1 := hide1 e1
          replace e2 := hide1 e2
          go_upto_region 4 with fail
          refine wp_flowG 16 _ _ (by kernel_rfl) (by kernel_rfl) (by kernel_rfl) rfl (fun j v _ => v = ([(.int .i64 (jj : Nat)), (.int .i64 (xa : Nat)), (.bool true), (.bool true), (.func (.func 95) #[] #[]), (.slice (some ⟨g, 0, none⟩) n cap), (.int .i64 (jj : Nat)), (.pointer (some ⟨g, jj * 6, none⟩)), (.agg (cl (G i)).toArray), (.slice (some ⟨g, 0, none⟩) n cap), (.int .i64 (jj : Nat)), (.int .i64 (jj - 1 : Nat)), (.pointer (some ⟨g, (jj - 1) * 6, none⟩)), (.agg (cl (G (jj - 1))).toArray), (.int .i64 (zc (G i) (G (jj - 1)))), (.bool R), (.bool R)] : List Value).getD j undef) (fun _ _ _ _ h _ => h) ?_ ?_
          · intro j op hop hj a wa hwa hsz hsl hdep K hK
            match j, hop with
            | 0, hop =>
              obtain rfl := Option.some.inj hop
              have p9 : a.tmps.getD 9 undef = (.int .i64 (jj : Nat)) := hsl 9 rfl
              exact .plain rfl (wp_val (w' := wa) (v := (.int .i64 (jj : Nat))) (by simp only [execOp, Act.eval]; rw [show a.tmps.getD 9 undef = _ from p9]; rfl) (hK _ _ (Below.refl _ _) rfl))
            | 1, hop =>
              obtain rfl := Option.some.inj hop
              have p1 : a.tmps.getD 1 undef = (.int .i64 (xa : Nat)) := hsl 1 rfl
              exact .plain rfl (wp_val (w' := wa) (v := (.int .i64 (xa : Nat))) (by simp only [execOp, Act.eval]; rw [show a.tmps.getD 1 undef = _ from p1]; rfl) (hK _ _ (Below.refl _ _) rfl))
            | 2, hop =>
              obtain rfl := Option.some.inj hop
              have t0 : a.tmps.getD 18 undef = (.int .i64 (jj : Nat)) := hdep 0 _ 18 rfl rfl ⟨⟨0, .data⟩, by simp, rfl, rfl⟩
              have t1 : a.tmps.getD 19 undef = (.int .i64 (xa : Nat)) := hdep 1 _ 19 rfl rfl ⟨⟨1, .data⟩, by simp, rfl, rfl⟩
              exact .plain rfl (wp_val (w' := wa) (v := (.bool true)) (by simp only [execOp, Act.eval]; rw [show a.tmps.getD 18 undef = _ from t0, show a.tmps.getD 19 undef = _ from t1]; simp only [Sem.run_bind, eqg_gtr, hgt, Result.andThen_ok, Sem.run_pure]) (hK _ _ (Below.refl _ _) rfl))
            | 3, hop =>
              obtain rfl := Option.some.inj hop
              have t2 : a.tmps.getD 20 undef = (.bool true) := hdep 2 _ 20 rfl rfl ⟨⟨2, .data⟩, by simp, rfl, rfl⟩
              exact .plain rfl (wp_val (w' := wa) (v := (.bool true)) (by simp only [execOp, Act.eval]; rw [show a.tmps.getD 20 undef = _ from t2]; rfl) (hK _ _ (Below.refl _ _) rfl))
            | 4, hop =>
              obtain rfl := Option.some.inj hop
              have gg : a.tmps.getD 21 undef = (.bool true) := hdep 3 _ 21 rfl rfl ⟨⟨3, .guard⟩, by simp, rfl, rfl⟩
              have p3 : a.tmps.getD 3 undef = (.func (.func 95) #[] #[]) := hsl 3 rfl
              exact .want rfl rfl (by rw [hsz]; simp) gg (wp_val (w' := wa) (v := (.func (.func 95) #[] #[])) (by simp only [execOp, Act.eval]; rw [show a.tmps.getD 3 undef = _ from p3]; rfl) (hK _ _ (Below.refl _ _) rfl))
            | 5, hop =>
              obtain rfl := Option.some.inj hop
              have gg : a.tmps.getD 21 undef = (.bool true) := hdep 3 _ 21 rfl rfl ⟨⟨3, .guard⟩, by simp, rfl, rfl⟩
              have p0 : a.tmps.getD 0 undef = (.slice (some ⟨g, 0, none⟩) n cap) := hsl 0 rfl
              exact .want rfl rfl (by rw [hsz]; simp) gg (wp_val (w' := wa) (v := (.slice (some ⟨g, 0, none⟩) n cap)) (by simp only [execOp, Act.eval]; rw [show a.tmps.getD 0 undef = _ from p0]; rfl) (hK _ _ (Below.refl _ _) rfl))
            | 6, hop =>
              obtain rfl := Option.some.inj hop
              have gg : a.tmps.getD 21 undef = (.bool true) := hdep 3 _ 21 rfl rfl ⟨⟨3, .guard⟩, by simp, rfl, rfl⟩
              have p9 : a.tmps.getD 9 undef = (.int .i64 (jj : Nat)) := hsl 9 rfl
              exact .want rfl rfl (by rw [hsz]; simp) gg (wp_val (w' := wa) (v := (.int .i64 (jj : Nat))) (by simp only [execOp, Act.eval]; rw [show a.tmps.getD 9 undef = _ from p9]; rfl) (hK _ _ (Below.refl _ _) rfl))
            | 7, hop =>
              obtain rfl := Option.some.inj hop
              have gg : a.tmps.getD 21 undef = (.bool true) := hdep 3 _ 21 rfl rfl ⟨⟨3, .guard⟩, by simp, rfl, rfl⟩
              have t5 : a.tmps.getD 23 undef = (.slice (some ⟨g, 0, none⟩) n cap) := hdep 5 _ 23 rfl rfl ⟨⟨5, .data⟩, by simp, rfl, rfl⟩
              have t6 : a.tmps.getD 24 undef = (.int .i64 (jj : Nat)) := hdep 6 _ 24 rfl rfl ⟨⟨6, .data⟩, by simp, rfl, rfl⟩
              exact .want rfl rfl (by rw [hsz]; simp) gg (wp_val (w' := wa) (v := (.pointer (some ⟨g, jj * 6, none⟩))) (by simp only [execOp, Act.eval]; rw [show a.tmps.getD 23 undef = _ from t5, show a.tmps.getD 24 undef = _ from t6]; simp only [Sem.run_bind, ix_sP hjn, Result.andThen_ok, Sem.run_pure]) (hK _ _ (Below.refl _ _) rfl))
            | 8, hop =>
              obtain rfl := Option.some.inj hop
              have gg : a.tmps.getD 21 undef = (.bool true) := hdep 3 _ 21 rfl rfl ⟨⟨3, .guard⟩, by simp, rfl, rfl⟩
              have t7 : a.tmps.getD 25 undef = (.pointer (some ⟨g, jj * 6, none⟩)) := hdep 7 _ 25 rfl rfl ⟨⟨7, .data⟩, by simp, rfl, rfl⟩
              exact .want rfl rfl (by rw [hsz]; simp) gg (wp_val (w' := wa) (v := (.agg (cl (G i)).toArray)) (by simp only [execOp, Act.eval]; rw [show a.tmps.getD 25 undef = _ from t7]; simp only [Sem.run_bind, hld1 _ hwa, Result.andThen_ok, Sem.run_pure]) (hK _ _ (Below.refl _ _) rfl))
            | 9, hop =>
              obtain rfl := Option.some.inj hop
              have gg : a.tmps.getD 21 undef = (.bool true) := hdep 3 _ 21 rfl rfl ⟨⟨3, .guard⟩, by simp, rfl, rfl⟩
              have p0 : a.tmps.getD 0 undef = (.slice (some ⟨g, 0, none⟩) n cap) := hsl 0 rfl
              exact .want rfl rfl (by rw [hsz]; simp) gg (wp_val (w' := wa) (v := (.slice (some ⟨g, 0, none⟩) n cap)) (by simp only [execOp, Act.eval]; rw [show a.tmps.getD 0 undef = _ from p0]; rfl) (hK _ _ (Below.refl _ _) rfl))
            | 10, hop =>
              obtain rfl := Option.some.inj hop
              have gg : a.tmps.getD 21 undef = (.bool true) := hdep 3 _ 21 rfl rfl ⟨⟨3, .guard⟩, by simp, rfl, rfl⟩
              have p9 : a.tmps.getD 9 undef = (.int .i64 (jj : Nat)) := hsl 9 rfl
              exact .want rfl rfl (by rw [hsz]; simp) gg (wp_val (w' := wa) (v := (.int .i64 (jj : Nat))) (by simp only [execOp, Act.eval]; rw [show a.tmps.getD 9 undef = _ from p9]; rfl) (hK _ _ (Below.refl _ _) rfl))
            | 11, hop =>
              obtain rfl := Option.some.inj hop
              have gg : a.tmps.getD 21 undef = (.bool true) := hdep 3 _ 21 rfl rfl ⟨⟨3, .guard⟩, by simp, rfl, rfl⟩
              have t10 : a.tmps.getD 28 undef = (.int .i64 (jj : Nat)) := hdep 10 _ 28 rfl rfl ⟨⟨10, .data⟩, by simp, rfl, rfl⟩
              exact .want rfl rfl (by rw [hsz]; simp) gg (wp_val (w' := wa) (v := (.int .i64 (jj - 1 : Nat))) (by simp only [execOp, Act.eval]; rw [show a.tmps.getD 28 undef = _ from t10]; simp only [Sem.run_bind, eqg_sub, hsb, Result.andThen_ok, Sem.run_pure]) (hK _ _ (Below.refl _ _) rfl))
            | 12, hop =>
              obtain rfl := Option.some.inj hop
              have gg : a.tmps.getD 21 undef = (.bool true) := hdep 3 _ 21 rfl rfl ⟨⟨3, .guard⟩, by simp, rfl, rfl⟩
              have t9 : a.tmps.getD 27 undef = (.slice (some ⟨g, 0, none⟩) n cap) := hdep 9 _ 27 rfl rfl ⟨⟨9, .data⟩, by simp, rfl, rfl⟩
              have t11 : a.tmps.getD 29 undef = (.int .i64 (jj - 1 : Nat)) := hdep 11 _ 29 rfl rfl ⟨⟨11, .data⟩, by simp, rfl, rfl⟩
              exact .want rfl rfl (by rw [hsz]; simp) gg (wp_val (w' := wa) (v := (.pointer (some ⟨g, (jj - 1) * 6, none⟩))) (by simp only [execOp, Act.eval]; rw [show a.tmps.getD 27 undef = _ from t9, show a.tmps.getD 29 undef = _ from t11]; simp only [Sem.run_bind, ix_sP hj1n, Result.andThen_ok, Sem.run_pure]) (hK _ _ (Below.refl _ _) rfl))
            | 13, hop =>
              obtain rfl := Option.some.inj hop
              have gg : a.tmps.getD 21 undef = (.bool true) := hdep 3 _ 21 rfl rfl ⟨⟨3, .guard⟩, by simp, rfl, rfl⟩
              have t12 : a.tmps.getD 30 undef = (.pointer (some ⟨g, (jj - 1) * 6, none⟩)) := hdep 12 _ 30 rfl rfl ⟨⟨12, .data⟩, by simp, rfl, rfl⟩
              exact .want rfl rfl (by rw [hsz]; simp) gg (wp_val (w' := wa) (v := (.agg (cl (G (jj - 1))).toArray)) (by simp only [execOp, Act.eval]; rw [show a.tmps.getD 30 undef = _ from t12]; simp only [Sem.run_bind, hld2 _ hwa, Result.andThen_ok, Sem.run_pure]) (hK _ _ (Below.refl _ _) rfl))
            | 14, hop =>
              obtain rfl := Option.some.inj hop
              have gg : a.tmps.getD 21 undef = (.bool true) := hdep 3 _ 21 rfl rfl ⟨⟨3, .guard⟩, by simp, rfl, rfl⟩
              have t8 : a.tmps.getD 26 undef = (.agg (cl (G i)).toArray) := hdep 8 _ 26 rfl rfl ⟨⟨8, .data⟩, by simp, rfl, rfl⟩
              have t13 : a.tmps.getD 31 undef = (.agg (cl (G (jj - 1))).toArray) := hdep 13 _ 31 rfl rfl ⟨⟨13, .data⟩, by simp, rfl, rfl⟩
              have t4 : a.tmps.getD 22 undef = (.func (.func 95) #[] #[]) := hdep 4 _ 22 rfl rfl ⟨⟨4, .data⟩, by simp, rfl, rfl⟩
              refine .want rfl rfl (by rw [hsz]; simp) gg (oper_anyv (J := fun r w' => r = (.int .i64 (zc (G i) (G (jj - 1)))) ∧ Below wa.heap.size wa w') 95 (.tmp 22) #[.tmp 26, .tmp 31] _ rfl (show a.tmps.getD 22 undef = _ from t4) #[(.agg (cl (G i)).toArray), (.agg (cl (G (jj - 1))).toArray)] (by simp only [List.map_toArray, List.map_cons, List.map_nil, Act.eval]; rw [show a.tmps.getD 26 undef = _ from t8, show a.tmps.getD 31 undef = _ from t13]) (fun w => by kernel_rfl) ((cmp_d hok1 hok2).mono fun e w' h => ⟨_, h.1, rfl, h.2⟩) ?_)
              rintro r w' ⟨rfl, hb⟩
              exact hK _ _ hb rfl
            | 15, hop =>
              obtain rfl := Option.some.inj hop
              have gg : a.tmps.getD 21 undef = (.bool true) := hdep 3 _ 21 rfl rfl ⟨⟨3, .guard⟩, by simp, rfl, rfl⟩
              have t14 : a.tmps.getD 32 undef = (.int .i64 (zc (G i) (G (jj - 1)))) := hdep 14 _ 32 rfl rfl ⟨⟨14, .data⟩, by simp, rfl, rfl⟩
              exact .want rfl rfl (by rw [hsz]; simp) gg (wp_val (w' := wa) (v := (.bool R)) (by simp only [execOp, Act.eval]; rw [show a.tmps.getD 32 undef = _ from t14]; simp only [Sem.run_bind, eqg_lss, hzr, Result.andThen_ok, Sem.run_pure]) (hK _ _ (Below.refl _ _) rfl))
            | 16, _ => exact absurd rfl hj
            | _ + 17, hop => exact absurd hop (by simp)
          · intro a wa hwa hdf hsz hsl hrr K hK
            have t3 : a.tmps.getD 21 undef = (.bool true) := hrr 3 _ 21 rfl (by decide) rfl
            have t15 : a.tmps.getD 33 undef = (.bool R) := hrr 15 _ 33 rfl (by decide) rfl
            refine .plain rfl (wp_val (w' := wa) (v := (.bool R)) (by simp only [execOp, Act.eval]; rw [show a.tmps.getD 21 undef = _ from t3, show a.tmps.getD 33 undef = _ from t15]; rfl) ?_)
            refine hK _ wa ?_
            have hact := act_puts hdf hsz hsl
            clear hrr hsl hdf hsz hK t15 t3
            simp only [List.filterMap_cons, List.filterMap_nil, List.foldl_cons, List.foldl_nil] at hact
            rw [hact]
            generalize a.tmps.getD 18 undef = y18
            generalize a.tmps.getD 19 undef = y19
            generalize a.tmps.getD 20 undef = y20
            generalize a.tmps.getD 21 undef = y21
            generalize a.tmps.getD 22 undef = y22
            generalize a.tmps.getD 23 undef = y23
            generalize a.tmps.getD 24 undef = y24
            generalize a.tmps.getD 25 undef = y25
            generalize a.tmps.getD 26 undef = y26
            generalize a.tmps.getD 27 undef = y27
            generalize a.tmps.getD 28 undef = y28
            generalize a.tmps.getD 29 undef = y29
            generalize a.tmps.getD 30 undef = y30
            generalize a.tmps.getD 31 undef = y31
            generalize a.tmps.getD 32 undef = y32
            generalize a.tmps.getD 33 undef = y33
            clear hact
            simp only [Act.put, List.setIfInBounds_toArray, List.set_cons_succ, List.set_cons_zero]
            have hR4 := hide1 (hR.out.later hwa)
            have hK4 : Hid (Kg g w wa) := hide1 (hK.out.trans (Kg.ofB hwa))
            clear hld1 hld2 hzr hgt hwa hR hK
            cases R with
            | true =>
              have hxy : jj ≠ jj - 1 := by omega
              have hsr : Hid (sr (rot G jj i (i + 1)) jj (jj - 1) 1 = rot G (jj - 1) i (i + 1)) := hide1 (by
                have := rot_dn G (m := i) (k := jj - 1) (by omega)
                rwa [show jj - 1 + 1 = jj by omega] at this)
              have hpast2 : Hid (∀ k, jj - 1 ≤ k → k < i → ltE (G i) (G k) = true) := hide1 fun k h1 h2 => by
                by_cases ek : k = jj - 1
                · rw [ek]; exact hRd.out.symm
                · exact hpast.out k (by omega) h2
              go_upto_region 6 with fail
              refine wp_rel5 _ _ (fun _ j v _ => ISv g n cap jj (rot G jj i (i + 1)) j v) (fun D w => Msw wa B g n cap (rot G jj i (i + 1)) (jj) (jj - 1) (D 15) (D 17) w) ISvd (by kernel_rfl) (by kernel_rfl) 18 (by kernel_rfl) ?_ ?_ rfl (msw_start hjn hj1n hR4.out) ?_ ?_
              · intro ix o ho
                match ix, ho with
                | 0, ho => obtain rfl := Option.some.inj ho; exact .inl ⟨rfl, by show 37 < 53; decide⟩
                | 1, ho => obtain rfl := Option.some.inj ho; exact .inl ⟨rfl, by show 38 < 53; decide⟩
                | 2, ho => obtain rfl := Option.some.inj ho; exact .inl ⟨rfl, by show 39 < 53; decide⟩
                | 3, ho => obtain rfl := Option.some.inj ho; exact .inl ⟨rfl, by show 40 < 53; decide⟩
                | 4, ho => obtain rfl := Option.some.inj ho; exact .inl ⟨rfl, by show 41 < 53; decide⟩
                | 5, ho => obtain rfl := Option.some.inj ho; exact .inl ⟨rfl, by show 42 < 53; decide⟩
                | 6, ho => obtain rfl := Option.some.inj ho; exact .inl ⟨rfl, by show 43 < 53; decide⟩
                | 7, ho => obtain rfl := Option.some.inj ho; exact .inl ⟨rfl, by show 44 < 53; decide⟩
                | 8, ho => obtain rfl := Option.some.inj ho; exact .inl ⟨rfl, by show 45 < 53; decide⟩
                | 9, ho => obtain rfl := Option.some.inj ho; exact .inl ⟨rfl, by show 46 < 53; decide⟩
                | 10, ho => obtain rfl := Option.some.inj ho; exact .inl ⟨rfl, by show 47 < 53; decide⟩
                | 11, ho => obtain rfl := Option.some.inj ho; exact .inl ⟨rfl, by show 48 < 53; decide⟩
                | 12, ho => obtain rfl := Option.some.inj ho; exact .inl ⟨rfl, by show 49 < 53; decide⟩
                | 13, ho => obtain rfl := Option.some.inj ho; exact .inl ⟨rfl, by show 50 < 53; decide⟩
                | 14, ho => obtain rfl := Option.some.inj ho; exact .inl ⟨rfl, by show 51 < 53; decide⟩
                | 15, ho => obtain rfl := Option.some.inj ho; exact .inr ⟨⟨rfl, fun _ _ _ _ => trivial⟩, by show 53 ≤ 1015; decide⟩
                | 16, ho => obtain rfl := Option.some.inj ho; exact .inl ⟨rfl, by show 52 < 53; decide⟩
                | 17, ho => obtain rfl := Option.some.inj ho; exact .inr ⟨⟨rfl, fun _ _ _ _ => trivial⟩, by show 53 ≤ 1017; decide⟩
                | _ + 18, ho => exact absurd ho (by simp)
              · intro ix jx hi hj e; unfold ISvd at e; split at e <;> split at e <;> omega
              · intro ix o ho
                match ix, ho with
                | 0, ho =>
                  obtain rfl := Option.some.inj ho
                  intro D a w hM hsl hdep hDi hcl K hK
                  have hp0 : a.tmps.getD 0 undef = (.slice (some ⟨g, 0, none⟩) n cap) := hsl 0 (by intro j hj; unfold ISvd; split <;> omega)
                  refine ⟨rfl, ?_⟩
                  refine wp_val (w' := w) (v := (.slice (some ⟨g, 0, none⟩) n cap)) (by simp only [execOp, Act.eval]; rw [show a.tmps.getD 0 undef = _ from hp0]; rfl) ?_
                  exact hK _ _ rfl (msw_ne (by decide) (by decide) hM) (fun _ _ _ _ h => h)
                | 1, ho =>
                  obtain rfl := Option.some.inj ho
                  intro D a w hM hsl hdep hDi hcl K hK
                  have hp9 : a.tmps.getD 9 undef = (.int .i64 (jj : Nat)) := hsl 9 (by intro j hj; unfold ISvd; split <;> omega)
                  refine ⟨rfl, ?_⟩
                  refine wp_val (w' := w) (v := (.int .i64 (jj : Nat))) (by simp only [execOp, Act.eval]; rw [show a.tmps.getD 9 undef = _ from hp9]; rfl) ?_
                  exact hK _ _ rfl (msw_ne (by decide) (by decide) hM) (fun _ _ _ _ h => h)
                | 2, ho =>
                  obtain rfl := Option.some.inj ho
                  intro D a w hM hsl hdep hDi hcl K hK
                  have hp0 : a.tmps.getD 0 undef = (.slice (some ⟨g, 0, none⟩) n cap) := hsl 0 (by intro j hj; unfold ISvd; split <;> omega)
                  refine ⟨rfl, ?_⟩
                  refine wp_val (w' := w) (v := (.slice (some ⟨g, 0, none⟩) n cap)) (by simp only [execOp, Act.eval]; rw [show a.tmps.getD 0 undef = _ from hp0]; rfl) ?_
                  exact hK _ _ rfl (msw_ne (by decide) (by decide) hM) (fun _ _ _ _ h => h)
                | 3, ho =>
                  obtain rfl := Option.some.inj ho
                  intro D a w hM hsl hdep hDi hcl K hK
                  have hp9 : a.tmps.getD 9 undef = (.int .i64 (jj : Nat)) := hsl 9 (by intro j hj; unfold ISvd; split <;> omega)
                  refine ⟨rfl, ?_⟩
                  refine wp_val (w' := w) (v := (.int .i64 (jj : Nat))) (by simp only [execOp, Act.eval]; rw [show a.tmps.getD 9 undef = _ from hp9]; rfl) ?_
                  exact hK _ _ rfl (msw_ne (by decide) (by decide) hM) (fun _ _ _ _ h => h)
                | 4, ho =>
                  obtain rfl := Option.some.inj ho
                  intro D a w hM hsl hdep hDi hcl K hK
                  have e3 := (hdep ⟨3, .data⟩ (by simp) rfl).1
                  refine ⟨rfl, ?_⟩
                  refine wp_val (w' := w) (v := (.int .i64 (jj - 1 : Nat))) (by simp only [execOp, Act.eval]; rw [show a.tmps.getD 40 undef = _ from e3]; simp only [Sem.run_bind, eqg_sub, hsb, Result.andThen_ok, Sem.run_pure]) ?_
                  exact hK _ _ rfl (msw_ne (by decide) (by decide) hM) (fun _ _ _ _ h => h)
                | 5, ho =>
                  obtain rfl := Option.some.inj ho
                  intro D a w hM hsl hdep hDi hcl K hK
                  have hp0 : a.tmps.getD 0 undef = (.slice (some ⟨g, 0, none⟩) n cap) := hsl 0 (by intro j hj; unfold ISvd; split <;> omega)
                  refine ⟨rfl, ?_⟩
                  refine wp_val (w' := w) (v := (.slice (some ⟨g, 0, none⟩) n cap)) (by simp only [execOp, Act.eval]; rw [show a.tmps.getD 0 undef = _ from hp0]; rfl) ?_
                  exact hK _ _ rfl (msw_ne (by decide) (by decide) hM) (fun _ _ _ _ h => h)
                | 6, ho =>
                  obtain rfl := Option.some.inj ho
                  intro D a w hM hsl hdep hDi hcl K hK
                  have hp9 : a.tmps.getD 9 undef = (.int .i64 (jj : Nat)) := hsl 9 (by intro j hj; unfold ISvd; split <;> omega)
                  refine ⟨rfl, ?_⟩
                  refine wp_val (w' := w) (v := (.int .i64 (jj : Nat))) (by simp only [execOp, Act.eval]; rw [show a.tmps.getD 9 undef = _ from hp9]; rfl) ?_
                  exact hK _ _ rfl (msw_ne (by decide) (by decide) hM) (fun _ _ _ _ h => h)
                | 7, ho =>
                  obtain rfl := Option.some.inj ho
                  intro D a w hM hsl hdep hDi hcl K hK
                  have e6 := (hdep ⟨6, .data⟩ (by simp) rfl).1
                  refine ⟨rfl, ?_⟩
                  refine wp_val (w' := w) (v := (.int .i64 (jj - 1 : Nat))) (by simp only [execOp, Act.eval]; rw [show a.tmps.getD 43 undef = _ from e6]; simp only [Sem.run_bind, eqg_sub, hsb, Result.andThen_ok, Sem.run_pure]) ?_
                  exact hK _ _ rfl (msw_ne (by decide) (by decide) hM) (fun _ _ _ _ h => h)
                | 8, ho =>
                  obtain rfl := Option.some.inj ho
                  intro D a w hM hsl hdep hDi hcl K hK
                  have e5 := (hdep ⟨5, .data⟩ (by simp) rfl).1
                  have e7 := (hdep ⟨7, .data⟩ (by simp) rfl).1
                  refine ⟨rfl, ?_⟩
                  refine wp_val (w' := w) (v := .pointer (some ⟨g, (jj - 1) * 6, none⟩)) (by simp only [execOp, Act.eval]; rw [show a.tmps.getD 42 undef = _ from e5, show a.tmps.getD 44 undef = _ from e7]; simp only [Sem.run_bind, ix_sP hj1n, Result.andThen_ok, Sem.run_pure]) ?_
                  exact hK _ _ rfl (msw_ne (by decide) (by decide) hM) (fun _ _ _ _ h => h)
                | 9, ho =>
                  obtain rfl := Option.some.inj ho
                  intro D a w hM hsl hdep hDi hcl K hK
                  have e8 := (hdep ⟨8, .data⟩ (by simp) rfl).1
                  have hD15 : D 15 = false := by cases h9 : D 15 with | false => rfl | true => have := hcl 15 _ rfl h9 ⟨9, .data⟩ (by simp) rfl; rw [this] at hDi; cases hDi
                  have hD17 : D 17 = false := by cases h9 : D 17 with | false => rfl | true => have := hcl 17 _ rfl h9 ⟨9, .phase⟩ (by simp) rfl; rw [this] at hDi; cases hDi
                  have hl := (msw_00 hD15 hD17 hM).load hj1n
                  refine ⟨rfl, ?_⟩
                  refine wp_val (w' := w) (v := .agg (cl ((rot G jj i (i + 1)) (jj - 1))).toArray) (by simp only [execOp, Act.eval]; rw [show a.tmps.getD 45 undef = _ from e8]; simp only [Sem.run_bind, hl, Result.andThen_ok, Sem.run_pure]) ?_
                  exact hK _ _ rfl (msw_ne (by decide) (by decide) hM) (fun _ _ _ _ h => h)
                | 10, ho =>
                  obtain rfl := Option.some.inj ho
                  intro D a w hM hsl hdep hDi hcl K hK
                  have hp0 : a.tmps.getD 0 undef = (.slice (some ⟨g, 0, none⟩) n cap) := hsl 0 (by intro j hj; unfold ISvd; split <;> omega)
                  refine ⟨rfl, ?_⟩
                  refine wp_val (w' := w) (v := (.slice (some ⟨g, 0, none⟩) n cap)) (by simp only [execOp, Act.eval]; rw [show a.tmps.getD 0 undef = _ from hp0]; rfl) ?_
                  exact hK _ _ rfl (msw_ne (by decide) (by decide) hM) (fun _ _ _ _ h => h)
                | 11, ho =>
                  obtain rfl := Option.some.inj ho
                  intro D a w hM hsl hdep hDi hcl K hK
                  have hp9 : a.tmps.getD 9 undef = (.int .i64 (jj : Nat)) := hsl 9 (by intro j hj; unfold ISvd; split <;> omega)
                  refine ⟨rfl, ?_⟩
                  refine wp_val (w' := w) (v := (.int .i64 (jj : Nat))) (by simp only [execOp, Act.eval]; rw [show a.tmps.getD 9 undef = _ from hp9]; rfl) ?_
                  exact hK _ _ rfl (msw_ne (by decide) (by decide) hM) (fun _ _ _ _ h => h)
                | 12, ho =>
                  obtain rfl := Option.some.inj ho
                  intro D a w hM hsl hdep hDi hcl K hK
                  have e10 := (hdep ⟨10, .data⟩ (by simp) rfl).1
                  have e11 := (hdep ⟨11, .data⟩ (by simp) rfl).1
                  refine ⟨rfl, ?_⟩
                  refine wp_val (w' := w) (v := .pointer (some ⟨g, (jj) * 6, none⟩)) (by simp only [execOp, Act.eval]; rw [show a.tmps.getD 47 undef = _ from e10, show a.tmps.getD 48 undef = _ from e11]; simp only [Sem.run_bind, ix_sP hjn, Result.andThen_ok, Sem.run_pure]) ?_
                  exact hK _ _ rfl (msw_ne (by decide) (by decide) hM) (fun _ _ _ _ h => h)
                | 13, ho =>
                  obtain rfl := Option.some.inj ho
                  intro D a w hM hsl hdep hDi hcl K hK
                  have e12 := (hdep ⟨12, .data⟩ (by simp) rfl).1
                  have hD15 : D 15 = false := by cases h9 : D 15 with | false => rfl | true => have := hcl 15 _ rfl h9 ⟨13, .phase⟩ (by simp) rfl; rw [this] at hDi; cases hDi
                  have hD17 : D 17 = false := by cases h9 : D 17 with | false => rfl | true => have := hcl 17 _ rfl h9 ⟨13, .data⟩ (by simp) rfl; rw [this] at hDi; cases hDi
                  have hl := (msw_00 hD15 hD17 hM).load hjn
                  refine ⟨rfl, ?_⟩
                  refine wp_val (w' := w) (v := .agg (cl ((rot G jj i (i + 1)) (jj))).toArray) (by simp only [execOp, Act.eval]; rw [show a.tmps.getD 49 undef = _ from e12]; simp only [Sem.run_bind, hl, Result.andThen_ok, Sem.run_pure]) ?_
                  exact hK _ _ rfl (msw_ne (by decide) (by decide) hM) (fun _ _ _ _ h => h)
                | 14, ho =>
                  obtain rfl := Option.some.inj ho
                  intro D a w hM hsl hdep hDi hcl K hK
                  have e0 := (hdep ⟨0, .data⟩ (by simp) rfl).1
                  have e1 := (hdep ⟨1, .data⟩ (by simp) rfl).1
                  refine ⟨rfl, ?_⟩
                  refine wp_val (w' := w) (v := .pointer (some ⟨g, (jj) * 6, none⟩)) (by simp only [execOp, Act.eval]; rw [show a.tmps.getD 37 undef = _ from e0, show a.tmps.getD 38 undef = _ from e1]; simp only [Sem.run_bind, ix_sP hjn, Result.andThen_ok, Sem.run_pure]) ?_
                  exact hK _ _ rfl (msw_ne (by decide) (by decide) hM) (fun _ _ _ _ h => h)
                | 15, ho =>
                  obtain rfl := Option.some.inj ho
                  intro D a w hM hsl hdep hDi hcl K hK
                  have e14 := (hdep ⟨14, .data⟩ (by simp) rfl).1
                  have e9 := (hdep ⟨9, .data⟩ (by simp) rfl).1
                  obtain ⟨c, hst, hM2⟩ := msw_1 (s1 := 15) (s2 := 17) (by decide) hxy hjn hDi hM
                  refine ⟨rfl, ?_⟩
                  refine wp_skp (w' := w.setRow g c) (by simp only [execOp, Act.eval]; rw [show a.tmps.getD 51 undef = _ from e14, show a.tmps.getD 46 undef = _ from e9]; simp only [Sem.run_bind, hst, Result.andThen_ok, Sem.run_pure]) ?_
                  exact hK _ _ trivial hM2 (fun _ _ _ _ h => h)
                | 16, ho =>
                  obtain rfl := Option.some.inj ho
                  intro D a w hM hsl hdep hDi hcl K hK
                  have e2 := (hdep ⟨2, .data⟩ (by simp) rfl).1
                  have e4 := (hdep ⟨4, .data⟩ (by simp) rfl).1
                  refine ⟨rfl, ?_⟩
                  refine wp_val (w' := w) (v := .pointer (some ⟨g, (jj - 1) * 6, none⟩)) (by simp only [execOp, Act.eval]; rw [show a.tmps.getD 39 undef = _ from e2, show a.tmps.getD 41 undef = _ from e4]; simp only [Sem.run_bind, ix_sP hj1n, Result.andThen_ok, Sem.run_pure]) ?_
                  exact hK _ _ rfl (msw_ne (by decide) (by decide) hM) (fun _ _ _ _ h => h)
                | 17, ho =>
                  obtain rfl := Option.some.inj ho
                  intro D a w hM hsl hdep hDi hcl K hK
                  have e16 := (hdep ⟨16, .data⟩ (by simp) rfl).1
                  have e13 := (hdep ⟨13, .data⟩ (by simp) rfl).1
                  obtain ⟨c, hst, hM2⟩ := msw_2 (s1 := 15) (s2 := 17) (by decide) hxy hj1n hDi hM
                  refine ⟨rfl, ?_⟩
                  refine wp_skp (w' := w.setRow g c) (by simp only [execOp, Act.eval]; rw [show a.tmps.getD 52 undef = _ from e16, show a.tmps.getD 50 undef = _ from e13]; simp only [Sem.run_bind, hst, Result.andThen_ok, Sem.run_pure]) ?_
                  exact hK _ _ trivial hM2 (fun _ _ _ _ h => h)
                | _ + 18, ho => exact absurd ho (by simp)
              · intro D a wt hall hd hs hM hsl hr hact
                replace hM := msw_11 hxy (hall 15 (by decide)) (hall 17 (by decide)) hM
                simp only [List.filterMap_cons, List.filterMap_nil, List.foldl_cons, List.foldl_nil] at hact
                rw [hact]
                generalize a.tmps.getD 37 undef = y37
                generalize a.tmps.getD 38 undef = y38
                generalize a.tmps.getD 39 undef = y39
                generalize a.tmps.getD 40 undef = y40
                generalize a.tmps.getD 41 undef = y41
                generalize a.tmps.getD 42 undef = y42
                generalize a.tmps.getD 43 undef = y43
                generalize a.tmps.getD 44 undef = y44
                generalize a.tmps.getD 45 undef = y45
                generalize a.tmps.getD 46 undef = y46
                generalize a.tmps.getD 47 undef = y47
                generalize a.tmps.getD 48 undef = y48
                generalize a.tmps.getD 49 undef = y49
                generalize a.tmps.getD 50 undef = y50
                generalize a.tmps.getD 51 undef = y51
                generalize a.tmps.getD 52 undef = y52
                clear hact hsl hr hd hs hall a
                simp only [Act.put, List.setIfInBounds_toArray, List.set_cons_succ, List.set_cons_zero]
                obtain ⟨hR5, hO5⟩ := hM
                rw [hsr.out] at hR5
                have hR6 := hide1 hR5
                have hK6 : Hid (Kg g w wt) := hide1 (hK4.out.trans hO5.kg)
                clear hR5 hO5 hsr hsb hR4 hK4
                go_wp2
                go_roundw
                case rel => exact ⟨jj - 1, by congr 1; omega, by omega, by omega, hpast2, hR6, hK6⟩
                case measure => simp [intOf]; omega
            | false =>
              have hst := hfin (.inl hRd.out.symm)
              clear hfin hpast hrs hRd hsb
              go_wp2
              go_roundw
              case rel => exact ⟨i + 1, _, by first | rfl | (congr 1; omega) | go_num, by omega, by omega, by omega, fun hx => by omega, hide1 (fun hx => by exfalso; omega), hst, hR4, hK4⟩
              case measure => simp [intOf]; omega
        · have hst := hfin (.inr (by omega))
          have hgt : ∀ w : World, (binOp .gtr 3 (.int .i64 (jj : Nat)) (.int .i64 (xa : Nat))).run Tryz.prog w = .ok (.bool false) w := fun w => by rw [gt_n, decide_eq_false hgt']
          clear hfin hpast hrs
          go_upto_region 4 with fail
          refine wp_flowG 16 _ _ (by kernel_rfl) (by kernel_rfl) (by kernel_rfl) rfl (fun j v _ => v = ([(.int .i64 (jj : Nat)), (.int .i64 (xa : Nat)), (.bool false), (.bool false), undef, undef, undef, undef, undef, undef, undef, undef, undef, undef, undef, undef, (.bool false)] : List Value).getD j undef) (fun _ _ _ _ h _ => h) ?_ ?_
          · intro j op hop hj a wa hwa hsz hsl hdep K hK
            match j, hop with
            | 0, hop =>
              obtain rfl := Option.some.inj hop
              have p9 : a.tmps.getD 9 undef = (.int .i64 (jj : Nat)) := hsl 9 rfl
              exact .plain rfl (wp_val (w' := wa) (v := (.int .i64 (jj : Nat))) (by simp only [execOp, Act.eval]; rw [show a.tmps.getD 9 undef = _ from p9]; rfl) (hK _ _ (Below.refl _ _) rfl))
            | 1, hop =>
              obtain rfl := Option.some.inj hop
              have p1 : a.tmps.getD 1 undef = (.int .i64 (xa : Nat)) := hsl 1 rfl
              exact .plain rfl (wp_val (w' := wa) (v := (.int .i64 (xa : Nat))) (by simp only [execOp, Act.eval]; rw [show a.tmps.getD 1 undef = _ from p1]; rfl) (hK _ _ (Below.refl _ _) rfl))
            | 2, hop =>
              obtain rfl := Option.some.inj hop
              have t0 : a.tmps.getD 18 undef = (.int .i64 (jj : Nat)) := hdep 0 _ 18 rfl rfl ⟨⟨0, .data⟩, by simp, rfl, rfl⟩
              have t1 : a.tmps.getD 19 undef = (.int .i64 (xa : Nat)) := hdep 1 _ 19 rfl rfl ⟨⟨1, .data⟩, by simp, rfl, rfl⟩
              exact .plain rfl (wp_val (w' := wa) (v := (.bool false)) (by simp only [execOp, Act.eval]; rw [show a.tmps.getD 18 undef = _ from t0, show a.tmps.getD 19 undef = _ from t1]; simp only [Sem.run_bind, eqg_gtr, hgt, Result.andThen_ok, Sem.run_pure]) (hK _ _ (Below.refl _ _) rfl))
            | 3, hop =>
              obtain rfl := Option.some.inj hop
              have t2 : a.tmps.getD 20 undef = (.bool false) := hdep 2 _ 20 rfl rfl ⟨⟨2, .data⟩, by simp, rfl, rfl⟩
              exact .plain rfl (wp_val (w' := wa) (v := (.bool false)) (by simp only [execOp, Act.eval]; rw [show a.tmps.getD 20 undef = _ from t2]; rfl) (hK _ _ (Below.refl _ _) rfl))
            | 4, hop =>
              obtain rfl := Option.some.inj hop
              have gg : a.tmps.getD 21 undef = (.bool false) := hdep 3 _ 21 rfl rfl ⟨⟨3, .guard⟩, by simp, rfl, rfl⟩
              exact .skip rfl rfl (by rw [hsz]; simp) gg (hK _ _ (Below.refl _ _) rfl)
            | 5, hop =>
              obtain rfl := Option.some.inj hop
              have gg : a.tmps.getD 21 undef = (.bool false) := hdep 3 _ 21 rfl rfl ⟨⟨3, .guard⟩, by simp, rfl, rfl⟩
              exact .skip rfl rfl (by rw [hsz]; simp) gg (hK _ _ (Below.refl _ _) rfl)
            | 6, hop =>
              obtain rfl := Option.some.inj hop
              have gg : a.tmps.getD 21 undef = (.bool false) := hdep 3 _ 21 rfl rfl ⟨⟨3, .guard⟩, by simp, rfl, rfl⟩
              exact .skip rfl rfl (by rw [hsz]; simp) gg (hK _ _ (Below.refl _ _) rfl)
            | 7, hop =>
              obtain rfl := Option.some.inj hop
              have gg : a.tmps.getD 21 undef = (.bool false) := hdep 3 _ 21 rfl rfl ⟨⟨3, .guard⟩, by simp, rfl, rfl⟩
              exact .skip rfl rfl (by rw [hsz]; simp) gg (hK _ _ (Below.refl _ _) rfl)
            | 8, hop =>
              obtain rfl := Option.some.inj hop
              have gg : a.tmps.getD 21 undef = (.bool false) := hdep 3 _ 21 rfl rfl ⟨⟨3, .guard⟩, by simp, rfl, rfl⟩
              exact .skip rfl rfl (by rw [hsz]; simp) gg (hK _ _ (Below.refl _ _) rfl)
            | 9, hop =>
              obtain rfl := Option.some.inj hop
              have gg : a.tmps.getD 21 undef = (.bool false) := hdep 3 _ 21 rfl rfl ⟨⟨3, .guard⟩, by simp, rfl, rfl⟩
              exact .skip rfl rfl (by rw [hsz]; simp) gg (hK _ _ (Below.refl _ _) rfl)
            | 10, hop =>
              obtain rfl := Option.some.inj hop
              have gg : a.tmps.getD 21 undef = (.bool false) := hdep 3 _ 21 rfl rfl ⟨⟨3, .guard⟩, by simp, rfl, rfl⟩
              exact .skip rfl rfl (by rw [hsz]; simp) gg (hK _ _ (Below.refl _ _) rfl)
            | 11, hop =>
              obtain rfl := Option.some.inj hop
              have gg : a.tmps.getD 21 undef = (.bool false) := hdep 3 _ 21 rfl rfl ⟨⟨3, .guard⟩, by simp, rfl, rfl⟩
              exact .skip rfl rfl (by rw [hsz]; simp) gg (hK _ _ (Below.refl _ _) rfl)
            | 12, hop =>
              obtain rfl := Option.some.inj hop
              have gg : a.tmps.getD 21 undef = (.bool false) := hdep 3 _ 21 rfl rfl ⟨⟨3, .guard⟩, by simp, rfl, rfl⟩
              exact .skip rfl rfl (by rw [hsz]; simp) gg (hK _ _ (Below.refl _ _) rfl)
            | 13, hop =>
              obtain rfl := Option.some.inj hop
              have gg : a.tmps.getD 21 undef = (.bool false) := hdep 3 _ 21 rfl rfl ⟨⟨3, .guard⟩, by simp, rfl, rfl⟩
              exact .skip rfl rfl (by rw [hsz]; simp) gg (hK _ _ (Below.refl _ _) rfl)
            | 14, hop =>
              obtain rfl := Option.some.inj hop
              have gg : a.tmps.getD 21 undef = (.bool false) := hdep 3 _ 21 rfl rfl ⟨⟨3, .guard⟩, by simp, rfl, rfl⟩
              exact .skip rfl rfl (by rw [hsz]; simp) gg (hK _ _ (Below.refl _ _) rfl)
            | 15, hop =>
              obtain rfl := Option.some.inj hop
              have gg : a.tmps.getD 21 undef = (.bool false) := hdep 3 _ 21 rfl rfl ⟨⟨3, .guard⟩, by simp, rfl, rfl⟩
              exact .skip rfl rfl (by rw [hsz]; simp) gg (hK _ _ (Below.refl _ _) rfl)
            | 16, _ => exact absurd rfl hj
            | _ + 17, hop => exact absurd hop (by simp)
          · intro a wa hwa hdf hsz hsl hrr K hK
            have t3 : a.tmps.getD 21 undef = (.bool false) := hrr 3 _ 21 rfl (by decide) rfl
            have t15 : a.tmps.getD 33 undef = undef := hrr 15 _ 33 rfl (by decide) rfl
            refine .plain rfl (wp_val (w' := wa) (v := (.bool false)) (by simp only [execOp, Act.eval]; rw [show a.tmps.getD 21 undef = _ from t3, show a.tmps.getD 33 undef = _ from t15]; rfl) ?_)
            refine hK _ wa ?_
            have hact := act_puts hdf hsz hsl
            clear hrr hsl hdf hsz hK t15 t3
            simp only [List.filterMap_cons, List.filterMap_nil, List.foldl_cons, List.foldl_nil] at hact
            rw [hact]
            generalize a.tmps.getD 18 undef = y18
            generalize a.tmps.getD 19 undef = y19
            generalize a.tmps.getD 20 undef = y20
            generalize a.tmps.getD 21 undef = y21
            generalize a.tmps.getD 22 undef = y22
            generalize a.tmps.getD 23 undef = y23
            generalize a.tmps.getD 24 undef = y24
            generalize a.tmps.getD 25 undef = y25
            generalize a.tmps.getD 26 undef = y26
            generalize a.tmps.getD 27 undef = y27
            generalize a.tmps.getD 28 undef = y28
            generalize a.tmps.getD 29 undef = y29
            generalize a.tmps.getD 30 undef = y30
            generalize a.tmps.getD 31 undef = y31
            generalize a.tmps.getD 32 undef = y32
            generalize a.tmps.getD 33 undef = y33
            clear hact
            simp only [Act.put, List.setIfInBounds_toArray, List.set_cons_succ, List.set_cons_zero]
            have hR4 := hide1 (hR.out.later hwa)
            have hK4 : Hid (Kg g w wa) := hide1 (hK.out.trans (Kg.ofB hwa))
            clear hgt hwa hR hK
            go_wp2
            go_roundw
            case rel => exact ⟨i + 1, _, by first | rfl | (congr 1; omega) | go_num, by omega, by omega, by omega, fun hx => by omega, hide1 (fun hx => by exfalso; omega), hst, hR4, hK4⟩
            case measure => simp [intOf]; omega
    · have hfin : Hid (Std ltE F xa xb G) := hide1 (by
        by_cases hx : xb ≤ xa + 1
        · rw [hGF.out hx]; exact std_1 hx
        · have : i = xb := by omega
          rw [← this]; exact hstd.out)
      go_wp2
      go_end0
      exact ⟨rfl, G, hfin.out, hRo.out, hKo.out⟩
end Go.Proofs.YtdhmonlhlfkjbaaGreatDoor

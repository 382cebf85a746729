/- The contracts of crc.Take: four bytes' number, and no other length. -/
import Derived.Test.YtmkiafjooidpnaaBytes
import Derived.BigQuiet
namespace Go.Proofs.Ytmkiafjooidpnaa
open Go.RowKit

set_option maxHeartbeats 400000 in
theorem take_no (a : Option Addr) (len cap : Nat) (h : ¬ len = 4) (w : World) :
    Calls Try.prog 17 #[.slice a len cap] w fun e w' => e = .returned (.tuple #[.int .u32 0, .bool false]) ∧ w' = w := by
  have hne : ((len : Int) != 4) = true := by simp; omega
  go_enter Try.func17, Try.ntmps17
  go_wp2
  go_ret2
  exact ⟨rfl, rfl⟩

theorem or_four (c0 c1 c2 c3 : Nat) (k0 : c0 < 256) (k1 : c1 < 256) (k2 : c2 < 256) (k3 : c3 < 256) :
    bits BinOp.or IntKind.u32 (bits BinOp.or IntKind.u32 (bits BinOp.or IntKind.u32 (c0 : Int) ((c1 : Int) * 256)) ((c2 : Int) * 65536)) ((c3 : Int) * 16777216) = ((c0 + 256 * c1 + 65536 * c2 + 16777216 * c3 : Nat) : Int) := by
  have j1 : c0 ||| (c1 * 256) = c0 + 256 * c1 := by rw [Nat.or_comm, nat_join 8 (c1 * 256) c0 (by omega) (by omega)]; omega
  have j2 : (c0 + 256 * c1) ||| (c2 * 65536) = c0 + 256 * c1 + 65536 * c2 := by rw [Nat.or_comm, nat_join 16 (c2 * 65536) _ (by omega) (by omega)]; omega
  have j3 : (c0 + 256 * c1 + 65536 * c2) ||| (c3 * 16777216) = c0 + 256 * c1 + 65536 * c2 + 16777216 * c3 := by rw [Nat.or_comm, nat_join 24 (c3 * 16777216) _ (by omega) (by omega)]; omega
  have e1 := u32_or_nat c0 (c1 * 256) (by omega) (by omega)
  have e2 := u32_or_nat (c0 + 256 * c1) (c2 * 65536) (by omega) (by omega)
  have e3 := u32_or_nat (c0 + 256 * c1 + 65536 * c2) (c3 * 16777216) (by omega) (by omega)
  rw [j1] at e1; rw [j2] at e2; rw [j3] at e3
  have f1 : ((c1 : Int) * 256) = ((c1 * 256 : Nat) : Int) := by omega
  have f2 : ((c2 : Int) * 65536) = ((c2 * 65536 : Nat) : Int) := by omega
  have f3 : ((c3 : Int) * 16777216) = ((c3 * 16777216 : Nat) : Int) := by omega
  rw [f1, f2, f3, e1, e2, e3]

set_option maxHeartbeats 400000 in
theorem take_yes (b off cap : Nat) (c0 c1 c2 c3 : Nat) (k0 : c0 < 256) (k1 : c1 < 256) (k2 : c2 < 256) (k3 : c3 < 256) (w : World)
    (h0 : w.cell? ⟨b, off, none⟩ = some (.int .u8 (c0 : Int))) (h1 : w.cell? ⟨b, off + 1, none⟩ = some (.int .u8 (c1 : Int))) (h2 : w.cell? ⟨b, off + 2, none⟩ = some (.int .u8 (c2 : Int))) (h3 : w.cell? ⟨b, off + 3, none⟩ = some (.int .u8 (c3 : Int))) :
    Calls Try.prog 17 #[.slice (some ⟨b, off, none⟩) 4 cap] w fun e w' => e = .returned (.tuple #[.int .u32 ((c0 + 256 * c1 + 65536 * c2 + 16777216 * c3 : Nat) : Int), .bool true]) ∧ Below w.heap.size w w' := by
  go_enter Try.func17, Try.ntmps17
  go_wp2
  go_quiet (fail)
  go_wp2
  go_ret2
  refine ⟨?_, below_drewN (Below.refl _ _) nq⟩
  rw [or_four c0 c1 c2 c3 k0 k1 k2 k3]
  rfl

/-- The number of four bytes, the lowest first. -/
def numOf (zs : List Int) : Nat := (zs.getD 0 0).toNat + 256 * (zs.getD 1 0).toNat + 65536 * (zs.getD 2 0).toNat + 16777216 * (zs.getD 3 0).toNat

theorem take_four {w : World} {a : Option Addr} {zs : List Int} (cap : Nat) (hb : Bs w a 4 zs) :
    Calls Try.prog 17 #[.slice a 4 cap] w fun e w' => e = .returned (.tuple #[.int .u32 ((numOf zs : Nat) : Int), .bool true]) ∧ Below w.heap.size w w' := by
  obtain ⟨h1, h2, h3⟩ := hb
  obtain ⟨b, off, rfl, hc⟩ := h3 (by omega)
  have g : ∀ i, i < 4 → ((zs.getD i 0).toNat : Int) = zs.getD i 0 ∧ (zs.getD i 0).toNat < 256 := fun i hi => by
    have := h2 _ (getD_mem (l := zs) (k := i) (by omega))
    omega
  have c : ∀ i, i < 4 → w.cell? ⟨b, off + i, none⟩ = some (.int .u8 ((zs.getD i 0).toNat : Int)) := fun i hi => by rw [(g i hi).1]; exact hc i hi
  exact take_yes b off cap _ _ _ _ (g 0 (by omega)).2 (g 1 (by omega)).2 (g 2 (by omega)).2 (g 3 (by omega)).2 w (c 0 (by omega)) (c 1 (by omega)) (c 2 (by omega)) (c 3 (by omega))

theorem numOf_lt (zs : List Int) (hl : zs.length = 4) (hz : ∀ z ∈ zs, 0 ≤ z ∧ z < 256) : numOf zs < 4294967296 := by
  have g : ∀ i, i < 4 → (zs.getD i 0).toNat < 256 := fun i hi => by
    have := hz _ (getD_mem (l := zs) (k := i) (by omega))
    omega
  have := g 0 (by omega); have := g 1 (by omega); have := g 2 (by omega); have := g 3 (by omega)
  unfold numOf; omega

theorem numOf_bytesOf (s : Nat) (h : s < 4294967296) : numOf (bytesOf s) = s := by
  simp [numOf, bytesOf]; omega

theorem bytesOf_numOf (zs : List Int) (hl : zs.length = 4) (hz : ∀ z ∈ zs, 0 ≤ z ∧ z < 256) : bytesOf (numOf zs) = zs := by
  match zs, hl with
  | [a, b, c, d], _ =>
    have ha := hz a (by simp); have hb := hz b (by simp); have hc := hz c (by simp); have hd := hz d (by simp)
    obtain ⟨a, rfl⟩ := Int.eq_ofNat_of_zero_le ha.1
    obtain ⟨b, rfl⟩ := Int.eq_ofNat_of_zero_le hb.1
    obtain ⟨c, rfl⟩ := Int.eq_ofNat_of_zero_le hc.1
    obtain ⟨d, rfl⟩ := Int.eq_ofNat_of_zero_le hd.1
    have e : numOf [(a : Int), (b : Int), (c : Int), (d : Int)] = a + 256 * b + 65536 * c + 16777216 * d := by simp [numOf]
    rw [e]
    unfold bytesOf
    have e1 : (a + 256 * b + 65536 * c + 16777216 * d) % 256 = a := by omega
    have e2 : (a + 256 * b + 65536 * c + 16777216 * d) / 256 % 256 = b := by omega
    have e3 : (a + 256 * b + 65536 * c + 16777216 * d) / 65536 % 256 = c := by omega
    have e4 : (a + 256 * b + 65536 * c + 16777216 * d) / 16777216 % 256 = d := by omega
    rw [e1, e2, e3, e4]

/-- What the walk is told of a slice of integers that came in: nil, or a row of 'cap' cells, the first 'len' of them its elements. -/
def IsRow (k : IntKind) (w : World) (a : Option Addr) (len cap : Nat) (zs : List Int) : Prop :=
  (a = none ∧ len = 0 ∧ cap = 0 ∧ zs = []) ∨
  ∃ x, a = some x ∧ len ≤ cap ∧ cap ≤ maxLen ∧ zs.length = cap ∧ (∀ i, i < zs.length → w.cell? (x.add i) = some (.int k (zs.getD i 0))) ∧ ∀ n ∈ zs, (Lit.int k n).wf = true

theorem bs_of_row {w : World} {a : Option Addr} {len cap : Nat} {zs : List Int} (h : IsRow .u8 w a len cap zs) : Bs w a len (zs.take len) ∧ len ≤ maxLen := by
  rcases h with ⟨rfl, rfl, rfl, rfl⟩ | ⟨x, rfl, hl, hm, hz, hcell, hwz⟩
  · exact ⟨⟨rfl, fun z hz => by simp at hz, fun h => absurd h (by omega)⟩, Nat.zero_le _⟩
  · refine ⟨⟨by simp; omega, fun z hz' => ?_, fun hp => ?_⟩, by omega⟩
    · have := hwz z (List.mem_of_mem_take hz')
      simp only [Lit.wf, Bool.and_eq_true, decide_eq_true_eq] at this
      have e1 : IntKind.u8.min = 0 := rfl
      have e2 : IntKind.u8.max = 255 := rfl
      omega
    · obtain ⟨b, off, spot⟩ := x
      have hc := hcell 0 (by omega)
      have hspot : spot = none := by simpa [Addr.add] using World.cell?_spot hc
      subst hspot
      refine ⟨b, off, rfl, fun i hi => ?_⟩
      have := hcell i (by omega)
      rw [Addr.add_lit] at this
      rw [this]
      simp [List.getD_eq_getElem?_getD, hi]
end Go.Proofs.Ytmkiafjooidpnaa

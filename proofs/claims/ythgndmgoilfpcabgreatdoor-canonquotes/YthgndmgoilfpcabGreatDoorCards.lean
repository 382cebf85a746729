/-
  DERIVED. GIVEN WITH THE SEED: THE CARDS: each row of YthgndmgoilfpcabGreatDoorRows.lean that lists a variable, with what it lists TIED to the program's text (the seventh form; the later family's looks); each row that meets fmt, with fmt's text TOLD by the authors' own Lean function (tested against real Go, not proved from fmt's source: count such statements apart). THE CARD IS WHAT COUNTS. Prove the row's statement (the work); the ties are given (YthgndmgoilfpcabGreatDoorTie.lean); close each card by the builder's one call (the guide's Derived/Test/ToyasCard.lean, 'card_holds'). Laid BY PROGRAM, IN A SANDBOX (cutbox-door.mjs). By AI agents, Wed Nov 11 2026. No macro, syntax, notation, axiom, sorry.
-/
import Derived.Test.YthgndmgoilfpcabGreatDoorRows
import GoSem.ClaimSeven
namespace Go.Proofs.YthgndmgoilfpcabGreatDoor
namespace Rows

/-- THE TIED CARD OF 'cachetlaw13.CanonQuotes'. -/
def canonQuotesCard : Claim7 := { stood := { row := canonQuotesRow, standIns := [], harness := (true, "391227f54ce7ea14758c8d7873f4c8202c0b0d1a1ce63f8fd9ef28c102ce5564"), looks := true }, kinds := [], alts := [], laidByText := true, laidKinds := [.data, .data, .data, .data, .sentinel, .sentinel, .pinned], laidTests := true, laidLooks := .later }
def CanonQuotesCardSaid : Prop := Claim7.holds Tryz.pinned (.plain (OpenSpec.ofChange canonQuotesSpec)) canonQuotesCard

/-- THE SECOND FORM's CARD OF 'cachetlaw13.CanonQuotes'. -/
def canonQuotesUptoCard : Claim7 := { stood := { row := canonQuotesUptoRow, standIns := [], harness := (true, "391227f54ce7ea14758c8d7873f4c8202c0b0d1a1ce63f8fd9ef28c102ce5564"), looks := true }, kinds := [], alts := [], laidByText := true, laidKinds := [.data, .data, .data, .data, .sentinel, .sentinel, .pinned], laidTests := true, laidLooks := .later }
def CanonQuotesUptoCardSaid : Prop := Claim7.holds Tryz.pinned (.plain (OpenSpec.upto canonQuotesSpec)) canonQuotesUptoCard
end Rows
end Go.Proofs.YthgndmgoilfpcabGreatDoor

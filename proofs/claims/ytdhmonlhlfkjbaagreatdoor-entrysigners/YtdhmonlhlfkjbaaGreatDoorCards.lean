/-
  DERIVED. GIVEN WITH THE SEED: THE CARDS: each row of YtdhmonlhlfkjbaaGreatDoorRows.lean that lists a variable, with what it lists TIED to the program's text (the seventh form; the later family's looks); each row that meets fmt, with fmt's text TOLD by the authors' own Lean function (tested against real Go, not proved from fmt's source: count such statements apart). THE CARD IS WHAT COUNTS. Prove the row's statement (the work); the ties are given (YtdhmonlhlfkjbaaGreatDoorTie.lean); close each card by the builder's one call (the guide's Derived/Test/ToyasCard.lean, 'card_holds'). Laid BY PROGRAM, IN A SANDBOX (cutbox-door.mjs). By AI agents, Wed Nov 11 2026. No macro, syntax, notation, axiom, sorry.
-/
import Derived.Test.YtdhmonlhlfkjbaaGreatDoorRows
import GoSem.ClaimSeven
namespace Go.Proofs.YtdhmonlhlfkjbaaGreatDoor
namespace Rows

/-- THE TIED CARD OF 'cachetlaw15.EntryApart'. -/
def entryApartCard : Claim7 := { stood := { row := entryApartRow, standIns := [], harness := (true, "964f21827167028e202a99d7081b82258738a09ea38825bd19283ee8271ee6d8"), looks := true }, kinds := [], alts := [], laidByText := true, laidKinds := [.data, .data, .data, .data, .sentinel, .sentinel, .pinned], laidTests := true, laidLooks := .later }
def EntryApartCardSaid : Prop := Claim7.holds Tryz.pinned (.plain (OpenSpec.ofChange entryApartSpec)) entryApartCard

/-- THE TIED CARD OF 'cachetlaw15.EntrySigners'. -/
def entrySignersCard : Claim7 := { stood := { row := entrySignersRow, standIns := [], harness := (true, "964f21827167028e202a99d7081b82258738a09ea38825bd19283ee8271ee6d8"), looks := true }, kinds := [], alts := [], laidByText := true, laidKinds := [.data, .data, .data, .data, .sentinel, .sentinel, .pinned], laidTests := true, laidLooks := .later }
def EntrySignersCardSaid : Prop := Claim7.holds Tryz.pinned (.plain (OpenSpec.ofChange entrySignersSpec)) entrySignersCard

/-- THE SECOND FORM's CARD OF 'cachetlaw15.EntryApart'. -/
def entryApartUptoCard : Claim7 := { stood := { row := entryApartUptoRow, standIns := [], harness := (true, "964f21827167028e202a99d7081b82258738a09ea38825bd19283ee8271ee6d8"), looks := true }, kinds := [], alts := [], laidByText := true, laidKinds := [.data, .data, .data, .data, .sentinel, .sentinel, .pinned], laidTests := true, laidLooks := .later }
def EntryApartUptoCardSaid : Prop := Claim7.holds Tryz.pinned (.plain (OpenSpec.upto entryApartSpec)) entryApartUptoCard

/-- THE SECOND FORM's CARD OF 'cachetlaw15.EntrySigners'. -/
def entrySignersUptoCard : Claim7 := { stood := { row := entrySignersUptoRow, standIns := [], harness := (true, "964f21827167028e202a99d7081b82258738a09ea38825bd19283ee8271ee6d8"), looks := true }, kinds := [], alts := [], laidByText := true, laidKinds := [.data, .data, .data, .data, .sentinel, .sentinel, .pinned], laidTests := true, laidLooks := .later }
def EntrySignersUptoCardSaid : Prop := Claim7.holds Tryz.pinned (.plain (OpenSpec.upto entrySignersSpec)) entrySignersUptoCard
end Rows
end Go.Proofs.YtdhmonlhlfkjbaaGreatDoor

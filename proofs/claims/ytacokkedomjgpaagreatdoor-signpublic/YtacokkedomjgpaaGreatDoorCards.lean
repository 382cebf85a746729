/-
  DERIVED. GIVEN WITH THE SEED: THE CARDS: each row of YtacokkedomjgpaaGreatDoorRows.lean that lists a variable, with what it lists TIED to the program's text (the seventh form; the later family's looks); each row that meets fmt, with fmt's text TOLD by the authors' own Lean function (tested against real Go, not proved from fmt's source: count such statements apart). THE CARD IS WHAT COUNTS. Prove the row's statement (the work); the ties are given (YtacokkedomjgpaaGreatDoorTie.lean); close each card by the builder's one call (the guide's Derived/Test/ToyasCard.lean, 'card_holds'). Laid BY PROGRAM, IN A SANDBOX (cutbox-door.mjs). By AI agents, Wed Nov 11 2026. No macro, syntax, notation, axiom, sorry.
-/
import Derived.Test.YtacokkedomjgpaaGreatDoorRows
import GoSem.ClaimSeven
namespace Go.Proofs.YtacokkedomjgpaaGreatDoor
namespace Rows

/-- THE TIED CARD OF 'cachetlaw05.SignPublic'. -/
def signPublicCard : Claim7 := { stood := { row := signPublicRow, standIns := [], harness := (true, "60c795ace59a5c72da995e59a7324230bf87516ee0ca999fb18603bde318de36"), looks := false }, kinds := [], alts := [], laidByText := true, laidKinds := [.data, .data], laidTests := true, laidLooks := .later }
def SignPublicCardSaid : Prop := Claim7.holds Tryz.pinned (.plain (OpenSpec.ofChange signPublicSpec)) signPublicCard

/-- THE SECOND FORM's CARD OF 'cachetlaw05.SignPublic'. -/
def signPublicUptoCard : Claim7 := { stood := { row := signPublicUptoRow, standIns := [], harness := (true, "60c795ace59a5c72da995e59a7324230bf87516ee0ca999fb18603bde318de36"), looks := false }, kinds := [], alts := [], laidByText := true, laidKinds := [.data, .data], laidTests := true, laidLooks := .later }
def SignPublicUptoCardSaid : Prop := Claim7.holds Tryz.pinned (.plain (OpenSpec.upto signPublicSpec)) signPublicUptoCard
end Rows
end Go.Proofs.YtacokkedomjgpaaGreatDoor

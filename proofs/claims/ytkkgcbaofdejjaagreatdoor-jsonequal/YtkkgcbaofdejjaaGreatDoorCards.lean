/-
  DERIVED. GIVEN WITH THE SEED: THE CARDS: each row of YtkkgcbaofdejjaaGreatDoorRows.lean that lists a variable, with what it lists TIED to the program's text (the seventh form; the later family's looks); each row that meets fmt, with fmt's text TOLD by the authors' own Lean function (tested against real Go, not proved from fmt's source: count such statements apart). THE CARD IS WHAT COUNTS. Prove the row's statement (the work); the ties are given (YtkkgcbaofdejjaaGreatDoorTie.lean); close each card by the builder's one call (the guide's Derived/Test/ToyasCard.lean, 'card_holds'). Laid BY PROGRAM, IN A SANDBOX (cutbox-door.mjs). By AI agents, Wed Nov 11 2026. No macro, syntax, notation, axiom, sorry.
-/
import Derived.Test.YtkkgcbaofdejjaaGreatDoorRows
import GoSem.ClaimSeven
namespace Go.Proofs.YtkkgcbaofdejjaaGreatDoor
namespace Rows

/-- THE TIED CARD OF 'cachetlaw12.JsonParses'. -/
def jsonParsesCard : Claim7 := { stood := { row := jsonParsesRow, standIns := [], harness := (true, "6646c59f27b3b04b7e8dff9136f8045705c855c238f0775cfc48099ec4659773"), looks := true }, kinds := [], alts := [], laidByText := true, laidKinds := [.data, .data, .data, .data, .sentinel, .sentinel, .pinned], laidTests := true, laidLooks := .later }
def JsonParsesCardSaid : Prop := Claim7.holds Tryz.pinned (.plain (OpenSpec.ofChange jsonParsesSpec)) jsonParsesCard

/-- THE TIED CARD OF 'cachetlaw12.JsonEqual'. -/
def jsonEqualCard : Claim7 := { stood := { row := jsonEqualRow, standIns := [], harness := (true, "6646c59f27b3b04b7e8dff9136f8045705c855c238f0775cfc48099ec4659773"), looks := true }, kinds := [], alts := [], laidByText := true, laidKinds := [.data, .data, .data, .data, .sentinel, .sentinel, .pinned], laidTests := true, laidLooks := .later }
def JsonEqualCardSaid : Prop := Claim7.holds Tryz.pinned (.plain (OpenSpec.ofChange jsonEqualSpec)) jsonEqualCard

/-- THE SECOND FORM's CARD OF 'cachetlaw12.JsonParses'. -/
def jsonParsesUptoCard : Claim7 := { stood := { row := jsonParsesUptoRow, standIns := [], harness := (true, "6646c59f27b3b04b7e8dff9136f8045705c855c238f0775cfc48099ec4659773"), looks := true }, kinds := [], alts := [], laidByText := true, laidKinds := [.data, .data, .data, .data, .sentinel, .sentinel, .pinned], laidTests := true, laidLooks := .later }
def JsonParsesUptoCardSaid : Prop := Claim7.holds Tryz.pinned (.plain (OpenSpec.upto jsonParsesSpec)) jsonParsesUptoCard

/-- THE SECOND FORM's CARD OF 'cachetlaw12.JsonEqual'. -/
def jsonEqualUptoCard : Claim7 := { stood := { row := jsonEqualUptoRow, standIns := [], harness := (true, "6646c59f27b3b04b7e8dff9136f8045705c855c238f0775cfc48099ec4659773"), looks := true }, kinds := [], alts := [], laidByText := true, laidKinds := [.data, .data, .data, .data, .sentinel, .sentinel, .pinned], laidTests := true, laidLooks := .later }
def JsonEqualUptoCardSaid : Prop := Claim7.holds Tryz.pinned (.plain (OpenSpec.upto jsonEqualSpec)) jsonEqualUptoCard
end Rows
end Go.Proofs.YtkkgcbaofdejjaaGreatDoor

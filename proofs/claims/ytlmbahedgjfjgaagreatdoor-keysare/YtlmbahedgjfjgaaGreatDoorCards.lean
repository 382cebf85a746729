/-
  DERIVED. GIVEN WITH THE SEED: THE CARDS: each row of YtlmbahedgjfjgaaGreatDoorRows.lean that lists a variable, with what it lists TIED to the program's text (the seventh form; the later family's looks); each row that meets fmt, with fmt's text TOLD by the authors' own Lean function (tested against real Go, not proved from fmt's source: count such statements apart). THE CARD IS WHAT COUNTS. Prove the row's statement (the work); the ties are given (YtlmbahedgjfjgaaGreatDoorTie.lean); close each card by the builder's one call (the guide's Derived/Test/ToyasCard.lean, 'card_holds'). Laid BY PROGRAM, IN A SANDBOX (cutbox-door.mjs). By AI agents, Wed Nov 11 2026. No macro, syntax, notation, axiom, sorry.
-/
import Derived.Test.YtlmbahedgjfjgaaGreatDoorRows
import GoSem.ClaimSeven
namespace Go.Proofs.YtlmbahedgjfjgaaGreatDoor
namespace Rows

/-- THE TIED CARD OF 'cachetlaw16.KeysOf'. -/
def keysOfCard : Claim7 := { stood := { row := keysOfRow, standIns := [], harness := (true, "0fbc6a8f7ed41241a28a657e969de8c063b96ab797e4f8d3440ab4808a5f5d20"), looks := true }, kinds := [], alts := [], laidByText := true, laidKinds := [.data, .data, .data, .data, .data, .data, .sentinel, .sentinel, .pinned], laidTests := true, laidLooks := .later }
def KeysOfCardSaid : Prop := Claim7.holds Tryz.pinned (.plain (OpenSpec.ofChange keysOfSpec)) keysOfCard

/-- THE TIED CARD OF 'cachetlaw16.KeysAre'. -/
def keysAreCard : Claim7 := { stood := { row := keysAreRow, standIns := [], harness := (true, "0fbc6a8f7ed41241a28a657e969de8c063b96ab797e4f8d3440ab4808a5f5d20"), looks := true }, kinds := [], alts := [], laidByText := true, laidKinds := [.data, .data, .data, .data, .data, .data, .sentinel, .sentinel, .pinned], laidTests := true, laidLooks := .later }
def KeysAreCardSaid : Prop := Claim7.holds Tryz.pinned (.plain (OpenSpec.ofChange keysAreSpec)) keysAreCard

/-- THE TIED CARD OF 'cachetlaw16.KeysRise'. -/
def keysRiseCard : Claim7 := { stood := { row := keysRiseRow, standIns := [], harness := (true, "0fbc6a8f7ed41241a28a657e969de8c063b96ab797e4f8d3440ab4808a5f5d20"), looks := true }, kinds := [], alts := [], laidByText := true, laidKinds := [.data, .data, .data, .data, .data, .data, .sentinel, .sentinel, .pinned], laidTests := true, laidLooks := .later }
def KeysRiseCardSaid : Prop := Claim7.holds Tryz.pinned (.plain (OpenSpec.ofChange keysRiseSpec)) keysRiseCard

/-- THE TIED CARD OF 'cachetlaw16.KeysMeet'. -/
def keysMeetCard : Claim7 := { stood := { row := keysMeetRow, standIns := [], harness := (true, "0fbc6a8f7ed41241a28a657e969de8c063b96ab797e4f8d3440ab4808a5f5d20"), looks := true }, kinds := [], alts := [], laidByText := true, laidKinds := [.data, .data, .data, .data, .data, .data, .sentinel, .sentinel, .pinned], laidTests := true, laidLooks := .later }
def KeysMeetCardSaid : Prop := Claim7.holds Tryz.pinned (.plain (OpenSpec.ofChange keysMeetSpec)) keysMeetCard

/-- THE SECOND FORM's CARD OF 'cachetlaw16.KeysOf'. -/
def keysOfUptoCard : Claim7 := { stood := { row := keysOfUptoRow, standIns := [], harness := (true, "0fbc6a8f7ed41241a28a657e969de8c063b96ab797e4f8d3440ab4808a5f5d20"), looks := true }, kinds := [], alts := [], laidByText := true, laidKinds := [.data, .data, .data, .data, .data, .data, .sentinel, .sentinel, .pinned], laidTests := true, laidLooks := .later }
def KeysOfUptoCardSaid : Prop := Claim7.holds Tryz.pinned (.plain (OpenSpec.upto keysOfSpec)) keysOfUptoCard

/-- THE SECOND FORM's CARD OF 'cachetlaw16.KeysAre'. -/
def keysAreUptoCard : Claim7 := { stood := { row := keysAreUptoRow, standIns := [], harness := (true, "0fbc6a8f7ed41241a28a657e969de8c063b96ab797e4f8d3440ab4808a5f5d20"), looks := true }, kinds := [], alts := [], laidByText := true, laidKinds := [.data, .data, .data, .data, .data, .data, .sentinel, .sentinel, .pinned], laidTests := true, laidLooks := .later }
def KeysAreUptoCardSaid : Prop := Claim7.holds Tryz.pinned (.plain (OpenSpec.upto keysAreSpec)) keysAreUptoCard

/-- THE SECOND FORM's CARD OF 'cachetlaw16.KeysRise'. -/
def keysRiseUptoCard : Claim7 := { stood := { row := keysRiseUptoRow, standIns := [], harness := (true, "0fbc6a8f7ed41241a28a657e969de8c063b96ab797e4f8d3440ab4808a5f5d20"), looks := true }, kinds := [], alts := [], laidByText := true, laidKinds := [.data, .data, .data, .data, .data, .data, .sentinel, .sentinel, .pinned], laidTests := true, laidLooks := .later }
def KeysRiseUptoCardSaid : Prop := Claim7.holds Tryz.pinned (.plain (OpenSpec.upto keysRiseSpec)) keysRiseUptoCard

/-- THE SECOND FORM's CARD OF 'cachetlaw16.KeysMeet'. -/
def keysMeetUptoCard : Claim7 := { stood := { row := keysMeetUptoRow, standIns := [], harness := (true, "0fbc6a8f7ed41241a28a657e969de8c063b96ab797e4f8d3440ab4808a5f5d20"), looks := true }, kinds := [], alts := [], laidByText := true, laidKinds := [.data, .data, .data, .data, .data, .data, .sentinel, .sentinel, .pinned], laidTests := true, laidLooks := .later }
def KeysMeetUptoCardSaid : Prop := Claim7.holds Tryz.pinned (.plain (OpenSpec.upto keysMeetSpec)) keysMeetUptoCard
end Rows
end Go.Proofs.YtlmbahedgjfjgaaGreatDoor

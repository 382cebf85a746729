/-
  DERIVED. GIVEN WITH THE SEED: THE CARDS: each row of YtbpmgpmkmnkafaaDoorRows.lean that lists a variable, with what it lists TIED to the program's text (the seventh form; the later family's looks); each row that meets fmt, with fmt's text TOLD by the authors' own Lean function (tested against real Go, not proved from fmt's source: count such statements apart). THE CARD IS WHAT COUNTS. Prove the row's statement (the work); the ties are given (YtbpmgpmkmnkafaaDoorTie.lean); close each card by the builder's one call (the guide's Derived/Test/ToyasCard.lean, 'card_holds'). Laid BY PROGRAM, IN A SANDBOX (cutbox-door.mjs). By AI agents, Wed Nov 11 2026. No macro, syntax, notation, axiom, sorry.
-/
import Derived.Test.YtbpmgpmkmnkafaaDoorRows
import GoSem.ClaimSeven
namespace Go.Proofs.YtbpmgpmkmnkafaaDoor
namespace Rows

/-- THE TIED CARD OF 'cachetlaw09.LeafDigests'. -/
def leafDigestsCard : Claim7 := { stood := { row := leafDigestsRow, standIns := [], harness := (true, "9a5c4711f7db7a8ec9c715e27745d0796079a3f4d18f825c40475ac6962ec9e6"), looks := false }, kinds := [], alts := [], laidByText := true, laidKinds := [.data, .data], laidTests := true, laidLooks := .later }
def LeafDigestsCardSaid : Prop := Claim7.holds Tryd.pinned (.plain (OpenSpec.ofChange leafDigestsSpec)) leafDigestsCard

/-- THE TIED CARD OF 'cachetlaw09.LeafCuts'. -/
def leafCutsCard : Claim7 := { stood := { row := leafCutsRow, standIns := [], harness := (true, "9a5c4711f7db7a8ec9c715e27745d0796079a3f4d18f825c40475ac6962ec9e6"), looks := false }, kinds := [], alts := [], laidByText := true, laidKinds := [.data, .data], laidTests := true, laidLooks := .later }
def LeafCutsCardSaid : Prop := Claim7.holds Tryd.pinned (.plain (OpenSpec.ofChange leafCutsSpec)) leafCutsCard

/-- THE TIED CARD OF 'cachetlaw09.LeafRoots'. -/
def leafRootsCard : Claim7 := { stood := { row := leafRootsRow, standIns := [], harness := (true, "9a5c4711f7db7a8ec9c715e27745d0796079a3f4d18f825c40475ac6962ec9e6"), looks := false }, kinds := [], alts := [], laidByText := true, laidKinds := [.data, .data], laidTests := true, laidLooks := .later }
def LeafRootsCardSaid : Prop := Claim7.holds Tryd.pinned (.plain (OpenSpec.ofChange leafRootsSpec)) leafRootsCard

/-- THE TIED CARD OF 'cachetlaw09.LeafUnlike'. -/
def leafUnlikeCard : Claim7 := { stood := { row := leafUnlikeRow, standIns := [], harness := (true, "9a5c4711f7db7a8ec9c715e27745d0796079a3f4d18f825c40475ac6962ec9e6"), looks := false }, kinds := [], alts := [], laidByText := true, laidKinds := [.data, .data], laidTests := true, laidLooks := .later }
def LeafUnlikeCardSaid : Prop := Claim7.holds Tryd.pinned (.plain (OpenSpec.ofChange leafUnlikeSpec)) leafUnlikeCard

/-- THE TIED CARD OF 'cachetlaw09.LeafJoins'. -/
def leafJoinsCard : Claim7 := { stood := { row := leafJoinsRow, standIns := [], harness := (true, "9a5c4711f7db7a8ec9c715e27745d0796079a3f4d18f825c40475ac6962ec9e6"), looks := false }, kinds := [], alts := [], laidByText := true, laidKinds := [.data, .data], laidTests := true, laidLooks := .later }
def LeafJoinsCardSaid : Prop := Claim7.holds Tryd.pinned (.plain (OpenSpec.ofChange leafJoinsSpec)) leafJoinsCard

/-- THE SECOND FORM's CARD OF 'cachetlaw09.LeafDigests'. -/
def leafDigestsUptoCard : Claim7 := { stood := { row := leafDigestsUptoRow, standIns := [], harness := (true, "9a5c4711f7db7a8ec9c715e27745d0796079a3f4d18f825c40475ac6962ec9e6"), looks := false }, kinds := [], alts := [], laidByText := true, laidKinds := [.data, .data], laidTests := true, laidLooks := .later }
def LeafDigestsUptoCardSaid : Prop := Claim7.holds Tryd.pinned (.plain (OpenSpec.upto leafDigestsSpec)) leafDigestsUptoCard

/-- THE SECOND FORM's CARD OF 'cachetlaw09.LeafCuts'. -/
def leafCutsUptoCard : Claim7 := { stood := { row := leafCutsUptoRow, standIns := [], harness := (true, "9a5c4711f7db7a8ec9c715e27745d0796079a3f4d18f825c40475ac6962ec9e6"), looks := false }, kinds := [], alts := [], laidByText := true, laidKinds := [.data, .data], laidTests := true, laidLooks := .later }
def LeafCutsUptoCardSaid : Prop := Claim7.holds Tryd.pinned (.plain (OpenSpec.upto leafCutsSpec)) leafCutsUptoCard

/-- THE SECOND FORM's CARD OF 'cachetlaw09.LeafRoots'. -/
def leafRootsUptoCard : Claim7 := { stood := { row := leafRootsUptoRow, standIns := [], harness := (true, "9a5c4711f7db7a8ec9c715e27745d0796079a3f4d18f825c40475ac6962ec9e6"), looks := false }, kinds := [], alts := [], laidByText := true, laidKinds := [.data, .data], laidTests := true, laidLooks := .later }
def LeafRootsUptoCardSaid : Prop := Claim7.holds Tryd.pinned (.plain (OpenSpec.upto leafRootsSpec)) leafRootsUptoCard

/-- THE SECOND FORM's CARD OF 'cachetlaw09.LeafUnlike'. -/
def leafUnlikeUptoCard : Claim7 := { stood := { row := leafUnlikeUptoRow, standIns := [], harness := (true, "9a5c4711f7db7a8ec9c715e27745d0796079a3f4d18f825c40475ac6962ec9e6"), looks := false }, kinds := [], alts := [], laidByText := true, laidKinds := [.data, .data], laidTests := true, laidLooks := .later }
def LeafUnlikeUptoCardSaid : Prop := Claim7.holds Tryd.pinned (.plain (OpenSpec.upto leafUnlikeSpec)) leafUnlikeUptoCard

/-- THE SECOND FORM's CARD OF 'cachetlaw09.LeafJoins'. -/
def leafJoinsUptoCard : Claim7 := { stood := { row := leafJoinsUptoRow, standIns := [], harness := (true, "9a5c4711f7db7a8ec9c715e27745d0796079a3f4d18f825c40475ac6962ec9e6"), looks := false }, kinds := [], alts := [], laidByText := true, laidKinds := [.data, .data], laidTests := true, laidLooks := .later }
def LeafJoinsUptoCardSaid : Prop := Claim7.holds Tryd.pinned (.plain (OpenSpec.upto leafJoinsSpec)) leafJoinsUptoCard
end Rows
end Go.Proofs.YtbpmgpmkmnkafaaDoor

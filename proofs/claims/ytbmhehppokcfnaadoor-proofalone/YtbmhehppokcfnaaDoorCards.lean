/-
  DERIVED. GIVEN WITH THE SEED: THE CARDS: each row of YtbmhehppokcfnaaDoorRows.lean that lists a variable, with what it lists TIED to the program's text (the seventh form; the later family's looks); each row that meets fmt, with fmt's text TOLD by the authors' own Lean function (tested against real Go, not proved from fmt's source: count such statements apart). THE CARD IS WHAT COUNTS. Prove the row's statement (the work); the ties are given (YtbmhehppokcfnaaDoorTie.lean); close each card by the builder's one call (the guide's Derived/Test/ToyasCard.lean, 'card_holds'). Laid BY PROGRAM, IN A SANDBOX (cutbox-door.mjs). By AI agents, Wed Nov 11 2026. No macro, syntax, notation, axiom, sorry.
-/
import Derived.Test.YtbmhehppokcfnaaDoorRows
import GoSem.ClaimSeven
namespace Go.Proofs.YtbmhehppokcfnaaDoor
namespace Rows

/-- THE TIED CARD OF 'cachetlaw10.ProofPaths'. -/
def proofPathsCard : Claim7 := { stood := { row := proofPathsRow, standIns := [], harness := (true, "97c3df0bde7cf6af71a9357d3ea809227f3d78803fb298876e2ababa46a6759f"), looks := true }, kinds := [], alts := [], laidByText := true, laidKinds := [.data, .data], laidTests := true, laidLooks := .later }
def ProofPathsCardSaid : Prop := Claim7.holds Tryd.pinned (.plain (OpenSpec.ofChange proofPathsSpec)) proofPathsCard

/-- THE TIED CARD OF 'cachetlaw10.ProofCome'. -/
def proofComeCard : Claim7 := { stood := { row := proofComeRow, standIns := [], harness := (true, "97c3df0bde7cf6af71a9357d3ea809227f3d78803fb298876e2ababa46a6759f"), looks := true }, kinds := [], alts := [], laidByText := true, laidKinds := [.data, .data], laidTests := true, laidLooks := .later }
def ProofComeCardSaid : Prop := Claim7.holds Tryd.pinned (.plain (OpenSpec.ofChange proofComeSpec)) proofComeCard

/-- THE TIED CARD OF 'cachetlaw10.ProofBegins'. -/
def proofBeginsCard : Claim7 := { stood := { row := proofBeginsRow, standIns := [], harness := (true, "97c3df0bde7cf6af71a9357d3ea809227f3d78803fb298876e2ababa46a6759f"), looks := true }, kinds := [], alts := [], laidByText := true, laidKinds := [.data, .data], laidTests := true, laidLooks := .later }
def ProofBeginsCardSaid : Prop := Claim7.holds Tryd.pinned (.plain (OpenSpec.ofChange proofBeginsSpec)) proofBeginsCard

/-- THE TIED CARD OF 'cachetlaw10.ProofExtends'. -/
def proofExtendsCard : Claim7 := { stood := { row := proofExtendsRow, standIns := [], harness := (true, "97c3df0bde7cf6af71a9357d3ea809227f3d78803fb298876e2ababa46a6759f"), looks := true }, kinds := [], alts := [], laidByText := true, laidKinds := [.data, .data], laidTests := true, laidLooks := .later }
def ProofExtendsCardSaid : Prop := Claim7.holds Tryd.pinned (.plain (OpenSpec.ofChange proofExtendsSpec)) proofExtendsCard

/-- THE TIED CARD OF 'cachetlaw10.ProofAlone'. -/
def proofAloneCard : Claim7 := { stood := { row := proofAloneRow, standIns := [], harness := (true, "97c3df0bde7cf6af71a9357d3ea809227f3d78803fb298876e2ababa46a6759f"), looks := true }, kinds := [], alts := [], laidByText := true, laidKinds := [.data, .data], laidTests := true, laidLooks := .later }
def ProofAloneCardSaid : Prop := Claim7.holds Tryd.pinned (.plain (OpenSpec.ofChange proofAloneSpec)) proofAloneCard

/-- THE TIED CARD OF 'cachetlaw10.ProofOld'. -/
def proofOldCard : Claim7 := { stood := { row := proofOldRow, standIns := [], harness := (true, "97c3df0bde7cf6af71a9357d3ea809227f3d78803fb298876e2ababa46a6759f"), looks := true }, kinds := [], alts := [], laidByText := true, laidKinds := [.data, .data], laidTests := true, laidLooks := .later }
def ProofOldCardSaid : Prop := Claim7.holds Tryd.pinned (.plain (OpenSpec.ofChange proofOldSpec)) proofOldCard

/-- THE SECOND FORM's CARD OF 'cachetlaw10.ProofPaths'. -/
def proofPathsUptoCard : Claim7 := { stood := { row := proofPathsUptoRow, standIns := [], harness := (true, "97c3df0bde7cf6af71a9357d3ea809227f3d78803fb298876e2ababa46a6759f"), looks := true }, kinds := [], alts := [], laidByText := true, laidKinds := [.data, .data], laidTests := true, laidLooks := .later }
def ProofPathsUptoCardSaid : Prop := Claim7.holds Tryd.pinned (.plain (OpenSpec.upto proofPathsSpec)) proofPathsUptoCard

/-- THE SECOND FORM's CARD OF 'cachetlaw10.ProofCome'. -/
def proofComeUptoCard : Claim7 := { stood := { row := proofComeUptoRow, standIns := [], harness := (true, "97c3df0bde7cf6af71a9357d3ea809227f3d78803fb298876e2ababa46a6759f"), looks := true }, kinds := [], alts := [], laidByText := true, laidKinds := [.data, .data], laidTests := true, laidLooks := .later }
def ProofComeUptoCardSaid : Prop := Claim7.holds Tryd.pinned (.plain (OpenSpec.upto proofComeSpec)) proofComeUptoCard

/-- THE SECOND FORM's CARD OF 'cachetlaw10.ProofBegins'. -/
def proofBeginsUptoCard : Claim7 := { stood := { row := proofBeginsUptoRow, standIns := [], harness := (true, "97c3df0bde7cf6af71a9357d3ea809227f3d78803fb298876e2ababa46a6759f"), looks := true }, kinds := [], alts := [], laidByText := true, laidKinds := [.data, .data], laidTests := true, laidLooks := .later }
def ProofBeginsUptoCardSaid : Prop := Claim7.holds Tryd.pinned (.plain (OpenSpec.upto proofBeginsSpec)) proofBeginsUptoCard

/-- THE SECOND FORM's CARD OF 'cachetlaw10.ProofExtends'. -/
def proofExtendsUptoCard : Claim7 := { stood := { row := proofExtendsUptoRow, standIns := [], harness := (true, "97c3df0bde7cf6af71a9357d3ea809227f3d78803fb298876e2ababa46a6759f"), looks := true }, kinds := [], alts := [], laidByText := true, laidKinds := [.data, .data], laidTests := true, laidLooks := .later }
def ProofExtendsUptoCardSaid : Prop := Claim7.holds Tryd.pinned (.plain (OpenSpec.upto proofExtendsSpec)) proofExtendsUptoCard

/-- THE SECOND FORM's CARD OF 'cachetlaw10.ProofAlone'. -/
def proofAloneUptoCard : Claim7 := { stood := { row := proofAloneUptoRow, standIns := [], harness := (true, "97c3df0bde7cf6af71a9357d3ea809227f3d78803fb298876e2ababa46a6759f"), looks := true }, kinds := [], alts := [], laidByText := true, laidKinds := [.data, .data], laidTests := true, laidLooks := .later }
def ProofAloneUptoCardSaid : Prop := Claim7.holds Tryd.pinned (.plain (OpenSpec.upto proofAloneSpec)) proofAloneUptoCard

/-- THE SECOND FORM's CARD OF 'cachetlaw10.ProofOld'. -/
def proofOldUptoCard : Claim7 := { stood := { row := proofOldUptoRow, standIns := [], harness := (true, "97c3df0bde7cf6af71a9357d3ea809227f3d78803fb298876e2ababa46a6759f"), looks := true }, kinds := [], alts := [], laidByText := true, laidKinds := [.data, .data], laidTests := true, laidLooks := .later }
def ProofOldUptoCardSaid : Prop := Claim7.holds Tryd.pinned (.plain (OpenSpec.upto proofOldSpec)) proofOldUptoCard
end Rows
end Go.Proofs.YtbmhehppokcfnaaDoor

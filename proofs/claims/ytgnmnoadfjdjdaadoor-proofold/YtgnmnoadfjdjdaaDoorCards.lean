/-
  DERIVED. GIVEN WITH THE SEED: THE CARDS: each row of YtgnmnoadfjdjdaaDoorRows.lean that lists a variable, with what it lists TIED to the program's text (the seventh form; the later family's looks); each row that meets fmt, with fmt's text TOLD by the authors' own Lean function (tested against real Go, not proved from fmt's source: count such statements apart). THE CARD IS WHAT COUNTS. Prove the row's statement (the work); the ties are given (YtgnmnoadfjdjdaaDoorTie.lean); close each card by the builder's one call (the guide's Derived/Test/ToyasCard.lean, 'card_holds'). Laid BY PROGRAM, IN A SANDBOX (cutbox-door.mjs). By AI agents, Wed Nov 11 2026. No macro, syntax, notation, axiom, sorry.
-/
import Derived.Test.YtgnmnoadfjdjdaaDoorRows
import GoSem.ClaimSeven
namespace Go.Proofs.YtgnmnoadfjdjdaaDoor
namespace Rows

/-- THE TIED CARD OF 'cachetlaw10.ProofBegins'. -/
def proofBeginsCard : Claim7 := { stood := { row := proofBeginsRow, standIns := [], harness := (true, "61fb4c0e821bd852f573a30a8844084a297398a70b157aee816425cdd9da3e4e"), looks := true }, kinds := [], alts := [], laidByText := true, laidKinds := [.data, .data], laidTests := true, laidLooks := .later }
def ProofBeginsCardSaid : Prop := Claim7.holds Tryd.pinned (.plain (OpenSpec.ofChange proofBeginsSpec)) proofBeginsCard

/-- THE TIED CARD OF 'cachetlaw10.ProofExtends'. -/
def proofExtendsCard : Claim7 := { stood := { row := proofExtendsRow, standIns := [], harness := (true, "61fb4c0e821bd852f573a30a8844084a297398a70b157aee816425cdd9da3e4e"), looks := true }, kinds := [], alts := [], laidByText := true, laidKinds := [.data, .data], laidTests := true, laidLooks := .later }
def ProofExtendsCardSaid : Prop := Claim7.holds Tryd.pinned (.plain (OpenSpec.ofChange proofExtendsSpec)) proofExtendsCard

/-- THE TIED CARD OF 'cachetlaw10.ProofOld'. -/
def proofOldCard : Claim7 := { stood := { row := proofOldRow, standIns := [], harness := (true, "61fb4c0e821bd852f573a30a8844084a297398a70b157aee816425cdd9da3e4e"), looks := true }, kinds := [], alts := [], laidByText := true, laidKinds := [.data, .data], laidTests := true, laidLooks := .later }
def ProofOldCardSaid : Prop := Claim7.holds Tryd.pinned (.plain (OpenSpec.ofChange proofOldSpec)) proofOldCard

/-- THE TIED CARD OF 'cachetlaw10.ProofSteps'. -/
def proofStepsCard : Claim7 := { stood := { row := proofStepsRow, standIns := [], harness := (true, "61fb4c0e821bd852f573a30a8844084a297398a70b157aee816425cdd9da3e4e"), looks := true }, kinds := [], alts := [], laidByText := true, laidKinds := [.data, .data], laidTests := true, laidLooks := .later }
def ProofStepsCardSaid : Prop := Claim7.holds Tryd.pinned (.plain (OpenSpec.ofChange proofStepsSpec)) proofStepsCard

/-- THE TIED CARD OF 'cachetlaw11.TreeRoots'. -/
def treeRootsCard : Claim7 := { stood := { row := treeRootsRow, standIns := [], harness := (true, "61fb4c0e821bd852f573a30a8844084a297398a70b157aee816425cdd9da3e4e"), looks := true }, kinds := [], alts := [], laidByText := true, laidKinds := [.data, .data, .data, .data], laidTests := true, laidLooks := .later }
def TreeRootsCardSaid : Prop := Claim7.holds Tryd.pinned (.plain (OpenSpec.ofChange treeRootsSpec)) treeRootsCard

/-- THE TIED CARD OF 'cachetlaw11.TreeProofs'. -/
def treeProofsCard : Claim7 := { stood := { row := treeProofsRow, standIns := [], harness := (true, "61fb4c0e821bd852f573a30a8844084a297398a70b157aee816425cdd9da3e4e"), looks := true }, kinds := [], alts := [], laidByText := true, laidKinds := [.data, .data, .data, .data], laidTests := true, laidLooks := .later }
def TreeProofsCardSaid : Prop := Claim7.holds Tryd.pinned (.plain (OpenSpec.ofChange treeProofsSpec)) treeProofsCard

/-- THE SECOND FORM's CARD OF 'cachetlaw10.ProofBegins'. -/
def proofBeginsUptoCard : Claim7 := { stood := { row := proofBeginsUptoRow, standIns := [], harness := (true, "61fb4c0e821bd852f573a30a8844084a297398a70b157aee816425cdd9da3e4e"), looks := true }, kinds := [], alts := [], laidByText := true, laidKinds := [.data, .data], laidTests := true, laidLooks := .later }
def ProofBeginsUptoCardSaid : Prop := Claim7.holds Tryd.pinned (.plain (OpenSpec.upto proofBeginsSpec)) proofBeginsUptoCard

/-- THE SECOND FORM's CARD OF 'cachetlaw10.ProofExtends'. -/
def proofExtendsUptoCard : Claim7 := { stood := { row := proofExtendsUptoRow, standIns := [], harness := (true, "61fb4c0e821bd852f573a30a8844084a297398a70b157aee816425cdd9da3e4e"), looks := true }, kinds := [], alts := [], laidByText := true, laidKinds := [.data, .data], laidTests := true, laidLooks := .later }
def ProofExtendsUptoCardSaid : Prop := Claim7.holds Tryd.pinned (.plain (OpenSpec.upto proofExtendsSpec)) proofExtendsUptoCard

/-- THE SECOND FORM's CARD OF 'cachetlaw10.ProofOld'. -/
def proofOldUptoCard : Claim7 := { stood := { row := proofOldUptoRow, standIns := [], harness := (true, "61fb4c0e821bd852f573a30a8844084a297398a70b157aee816425cdd9da3e4e"), looks := true }, kinds := [], alts := [], laidByText := true, laidKinds := [.data, .data], laidTests := true, laidLooks := .later }
def ProofOldUptoCardSaid : Prop := Claim7.holds Tryd.pinned (.plain (OpenSpec.upto proofOldSpec)) proofOldUptoCard

/-- THE SECOND FORM's CARD OF 'cachetlaw10.ProofSteps'. -/
def proofStepsUptoCard : Claim7 := { stood := { row := proofStepsUptoRow, standIns := [], harness := (true, "61fb4c0e821bd852f573a30a8844084a297398a70b157aee816425cdd9da3e4e"), looks := true }, kinds := [], alts := [], laidByText := true, laidKinds := [.data, .data], laidTests := true, laidLooks := .later }
def ProofStepsUptoCardSaid : Prop := Claim7.holds Tryd.pinned (.plain (OpenSpec.upto proofStepsSpec)) proofStepsUptoCard

/-- THE SECOND FORM's CARD OF 'cachetlaw11.TreeRoots'. -/
def treeRootsUptoCard : Claim7 := { stood := { row := treeRootsUptoRow, standIns := [], harness := (true, "61fb4c0e821bd852f573a30a8844084a297398a70b157aee816425cdd9da3e4e"), looks := true }, kinds := [], alts := [], laidByText := true, laidKinds := [.data, .data, .data, .data], laidTests := true, laidLooks := .later }
def TreeRootsUptoCardSaid : Prop := Claim7.holds Tryd.pinned (.plain (OpenSpec.upto treeRootsSpec)) treeRootsUptoCard

/-- THE SECOND FORM's CARD OF 'cachetlaw11.TreeProofs'. -/
def treeProofsUptoCard : Claim7 := { stood := { row := treeProofsUptoRow, standIns := [], harness := (true, "61fb4c0e821bd852f573a30a8844084a297398a70b157aee816425cdd9da3e4e"), looks := true }, kinds := [], alts := [], laidByText := true, laidKinds := [.data, .data, .data, .data], laidTests := true, laidLooks := .later }
def TreeProofsUptoCardSaid : Prop := Claim7.holds Tryd.pinned (.plain (OpenSpec.upto treeProofsSpec)) treeProofsUptoCard
end Rows
end Go.Proofs.YtgnmnoadfjdjdaaDoor

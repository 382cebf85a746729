/-
  No cell of these rows narrows 'for every input' (looked for: loops, veiled, ifaces, maps, wideKeys, modest, calm, conditions, laid).
  DERIVED. THE GIVEN ROWS OF THIS SEAT. 4 by the template 'for every input the law returns true; each argument reads behind the call as it read before'; 0 by the template 'total and deterministic' (their statements: YtmbjdegfgidadaaTotals.lean).
  GIVEN WITH THE SEED: the statements are not yours to turn. If you find one false, say at which input.
  Laid BY PROGRAM, IN A SANDBOX (cutbox-rows.mjs): the forced cells as the released guide's own fill.sh prints them over the translation 2c6ac5e2d00fd828… (all of the seat's roots in one cut). By AI agents, Wed Nov 11 2026. No macro, syntax, notation, axiom, sorry.
-/
import Derived.Test.YtmbjdegfgidadaaChecked
import GoSem.Claim
import GoSem.ClaimJoined
import GoSem.ClaimMapViews
import Derived.JoinedTies
import Derived.KernelRfl
namespace Go.Proofs.Ytmbjdegfgidadaa
/- THE CELL 'sum', in the pinned program and in every row, IS THE sha256 OF THE DUMP (.gsa) THAT YtmbjdegfgidadaaProg.lean LOADS. Nothing in Lean hashes anything: it is a label: what it is worth is what the hold of that sum in a sandbox is worth. -/
noncomputable def Try.pinned : Pinned := { name := "ytmbjdegfgidadaa", sum := "2c6ac5e2d00fd82826a2332f701b3a2f98d95c2aeab20e9c8d8ebd7e7c225d98", checked := Try.checked }
namespace Rows
def none {H : Type} : Left H := { results := [], args := [] }

/-- 'cachetlaw14.CoderCodes': WHATEVER THE INPUT: true; the input reads as it did. -/
def coderCodesSpec : ChangeSpec := { name := "coderCodes", fn := fun _ => fun
  | [d] => { results := [.lit (.bool true)], args := [d] }
  | _ => none }
def coderCodesRow : OpenClaim := { program := "ytmbjdegfgidadaa", sum := "2c6ac5e2d00fd82826a2332f701b3a2f98d95c2aeab20e9c8d8ebd7e7c225d98", func := "cachet/cachetlaw14.CoderCodes", spec := "coderCodes", inPlace := ["internal/bytealg.IndexByteString"], apart := false }
def CoderCodesSaid : Prop := coderCodesRow.holds Try.pinned (OpenSpec.ofChange coderCodesSpec)

/-- ITS FALSE NEIGHBOUR: 'it returns false'. Refute it at one input. -/
def coderCodesWrong : ChangeSpec := { name := "coderCodes", fn := fun _ => fun
  | [d] => { results := [.lit (.bool false)], args := [d] }
  | _ => none }
def CoderCodesWrongFalsely : Prop := coderCodesRow.holds Try.pinned (OpenSpec.ofChange coderCodesWrong)

/-- 'cachetlaw14.CoderDecodes': WHATEVER THE INPUT: true; the input reads as it did. -/
def coderDecodesSpec : ChangeSpec := { name := "coderDecodes", fn := fun _ => fun
  | [d] => { results := [.lit (.bool true)], args := [d] }
  | _ => none }
def coderDecodesRow : OpenClaim := { program := "ytmbjdegfgidadaa", sum := "2c6ac5e2d00fd82826a2332f701b3a2f98d95c2aeab20e9c8d8ebd7e7c225d98", func := "cachet/cachetlaw14.CoderDecodes", spec := "coderDecodes", inPlace := ["internal/bytealg.IndexByteString"], apart := false }
def CoderDecodesSaid : Prop := coderDecodesRow.holds Try.pinned (OpenSpec.ofChange coderDecodesSpec)

/-- ITS FALSE NEIGHBOUR: 'it returns false'. Refute it at one input. -/
def coderDecodesWrong : ChangeSpec := { name := "coderDecodes", fn := fun _ => fun
  | [d] => { results := [.lit (.bool false)], args := [d] }
  | _ => none }
def CoderDecodesWrongFalsely : Prop := coderDecodesRow.holds Try.pinned (OpenSpec.ofChange coderDecodesWrong)

/-- 'cachetlaw14.CoderFixed': WHATEVER THE INPUT: true; the input reads as it did. -/
def coderFixedSpec : ChangeSpec := { name := "coderFixed", fn := fun _ => fun
  | [d] => { results := [.lit (.bool true)], args := [d] }
  | _ => none }
def coderFixedRow : OpenClaim := { program := "ytmbjdegfgidadaa", sum := "2c6ac5e2d00fd82826a2332f701b3a2f98d95c2aeab20e9c8d8ebd7e7c225d98", func := "cachet/cachetlaw14.CoderFixed", spec := "coderFixed", inPlace := ["internal/bytealg.IndexByteString"], apart := false }
def CoderFixedSaid : Prop := coderFixedRow.holds Try.pinned (OpenSpec.ofChange coderFixedSpec)

/-- ITS FALSE NEIGHBOUR: 'it returns false'. Refute it at one input. -/
def coderFixedWrong : ChangeSpec := { name := "coderFixed", fn := fun _ => fun
  | [d] => { results := [.lit (.bool false)], args := [d] }
  | _ => none }
def CoderFixedWrongFalsely : Prop := coderFixedRow.holds Try.pinned (OpenSpec.ofChange coderFixedWrong)

/-- 'cachetlaw14.CoderJoins': WHATEVER THE INPUT: true; the input reads as it did. -/
def coderJoinsSpec : ChangeSpec := { name := "coderJoins", fn := fun _ => fun
  | [d1, d2] => { results := [.lit (.bool true)], args := [d1, d2] }
  | _ => none }
def coderJoinsRow : OpenClaim := { program := "ytmbjdegfgidadaa", sum := "2c6ac5e2d00fd82826a2332f701b3a2f98d95c2aeab20e9c8d8ebd7e7c225d98", func := "cachet/cachetlaw14.CoderJoins", spec := "coderJoins", apart := false }
def CoderJoinsSaid : Prop := coderJoinsRow.holds Try.pinned (OpenSpec.ofChange coderJoinsSpec)

/-- ITS FALSE NEIGHBOUR: 'it returns false'. Refute it at one input. -/
def coderJoinsWrong : ChangeSpec := { name := "coderJoins", fn := fun _ => fun
  | [d1, d2] => { results := [.lit (.bool false)], args := [d1, d2] }
  | _ => none }
def CoderJoinsWrongFalsely : Prop := coderJoinsRow.holds Try.pinned (OpenSpec.ofChange coderJoinsWrong)

/- THE SECOND FORM. 'bulk': how many values and letters a reading holds, each counted each time it is reached (what is shared counts as often as it is met; a slice's spare places count too). A statement '..UptoSaid' is the law's where the arguments, and the package variables that the reading takes, are together of bulk at most 1048576: NARROWER than '..Said'. Prove '..Said' where nothing that the law and all that it calls make is longer than what came in: it says more and counts as full. Else prove '..UptoSaid'. A law counts once. -/
mutual
def uptoBulk {H : Type} : DataW H → Nat
  | .lit (.string bytes) => bytes.length + 1
  | .lit _ => 1
  | .nil => 1
  | .ptr d => uptoBulk d + 1
  | .slice elems spare => uptoBulkAll elems + uptoBulkAll spare + 1
  | .agg parts => uptoBulkAll parts + 1
  | .iface _ d => uptoBulk d + 1
  | .map entries => uptoBulkEntries entries + 1
  | .held _ => 1
def uptoBulkAll {H : Type} : List (DataW H) → Nat
  | [] => 0
  | d :: r => uptoBulk d + uptoBulkAll r
def uptoBulkEntries {H : Type} : List (Lit × DataW H) → Nat
  | [] => 0
  | x :: r => uptoBulkEntry x + uptoBulkEntries r
def uptoBulkEntry {H : Type} : Lit × DataW H → Nat
  | (.string bytes, d) => bytes.length + uptoBulk d + 1
  | (_, d) => uptoBulk d + 1
 end
def uptoSmall : (H : Type) → List (DataW H) → Bool := fun _ ds => decide (uptoBulkAll ds ≤ 1048576)
def OpenSpec.upto (s : _root_.Go.ChangeSpec) : _root_.Go.OpenSpec := { _root_.Go.OpenSpec.ofChange s with cond := some uptoSmall }

/-- 'cachetlaw14.CoderCodes', WHERE WHAT IT READS IS OF BULK AT MOST 1048576: true; the input reads as it did. -/
def coderCodesUptoRow : OpenClaim := { program := "ytmbjdegfgidadaa", sum := "2c6ac5e2d00fd82826a2332f701b3a2f98d95c2aeab20e9c8d8ebd7e7c225d98", func := "cachet/cachetlaw14.CoderCodes", spec := "coderCodes", inPlace := ["internal/bytealg.IndexByteString"], apart := false, narrowed := true }
def CoderCodesUptoSaid : Prop := coderCodesUptoRow.holds Try.pinned (OpenSpec.upto coderCodesSpec)

/-- 'cachetlaw14.CoderDecodes', WHERE WHAT IT READS IS OF BULK AT MOST 1048576: true; the input reads as it did. -/
def coderDecodesUptoRow : OpenClaim := { program := "ytmbjdegfgidadaa", sum := "2c6ac5e2d00fd82826a2332f701b3a2f98d95c2aeab20e9c8d8ebd7e7c225d98", func := "cachet/cachetlaw14.CoderDecodes", spec := "coderDecodes", inPlace := ["internal/bytealg.IndexByteString"], apart := false, narrowed := true }
def CoderDecodesUptoSaid : Prop := coderDecodesUptoRow.holds Try.pinned (OpenSpec.upto coderDecodesSpec)

/-- 'cachetlaw14.CoderFixed', WHERE WHAT IT READS IS OF BULK AT MOST 1048576: true; the input reads as it did. -/
def coderFixedUptoRow : OpenClaim := { program := "ytmbjdegfgidadaa", sum := "2c6ac5e2d00fd82826a2332f701b3a2f98d95c2aeab20e9c8d8ebd7e7c225d98", func := "cachet/cachetlaw14.CoderFixed", spec := "coderFixed", inPlace := ["internal/bytealg.IndexByteString"], apart := false, narrowed := true }
def CoderFixedUptoSaid : Prop := coderFixedUptoRow.holds Try.pinned (OpenSpec.upto coderFixedSpec)

/-- 'cachetlaw14.CoderJoins', WHERE WHAT IT READS IS OF BULK AT MOST 1048576: true; the input reads as it did. -/
def coderJoinsUptoRow : OpenClaim := { program := "ytmbjdegfgidadaa", sum := "2c6ac5e2d00fd82826a2332f701b3a2f98d95c2aeab20e9c8d8ebd7e7c225d98", func := "cachet/cachetlaw14.CoderJoins", spec := "coderJoins", apart := false, narrowed := true }
def CoderJoinsUptoSaid : Prop := coderJoinsUptoRow.holds Try.pinned (OpenSpec.upto coderJoinsSpec)

end Rows
end Go.Proofs.Ytmbjdegfgidadaa

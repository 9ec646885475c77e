/-
  NARROWER THAN 'FOR EVERY INPUT', by the rows' own cells (each row's printed sentence says how): PolyTells: laid · PolyParts: laid · PolyKeys: laid · PolyNone: laid · PolyOne: laid.
  DERIVED. THE GIVEN ROWS OF THIS SEAT. 5 by the template 'for every input the law returns true; each argument reads behind the call as it read before'; 0 by the template 'total and deterministic' (their statements: YtflmnhjfgdbfeaaDoorTotals.lean).
  GIVEN WITH THE SEED: the statements are not yours to turn. If you find one false, say at which input.
  Laid BY PROGRAM, IN A SANDBOX (cutbox-rows.mjs): the forced cells as the released guide's own fill.sh prints them over the translation 97527374f9059d8f… (all of the seat's roots in one cut). By AI agents, Wed Nov 11 2026. No macro, syntax, notation, axiom, sorry.
-/
import Derived.Test.YtflmnhjfgdbfeaaDoorChecked
import GoSem.Claim
import GoSem.ClaimJoined
import GoSem.ClaimMapViews
import Derived.JoinedTies
import Derived.KernelRfl
namespace Go.Proofs.YtflmnhjfgdbfeaaDoor
/- THE CELL 'sum', in the pinned program and in every row, IS THE sha256 OF THE DUMP (.gsa) THAT YtflmnhjfgdbfeaaDoorProg.lean LOADS. Nothing in Lean hashes anything: it is a label: what it is worth is what the hold of that sum in a sandbox is worth. -/
noncomputable def Tryd.pinned : Pinned := { name := "ytflmnhjfgdbfeaadoor", sum := "97527374f9059d8fc72ab2478c35f14acf74f397028fec9d6ccb26cc54697908", checked := Tryd.checked }
namespace Rows
def none {H : Type} : Left H := { results := [], args := [] }

/- WHAT THE LISTED PACKAGE-LEVEL VARIABLES READ AS WHEN THE CALL BEGINS. Each datum BY PROGRAM (the guide's laid-datum.mjs) off the statement by which the dump's own 'gosem.cut.vars' lays the variable. In a bare row this is a premise. The card (YtflmnhjfgdbfeaaDoorCards.lean) ties it to the program's text. -/
def laid_fardel_poly_kept {H : Type} : DataW H := .agg [.lit (.int .u64 1152921487695413247), .lit (.int .u64 1152921487695413244)]

/-- 'fardellaw10.PolyTells': WHATEVER THE INPUT: true; the input reads as it did. -/
def polyTellsSpec : ChangeSpec := { name := "polyTells", fn := fun _ => fun
  | [d1, d2] => { results := [.lit (.bool true)], args := [d1, d2] }
  | _ => none }
def polyTellsRow : OpenClaim := { program := "ytflmnhjfgdbfeaadoor", sum := "97527374f9059d8fc72ab2478c35f14acf74f397028fec9d6ccb26cc54697908", func := "fardel/fardellaw10.PolyTells", spec := "polyTells", inPlace := ["math/bits.Add64"], named := ["fardel/poly.kept"], apart := false, laid := [("fardel/poly.kept", laid_fardel_poly_kept)] }
def PolyTellsSaid : Prop := polyTellsRow.holds Tryd.pinned (OpenSpec.ofChange polyTellsSpec)

/-- ITS FALSE NEIGHBOUR: 'it returns false'. Refute it at one input. -/
def polyTellsWrong : ChangeSpec := { name := "polyTells", fn := fun _ => fun
  | [d1, d2] => { results := [.lit (.bool false)], args := [d1, d2] }
  | _ => none }
def PolyTellsWrongFalsely : Prop := polyTellsRow.holds Tryd.pinned (OpenSpec.ofChange polyTellsWrong)

/-- 'fardellaw10.PolyParts': WHATEVER THE INPUT: true; the input reads as it did. -/
def polyPartsSpec : ChangeSpec := { name := "polyParts", fn := fun _ => fun
  | [d1, d2, d3] => { results := [.lit (.bool true)], args := [d1, d2, d3] }
  | _ => none }
def polyPartsRow : OpenClaim := { program := "ytflmnhjfgdbfeaadoor", sum := "97527374f9059d8fc72ab2478c35f14acf74f397028fec9d6ccb26cc54697908", func := "fardel/fardellaw10.PolyParts", spec := "polyParts", inPlace := ["math/bits.Add64"], named := ["fardel/poly.kept"], apart := false, laid := [("fardel/poly.kept", laid_fardel_poly_kept)] }
def PolyPartsSaid : Prop := polyPartsRow.holds Tryd.pinned (OpenSpec.ofChange polyPartsSpec)

/-- ITS FALSE NEIGHBOUR: 'it returns false'. Refute it at one input. -/
def polyPartsWrong : ChangeSpec := { name := "polyParts", fn := fun _ => fun
  | [d1, d2, d3] => { results := [.lit (.bool false)], args := [d1, d2, d3] }
  | _ => none }
def PolyPartsWrongFalsely : Prop := polyPartsRow.holds Tryd.pinned (OpenSpec.ofChange polyPartsWrong)

/-- 'fardellaw10.PolyKeys': WHATEVER THE INPUT: true; the input reads as it did. -/
def polyKeysSpec : ChangeSpec := { name := "polyKeys", fn := fun _ => fun
  | [d1, d2, d3] => { results := [.lit (.bool true)], args := [d1, d2, d3] }
  | _ => none }
def polyKeysRow : OpenClaim := { program := "ytflmnhjfgdbfeaadoor", sum := "97527374f9059d8fc72ab2478c35f14acf74f397028fec9d6ccb26cc54697908", func := "fardel/fardellaw10.PolyKeys", spec := "polyKeys", inPlace := ["math/bits.Add64"], named := ["fardel/poly.kept"], apart := false, laid := [("fardel/poly.kept", laid_fardel_poly_kept)] }
def PolyKeysSaid : Prop := polyKeysRow.holds Tryd.pinned (OpenSpec.ofChange polyKeysSpec)

/-- ITS FALSE NEIGHBOUR: 'it returns false'. Refute it at one input. -/
def polyKeysWrong : ChangeSpec := { name := "polyKeys", fn := fun _ => fun
  | [d1, d2, d3] => { results := [.lit (.bool false)], args := [d1, d2, d3] }
  | _ => none }
def PolyKeysWrongFalsely : Prop := polyKeysRow.holds Tryd.pinned (OpenSpec.ofChange polyKeysWrong)

/-- 'fardellaw10.PolyNone': WHATEVER THE INPUT: true; the input reads as it did. -/
def polyNoneSpec : ChangeSpec := { name := "polyNone", fn := fun _ => fun
  | [d1, d2] => { results := [.lit (.bool true)], args := [d1, d2] }
  | _ => none }
def polyNoneRow : OpenClaim := { program := "ytflmnhjfgdbfeaadoor", sum := "97527374f9059d8fc72ab2478c35f14acf74f397028fec9d6ccb26cc54697908", func := "fardel/fardellaw10.PolyNone", spec := "polyNone", inPlace := ["math/bits.Add64"], named := ["fardel/poly.kept"], apart := false, laid := [("fardel/poly.kept", laid_fardel_poly_kept)] }
def PolyNoneSaid : Prop := polyNoneRow.holds Tryd.pinned (OpenSpec.ofChange polyNoneSpec)

/-- ITS FALSE NEIGHBOUR: 'it returns false'. Refute it at one input. -/
def polyNoneWrong : ChangeSpec := { name := "polyNone", fn := fun _ => fun
  | [d1, d2] => { results := [.lit (.bool false)], args := [d1, d2] }
  | _ => none }
def PolyNoneWrongFalsely : Prop := polyNoneRow.holds Tryd.pinned (OpenSpec.ofChange polyNoneWrong)

/-- 'fardellaw10.PolyOne': WHATEVER THE INPUT: true; the input reads as it did. -/
def polyOneSpec : ChangeSpec := { name := "polyOne", fn := fun _ => fun
  | [d1, d2] => { results := [.lit (.bool true)], args := [d1, d2] }
  | _ => none }
def polyOneRow : OpenClaim := { program := "ytflmnhjfgdbfeaadoor", sum := "97527374f9059d8fc72ab2478c35f14acf74f397028fec9d6ccb26cc54697908", func := "fardel/fardellaw10.PolyOne", spec := "polyOne", inPlace := ["math/bits.Add64"], named := ["fardel/poly.kept"], apart := false, laid := [("fardel/poly.kept", laid_fardel_poly_kept)] }
def PolyOneSaid : Prop := polyOneRow.holds Tryd.pinned (OpenSpec.ofChange polyOneSpec)

/-- ITS FALSE NEIGHBOUR: 'it returns false'. Refute it at one input. -/
def polyOneWrong : ChangeSpec := { name := "polyOne", fn := fun _ => fun
  | [d1, d2] => { results := [.lit (.bool false)], args := [d1, d2] }
  | _ => none }
def PolyOneWrongFalsely : Prop := polyOneRow.holds Tryd.pinned (OpenSpec.ofChange polyOneWrong)

/- THE SECOND FORM. 'bulk': how many values and letters a reading holds, each counted each time it is reached (what is shared counts as often as it is met; a slice's spare places count too). A statement '..UptoSaid' is the law's where the arguments, and the package variables that the reading takes, are together of bulk at most 1048576: NARROWER than '..Said'. Prove '..Said' where nothing that the law and all that it calls make is longer than what came in: it says more and counts as full. Else prove '..UptoSaid'. A law counts once. -/
mutual
def uptoBulk {H : Type} : DataW H → Nat
  | .lit (.string bytes) => bytes.length + 1
  | .lit _ => 1
  | .nil => 1
  | .ptr d => uptoBulk d + 1
  | .slice elems spare => uptoBulkAll elems + uptoBulkAll spare + 1
  | .agg parts => uptoBulkAll parts + 1
  | .iface _ d => uptoBulk d + 1
  | .map entries => uptoBulkEntries entries + 1
  | .held _ => 1
def uptoBulkAll {H : Type} : List (DataW H) → Nat
  | [] => 0
  | d :: r => uptoBulk d + uptoBulkAll r
def uptoBulkEntries {H : Type} : List (Lit × DataW H) → Nat
  | [] => 0
  | x :: r => uptoBulkEntry x + uptoBulkEntries r
def uptoBulkEntry {H : Type} : Lit × DataW H → Nat
  | (.string bytes, d) => bytes.length + uptoBulk d + 1
  | (_, d) => uptoBulk d + 1
 end
def uptoSmall : (H : Type) → List (DataW H) → Bool := fun _ ds => decide (uptoBulkAll ds ≤ 1048576)
def OpenSpec.upto (s : _root_.Go.ChangeSpec) : _root_.Go.OpenSpec := { _root_.Go.OpenSpec.ofChange s with cond := some uptoSmall }

/-- 'fardellaw10.PolyTells', WHERE WHAT IT READS IS OF BULK AT MOST 1048576: true; the input reads as it did. -/
def polyTellsUptoRow : OpenClaim := { program := "ytflmnhjfgdbfeaadoor", sum := "97527374f9059d8fc72ab2478c35f14acf74f397028fec9d6ccb26cc54697908", func := "fardel/fardellaw10.PolyTells", spec := "polyTells", inPlace := ["math/bits.Add64"], named := ["fardel/poly.kept"], apart := false, laid := [("fardel/poly.kept", laid_fardel_poly_kept)], narrowed := true }
def PolyTellsUptoSaid : Prop := polyTellsUptoRow.holds Tryd.pinned (OpenSpec.upto polyTellsSpec)

/-- 'fardellaw10.PolyParts', WHERE WHAT IT READS IS OF BULK AT MOST 1048576: true; the input reads as it did. -/
def polyPartsUptoRow : OpenClaim := { program := "ytflmnhjfgdbfeaadoor", sum := "97527374f9059d8fc72ab2478c35f14acf74f397028fec9d6ccb26cc54697908", func := "fardel/fardellaw10.PolyParts", spec := "polyParts", inPlace := ["math/bits.Add64"], named := ["fardel/poly.kept"], apart := false, laid := [("fardel/poly.kept", laid_fardel_poly_kept)], narrowed := true }
def PolyPartsUptoSaid : Prop := polyPartsUptoRow.holds Tryd.pinned (OpenSpec.upto polyPartsSpec)

/-- 'fardellaw10.PolyKeys', WHERE WHAT IT READS IS OF BULK AT MOST 1048576: true; the input reads as it did. -/
def polyKeysUptoRow : OpenClaim := { program := "ytflmnhjfgdbfeaadoor", sum := "97527374f9059d8fc72ab2478c35f14acf74f397028fec9d6ccb26cc54697908", func := "fardel/fardellaw10.PolyKeys", spec := "polyKeys", inPlace := ["math/bits.Add64"], named := ["fardel/poly.kept"], apart := false, laid := [("fardel/poly.kept", laid_fardel_poly_kept)], narrowed := true }
def PolyKeysUptoSaid : Prop := polyKeysUptoRow.holds Tryd.pinned (OpenSpec.upto polyKeysSpec)

/-- 'fardellaw10.PolyNone', WHERE WHAT IT READS IS OF BULK AT MOST 1048576: true; the input reads as it did. -/
def polyNoneUptoRow : OpenClaim := { program := "ytflmnhjfgdbfeaadoor", sum := "97527374f9059d8fc72ab2478c35f14acf74f397028fec9d6ccb26cc54697908", func := "fardel/fardellaw10.PolyNone", spec := "polyNone", inPlace := ["math/bits.Add64"], named := ["fardel/poly.kept"], apart := false, laid := [("fardel/poly.kept", laid_fardel_poly_kept)], narrowed := true }
def PolyNoneUptoSaid : Prop := polyNoneUptoRow.holds Tryd.pinned (OpenSpec.upto polyNoneSpec)

/-- 'fardellaw10.PolyOne', WHERE WHAT IT READS IS OF BULK AT MOST 1048576: true; the input reads as it did. -/
def polyOneUptoRow : OpenClaim := { program := "ytflmnhjfgdbfeaadoor", sum := "97527374f9059d8fc72ab2478c35f14acf74f397028fec9d6ccb26cc54697908", func := "fardel/fardellaw10.PolyOne", spec := "polyOne", inPlace := ["math/bits.Add64"], named := ["fardel/poly.kept"], apart := false, laid := [("fardel/poly.kept", laid_fardel_poly_kept)], narrowed := true }
def PolyOneUptoSaid : Prop := polyOneUptoRow.holds Tryd.pinned (OpenSpec.upto polyOneSpec)

end Rows
end Go.Proofs.YtflmnhjfgdbfeaaDoor

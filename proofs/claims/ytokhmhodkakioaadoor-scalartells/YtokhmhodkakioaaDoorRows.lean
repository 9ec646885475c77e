/-
  NARROWER THAN 'FOR EVERY INPUT', by the rows' own cells (each row's printed sentence says how): ScalarTells: laid · ScalarRing: laid · ScalarOnce: laid · ScalarSmall: laid.
  DERIVED. THE GIVEN ROWS OF THIS SEAT. 4 by the template 'for every input the law returns true; each argument reads behind the call as it read before'; 0 by the template 'total and deterministic' (their statements: YtokhmhodkakioaaDoorTotals.lean).
  GIVEN WITH THE SEED: the statements are not yours to turn. If you find one false, say at which input.
  Laid BY PROGRAM, IN A SANDBOX (cutbox-rows.mjs): the forced cells as the released guide's own fill.sh prints them over the translation 68f2b5c16e88a3a3… (all of the seat's roots in one cut). By AI agents, Wed Nov 11 2026. No macro, syntax, notation, axiom, sorry.
-/
import Derived.Test.YtokhmhodkakioaaDoorChecked
import GoSem.Claim
import GoSem.ClaimJoined
import GoSem.ClaimMapViews
import Derived.JoinedTies
import Derived.KernelRfl
namespace Go.Proofs.YtokhmhodkakioaaDoor
/- THE CELL 'sum', in the pinned program and in every row, IS THE sha256 OF THE DUMP (.gsa) THAT YtokhmhodkakioaaDoorProg.lean LOADS. Nothing in Lean hashes anything: it is a label: what it is worth is what the hold of that sum in a sandbox is worth. -/
noncomputable def Tryd.pinned : Pinned := { name := "ytokhmhodkakioaadoor", sum := "68f2b5c16e88a3a3520e8c4ea98bb6229955abb2c4da9cd493c1a6fff644c41b", checked := Tryd.checked }
namespace Rows
def none {H : Type} : Left H := { results := [], args := [] }

/- WHAT THE LISTED PACKAGE-LEVEL VARIABLES READ AS WHEN THE CALL BEGINS. Each datum BY PROGRAM (the guide's laid-datum.mjs) off the statement by which the dump's own 'gosem.cut.vars' lays the variable. In a bare row this is a premise. The card (YtokhmhodkakioaaDoorCards.lean) ties it to the program's text. -/
def laid_fardel_scalar_order {H : Type} : DataW H := .agg [.lit (.int .u64 6346243789798364141), .lit (.int .u64 1503914060200516822), .lit (.int .u64 0), .lit (.int .u64 1152921504606846976)]

/-- 'fardellaw02.ScalarTells': WHATEVER THE INPUT: true; the input reads as it did. -/
def scalarTellsSpec : ChangeSpec := { name := "scalarTells", fn := fun _ => fun
  | [d1, d2, d3, d4] => { results := [.lit (.bool true)], args := [d1, d2, d3, d4] }
  | _ => none }
def scalarTellsRow : OpenClaim := { program := "ytokhmhodkakioaadoor", sum := "68f2b5c16e88a3a3520e8c4ea98bb6229955abb2c4da9cd493c1a6fff644c41b", func := "fardel/fardellaw02.ScalarTells", spec := "scalarTells", inPlace := ["math/bits.Sub64", "math/bits.Add64"], named := ["fardel/scalar.order"], apart := false, laid := [("fardel/scalar.order", laid_fardel_scalar_order)] }
def ScalarTellsSaid : Prop := scalarTellsRow.holds Tryd.pinned (OpenSpec.ofChange scalarTellsSpec)

/-- ITS FALSE NEIGHBOUR: 'it returns false'. Refute it at one input. -/
def scalarTellsWrong : ChangeSpec := { name := "scalarTells", fn := fun _ => fun
  | [d1, d2, d3, d4] => { results := [.lit (.bool false)], args := [d1, d2, d3, d4] }
  | _ => none }
def ScalarTellsWrongFalsely : Prop := scalarTellsRow.holds Tryd.pinned (OpenSpec.ofChange scalarTellsWrong)

/-- 'fardellaw02.ScalarRing': WHATEVER THE INPUT: true; the input reads as it did. -/
def scalarRingSpec : ChangeSpec := { name := "scalarRing", fn := fun _ => fun
  | [d1, d2, d3] => { results := [.lit (.bool true)], args := [d1, d2, d3] }
  | _ => none }
def scalarRingRow : OpenClaim := { program := "ytokhmhodkakioaadoor", sum := "68f2b5c16e88a3a3520e8c4ea98bb6229955abb2c4da9cd493c1a6fff644c41b", func := "fardel/fardellaw02.ScalarRing", spec := "scalarRing", inPlace := ["math/bits.Sub64", "math/bits.Add64"], named := ["fardel/scalar.order"], apart := false, laid := [("fardel/scalar.order", laid_fardel_scalar_order)] }
def ScalarRingSaid : Prop := scalarRingRow.holds Tryd.pinned (OpenSpec.ofChange scalarRingSpec)

/-- ITS FALSE NEIGHBOUR: 'it returns false'. Refute it at one input. -/
def scalarRingWrong : ChangeSpec := { name := "scalarRing", fn := fun _ => fun
  | [d1, d2, d3] => { results := [.lit (.bool false)], args := [d1, d2, d3] }
  | _ => none }
def ScalarRingWrongFalsely : Prop := scalarRingRow.holds Tryd.pinned (OpenSpec.ofChange scalarRingWrong)

/-- 'fardellaw02.ScalarOnce': WHATEVER THE INPUT: true; the input reads as it did. -/
def scalarOnceSpec : ChangeSpec := { name := "scalarOnce", fn := fun _ => fun
  | [d1, d2] => { results := [.lit (.bool true)], args := [d1, d2] }
  | _ => none }
def scalarOnceRow : OpenClaim := { program := "ytokhmhodkakioaadoor", sum := "68f2b5c16e88a3a3520e8c4ea98bb6229955abb2c4da9cd493c1a6fff644c41b", func := "fardel/fardellaw02.ScalarOnce", spec := "scalarOnce", inPlace := ["math/bits.Sub64", "math/bits.Add64"], named := ["fardel/scalar.order"], apart := false, laid := [("fardel/scalar.order", laid_fardel_scalar_order)] }
def ScalarOnceSaid : Prop := scalarOnceRow.holds Tryd.pinned (OpenSpec.ofChange scalarOnceSpec)

/-- ITS FALSE NEIGHBOUR: 'it returns false'. Refute it at one input. -/
def scalarOnceWrong : ChangeSpec := { name := "scalarOnce", fn := fun _ => fun
  | [d1, d2] => { results := [.lit (.bool false)], args := [d1, d2] }
  | _ => none }
def ScalarOnceWrongFalsely : Prop := scalarOnceRow.holds Tryd.pinned (OpenSpec.ofChange scalarOnceWrong)

/-- 'fardellaw02.ScalarSmall': WHATEVER THE INPUT: true; the input reads as it did. -/
def scalarSmallSpec : ChangeSpec := { name := "scalarSmall", fn := fun _ => fun
  | [d1, d2, d3, d4] => { results := [.lit (.bool true)], args := [d1, d2, d3, d4] }
  | _ => none }
def scalarSmallRow : OpenClaim := { program := "ytokhmhodkakioaadoor", sum := "68f2b5c16e88a3a3520e8c4ea98bb6229955abb2c4da9cd493c1a6fff644c41b", func := "fardel/fardellaw02.ScalarSmall", spec := "scalarSmall", inPlace := ["math/bits.Sub64", "math/bits.Add64"], named := ["fardel/scalar.order"], apart := false, laid := [("fardel/scalar.order", laid_fardel_scalar_order)] }
def ScalarSmallSaid : Prop := scalarSmallRow.holds Tryd.pinned (OpenSpec.ofChange scalarSmallSpec)

/-- ITS FALSE NEIGHBOUR: 'it returns false'. Refute it at one input. -/
def scalarSmallWrong : ChangeSpec := { name := "scalarSmall", fn := fun _ => fun
  | [d1, d2, d3, d4] => { results := [.lit (.bool false)], args := [d1, d2, d3, d4] }
  | _ => none }
def ScalarSmallWrongFalsely : Prop := scalarSmallRow.holds Tryd.pinned (OpenSpec.ofChange scalarSmallWrong)

/- THE SECOND FORM. 'bulk': how many values and letters a reading holds, each counted each time it is reached (what is shared counts as often as it is met; a slice's spare places count too). A statement '..UptoSaid' is the law's where the arguments, and the package variables that the reading takes, are together of bulk at most 1048576: NARROWER than '..Said'. Prove '..Said' where nothing that the law and all that it calls make is longer than what came in: it says more and counts as full. Else prove '..UptoSaid'. A law counts once. -/
mutual
def uptoBulk {H : Type} : DataW H → Nat
  | .lit (.string bytes) => bytes.length + 1
  | .lit _ => 1
  | .nil => 1
  | .ptr d => uptoBulk d + 1
  | .slice elems spare => uptoBulkAll elems + uptoBulkAll spare + 1
  | .agg parts => uptoBulkAll parts + 1
  | .iface _ d => uptoBulk d + 1
  | .map entries => uptoBulkEntries entries + 1
  | .held _ => 1
def uptoBulkAll {H : Type} : List (DataW H) → Nat
  | [] => 0
  | d :: r => uptoBulk d + uptoBulkAll r
def uptoBulkEntries {H : Type} : List (Lit × DataW H) → Nat
  | [] => 0
  | x :: r => uptoBulkEntry x + uptoBulkEntries r
def uptoBulkEntry {H : Type} : Lit × DataW H → Nat
  | (.string bytes, d) => bytes.length + uptoBulk d + 1
  | (_, d) => uptoBulk d + 1
 end
def uptoSmall : (H : Type) → List (DataW H) → Bool := fun _ ds => decide (uptoBulkAll ds ≤ 1048576)
def OpenSpec.upto (s : _root_.Go.ChangeSpec) : _root_.Go.OpenSpec := { _root_.Go.OpenSpec.ofChange s with cond := some uptoSmall }

/-- 'fardellaw02.ScalarTells', WHERE WHAT IT READS IS OF BULK AT MOST 1048576: true; the input reads as it did. -/
def scalarTellsUptoRow : OpenClaim := { program := "ytokhmhodkakioaadoor", sum := "68f2b5c16e88a3a3520e8c4ea98bb6229955abb2c4da9cd493c1a6fff644c41b", func := "fardel/fardellaw02.ScalarTells", spec := "scalarTells", inPlace := ["math/bits.Sub64", "math/bits.Add64"], named := ["fardel/scalar.order"], apart := false, laid := [("fardel/scalar.order", laid_fardel_scalar_order)], narrowed := true }
def ScalarTellsUptoSaid : Prop := scalarTellsUptoRow.holds Tryd.pinned (OpenSpec.upto scalarTellsSpec)

/-- 'fardellaw02.ScalarRing', WHERE WHAT IT READS IS OF BULK AT MOST 1048576: true; the input reads as it did. -/
def scalarRingUptoRow : OpenClaim := { program := "ytokhmhodkakioaadoor", sum := "68f2b5c16e88a3a3520e8c4ea98bb6229955abb2c4da9cd493c1a6fff644c41b", func := "fardel/fardellaw02.ScalarRing", spec := "scalarRing", inPlace := ["math/bits.Sub64", "math/bits.Add64"], named := ["fardel/scalar.order"], apart := false, laid := [("fardel/scalar.order", laid_fardel_scalar_order)], narrowed := true }
def ScalarRingUptoSaid : Prop := scalarRingUptoRow.holds Tryd.pinned (OpenSpec.upto scalarRingSpec)

/-- 'fardellaw02.ScalarOnce', WHERE WHAT IT READS IS OF BULK AT MOST 1048576: true; the input reads as it did. -/
def scalarOnceUptoRow : OpenClaim := { program := "ytokhmhodkakioaadoor", sum := "68f2b5c16e88a3a3520e8c4ea98bb6229955abb2c4da9cd493c1a6fff644c41b", func := "fardel/fardellaw02.ScalarOnce", spec := "scalarOnce", inPlace := ["math/bits.Sub64", "math/bits.Add64"], named := ["fardel/scalar.order"], apart := false, laid := [("fardel/scalar.order", laid_fardel_scalar_order)], narrowed := true }
def ScalarOnceUptoSaid : Prop := scalarOnceUptoRow.holds Tryd.pinned (OpenSpec.upto scalarOnceSpec)

/-- 'fardellaw02.ScalarSmall', WHERE WHAT IT READS IS OF BULK AT MOST 1048576: true; the input reads as it did. -/
def scalarSmallUptoRow : OpenClaim := { program := "ytokhmhodkakioaadoor", sum := "68f2b5c16e88a3a3520e8c4ea98bb6229955abb2c4da9cd493c1a6fff644c41b", func := "fardel/fardellaw02.ScalarSmall", spec := "scalarSmall", inPlace := ["math/bits.Sub64", "math/bits.Add64"], named := ["fardel/scalar.order"], apart := false, laid := [("fardel/scalar.order", laid_fardel_scalar_order)], narrowed := true }
def ScalarSmallUptoSaid : Prop := scalarSmallUptoRow.holds Tryd.pinned (OpenSpec.upto scalarSmallSpec)

end Rows
end Go.Proofs.YtokhmhodkakioaaDoor

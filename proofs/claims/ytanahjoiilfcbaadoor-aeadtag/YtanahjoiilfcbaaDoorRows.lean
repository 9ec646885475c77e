/-
  NARROWER THAN 'FOR EVERY INPUT', by the rows' own cells (each row's printed sentence says how): AeadNames: laid · AeadTells: laid · AeadBack: laid · AeadTurns: laid · AeadTag: laid · AeadEmpty: laid.
  DERIVED. THE GIVEN ROWS OF THIS SEAT. 6 by the template 'for every input the law returns true; each argument reads behind the call as it read before'; 0 by the template 'total and deterministic' (their statements: YtanahjoiilfcbaaDoorTotals.lean).
  GIVEN WITH THE SEED: the statements are not yours to turn. If you find one false, say at which input.
  Laid BY PROGRAM, IN A SANDBOX (cutbox-rows.mjs): the forced cells as the released guide's own fill.sh prints them over the translation a6eaa3edce25ea54… (all of the seat's roots in one cut). By AI agents, Wed Nov 11 2026. No macro, syntax, notation, axiom, sorry.
-/
import Derived.Test.YtanahjoiilfcbaaDoorChecked
import GoSem.Claim
import GoSem.ClaimJoined
import GoSem.ClaimMapViews
import Derived.JoinedTies
import Derived.KernelRfl
namespace Go.Proofs.YtanahjoiilfcbaaDoor
/- THE CELL 'sum', in the pinned program and in every row, IS THE sha256 OF THE DUMP (.gsa) THAT YtanahjoiilfcbaaDoorProg.lean LOADS. Nothing in Lean hashes anything: it is a label: what it is worth is what the hold of that sum in a sandbox is worth. -/
noncomputable def Tryd.pinned : Pinned := { name := "ytanahjoiilfcbaadoor", sum := "a6eaa3edce25ea54c1813f04676b7f6272e559462eb9a5d4d0272ee507bd2e56", checked := Tryd.checked }
namespace Rows
def none {H : Type} : Left H := { results := [], args := [] }

/- WHAT THE LISTED PACKAGE-LEVEL VARIABLES READ AS WHEN THE CALL BEGINS. Each datum BY PROGRAM (the guide's laid-datum.mjs) off the statement by which the dump's own 'gosem.cut.vars' lays the variable. In a bare row this is a premise. The card (YtanahjoiilfcbaaDoorCards.lean) ties it to the program's text. -/
def laid_fardel_poly_kept {H : Type} : DataW H := .agg [.lit (.int .u64 1152921487695413247), .lit (.int .u64 1152921487695413244)]
def laid_fardel_chacha_places {H : Type} : DataW H := .agg [.agg [.lit (.int .i64 0), .lit (.int .i64 4), .lit (.int .i64 8), .lit (.int .i64 12)], .agg [.lit (.int .i64 1), .lit (.int .i64 5), .lit (.int .i64 9), .lit (.int .i64 13)], .agg [.lit (.int .i64 2), .lit (.int .i64 6), .lit (.int .i64 10), .lit (.int .i64 14)], .agg [.lit (.int .i64 3), .lit (.int .i64 7), .lit (.int .i64 11), .lit (.int .i64 15)], .agg [.lit (.int .i64 0), .lit (.int .i64 5), .lit (.int .i64 10), .lit (.int .i64 15)], .agg [.lit (.int .i64 1), .lit (.int .i64 6), .lit (.int .i64 11), .lit (.int .i64 12)], .agg [.lit (.int .i64 2), .lit (.int .i64 7), .lit (.int .i64 8), .lit (.int .i64 13)], .agg [.lit (.int .i64 3), .lit (.int .i64 4), .lit (.int .i64 9), .lit (.int .i64 14)]]

/-- 'fardellaw11.AeadNames': WHATEVER THE INPUT: true; the input reads as it did. -/
def aeadNamesSpec : ChangeSpec := { name := "aeadNames", fn := fun _ => fun
  | [] => { results := [.lit (.bool true)], args := [] }
  | _ => none }
def aeadNamesRow : OpenClaim := { program := "ytanahjoiilfcbaadoor", sum := "a6eaa3edce25ea54c1813f04676b7f6272e559462eb9a5d4d0272ee507bd2e56", func := "fardel/fardellaw11.AeadNames", spec := "aeadNames", inPlace := ["math/bits.Add64"], unfollowed := true, recurses := true, named := ["fardel/chacha.places", "fardel/poly.kept"], apart := false, laid := [("fardel/poly.kept", laid_fardel_poly_kept), ("fardel/chacha.places", laid_fardel_chacha_places)] }
def AeadNamesSaid : Prop := aeadNamesRow.holds Tryd.pinned (OpenSpec.ofChange aeadNamesSpec)

/-- ITS FALSE NEIGHBOUR: 'it returns false'. Refute it at one input. -/
def aeadNamesWrong : ChangeSpec := { name := "aeadNames", fn := fun _ => fun
  | [] => { results := [.lit (.bool false)], args := [] }
  | _ => none }
def AeadNamesWrongFalsely : Prop := aeadNamesRow.holds Tryd.pinned (OpenSpec.ofChange aeadNamesWrong)

/-- 'fardellaw11.AeadTells': WHATEVER THE INPUT: true; the input reads as it did. -/
def aeadTellsSpec : ChangeSpec := { name := "aeadTells", fn := fun _ => fun
  | [d1, d2, d3, d4] => { results := [.lit (.bool true)], args := [d1, d2, d3, d4] }
  | _ => none }
def aeadTellsRow : OpenClaim := { program := "ytanahjoiilfcbaadoor", sum := "a6eaa3edce25ea54c1813f04676b7f6272e559462eb9a5d4d0272ee507bd2e56", func := "fardel/fardellaw11.AeadTells", spec := "aeadTells", inPlace := ["math/bits.Add64"], unfollowed := true, recurses := true, named := ["fardel/chacha.places", "fardel/poly.kept"], apart := false, laid := [("fardel/poly.kept", laid_fardel_poly_kept), ("fardel/chacha.places", laid_fardel_chacha_places)] }
def AeadTellsSaid : Prop := aeadTellsRow.holds Tryd.pinned (OpenSpec.ofChange aeadTellsSpec)

/-- ITS FALSE NEIGHBOUR: 'it returns false'. Refute it at one input. -/
def aeadTellsWrong : ChangeSpec := { name := "aeadTells", fn := fun _ => fun
  | [d1, d2, d3, d4] => { results := [.lit (.bool false)], args := [d1, d2, d3, d4] }
  | _ => none }
def AeadTellsWrongFalsely : Prop := aeadTellsRow.holds Tryd.pinned (OpenSpec.ofChange aeadTellsWrong)

/-- 'fardellaw11.AeadBack': WHATEVER THE INPUT: true; the input reads as it did. -/
def aeadBackSpec : ChangeSpec := { name := "aeadBack", fn := fun _ => fun
  | [d1, d2, d3, d4] => { results := [.lit (.bool true)], args := [d1, d2, d3, d4] }
  | _ => none }
def aeadBackRow : OpenClaim := { program := "ytanahjoiilfcbaadoor", sum := "a6eaa3edce25ea54c1813f04676b7f6272e559462eb9a5d4d0272ee507bd2e56", func := "fardel/fardellaw11.AeadBack", spec := "aeadBack", inPlace := ["math/bits.Add64"], unfollowed := true, recurses := true, named := ["fardel/chacha.places", "fardel/poly.kept"], apart := false, laid := [("fardel/poly.kept", laid_fardel_poly_kept), ("fardel/chacha.places", laid_fardel_chacha_places)] }
def AeadBackSaid : Prop := aeadBackRow.holds Tryd.pinned (OpenSpec.ofChange aeadBackSpec)

/-- ITS FALSE NEIGHBOUR: 'it returns false'. Refute it at one input. -/
def aeadBackWrong : ChangeSpec := { name := "aeadBack", fn := fun _ => fun
  | [d1, d2, d3, d4] => { results := [.lit (.bool false)], args := [d1, d2, d3, d4] }
  | _ => none }
def AeadBackWrongFalsely : Prop := aeadBackRow.holds Tryd.pinned (OpenSpec.ofChange aeadBackWrong)

/-- 'fardellaw11.AeadTurns': WHATEVER THE INPUT: true; the input reads as it did. -/
def aeadTurnsSpec : ChangeSpec := { name := "aeadTurns", fn := fun _ => fun
  | [d1, d2, d3, d4, d5, d6, d7] => { results := [.lit (.bool true)], args := [d1, d2, d3, d4, d5, d6, d7] }
  | _ => none }
def aeadTurnsRow : OpenClaim := { program := "ytanahjoiilfcbaadoor", sum := "a6eaa3edce25ea54c1813f04676b7f6272e559462eb9a5d4d0272ee507bd2e56", func := "fardel/fardellaw11.AeadTurns", spec := "aeadTurns", inPlace := ["math/bits.Add64"], unfollowed := true, recurses := true, named := ["fardel/chacha.places", "fardel/poly.kept"], apart := false, laid := [("fardel/poly.kept", laid_fardel_poly_kept), ("fardel/chacha.places", laid_fardel_chacha_places)] }
def AeadTurnsSaid : Prop := aeadTurnsRow.holds Tryd.pinned (OpenSpec.ofChange aeadTurnsSpec)

/-- ITS FALSE NEIGHBOUR: 'it returns false'. Refute it at one input. -/
def aeadTurnsWrong : ChangeSpec := { name := "aeadTurns", fn := fun _ => fun
  | [d1, d2, d3, d4, d5, d6, d7] => { results := [.lit (.bool false)], args := [d1, d2, d3, d4, d5, d6, d7] }
  | _ => none }
def AeadTurnsWrongFalsely : Prop := aeadTurnsRow.holds Tryd.pinned (OpenSpec.ofChange aeadTurnsWrong)

/-- 'fardellaw11.AeadTag': WHATEVER THE INPUT: true; the input reads as it did. -/
def aeadTagSpec : ChangeSpec := { name := "aeadTag", fn := fun _ => fun
  | [d1, d2, d3, d4, d5, d6] => { results := [.lit (.bool true)], args := [d1, d2, d3, d4, d5, d6] }
  | _ => none }
def aeadTagRow : OpenClaim := { program := "ytanahjoiilfcbaadoor", sum := "a6eaa3edce25ea54c1813f04676b7f6272e559462eb9a5d4d0272ee507bd2e56", func := "fardel/fardellaw11.AeadTag", spec := "aeadTag", inPlace := ["math/bits.Add64"], unfollowed := true, recurses := true, named := ["fardel/chacha.places", "fardel/poly.kept"], apart := false, laid := [("fardel/poly.kept", laid_fardel_poly_kept), ("fardel/chacha.places", laid_fardel_chacha_places)] }
def AeadTagSaid : Prop := aeadTagRow.holds Tryd.pinned (OpenSpec.ofChange aeadTagSpec)

/-- ITS FALSE NEIGHBOUR: 'it returns false'. Refute it at one input. -/
def aeadTagWrong : ChangeSpec := { name := "aeadTag", fn := fun _ => fun
  | [d1, d2, d3, d4, d5, d6] => { results := [.lit (.bool false)], args := [d1, d2, d3, d4, d5, d6] }
  | _ => none }
def AeadTagWrongFalsely : Prop := aeadTagRow.holds Tryd.pinned (OpenSpec.ofChange aeadTagWrong)

/-- 'fardellaw11.AeadEmpty': WHATEVER THE INPUT: true; the input reads as it did. -/
def aeadEmptySpec : ChangeSpec := { name := "aeadEmpty", fn := fun _ => fun
  | [d1, d2, d3, d4, d5] => { results := [.lit (.bool true)], args := [d1, d2, d3, d4, d5] }
  | _ => none }
def aeadEmptyRow : OpenClaim := { program := "ytanahjoiilfcbaadoor", sum := "a6eaa3edce25ea54c1813f04676b7f6272e559462eb9a5d4d0272ee507bd2e56", func := "fardel/fardellaw11.AeadEmpty", spec := "aeadEmpty", inPlace := ["math/bits.Add64"], unfollowed := true, recurses := true, named := ["fardel/chacha.places", "fardel/poly.kept"], apart := false, laid := [("fardel/poly.kept", laid_fardel_poly_kept), ("fardel/chacha.places", laid_fardel_chacha_places)] }
def AeadEmptySaid : Prop := aeadEmptyRow.holds Tryd.pinned (OpenSpec.ofChange aeadEmptySpec)

/-- ITS FALSE NEIGHBOUR: 'it returns false'. Refute it at one input. -/
def aeadEmptyWrong : ChangeSpec := { name := "aeadEmpty", fn := fun _ => fun
  | [d1, d2, d3, d4, d5] => { results := [.lit (.bool false)], args := [d1, d2, d3, d4, d5] }
  | _ => none }
def AeadEmptyWrongFalsely : Prop := aeadEmptyRow.holds Tryd.pinned (OpenSpec.ofChange aeadEmptyWrong)

/- THE SECOND FORM. 'bulk': how many values and letters a reading holds, each counted each time it is reached (what is shared counts as often as it is met; a slice's spare places count too). A statement '..UptoSaid' is the law's where the arguments, and the package variables that the reading takes, are together of bulk at most 1048576: NARROWER than '..Said'. Prove '..Said' where nothing that the law and all that it calls make is longer than what came in: it says more and counts as full. Else prove '..UptoSaid'. A law counts once. -/
mutual
def uptoBulk {H : Type} : DataW H → Nat
  | .lit (.string bytes) => bytes.length + 1
  | .lit _ => 1
  | .nil => 1
  | .ptr d => uptoBulk d + 1
  | .slice elems spare => uptoBulkAll elems + uptoBulkAll spare + 1
  | .agg parts => uptoBulkAll parts + 1
  | .iface _ d => uptoBulk d + 1
  | .map entries => uptoBulkEntries entries + 1
  | .held _ => 1
def uptoBulkAll {H : Type} : List (DataW H) → Nat
  | [] => 0
  | d :: r => uptoBulk d + uptoBulkAll r
def uptoBulkEntries {H : Type} : List (Lit × DataW H) → Nat
  | [] => 0
  | x :: r => uptoBulkEntry x + uptoBulkEntries r
def uptoBulkEntry {H : Type} : Lit × DataW H → Nat
  | (.string bytes, d) => bytes.length + uptoBulk d + 1
  | (_, d) => uptoBulk d + 1
 end
def uptoSmall : (H : Type) → List (DataW H) → Bool := fun _ ds => decide (uptoBulkAll ds ≤ 1048576)
def OpenSpec.upto (s : _root_.Go.ChangeSpec) : _root_.Go.OpenSpec := { _root_.Go.OpenSpec.ofChange s with cond := some uptoSmall }

/-- 'fardellaw11.AeadNames', WHERE WHAT IT READS IS OF BULK AT MOST 1048576: true; the input reads as it did. -/
def aeadNamesUptoRow : OpenClaim := { program := "ytanahjoiilfcbaadoor", sum := "a6eaa3edce25ea54c1813f04676b7f6272e559462eb9a5d4d0272ee507bd2e56", func := "fardel/fardellaw11.AeadNames", spec := "aeadNames", inPlace := ["math/bits.Add64"], unfollowed := true, recurses := true, named := ["fardel/chacha.places", "fardel/poly.kept"], apart := false, laid := [("fardel/poly.kept", laid_fardel_poly_kept), ("fardel/chacha.places", laid_fardel_chacha_places)], narrowed := true }
def AeadNamesUptoSaid : Prop := aeadNamesUptoRow.holds Tryd.pinned (OpenSpec.upto aeadNamesSpec)

/-- 'fardellaw11.AeadTells', WHERE WHAT IT READS IS OF BULK AT MOST 1048576: true; the input reads as it did. -/
def aeadTellsUptoRow : OpenClaim := { program := "ytanahjoiilfcbaadoor", sum := "a6eaa3edce25ea54c1813f04676b7f6272e559462eb9a5d4d0272ee507bd2e56", func := "fardel/fardellaw11.AeadTells", spec := "aeadTells", inPlace := ["math/bits.Add64"], unfollowed := true, recurses := true, named := ["fardel/chacha.places", "fardel/poly.kept"], apart := false, laid := [("fardel/poly.kept", laid_fardel_poly_kept), ("fardel/chacha.places", laid_fardel_chacha_places)], narrowed := true }
def AeadTellsUptoSaid : Prop := aeadTellsUptoRow.holds Tryd.pinned (OpenSpec.upto aeadTellsSpec)

/-- 'fardellaw11.AeadBack', WHERE WHAT IT READS IS OF BULK AT MOST 1048576: true; the input reads as it did. -/
def aeadBackUptoRow : OpenClaim := { program := "ytanahjoiilfcbaadoor", sum := "a6eaa3edce25ea54c1813f04676b7f6272e559462eb9a5d4d0272ee507bd2e56", func := "fardel/fardellaw11.AeadBack", spec := "aeadBack", inPlace := ["math/bits.Add64"], unfollowed := true, recurses := true, named := ["fardel/chacha.places", "fardel/poly.kept"], apart := false, laid := [("fardel/poly.kept", laid_fardel_poly_kept), ("fardel/chacha.places", laid_fardel_chacha_places)], narrowed := true }
def AeadBackUptoSaid : Prop := aeadBackUptoRow.holds Tryd.pinned (OpenSpec.upto aeadBackSpec)

/-- 'fardellaw11.AeadTurns', WHERE WHAT IT READS IS OF BULK AT MOST 1048576: true; the input reads as it did. -/
def aeadTurnsUptoRow : OpenClaim := { program := "ytanahjoiilfcbaadoor", sum := "a6eaa3edce25ea54c1813f04676b7f6272e559462eb9a5d4d0272ee507bd2e56", func := "fardel/fardellaw11.AeadTurns", spec := "aeadTurns", inPlace := ["math/bits.Add64"], unfollowed := true, recurses := true, named := ["fardel/chacha.places", "fardel/poly.kept"], apart := false, laid := [("fardel/poly.kept", laid_fardel_poly_kept), ("fardel/chacha.places", laid_fardel_chacha_places)], narrowed := true }
def AeadTurnsUptoSaid : Prop := aeadTurnsUptoRow.holds Tryd.pinned (OpenSpec.upto aeadTurnsSpec)

/-- 'fardellaw11.AeadTag', WHERE WHAT IT READS IS OF BULK AT MOST 1048576: true; the input reads as it did. -/
def aeadTagUptoRow : OpenClaim := { program := "ytanahjoiilfcbaadoor", sum := "a6eaa3edce25ea54c1813f04676b7f6272e559462eb9a5d4d0272ee507bd2e56", func := "fardel/fardellaw11.AeadTag", spec := "aeadTag", inPlace := ["math/bits.Add64"], unfollowed := true, recurses := true, named := ["fardel/chacha.places", "fardel/poly.kept"], apart := false, laid := [("fardel/poly.kept", laid_fardel_poly_kept), ("fardel/chacha.places", laid_fardel_chacha_places)], narrowed := true }
def AeadTagUptoSaid : Prop := aeadTagUptoRow.holds Tryd.pinned (OpenSpec.upto aeadTagSpec)

/-- 'fardellaw11.AeadEmpty', WHERE WHAT IT READS IS OF BULK AT MOST 1048576: true; the input reads as it did. -/
def aeadEmptyUptoRow : OpenClaim := { program := "ytanahjoiilfcbaadoor", sum := "a6eaa3edce25ea54c1813f04676b7f6272e559462eb9a5d4d0272ee507bd2e56", func := "fardel/fardellaw11.AeadEmpty", spec := "aeadEmpty", inPlace := ["math/bits.Add64"], unfollowed := true, recurses := true, named := ["fardel/chacha.places", "fardel/poly.kept"], apart := false, laid := [("fardel/poly.kept", laid_fardel_poly_kept), ("fardel/chacha.places", laid_fardel_chacha_places)], narrowed := true }
def AeadEmptyUptoSaid : Prop := aeadEmptyUptoRow.holds Tryd.pinned (OpenSpec.upto aeadEmptySpec)

end Rows
end Go.Proofs.YtanahjoiilfcbaaDoor

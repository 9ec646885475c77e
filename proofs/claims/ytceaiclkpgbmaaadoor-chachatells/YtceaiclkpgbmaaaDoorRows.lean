/-
  NARROWER THAN 'FOR EVERY INPUT', by the rows' own cells (each row's printed sentence says how): ChachaNames: laid · ChachaTells: laid · ChachaTwice: laid · ChachaParts: laid · ChachaZeros: laid.
  DERIVED. THE GIVEN ROWS OF THIS SEAT. 5 by the template 'for every input the law returns true; each argument reads behind the call as it read before'; 0 by the template 'total and deterministic' (their statements: YtceaiclkpgbmaaaDoorTotals.lean).
  GIVEN WITH THE SEED: the statements are not yours to turn. If you find one false, say at which input.
  Laid BY PROGRAM, IN A SANDBOX (cutbox-rows.mjs): the forced cells as the released guide's own fill.sh prints them over the translation 22b2e8913b733561… (all of the seat's roots in one cut). By AI agents, Wed Nov 11 2026. No macro, syntax, notation, axiom, sorry.
-/
import Derived.Test.YtceaiclkpgbmaaaDoorChecked
import GoSem.Claim
import GoSem.ClaimJoined
import GoSem.ClaimMapViews
import Derived.JoinedTies
import Derived.KernelRfl
namespace Go.Proofs.YtceaiclkpgbmaaaDoor
/- THE CELL 'sum', in the pinned program and in every row, IS THE sha256 OF THE DUMP (.gsa) THAT YtceaiclkpgbmaaaDoorProg.lean LOADS. Nothing in Lean hashes anything: it is a label: what it is worth is what the hold of that sum in a sandbox is worth. -/
noncomputable def Tryd.pinned : Pinned := { name := "ytceaiclkpgbmaaadoor", sum := "22b2e8913b733561670deb68fcbf643bdc367eae2ded5818641d2e2abe54a949", checked := Tryd.checked }
namespace Rows
def none {H : Type} : Left H := { results := [], args := [] }

/- WHAT THE LISTED PACKAGE-LEVEL VARIABLES READ AS WHEN THE CALL BEGINS. Each datum BY PROGRAM (the guide's laid-datum.mjs) off the statement by which the dump's own 'gosem.cut.vars' lays the variable. In a bare row this is a premise. The card (YtceaiclkpgbmaaaDoorCards.lean) ties it to the program's text. -/
def laid_fardel_chacha_places {H : Type} : DataW H := .agg [.agg [.lit (.int .i64 0), .lit (.int .i64 4), .lit (.int .i64 8), .lit (.int .i64 12)], .agg [.lit (.int .i64 1), .lit (.int .i64 5), .lit (.int .i64 9), .lit (.int .i64 13)], .agg [.lit (.int .i64 2), .lit (.int .i64 6), .lit (.int .i64 10), .lit (.int .i64 14)], .agg [.lit (.int .i64 3), .lit (.int .i64 7), .lit (.int .i64 11), .lit (.int .i64 15)], .agg [.lit (.int .i64 0), .lit (.int .i64 5), .lit (.int .i64 10), .lit (.int .i64 15)], .agg [.lit (.int .i64 1), .lit (.int .i64 6), .lit (.int .i64 11), .lit (.int .i64 12)], .agg [.lit (.int .i64 2), .lit (.int .i64 7), .lit (.int .i64 8), .lit (.int .i64 13)], .agg [.lit (.int .i64 3), .lit (.int .i64 4), .lit (.int .i64 9), .lit (.int .i64 14)]]

/-- 'fardellaw09.ChachaNames': WHATEVER THE INPUT: true; the input reads as it did. -/
def chachaNamesSpec : ChangeSpec := { name := "chachaNames", fn := fun _ => fun
  | [] => { results := [.lit (.bool true)], args := [] }
  | _ => none }
def chachaNamesRow : OpenClaim := { program := "ytceaiclkpgbmaaadoor", sum := "22b2e8913b733561670deb68fcbf643bdc367eae2ded5818641d2e2abe54a949", func := "fardel/fardellaw09.ChachaNames", spec := "chachaNames", unfollowed := true, recurses := true, named := ["fardel/chacha.places"], apart := false, laid := [("fardel/chacha.places", laid_fardel_chacha_places)] }
def ChachaNamesSaid : Prop := chachaNamesRow.holds Tryd.pinned (OpenSpec.ofChange chachaNamesSpec)

/-- ITS FALSE NEIGHBOUR: 'it returns false'. Refute it at one input. -/
def chachaNamesWrong : ChangeSpec := { name := "chachaNames", fn := fun _ => fun
  | [] => { results := [.lit (.bool false)], args := [] }
  | _ => none }
def ChachaNamesWrongFalsely : Prop := chachaNamesRow.holds Tryd.pinned (OpenSpec.ofChange chachaNamesWrong)

/-- 'fardellaw09.ChachaTells': WHATEVER THE INPUT: true; the input reads as it did. -/
def chachaTellsSpec : ChangeSpec := { name := "chachaTells", fn := fun _ => fun
  | [d1, d2, d3, d4] => { results := [.lit (.bool true)], args := [d1, d2, d3, d4] }
  | _ => none }
def chachaTellsRow : OpenClaim := { program := "ytceaiclkpgbmaaadoor", sum := "22b2e8913b733561670deb68fcbf643bdc367eae2ded5818641d2e2abe54a949", func := "fardel/fardellaw09.ChachaTells", spec := "chachaTells", unfollowed := true, recurses := true, named := ["fardel/chacha.places"], apart := false, laid := [("fardel/chacha.places", laid_fardel_chacha_places)] }
def ChachaTellsSaid : Prop := chachaTellsRow.holds Tryd.pinned (OpenSpec.ofChange chachaTellsSpec)

/-- ITS FALSE NEIGHBOUR: 'it returns false'. Refute it at one input. -/
def chachaTellsWrong : ChangeSpec := { name := "chachaTells", fn := fun _ => fun
  | [d1, d2, d3, d4] => { results := [.lit (.bool false)], args := [d1, d2, d3, d4] }
  | _ => none }
def ChachaTellsWrongFalsely : Prop := chachaTellsRow.holds Tryd.pinned (OpenSpec.ofChange chachaTellsWrong)

/-- 'fardellaw09.ChachaTwice': WHATEVER THE INPUT: true; the input reads as it did. -/
def chachaTwiceSpec : ChangeSpec := { name := "chachaTwice", fn := fun _ => fun
  | [d1, d2, d3, d4] => { results := [.lit (.bool true)], args := [d1, d2, d3, d4] }
  | _ => none }
def chachaTwiceRow : OpenClaim := { program := "ytceaiclkpgbmaaadoor", sum := "22b2e8913b733561670deb68fcbf643bdc367eae2ded5818641d2e2abe54a949", func := "fardel/fardellaw09.ChachaTwice", spec := "chachaTwice", unfollowed := true, recurses := true, named := ["fardel/chacha.places"], apart := false, laid := [("fardel/chacha.places", laid_fardel_chacha_places)] }
def ChachaTwiceSaid : Prop := chachaTwiceRow.holds Tryd.pinned (OpenSpec.ofChange chachaTwiceSpec)

/-- ITS FALSE NEIGHBOUR: 'it returns false'. Refute it at one input. -/
def chachaTwiceWrong : ChangeSpec := { name := "chachaTwice", fn := fun _ => fun
  | [d1, d2, d3, d4] => { results := [.lit (.bool false)], args := [d1, d2, d3, d4] }
  | _ => none }
def ChachaTwiceWrongFalsely : Prop := chachaTwiceRow.holds Tryd.pinned (OpenSpec.ofChange chachaTwiceWrong)

/-- 'fardellaw09.ChachaParts': WHATEVER THE INPUT: true; the input reads as it did. -/
def chachaPartsSpec : ChangeSpec := { name := "chachaParts", fn := fun _ => fun
  | [d1, d2, d3, d4, d5] => { results := [.lit (.bool true)], args := [d1, d2, d3, d4, d5] }
  | _ => none }
def chachaPartsRow : OpenClaim := { program := "ytceaiclkpgbmaaadoor", sum := "22b2e8913b733561670deb68fcbf643bdc367eae2ded5818641d2e2abe54a949", func := "fardel/fardellaw09.ChachaParts", spec := "chachaParts", unfollowed := true, recurses := true, named := ["fardel/chacha.places"], apart := false, laid := [("fardel/chacha.places", laid_fardel_chacha_places)] }
def ChachaPartsSaid : Prop := chachaPartsRow.holds Tryd.pinned (OpenSpec.ofChange chachaPartsSpec)

/-- ITS FALSE NEIGHBOUR: 'it returns false'. Refute it at one input. -/
def chachaPartsWrong : ChangeSpec := { name := "chachaParts", fn := fun _ => fun
  | [d1, d2, d3, d4, d5] => { results := [.lit (.bool false)], args := [d1, d2, d3, d4, d5] }
  | _ => none }
def ChachaPartsWrongFalsely : Prop := chachaPartsRow.holds Tryd.pinned (OpenSpec.ofChange chachaPartsWrong)

/-- 'fardellaw09.ChachaZeros': WHATEVER THE INPUT: true; the input reads as it did. -/
def chachaZerosSpec : ChangeSpec := { name := "chachaZeros", fn := fun _ => fun
  | [d1, d2, d3, d4] => { results := [.lit (.bool true)], args := [d1, d2, d3, d4] }
  | _ => none }
def chachaZerosRow : OpenClaim := { program := "ytceaiclkpgbmaaadoor", sum := "22b2e8913b733561670deb68fcbf643bdc367eae2ded5818641d2e2abe54a949", func := "fardel/fardellaw09.ChachaZeros", spec := "chachaZeros", unfollowed := true, recurses := true, named := ["fardel/chacha.places"], apart := false, laid := [("fardel/chacha.places", laid_fardel_chacha_places)] }
def ChachaZerosSaid : Prop := chachaZerosRow.holds Tryd.pinned (OpenSpec.ofChange chachaZerosSpec)

/-- ITS FALSE NEIGHBOUR: 'it returns false'. Refute it at one input. -/
def chachaZerosWrong : ChangeSpec := { name := "chachaZeros", fn := fun _ => fun
  | [d1, d2, d3, d4] => { results := [.lit (.bool false)], args := [d1, d2, d3, d4] }
  | _ => none }
def ChachaZerosWrongFalsely : Prop := chachaZerosRow.holds Tryd.pinned (OpenSpec.ofChange chachaZerosWrong)

/- THE SECOND FORM. 'bulk': how many values and letters a reading holds, each counted each time it is reached (what is shared counts as often as it is met; a slice's spare places count too). A statement '..UptoSaid' is the law's where the arguments, and the package variables that the reading takes, are together of bulk at most 1048576: NARROWER than '..Said'. Prove '..Said' where nothing that the law and all that it calls make is longer than what came in: it says more and counts as full. Else prove '..UptoSaid'. A law counts once. -/
mutual
def uptoBulk {H : Type} : DataW H → Nat
  | .lit (.string bytes) => bytes.length + 1
  | .lit _ => 1
  | .nil => 1
  | .ptr d => uptoBulk d + 1
  | .slice elems spare => uptoBulkAll elems + uptoBulkAll spare + 1
  | .agg parts => uptoBulkAll parts + 1
  | .iface _ d => uptoBulk d + 1
  | .map entries => uptoBulkEntries entries + 1
  | .held _ => 1
def uptoBulkAll {H : Type} : List (DataW H) → Nat
  | [] => 0
  | d :: r => uptoBulk d + uptoBulkAll r
def uptoBulkEntries {H : Type} : List (Lit × DataW H) → Nat
  | [] => 0
  | x :: r => uptoBulkEntry x + uptoBulkEntries r
def uptoBulkEntry {H : Type} : Lit × DataW H → Nat
  | (.string bytes, d) => bytes.length + uptoBulk d + 1
  | (_, d) => uptoBulk d + 1
 end
def uptoSmall : (H : Type) → List (DataW H) → Bool := fun _ ds => decide (uptoBulkAll ds ≤ 1048576)
def OpenSpec.upto (s : _root_.Go.ChangeSpec) : _root_.Go.OpenSpec := { _root_.Go.OpenSpec.ofChange s with cond := some uptoSmall }

/-- 'fardellaw09.ChachaNames', WHERE WHAT IT READS IS OF BULK AT MOST 1048576: true; the input reads as it did. -/
def chachaNamesUptoRow : OpenClaim := { program := "ytceaiclkpgbmaaadoor", sum := "22b2e8913b733561670deb68fcbf643bdc367eae2ded5818641d2e2abe54a949", func := "fardel/fardellaw09.ChachaNames", spec := "chachaNames", unfollowed := true, recurses := true, named := ["fardel/chacha.places"], apart := false, laid := [("fardel/chacha.places", laid_fardel_chacha_places)], narrowed := true }
def ChachaNamesUptoSaid : Prop := chachaNamesUptoRow.holds Tryd.pinned (OpenSpec.upto chachaNamesSpec)

/-- 'fardellaw09.ChachaTells', WHERE WHAT IT READS IS OF BULK AT MOST 1048576: true; the input reads as it did. -/
def chachaTellsUptoRow : OpenClaim := { program := "ytceaiclkpgbmaaadoor", sum := "22b2e8913b733561670deb68fcbf643bdc367eae2ded5818641d2e2abe54a949", func := "fardel/fardellaw09.ChachaTells", spec := "chachaTells", unfollowed := true, recurses := true, named := ["fardel/chacha.places"], apart := false, laid := [("fardel/chacha.places", laid_fardel_chacha_places)], narrowed := true }
def ChachaTellsUptoSaid : Prop := chachaTellsUptoRow.holds Tryd.pinned (OpenSpec.upto chachaTellsSpec)

/-- 'fardellaw09.ChachaTwice', WHERE WHAT IT READS IS OF BULK AT MOST 1048576: true; the input reads as it did. -/
def chachaTwiceUptoRow : OpenClaim := { program := "ytceaiclkpgbmaaadoor", sum := "22b2e8913b733561670deb68fcbf643bdc367eae2ded5818641d2e2abe54a949", func := "fardel/fardellaw09.ChachaTwice", spec := "chachaTwice", unfollowed := true, recurses := true, named := ["fardel/chacha.places"], apart := false, laid := [("fardel/chacha.places", laid_fardel_chacha_places)], narrowed := true }
def ChachaTwiceUptoSaid : Prop := chachaTwiceUptoRow.holds Tryd.pinned (OpenSpec.upto chachaTwiceSpec)

/-- 'fardellaw09.ChachaParts', WHERE WHAT IT READS IS OF BULK AT MOST 1048576: true; the input reads as it did. -/
def chachaPartsUptoRow : OpenClaim := { program := "ytceaiclkpgbmaaadoor", sum := "22b2e8913b733561670deb68fcbf643bdc367eae2ded5818641d2e2abe54a949", func := "fardel/fardellaw09.ChachaParts", spec := "chachaParts", unfollowed := true, recurses := true, named := ["fardel/chacha.places"], apart := false, laid := [("fardel/chacha.places", laid_fardel_chacha_places)], narrowed := true }
def ChachaPartsUptoSaid : Prop := chachaPartsUptoRow.holds Tryd.pinned (OpenSpec.upto chachaPartsSpec)

/-- 'fardellaw09.ChachaZeros', WHERE WHAT IT READS IS OF BULK AT MOST 1048576: true; the input reads as it did. -/
def chachaZerosUptoRow : OpenClaim := { program := "ytceaiclkpgbmaaadoor", sum := "22b2e8913b733561670deb68fcbf643bdc367eae2ded5818641d2e2abe54a949", func := "fardel/fardellaw09.ChachaZeros", spec := "chachaZeros", unfollowed := true, recurses := true, named := ["fardel/chacha.places"], apart := false, laid := [("fardel/chacha.places", laid_fardel_chacha_places)], narrowed := true }
def ChachaZerosUptoSaid : Prop := chachaZerosUptoRow.holds Tryd.pinned (OpenSpec.upto chachaZerosSpec)

end Rows
end Go.Proofs.YtceaiclkpgbmaaaDoor

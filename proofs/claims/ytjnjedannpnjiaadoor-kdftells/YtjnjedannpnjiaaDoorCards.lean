/-
  DERIVED. GIVEN WITH THE SEED: THE CARDS: each row of YtjnjedannpnjiaaDoorRows.lean that lists a variable, with what it lists TIED to the program's text (the seventh form; the later family's looks); each row that meets fmt, with fmt's text TOLD by the authors' own Lean function (tested against real Go, not proved from fmt's source: count such statements apart). THE CARD IS WHAT COUNTS. Prove the row's statement (the work); the ties are given (YtjnjedannpnjiaaDoorTie.lean); close each card by the builder's one call (the guide's Derived/Test/ToyasCard.lean, 'card_holds'). Laid BY PROGRAM, IN A SANDBOX (cutbox-door.mjs). By AI agents, Wed Nov 11 2026. No macro, syntax, notation, axiom, sorry.
-/
import Derived.Test.YtjnjedannpnjiaaDoorRows
import GoSem.ClaimSeven
namespace Go.Proofs.YtjnjedannpnjiaaDoor
namespace Rows

/-- THE TIED CARD OF 'fardellaw05.KdfNames'. -/
def kdfNamesCard : Claim7 := { stood := { row := kdfNamesRow, standIns := [], harness := (true, "4fae59bb67f0429335f0d00611ab25cf2787e2c442422f3843a874f4fb30fe92"), looks := false }, kinds := [], alts := [], laidByText := true, laidKinds := [.data, .data], laidTests := true, laidLooks := .later }
def KdfNamesCardSaid : Prop := Claim7.holds Tryd.pinned (.plain (OpenSpec.ofChange kdfNamesSpec)) kdfNamesCard

/-- THE TIED CARD OF 'fardellaw05.KdfTells'. -/
def kdfTellsCard : Claim7 := { stood := { row := kdfTellsRow, standIns := [], harness := (true, "4fae59bb67f0429335f0d00611ab25cf2787e2c442422f3843a874f4fb30fe92"), looks := false }, kinds := [], alts := [], laidByText := true, laidKinds := [.data, .data], laidTests := true, laidLooks := .later }
def KdfTellsCardSaid : Prop := Claim7.holds Tryd.pinned (.plain (OpenSpec.ofChange kdfTellsSpec)) kdfTellsCard

/-- THE TIED CARD OF 'fardellaw05.KdfBegins'. -/
def kdfBeginsCard : Claim7 := { stood := { row := kdfBeginsRow, standIns := [], harness := (true, "4fae59bb67f0429335f0d00611ab25cf2787e2c442422f3843a874f4fb30fe92"), looks := false }, kinds := [], alts := [], laidByText := true, laidKinds := [.data, .data], laidTests := true, laidLooks := .later }
def KdfBeginsCardSaid : Prop := Claim7.holds Tryd.pinned (.plain (OpenSpec.ofChange kdfBeginsSpec)) kdfBeginsCard

/-- THE TIED CARD OF 'fardellaw05.KdfMost'. -/
def kdfMostCard : Claim7 := { stood := { row := kdfMostRow, standIns := [], harness := (true, "4fae59bb67f0429335f0d00611ab25cf2787e2c442422f3843a874f4fb30fe92"), looks := false }, kinds := [], alts := [], laidByText := true, laidKinds := [.data, .data], laidTests := true, laidLooks := .later }
def KdfMostCardSaid : Prop := Claim7.holds Tryd.pinned (.plain (OpenSpec.ofChange kdfMostSpec)) kdfMostCard

/-- THE TIED CARD OF 'fardellaw05.KdfFirst'. -/
def kdfFirstCard : Claim7 := { stood := { row := kdfFirstRow, standIns := [], harness := (true, "4fae59bb67f0429335f0d00611ab25cf2787e2c442422f3843a874f4fb30fe92"), looks := false }, kinds := [], alts := [], laidByText := true, laidKinds := [.data, .data], laidTests := true, laidLooks := .later }
def KdfFirstCardSaid : Prop := Claim7.holds Tryd.pinned (.plain (OpenSpec.ofChange kdfFirstSpec)) kdfFirstCard

/-- THE TIED CARD OF 'fardellaw05.KdfSalt'. -/
def kdfSaltCard : Claim7 := { stood := { row := kdfSaltRow, standIns := [], harness := (true, "4fae59bb67f0429335f0d00611ab25cf2787e2c442422f3843a874f4fb30fe92"), looks := false }, kinds := [], alts := [], laidByText := true, laidKinds := [.data, .data], laidTests := true, laidLooks := .later }
def KdfSaltCardSaid : Prop := Claim7.holds Tryd.pinned (.plain (OpenSpec.ofChange kdfSaltSpec)) kdfSaltCard

/-- THE SECOND FORM's CARD OF 'fardellaw05.KdfNames'. -/
def kdfNamesUptoCard : Claim7 := { stood := { row := kdfNamesUptoRow, standIns := [], harness := (true, "4fae59bb67f0429335f0d00611ab25cf2787e2c442422f3843a874f4fb30fe92"), looks := false }, kinds := [], alts := [], laidByText := true, laidKinds := [.data, .data], laidTests := true, laidLooks := .later }
def KdfNamesUptoCardSaid : Prop := Claim7.holds Tryd.pinned (.plain (OpenSpec.upto kdfNamesSpec)) kdfNamesUptoCard

/-- THE SECOND FORM's CARD OF 'fardellaw05.KdfTells'. -/
def kdfTellsUptoCard : Claim7 := { stood := { row := kdfTellsUptoRow, standIns := [], harness := (true, "4fae59bb67f0429335f0d00611ab25cf2787e2c442422f3843a874f4fb30fe92"), looks := false }, kinds := [], alts := [], laidByText := true, laidKinds := [.data, .data], laidTests := true, laidLooks := .later }
def KdfTellsUptoCardSaid : Prop := Claim7.holds Tryd.pinned (.plain (OpenSpec.upto kdfTellsSpec)) kdfTellsUptoCard

/-- THE SECOND FORM's CARD OF 'fardellaw05.KdfBegins'. -/
def kdfBeginsUptoCard : Claim7 := { stood := { row := kdfBeginsUptoRow, standIns := [], harness := (true, "4fae59bb67f0429335f0d00611ab25cf2787e2c442422f3843a874f4fb30fe92"), looks := false }, kinds := [], alts := [], laidByText := true, laidKinds := [.data, .data], laidTests := true, laidLooks := .later }
def KdfBeginsUptoCardSaid : Prop := Claim7.holds Tryd.pinned (.plain (OpenSpec.upto kdfBeginsSpec)) kdfBeginsUptoCard

/-- THE SECOND FORM's CARD OF 'fardellaw05.KdfMost'. -/
def kdfMostUptoCard : Claim7 := { stood := { row := kdfMostUptoRow, standIns := [], harness := (true, "4fae59bb67f0429335f0d00611ab25cf2787e2c442422f3843a874f4fb30fe92"), looks := false }, kinds := [], alts := [], laidByText := true, laidKinds := [.data, .data], laidTests := true, laidLooks := .later }
def KdfMostUptoCardSaid : Prop := Claim7.holds Tryd.pinned (.plain (OpenSpec.upto kdfMostSpec)) kdfMostUptoCard

/-- THE SECOND FORM's CARD OF 'fardellaw05.KdfFirst'. -/
def kdfFirstUptoCard : Claim7 := { stood := { row := kdfFirstUptoRow, standIns := [], harness := (true, "4fae59bb67f0429335f0d00611ab25cf2787e2c442422f3843a874f4fb30fe92"), looks := false }, kinds := [], alts := [], laidByText := true, laidKinds := [.data, .data], laidTests := true, laidLooks := .later }
def KdfFirstUptoCardSaid : Prop := Claim7.holds Tryd.pinned (.plain (OpenSpec.upto kdfFirstSpec)) kdfFirstUptoCard

/-- THE SECOND FORM's CARD OF 'fardellaw05.KdfSalt'. -/
def kdfSaltUptoCard : Claim7 := { stood := { row := kdfSaltUptoRow, standIns := [], harness := (true, "4fae59bb67f0429335f0d00611ab25cf2787e2c442422f3843a874f4fb30fe92"), looks := false }, kinds := [], alts := [], laidByText := true, laidKinds := [.data, .data], laidTests := true, laidLooks := .later }
def KdfSaltUptoCardSaid : Prop := Claim7.holds Tryd.pinned (.plain (OpenSpec.upto kdfSaltSpec)) kdfSaltUptoCard
end Rows
end Go.Proofs.YtjnjedannpnjiaaDoor

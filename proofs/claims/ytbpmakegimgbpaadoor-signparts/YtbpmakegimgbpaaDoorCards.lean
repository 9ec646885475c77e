/-
  DERIVED. GIVEN WITH THE SEED: THE CARDS: each row of YtbpmakegimgbpaaDoorRows.lean that lists a variable, with what it lists TIED to the program's text (the seventh form; the later family's looks); each row that meets fmt, with fmt's text TOLD by the authors' own Lean function (tested against real Go, not proved from fmt's source: count such statements apart). THE CARD IS WHAT COUNTS. Prove the row's statement (the work); the ties are given (YtbpmakegimgbpaaDoorTie.lean); close each card by the builder's one call (the guide's Derived/Test/ToyasCard.lean, 'card_holds'). Laid BY PROGRAM, IN A SANDBOX (cutbox-door.mjs). By AI agents, Wed Nov 11 2026. No macro, syntax, notation, axiom, sorry.
-/
import Derived.Test.YtbpmakegimgbpaaDoorRows
import GoSem.ClaimSeven
namespace Go.Proofs.YtbpmakegimgbpaaDoor
namespace Rows

/-- THE TIED CARD OF 'fardellaw08.SignParts'. -/
def signPartsCard : Claim7 := { stood := { row := signPartsRow, standIns := [], harness := (true, "0cee2391bbbfba338a8d79d94d0dc3e8e84e4561ce62b7a9726fef64b772efb8"), looks := false }, kinds := [], alts := [], laidByText := true, laidKinds := [.data, .data, .data], laidTests := true, laidLooks := .later }
def SignPartsCardSaid : Prop := Claim7.holds Tryd.pinned (.plain (OpenSpec.ofChange signPartsSpec)) signPartsCard

/-- THE TIED CARD OF 'fardellaw08.SignStrict'. -/
def signStrictCard : Claim7 := { stood := { row := signStrictRow, standIns := [], harness := (true, "0cee2391bbbfba338a8d79d94d0dc3e8e84e4561ce62b7a9726fef64b772efb8"), looks := false }, kinds := [], alts := [], laidByText := true, laidKinds := [.data, .data, .data], laidTests := true, laidLooks := .later }
def SignStrictCardSaid : Prop := Claim7.holds Tryd.pinned (.plain (OpenSpec.ofChange signStrictSpec)) signStrictCard

/-- THE TIED CARD OF 'fardellaw08.SignShape'. -/
def signShapeCard : Claim7 := { stood := { row := signShapeRow, standIns := [], harness := (true, "0cee2391bbbfba338a8d79d94d0dc3e8e84e4561ce62b7a9726fef64b772efb8"), looks := false }, kinds := [], alts := [], laidByText := true, laidKinds := [.data, .data, .data], laidTests := true, laidLooks := .later }
def SignShapeCardSaid : Prop := Claim7.holds Tryd.pinned (.plain (OpenSpec.ofChange signShapeSpec)) signShapeCard

/-- THE SECOND FORM's CARD OF 'fardellaw08.SignParts'. -/
def signPartsUptoCard : Claim7 := { stood := { row := signPartsUptoRow, standIns := [], harness := (true, "0cee2391bbbfba338a8d79d94d0dc3e8e84e4561ce62b7a9726fef64b772efb8"), looks := false }, kinds := [], alts := [], laidByText := true, laidKinds := [.data, .data, .data], laidTests := true, laidLooks := .later }
def SignPartsUptoCardSaid : Prop := Claim7.holds Tryd.pinned (.plain (OpenSpec.upto signPartsSpec)) signPartsUptoCard

/-- THE SECOND FORM's CARD OF 'fardellaw08.SignStrict'. -/
def signStrictUptoCard : Claim7 := { stood := { row := signStrictUptoRow, standIns := [], harness := (true, "0cee2391bbbfba338a8d79d94d0dc3e8e84e4561ce62b7a9726fef64b772efb8"), looks := false }, kinds := [], alts := [], laidByText := true, laidKinds := [.data, .data, .data], laidTests := true, laidLooks := .later }
def SignStrictUptoCardSaid : Prop := Claim7.holds Tryd.pinned (.plain (OpenSpec.upto signStrictSpec)) signStrictUptoCard

/-- THE SECOND FORM's CARD OF 'fardellaw08.SignShape'. -/
def signShapeUptoCard : Claim7 := { stood := { row := signShapeUptoRow, standIns := [], harness := (true, "0cee2391bbbfba338a8d79d94d0dc3e8e84e4561ce62b7a9726fef64b772efb8"), looks := false }, kinds := [], alts := [], laidByText := true, laidKinds := [.data, .data, .data], laidTests := true, laidLooks := .later }
def SignShapeUptoCardSaid : Prop := Claim7.holds Tryd.pinned (.plain (OpenSpec.upto signShapeSpec)) signShapeUptoCard
end Rows
end Go.Proofs.YtbpmakegimgbpaaDoor

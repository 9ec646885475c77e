/-
  DERIVED. GIVEN WITH THE SEED: THE CARDS: each row of YtflmnhjfgdbfeaaDoorRows.lean that lists a variable, with what it lists TIED to the program's text (the seventh form; the later family's looks); each row that meets fmt, with fmt's text TOLD by the authors' own Lean function (tested against real Go, not proved from fmt's source: count such statements apart). THE CARD IS WHAT COUNTS. Prove the row's statement (the work); the ties are given (YtflmnhjfgdbfeaaDoorTie.lean); close each card by the builder's one call (the guide's Derived/Test/ToyasCard.lean, 'card_holds'). Laid BY PROGRAM, IN A SANDBOX (cutbox-door.mjs). By AI agents, Wed Nov 11 2026. No macro, syntax, notation, axiom, sorry.
-/
import Derived.Test.YtflmnhjfgdbfeaaDoorRows
import GoSem.ClaimSeven
namespace Go.Proofs.YtflmnhjfgdbfeaaDoor
namespace Rows

/-- THE TIED CARD OF 'fardellaw10.PolyTells'. -/
def polyTellsCard : Claim7 := { stood := { row := polyTellsRow, standIns := [], harness := (true, "62e19cef2d4005320b2813750bc5762de34b6489bc08cebb5daf5e4e2da4be0a"), looks := false }, kinds := [], alts := [], laidByText := true, laidKinds := [.data], laidTests := true, laidLooks := .later }
def PolyTellsCardSaid : Prop := Claim7.holds Tryd.pinned (.plain (OpenSpec.ofChange polyTellsSpec)) polyTellsCard

/-- THE TIED CARD OF 'fardellaw10.PolyParts'. -/
def polyPartsCard : Claim7 := { stood := { row := polyPartsRow, standIns := [], harness := (true, "62e19cef2d4005320b2813750bc5762de34b6489bc08cebb5daf5e4e2da4be0a"), looks := false }, kinds := [], alts := [], laidByText := true, laidKinds := [.data], laidTests := true, laidLooks := .later }
def PolyPartsCardSaid : Prop := Claim7.holds Tryd.pinned (.plain (OpenSpec.ofChange polyPartsSpec)) polyPartsCard

/-- THE TIED CARD OF 'fardellaw10.PolyKeys'. -/
def polyKeysCard : Claim7 := { stood := { row := polyKeysRow, standIns := [], harness := (true, "62e19cef2d4005320b2813750bc5762de34b6489bc08cebb5daf5e4e2da4be0a"), looks := false }, kinds := [], alts := [], laidByText := true, laidKinds := [.data], laidTests := true, laidLooks := .later }
def PolyKeysCardSaid : Prop := Claim7.holds Tryd.pinned (.plain (OpenSpec.ofChange polyKeysSpec)) polyKeysCard

/-- THE TIED CARD OF 'fardellaw10.PolyNone'. -/
def polyNoneCard : Claim7 := { stood := { row := polyNoneRow, standIns := [], harness := (true, "62e19cef2d4005320b2813750bc5762de34b6489bc08cebb5daf5e4e2da4be0a"), looks := false }, kinds := [], alts := [], laidByText := true, laidKinds := [.data], laidTests := true, laidLooks := .later }
def PolyNoneCardSaid : Prop := Claim7.holds Tryd.pinned (.plain (OpenSpec.ofChange polyNoneSpec)) polyNoneCard

/-- THE TIED CARD OF 'fardellaw10.PolyOne'. -/
def polyOneCard : Claim7 := { stood := { row := polyOneRow, standIns := [], harness := (true, "62e19cef2d4005320b2813750bc5762de34b6489bc08cebb5daf5e4e2da4be0a"), looks := false }, kinds := [], alts := [], laidByText := true, laidKinds := [.data], laidTests := true, laidLooks := .later }
def PolyOneCardSaid : Prop := Claim7.holds Tryd.pinned (.plain (OpenSpec.ofChange polyOneSpec)) polyOneCard

/-- THE SECOND FORM's CARD OF 'fardellaw10.PolyTells'. -/
def polyTellsUptoCard : Claim7 := { stood := { row := polyTellsUptoRow, standIns := [], harness := (true, "62e19cef2d4005320b2813750bc5762de34b6489bc08cebb5daf5e4e2da4be0a"), looks := false }, kinds := [], alts := [], laidByText := true, laidKinds := [.data], laidTests := true, laidLooks := .later }
def PolyTellsUptoCardSaid : Prop := Claim7.holds Tryd.pinned (.plain (OpenSpec.upto polyTellsSpec)) polyTellsUptoCard

/-- THE SECOND FORM's CARD OF 'fardellaw10.PolyParts'. -/
def polyPartsUptoCard : Claim7 := { stood := { row := polyPartsUptoRow, standIns := [], harness := (true, "62e19cef2d4005320b2813750bc5762de34b6489bc08cebb5daf5e4e2da4be0a"), looks := false }, kinds := [], alts := [], laidByText := true, laidKinds := [.data], laidTests := true, laidLooks := .later }
def PolyPartsUptoCardSaid : Prop := Claim7.holds Tryd.pinned (.plain (OpenSpec.upto polyPartsSpec)) polyPartsUptoCard

/-- THE SECOND FORM's CARD OF 'fardellaw10.PolyKeys'. -/
def polyKeysUptoCard : Claim7 := { stood := { row := polyKeysUptoRow, standIns := [], harness := (true, "62e19cef2d4005320b2813750bc5762de34b6489bc08cebb5daf5e4e2da4be0a"), looks := false }, kinds := [], alts := [], laidByText := true, laidKinds := [.data], laidTests := true, laidLooks := .later }
def PolyKeysUptoCardSaid : Prop := Claim7.holds Tryd.pinned (.plain (OpenSpec.upto polyKeysSpec)) polyKeysUptoCard

/-- THE SECOND FORM's CARD OF 'fardellaw10.PolyNone'. -/
def polyNoneUptoCard : Claim7 := { stood := { row := polyNoneUptoRow, standIns := [], harness := (true, "62e19cef2d4005320b2813750bc5762de34b6489bc08cebb5daf5e4e2da4be0a"), looks := false }, kinds := [], alts := [], laidByText := true, laidKinds := [.data], laidTests := true, laidLooks := .later }
def PolyNoneUptoCardSaid : Prop := Claim7.holds Tryd.pinned (.plain (OpenSpec.upto polyNoneSpec)) polyNoneUptoCard

/-- THE SECOND FORM's CARD OF 'fardellaw10.PolyOne'. -/
def polyOneUptoCard : Claim7 := { stood := { row := polyOneUptoRow, standIns := [], harness := (true, "62e19cef2d4005320b2813750bc5762de34b6489bc08cebb5daf5e4e2da4be0a"), looks := false }, kinds := [], alts := [], laidByText := true, laidKinds := [.data], laidTests := true, laidLooks := .later }
def PolyOneUptoCardSaid : Prop := Claim7.holds Tryd.pinned (.plain (OpenSpec.upto polyOneSpec)) polyOneUptoCard
end Rows
end Go.Proofs.YtflmnhjfgdbfeaaDoor

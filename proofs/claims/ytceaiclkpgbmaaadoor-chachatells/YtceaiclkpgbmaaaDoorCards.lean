/-
  DERIVED. GIVEN WITH THE SEED: THE CARDS: each row of YtceaiclkpgbmaaaDoorRows.lean that lists a variable, with what it lists TIED to the program's text (the seventh form; the later family's looks); each row that meets fmt, with fmt's text TOLD by the authors' own Lean function (tested against real Go, not proved from fmt's source: count such statements apart). THE CARD IS WHAT COUNTS. Prove the row's statement (the work); the ties are given (YtceaiclkpgbmaaaDoorTie.lean); close each card by the builder's one call (the guide's Derived/Test/ToyasCard.lean, 'card_holds'). Laid BY PROGRAM, IN A SANDBOX (cutbox-door.mjs). By AI agents, Wed Nov 11 2026. No macro, syntax, notation, axiom, sorry.
-/
import Derived.Test.YtceaiclkpgbmaaaDoorRows
import GoSem.ClaimSeven
namespace Go.Proofs.YtceaiclkpgbmaaaDoor
namespace Rows

/-- THE TIED CARD OF 'fardellaw09.ChachaNames'. -/
def chachaNamesCard : Claim7 := { stood := { row := chachaNamesRow, standIns := [], harness := (true, "769e3f8120afe2c9d7c5d79cf6bef61e4c2d3afa184e23b458f20cb4758b75a5"), looks := false }, kinds := [], alts := [], laidByText := true, laidKinds := [.data], laidTests := true, laidLooks := .later }
def ChachaNamesCardSaid : Prop := Claim7.holds Tryd.pinned (.plain (OpenSpec.ofChange chachaNamesSpec)) chachaNamesCard

/-- THE TIED CARD OF 'fardellaw09.ChachaTells'. -/
def chachaTellsCard : Claim7 := { stood := { row := chachaTellsRow, standIns := [], harness := (true, "769e3f8120afe2c9d7c5d79cf6bef61e4c2d3afa184e23b458f20cb4758b75a5"), looks := false }, kinds := [], alts := [], laidByText := true, laidKinds := [.data], laidTests := true, laidLooks := .later }
def ChachaTellsCardSaid : Prop := Claim7.holds Tryd.pinned (.plain (OpenSpec.ofChange chachaTellsSpec)) chachaTellsCard

/-- THE TIED CARD OF 'fardellaw09.ChachaTwice'. -/
def chachaTwiceCard : Claim7 := { stood := { row := chachaTwiceRow, standIns := [], harness := (true, "769e3f8120afe2c9d7c5d79cf6bef61e4c2d3afa184e23b458f20cb4758b75a5"), looks := false }, kinds := [], alts := [], laidByText := true, laidKinds := [.data], laidTests := true, laidLooks := .later }
def ChachaTwiceCardSaid : Prop := Claim7.holds Tryd.pinned (.plain (OpenSpec.ofChange chachaTwiceSpec)) chachaTwiceCard

/-- THE TIED CARD OF 'fardellaw09.ChachaParts'. -/
def chachaPartsCard : Claim7 := { stood := { row := chachaPartsRow, standIns := [], harness := (true, "769e3f8120afe2c9d7c5d79cf6bef61e4c2d3afa184e23b458f20cb4758b75a5"), looks := false }, kinds := [], alts := [], laidByText := true, laidKinds := [.data], laidTests := true, laidLooks := .later }
def ChachaPartsCardSaid : Prop := Claim7.holds Tryd.pinned (.plain (OpenSpec.ofChange chachaPartsSpec)) chachaPartsCard

/-- THE TIED CARD OF 'fardellaw09.ChachaZeros'. -/
def chachaZerosCard : Claim7 := { stood := { row := chachaZerosRow, standIns := [], harness := (true, "769e3f8120afe2c9d7c5d79cf6bef61e4c2d3afa184e23b458f20cb4758b75a5"), looks := false }, kinds := [], alts := [], laidByText := true, laidKinds := [.data], laidTests := true, laidLooks := .later }
def ChachaZerosCardSaid : Prop := Claim7.holds Tryd.pinned (.plain (OpenSpec.ofChange chachaZerosSpec)) chachaZerosCard

/-- THE SECOND FORM's CARD OF 'fardellaw09.ChachaNames'. -/
def chachaNamesUptoCard : Claim7 := { stood := { row := chachaNamesUptoRow, standIns := [], harness := (true, "769e3f8120afe2c9d7c5d79cf6bef61e4c2d3afa184e23b458f20cb4758b75a5"), looks := false }, kinds := [], alts := [], laidByText := true, laidKinds := [.data], laidTests := true, laidLooks := .later }
def ChachaNamesUptoCardSaid : Prop := Claim7.holds Tryd.pinned (.plain (OpenSpec.upto chachaNamesSpec)) chachaNamesUptoCard

/-- THE SECOND FORM's CARD OF 'fardellaw09.ChachaTells'. -/
def chachaTellsUptoCard : Claim7 := { stood := { row := chachaTellsUptoRow, standIns := [], harness := (true, "769e3f8120afe2c9d7c5d79cf6bef61e4c2d3afa184e23b458f20cb4758b75a5"), looks := false }, kinds := [], alts := [], laidByText := true, laidKinds := [.data], laidTests := true, laidLooks := .later }
def ChachaTellsUptoCardSaid : Prop := Claim7.holds Tryd.pinned (.plain (OpenSpec.upto chachaTellsSpec)) chachaTellsUptoCard

/-- THE SECOND FORM's CARD OF 'fardellaw09.ChachaTwice'. -/
def chachaTwiceUptoCard : Claim7 := { stood := { row := chachaTwiceUptoRow, standIns := [], harness := (true, "769e3f8120afe2c9d7c5d79cf6bef61e4c2d3afa184e23b458f20cb4758b75a5"), looks := false }, kinds := [], alts := [], laidByText := true, laidKinds := [.data], laidTests := true, laidLooks := .later }
def ChachaTwiceUptoCardSaid : Prop := Claim7.holds Tryd.pinned (.plain (OpenSpec.upto chachaTwiceSpec)) chachaTwiceUptoCard

/-- THE SECOND FORM's CARD OF 'fardellaw09.ChachaParts'. -/
def chachaPartsUptoCard : Claim7 := { stood := { row := chachaPartsUptoRow, standIns := [], harness := (true, "769e3f8120afe2c9d7c5d79cf6bef61e4c2d3afa184e23b458f20cb4758b75a5"), looks := false }, kinds := [], alts := [], laidByText := true, laidKinds := [.data], laidTests := true, laidLooks := .later }
def ChachaPartsUptoCardSaid : Prop := Claim7.holds Tryd.pinned (.plain (OpenSpec.upto chachaPartsSpec)) chachaPartsUptoCard

/-- THE SECOND FORM's CARD OF 'fardellaw09.ChachaZeros'. -/
def chachaZerosUptoCard : Claim7 := { stood := { row := chachaZerosUptoRow, standIns := [], harness := (true, "769e3f8120afe2c9d7c5d79cf6bef61e4c2d3afa184e23b458f20cb4758b75a5"), looks := false }, kinds := [], alts := [], laidByText := true, laidKinds := [.data], laidTests := true, laidLooks := .later }
def ChachaZerosUptoCardSaid : Prop := Claim7.holds Tryd.pinned (.plain (OpenSpec.upto chachaZerosSpec)) chachaZerosUptoCard
end Rows
end Go.Proofs.YtceaiclkpgbmaaaDoor

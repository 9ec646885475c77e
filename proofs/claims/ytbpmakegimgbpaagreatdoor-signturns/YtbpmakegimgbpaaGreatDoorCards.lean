/-
  DERIVED. GIVEN WITH THE SEED: THE CARDS: each row of YtbpmakegimgbpaaGreatDoorRows.lean that lists a variable, with what it lists TIED to the program's text (the seventh form; the later family's looks); each row that meets fmt, with fmt's text TOLD by the authors' own Lean function (tested against real Go, not proved from fmt's source: count such statements apart). THE CARD IS WHAT COUNTS. Prove the row's statement (the work); the ties are given (YtbpmakegimgbpaaGreatDoorTie.lean); close each card by the builder's one call (the guide's Derived/Test/ToyasCard.lean, 'card_holds'). Laid BY PROGRAM, IN A SANDBOX (cutbox-door.mjs). By AI agents, Wed Nov 11 2026. No macro, syntax, notation, axiom, sorry.
-/
import Derived.Test.YtbpmakegimgbpaaGreatDoorRows
import GoSem.ClaimSeven
namespace Go.Proofs.YtbpmakegimgbpaaGreatDoor
namespace Rows

/-- THE TIED CARD OF 'fardellaw08.SignTells'. -/
def signTellsCard : Claim7 := { stood := { row := signTellsRow, standIns := [], harness := (true, "87c7493d082037d8388e736093ef8b0f4939e37f3f4ec9ad9ca19fdb8b82357d"), looks := false }, kinds := [], alts := [], laidByText := true, laidKinds := [.data, .data, .data], laidTests := true, laidLooks := .later }
def SignTellsCardSaid : Prop := Claim7.holds Tryz.pinned (.plain (OpenSpec.ofChange signTellsSpec)) signTellsCard

/-- THE TIED CARD OF 'fardellaw08.SignTurns'. -/
def signTurnsCard : Claim7 := { stood := { row := signTurnsRow, standIns := [], harness := (true, "87c7493d082037d8388e736093ef8b0f4939e37f3f4ec9ad9ca19fdb8b82357d"), looks := false }, kinds := [], alts := [], laidByText := true, laidKinds := [.data, .data, .data], laidTests := true, laidLooks := .later }
def SignTurnsCardSaid : Prop := Claim7.holds Tryz.pinned (.plain (OpenSpec.ofChange signTurnsSpec)) signTurnsCard

/-- THE SECOND FORM's CARD OF 'fardellaw08.SignTells'. -/
def signTellsUptoCard : Claim7 := { stood := { row := signTellsUptoRow, standIns := [], harness := (true, "87c7493d082037d8388e736093ef8b0f4939e37f3f4ec9ad9ca19fdb8b82357d"), looks := false }, kinds := [], alts := [], laidByText := true, laidKinds := [.data, .data, .data], laidTests := true, laidLooks := .later }
def SignTellsUptoCardSaid : Prop := Claim7.holds Tryz.pinned (.plain (OpenSpec.upto signTellsSpec)) signTellsUptoCard

/-- THE SECOND FORM's CARD OF 'fardellaw08.SignTurns'. -/
def signTurnsUptoCard : Claim7 := { stood := { row := signTurnsUptoRow, standIns := [], harness := (true, "87c7493d082037d8388e736093ef8b0f4939e37f3f4ec9ad9ca19fdb8b82357d"), looks := false }, kinds := [], alts := [], laidByText := true, laidKinds := [.data, .data, .data], laidTests := true, laidLooks := .later }
def SignTurnsUptoCardSaid : Prop := Claim7.holds Tryz.pinned (.plain (OpenSpec.upto signTurnsSpec)) signTurnsUptoCard
end Rows
end Go.Proofs.YtbpmakegimgbpaaGreatDoor

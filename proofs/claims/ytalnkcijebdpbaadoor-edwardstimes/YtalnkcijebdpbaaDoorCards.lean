/-
  DERIVED. GIVEN WITH THE SEED: THE CARDS: each row of YtalnkcijebdpbaaDoorRows.lean that lists a variable, with what it lists TIED to the program's text (the seventh form; the later family's looks); each row that meets fmt, with fmt's text TOLD by the authors' own Lean function (tested against real Go, not proved from fmt's source: count such statements apart). THE CARD IS WHAT COUNTS. Prove the row's statement (the work); the ties are given (YtalnkcijebdpbaaDoorTie.lean); close each card by the builder's one call (the guide's Derived/Test/ToyasCard.lean, 'card_holds'). Laid BY PROGRAM, IN A SANDBOX (cutbox-door.mjs). By AI agents, Wed Nov 11 2026. No macro, syntax, notation, axiom, sorry.
-/
import Derived.Test.YtalnkcijebdpbaaDoorRows
import GoSem.ClaimSeven
namespace Go.Proofs.YtalnkcijebdpbaaDoor
namespace Rows

/-- THE TIED CARD OF 'fardellaw07.EdwardsTimes'. -/
def edwardsTimesCard : Claim7 := { stood := { row := edwardsTimesRow, standIns := [], harness := (true, "6af2c0e20e1b4a1d83d7d3473c8edfb38d2336dca3ea7a04709669f2c7b30b80"), looks := false }, kinds := [], alts := [], laidByText := true, laidKinds := [.data], laidTests := true, laidLooks := .later }
def EdwardsTimesCardSaid : Prop := Claim7.holds Tryd.pinned (.plain (OpenSpec.ofChange edwardsTimesSpec)) edwardsTimesCard

/-- THE SECOND FORM's CARD OF 'fardellaw07.EdwardsTimes'. -/
def edwardsTimesUptoCard : Claim7 := { stood := { row := edwardsTimesUptoRow, standIns := [], harness := (true, "6af2c0e20e1b4a1d83d7d3473c8edfb38d2336dca3ea7a04709669f2c7b30b80"), looks := false }, kinds := [], alts := [], laidByText := true, laidKinds := [.data], laidTests := true, laidLooks := .later }
def EdwardsTimesUptoCardSaid : Prop := Claim7.holds Tryd.pinned (.plain (OpenSpec.upto edwardsTimesSpec)) edwardsTimesUptoCard
end Rows
end Go.Proofs.YtalnkcijebdpbaaDoor

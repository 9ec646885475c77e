/-
  DERIVED. GIVEN WITH THE SEED: THE CARDS: each row of YtanahjoiilfcbaaDoorRows.lean that lists a variable, with what it lists TIED to the program's text (the seventh form; the later family's looks); each row that meets fmt, with fmt's text TOLD by the authors' own Lean function (tested against real Go, not proved from fmt's source: count such statements apart). THE CARD IS WHAT COUNTS. Prove the row's statement (the work); the ties are given (YtanahjoiilfcbaaDoorTie.lean); close each card by the builder's one call (the guide's Derived/Test/ToyasCard.lean, 'card_holds'). Laid BY PROGRAM, IN A SANDBOX (cutbox-door.mjs). By AI agents, Wed Nov 11 2026. No macro, syntax, notation, axiom, sorry.
-/
import Derived.Test.YtanahjoiilfcbaaDoorRows
import GoSem.ClaimSeven
namespace Go.Proofs.YtanahjoiilfcbaaDoor
namespace Rows

/-- THE TIED CARD OF 'fardellaw11.AeadNames'. -/
def aeadNamesCard : Claim7 := { stood := { row := aeadNamesRow, standIns := [], harness := (true, "bc40f4ffbfaf0888e93d4aed010d8129b35c6c9883d85b4fd60532c42d417f0a"), looks := false }, kinds := [], alts := [], laidByText := true, laidKinds := [.data, .data], laidTests := true, laidLooks := .later }
def AeadNamesCardSaid : Prop := Claim7.holds Tryd.pinned (.plain (OpenSpec.ofChange aeadNamesSpec)) aeadNamesCard

/-- THE TIED CARD OF 'fardellaw11.AeadTells'. -/
def aeadTellsCard : Claim7 := { stood := { row := aeadTellsRow, standIns := [], harness := (true, "bc40f4ffbfaf0888e93d4aed010d8129b35c6c9883d85b4fd60532c42d417f0a"), looks := false }, kinds := [], alts := [], laidByText := true, laidKinds := [.data, .data], laidTests := true, laidLooks := .later }
def AeadTellsCardSaid : Prop := Claim7.holds Tryd.pinned (.plain (OpenSpec.ofChange aeadTellsSpec)) aeadTellsCard

/-- THE TIED CARD OF 'fardellaw11.AeadBack'. -/
def aeadBackCard : Claim7 := { stood := { row := aeadBackRow, standIns := [], harness := (true, "bc40f4ffbfaf0888e93d4aed010d8129b35c6c9883d85b4fd60532c42d417f0a"), looks := false }, kinds := [], alts := [], laidByText := true, laidKinds := [.data, .data], laidTests := true, laidLooks := .later }
def AeadBackCardSaid : Prop := Claim7.holds Tryd.pinned (.plain (OpenSpec.ofChange aeadBackSpec)) aeadBackCard

/-- THE TIED CARD OF 'fardellaw11.AeadTurns'. -/
def aeadTurnsCard : Claim7 := { stood := { row := aeadTurnsRow, standIns := [], harness := (true, "bc40f4ffbfaf0888e93d4aed010d8129b35c6c9883d85b4fd60532c42d417f0a"), looks := false }, kinds := [], alts := [], laidByText := true, laidKinds := [.data, .data], laidTests := true, laidLooks := .later }
def AeadTurnsCardSaid : Prop := Claim7.holds Tryd.pinned (.plain (OpenSpec.ofChange aeadTurnsSpec)) aeadTurnsCard

/-- THE TIED CARD OF 'fardellaw11.AeadTag'. -/
def aeadTagCard : Claim7 := { stood := { row := aeadTagRow, standIns := [], harness := (true, "bc40f4ffbfaf0888e93d4aed010d8129b35c6c9883d85b4fd60532c42d417f0a"), looks := false }, kinds := [], alts := [], laidByText := true, laidKinds := [.data, .data], laidTests := true, laidLooks := .later }
def AeadTagCardSaid : Prop := Claim7.holds Tryd.pinned (.plain (OpenSpec.ofChange aeadTagSpec)) aeadTagCard

/-- THE TIED CARD OF 'fardellaw11.AeadEmpty'. -/
def aeadEmptyCard : Claim7 := { stood := { row := aeadEmptyRow, standIns := [], harness := (true, "bc40f4ffbfaf0888e93d4aed010d8129b35c6c9883d85b4fd60532c42d417f0a"), looks := false }, kinds := [], alts := [], laidByText := true, laidKinds := [.data, .data], laidTests := true, laidLooks := .later }
def AeadEmptyCardSaid : Prop := Claim7.holds Tryd.pinned (.plain (OpenSpec.ofChange aeadEmptySpec)) aeadEmptyCard

/-- THE SECOND FORM's CARD OF 'fardellaw11.AeadNames'. -/
def aeadNamesUptoCard : Claim7 := { stood := { row := aeadNamesUptoRow, standIns := [], harness := (true, "bc40f4ffbfaf0888e93d4aed010d8129b35c6c9883d85b4fd60532c42d417f0a"), looks := false }, kinds := [], alts := [], laidByText := true, laidKinds := [.data, .data], laidTests := true, laidLooks := .later }
def AeadNamesUptoCardSaid : Prop := Claim7.holds Tryd.pinned (.plain (OpenSpec.upto aeadNamesSpec)) aeadNamesUptoCard

/-- THE SECOND FORM's CARD OF 'fardellaw11.AeadTells'. -/
def aeadTellsUptoCard : Claim7 := { stood := { row := aeadTellsUptoRow, standIns := [], harness := (true, "bc40f4ffbfaf0888e93d4aed010d8129b35c6c9883d85b4fd60532c42d417f0a"), looks := false }, kinds := [], alts := [], laidByText := true, laidKinds := [.data, .data], laidTests := true, laidLooks := .later }
def AeadTellsUptoCardSaid : Prop := Claim7.holds Tryd.pinned (.plain (OpenSpec.upto aeadTellsSpec)) aeadTellsUptoCard

/-- THE SECOND FORM's CARD OF 'fardellaw11.AeadBack'. -/
def aeadBackUptoCard : Claim7 := { stood := { row := aeadBackUptoRow, standIns := [], harness := (true, "bc40f4ffbfaf0888e93d4aed010d8129b35c6c9883d85b4fd60532c42d417f0a"), looks := false }, kinds := [], alts := [], laidByText := true, laidKinds := [.data, .data], laidTests := true, laidLooks := .later }
def AeadBackUptoCardSaid : Prop := Claim7.holds Tryd.pinned (.plain (OpenSpec.upto aeadBackSpec)) aeadBackUptoCard

/-- THE SECOND FORM's CARD OF 'fardellaw11.AeadTurns'. -/
def aeadTurnsUptoCard : Claim7 := { stood := { row := aeadTurnsUptoRow, standIns := [], harness := (true, "bc40f4ffbfaf0888e93d4aed010d8129b35c6c9883d85b4fd60532c42d417f0a"), looks := false }, kinds := [], alts := [], laidByText := true, laidKinds := [.data, .data], laidTests := true, laidLooks := .later }
def AeadTurnsUptoCardSaid : Prop := Claim7.holds Tryd.pinned (.plain (OpenSpec.upto aeadTurnsSpec)) aeadTurnsUptoCard

/-- THE SECOND FORM's CARD OF 'fardellaw11.AeadTag'. -/
def aeadTagUptoCard : Claim7 := { stood := { row := aeadTagUptoRow, standIns := [], harness := (true, "bc40f4ffbfaf0888e93d4aed010d8129b35c6c9883d85b4fd60532c42d417f0a"), looks := false }, kinds := [], alts := [], laidByText := true, laidKinds := [.data, .data], laidTests := true, laidLooks := .later }
def AeadTagUptoCardSaid : Prop := Claim7.holds Tryd.pinned (.plain (OpenSpec.upto aeadTagSpec)) aeadTagUptoCard

/-- THE SECOND FORM's CARD OF 'fardellaw11.AeadEmpty'. -/
def aeadEmptyUptoCard : Claim7 := { stood := { row := aeadEmptyUptoRow, standIns := [], harness := (true, "bc40f4ffbfaf0888e93d4aed010d8129b35c6c9883d85b4fd60532c42d417f0a"), looks := false }, kinds := [], alts := [], laidByText := true, laidKinds := [.data, .data], laidTests := true, laidLooks := .later }
def AeadEmptyUptoCardSaid : Prop := Claim7.holds Tryd.pinned (.plain (OpenSpec.upto aeadEmptySpec)) aeadEmptyUptoCard
end Rows
end Go.Proofs.YtanahjoiilfcbaaDoor

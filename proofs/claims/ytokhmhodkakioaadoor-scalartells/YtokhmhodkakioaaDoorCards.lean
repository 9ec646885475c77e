/-
  DERIVED. GIVEN WITH THE SEED: THE CARDS: each row of YtokhmhodkakioaaDoorRows.lean that lists a variable, with what it lists TIED to the program's text (the seventh form; the later family's looks); each row that meets fmt, with fmt's text TOLD by the authors' own Lean function (tested against real Go, not proved from fmt's source: count such statements apart). THE CARD IS WHAT COUNTS. Prove the row's statement (the work); the ties are given (YtokhmhodkakioaaDoorTie.lean); close each card by the builder's one call (the guide's Derived/Test/ToyasCard.lean, 'card_holds'). Laid BY PROGRAM, IN A SANDBOX (cutbox-door.mjs). By AI agents, Wed Nov 11 2026. No macro, syntax, notation, axiom, sorry.
-/
import Derived.Test.YtokhmhodkakioaaDoorRows
import GoSem.ClaimSeven
namespace Go.Proofs.YtokhmhodkakioaaDoor
namespace Rows

/-- THE TIED CARD OF 'fardellaw02.ScalarTells'. -/
def scalarTellsCard : Claim7 := { stood := { row := scalarTellsRow, standIns := [], harness := (true, "8d34bca28ad0d1594070ad66a49a1a5c008012236d8f8d1b68f29b0411792b1d"), looks := false }, kinds := [], alts := [], laidByText := true, laidKinds := [.data], laidTests := true, laidLooks := .later }
def ScalarTellsCardSaid : Prop := Claim7.holds Tryd.pinned (.plain (OpenSpec.ofChange scalarTellsSpec)) scalarTellsCard

/-- THE TIED CARD OF 'fardellaw02.ScalarRing'. -/
def scalarRingCard : Claim7 := { stood := { row := scalarRingRow, standIns := [], harness := (true, "8d34bca28ad0d1594070ad66a49a1a5c008012236d8f8d1b68f29b0411792b1d"), looks := false }, kinds := [], alts := [], laidByText := true, laidKinds := [.data], laidTests := true, laidLooks := .later }
def ScalarRingCardSaid : Prop := Claim7.holds Tryd.pinned (.plain (OpenSpec.ofChange scalarRingSpec)) scalarRingCard

/-- THE TIED CARD OF 'fardellaw02.ScalarOnce'. -/
def scalarOnceCard : Claim7 := { stood := { row := scalarOnceRow, standIns := [], harness := (true, "8d34bca28ad0d1594070ad66a49a1a5c008012236d8f8d1b68f29b0411792b1d"), looks := false }, kinds := [], alts := [], laidByText := true, laidKinds := [.data], laidTests := true, laidLooks := .later }
def ScalarOnceCardSaid : Prop := Claim7.holds Tryd.pinned (.plain (OpenSpec.ofChange scalarOnceSpec)) scalarOnceCard

/-- THE TIED CARD OF 'fardellaw02.ScalarSmall'. -/
def scalarSmallCard : Claim7 := { stood := { row := scalarSmallRow, standIns := [], harness := (true, "8d34bca28ad0d1594070ad66a49a1a5c008012236d8f8d1b68f29b0411792b1d"), looks := false }, kinds := [], alts := [], laidByText := true, laidKinds := [.data], laidTests := true, laidLooks := .later }
def ScalarSmallCardSaid : Prop := Claim7.holds Tryd.pinned (.plain (OpenSpec.ofChange scalarSmallSpec)) scalarSmallCard

/-- THE SECOND FORM's CARD OF 'fardellaw02.ScalarTells'. -/
def scalarTellsUptoCard : Claim7 := { stood := { row := scalarTellsUptoRow, standIns := [], harness := (true, "8d34bca28ad0d1594070ad66a49a1a5c008012236d8f8d1b68f29b0411792b1d"), looks := false }, kinds := [], alts := [], laidByText := true, laidKinds := [.data], laidTests := true, laidLooks := .later }
def ScalarTellsUptoCardSaid : Prop := Claim7.holds Tryd.pinned (.plain (OpenSpec.upto scalarTellsSpec)) scalarTellsUptoCard

/-- THE SECOND FORM's CARD OF 'fardellaw02.ScalarRing'. -/
def scalarRingUptoCard : Claim7 := { stood := { row := scalarRingUptoRow, standIns := [], harness := (true, "8d34bca28ad0d1594070ad66a49a1a5c008012236d8f8d1b68f29b0411792b1d"), looks := false }, kinds := [], alts := [], laidByText := true, laidKinds := [.data], laidTests := true, laidLooks := .later }
def ScalarRingUptoCardSaid : Prop := Claim7.holds Tryd.pinned (.plain (OpenSpec.upto scalarRingSpec)) scalarRingUptoCard

/-- THE SECOND FORM's CARD OF 'fardellaw02.ScalarOnce'. -/
def scalarOnceUptoCard : Claim7 := { stood := { row := scalarOnceUptoRow, standIns := [], harness := (true, "8d34bca28ad0d1594070ad66a49a1a5c008012236d8f8d1b68f29b0411792b1d"), looks := false }, kinds := [], alts := [], laidByText := true, laidKinds := [.data], laidTests := true, laidLooks := .later }
def ScalarOnceUptoCardSaid : Prop := Claim7.holds Tryd.pinned (.plain (OpenSpec.upto scalarOnceSpec)) scalarOnceUptoCard

/-- THE SECOND FORM's CARD OF 'fardellaw02.ScalarSmall'. -/
def scalarSmallUptoCard : Claim7 := { stood := { row := scalarSmallUptoRow, standIns := [], harness := (true, "8d34bca28ad0d1594070ad66a49a1a5c008012236d8f8d1b68f29b0411792b1d"), looks := false }, kinds := [], alts := [], laidByText := true, laidKinds := [.data], laidTests := true, laidLooks := .later }
def ScalarSmallUptoCardSaid : Prop := Claim7.holds Tryd.pinned (.plain (OpenSpec.upto scalarSmallSpec)) scalarSmallUptoCard
end Rows
end Go.Proofs.YtokhmhodkakioaaDoor

/- Small laws for walks: loads of whole rows in a region whose order is open; stores of whole rows; bytes held against each other. -/
import Derived.Test.YtbpmakegimgbpaaGreatDoorWk
import Derived.Test.YtbpmakegimgbpaaGreatDoorWh
namespace Go.Proofs.YtbpmakegimgbpaaGreatDoor.F
set_option maxRecDepth 100000
open Go.RowKit

theorem cells27 : (Tryz.prog.info? 47).map (·.size) = some 4 := by kernel_rfl
end Go.Proofs.YtbpmakegimgbpaaGreatDoor.F

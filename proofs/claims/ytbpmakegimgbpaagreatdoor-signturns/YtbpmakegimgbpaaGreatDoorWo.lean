/- Walks: of. -/
import Derived.Test.YtbpmakegimgbpaaGreatDoorWn
import Derived.Test.YtbpmakegimgbpaaGreatDoorWi
import Derived.Test.YtbpmakegimgbpaaGreatDoorNum
namespace Go.Proofs.YtbpmakegimgbpaaGreatDoor.F
set_option maxRecDepth 100000
open Go.RowKit

theorem bytes_at (x : Nat) (args : Array Value) (w : World) (h : args = #[fe x]) :
    Calls Tryz.prog 49 args w fun e w' => e = .returned (ba (byt x)) ∧ Below w.heap.size w w' := by
  subst h; exact bytes_any x w
theorem add_at' (x y : Nat) (args : Array Value) (w : World) (h : args = #[fe x, fe y]) (hx : x < pP) (hy : y < pP) :
    Calls Tryz.prog 54 args w fun e w' => e = .returned (fe ((x + y) % pP)) ∧ Below w.heap.size w w' := by
  subst h; exact add_any x y w hx hy

/-! What the calls of awake tell. -/
open Num in
theorem pm_pw (x e r : Nat) (he : e < 2 ^ 256) (h : pw pP 256 x e 1 % pP = r) : pm x e = r := pow_of_pw pP 256 x e r he h
end Go.Proofs.YtbpmakegimgbpaaGreatDoor.F

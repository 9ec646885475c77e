/- Walks: of. -/
import Derived.Test.YtbpmakegimgbpaaDoorWn
import Derived.Test.YtbpmakegimgbpaaDoorWi
import Derived.Test.YtbpmakegimgbpaaDoorNum
namespace Go.Proofs.YtbpmakegimgbpaaDoor.F
open Go.RowKit

theorem bytes_at (x : Nat) (args : Array Value) (w : World) (h : args = #[fe x]) :
    Calls Tryd.prog 31 args w fun e w' => e = .returned (ba (byt x)) ∧ Below w.heap.size w w' := by
  subst h; exact bytes_any x w
theorem add_at' (x y : Nat) (args : Array Value) (w : World) (h : args = #[fe x, fe y]) (hx : x < pP) (hy : y < pP) :
    Calls Tryd.prog 36 args w fun e w' => e = .returned (fe ((x + y) % pP)) ∧ Below w.heap.size w w' := by
  subst h; exact add_any x y w hx hy

theorem n_lt (n : Nat) (hn : n < 256) : n < pP := by unfold pP; omega
/-! What the calls of awake tell. -/
open Num in
theorem pm_pw (x e r : Nat) (he : e < 2 ^ 256) (h : pw pP 256 x e 1 % pP = r) : pm x e = r := pow_of_pw pP 256 x e r he h
theorem ones_pw (x m r : Nat) (he : 2 ^ m - 1 < 2 ^ 256) (h : Num.pw pP 256 x (2 ^ m - 1) 1 % pP = r) : ones x m = r := pm_pw x _ r he h
def bigB (i : Nat) : Nat := if i = 0 then 238 else if i < 31 then 255 else if i = 31 then 127 else 0

end Go.Proofs.YtbpmakegimgbpaaDoor.F

/- Walks: Ratio. -/
import Derived.Test.YtidhffaphbiapaaWk
import Derived.Test.YtidhffaphbiapaaWm
namespace Go.Proofs.Ytidhffaphbiapaa.F
open Go.RowKit

def ng (a : Nat) : Nat := (pP - a) % pP
theorem ng_lt (a : Nat) : ng a < pP := Nat.mod_lt _ pP_pos
theorem neg_at (x : Nat) (args : Array Value) (w : World) (h : args = #[fe x]) (hx : x < pP) :
    Calls Try.prog 15 args w fun e w' => e = .returned (fe (ng x)) ∧ Below w.heap.size w w' := by
  subst h; exact neg_any x w hx
theorem power_at (x : Nat) (args : Array Value) (w : World) (h : args = #[fe x]) (hx : x < pP) :
    Calls Try.prog 41 args w fun e w' => e = .returned (fe (ones x 250)) ∧ Below w.heap.size w w' := by
  subst h; exact power_any x w hx
theorem pick_b (x y : Nat) (b : Bool) (z : Nat) (args : Array Value) (w : World) (h : args = #[fe x, fe y, .bool b]) (hz : (if b then x else y) = z) :
    Calls Try.prog 19 args w fun e w' => e = .returned (fe z) ∧ Below w.heap.size w w' := by
  subst h hz; exact pick_any x y b w
theorem rootN_lt : rootN < pP := by decide +kernel
def rCube (v : Nat) : Nat := mm (mm v v) v
def rBase (u v : Nat) : Nat := mm u (mm (mm (rCube v) (rCube v)) v)
def rRoot (u v : Nat) : Nat := mm (mm u (rCube v)) (mm (pm (ones (rBase u v) 250) 4) (rBase u v))
def rFound (u v : Nat) : Nat := mm v (mm (rRoot u v) (rRoot u v))
def rFlip (u v : Nat) : Bool := decide (rFound u v = ng u)
def rOdd0 (r : Nat) : Bool := decide (r % 2 = 1)
def rRoot1 (u v : Nat) : Nat := if rFlip u v then mm (rRoot u v) rootN else rRoot u v
def rFound1 (u v : Nat) : Nat := if rFlip u v then ng (rFound u v) else rFound u v
def rOk (u v : Nat) : Bool := decide (rFound1 u v = u)
def rPick (u v : Nat) : Nat := if rOdd0 (rRoot1 u v) then ng (rRoot1 u v) else rRoot1 u v
def rVal (u v : Nat) : Nat := if rOk u v then rPick u v else 0
theorem rRoot1_lt (u v : Nat) : rRoot1 u v < pP := by unfold rRoot1; split <;> exact mm_lt _ _
theorem rFound1_lt (u v : Nat) : rFound1 u v < pP := by unfold rFound1; split; exact ng_lt _; exact mm_lt _ _

end Go.Proofs.Ytidhffaphbiapaa.F

/- Small laws for walks: loads of whole rows in a region whose order is open; stores of whole rows; bytes held against each other. -/
import Derived.Test.YtbpmakegimgbpaaDoorWk
import Derived.Test.YtbpmakegimgbpaaDoorWh
namespace Go.Proofs.YtbpmakegimgbpaaDoor.F
open Go.RowKit

theorem cells27 : (Tryd.prog.info? 39).map (·.size) = some 4 := by kernel_rfl
theorem neq255 (n : Nat) : (((n : Nat) : Int) != 255) = decide (n ≠ 255) := by
  rw [Bool.eq_iff_iff, bne_iff_ne, decide_eq_true_eq]; omega
theorem lt237 (n : Nat) : decide (((n : Nat) : Int) < 237) = decide (n < 237) := by
  rw [Bool.eq_iff_iff, decide_eq_true_eq, decide_eq_true_eq]; omega
theorem lt127 (n : Nat) : (((n : Nat) : Int) < 127) = (n < 127) := by rw [eq_iff_iff]; omega
theorem all_self (g : Nat → Nat) : ((List.range 32).all fun i => g i == g i) = true := by simp
theorem eq_vals (f g : Nat → Nat) (w : World) : (Op.equalIn 10000 22 (.agg (vals .u8 32 f)) (.agg (vals .u8 32 g))).run Tryd.prog w = .ok ((List.range 32).all fun i => f i == g i) w :=
  run_equal_vals (P := Tryd.prog) w 9998 22 5 32 .u8 Tryd.underlying22 Tryd.underlying5 size5 f g
theorem eq_vals' (f g : Nat → Nat) (b : Bool) (h : ((List.range 32).all fun i => f i == g i) = b) (w : World) : (Op.equalIn 10000 22 (.agg (vals .u8 32 f)) (.agg (vals .u8 32 g))).run Tryd.prog w = .ok b w := by
  rw [eq_vals, h]


end Go.Proofs.YtbpmakegimgbpaaDoor.F

/- Walks: Odd, Same, the root of minus one, Bytes, Load, Pick. -/
import Derived.Test.YtbpmakegimgbpaaGreatDoorJw
import Derived.Laws.StructEq
namespace Go.Proofs.YtbpmakegimgbpaaGreatDoor.F
set_option maxRecDepth 100000
open Go.RowKit

theorem odd_bit (x : Nat) : (bits BinOp.and IntKind.u64 (limb x 0 : Nat) 1 == 1) = decide (x % 2 = 1) := by
  have := u64_and_nat (limb x 0) 1 (limb_lt x 0) (by omega)
  rw [show ((1 : Nat) : Int) = 1 from rfl] at this
  rw [this, nat_mask1, limb0]
  rw [Bool.eq_iff_iff]; simp; omega

set_option maxHeartbeats 400000 in
theorem odd_any (x : Nat) (w : World) :
    Calls Tryz.prog 81 #[fe x] w fun e w' => e = .returned (.bool (decide (x % 2 = 1))) ∧ Below w.heap.size w w' := by
  rw [fe_def x]
  go_enter Tryz.func81, Tryz.ntmps81
  go_wp2
  go_ret
  exact ⟨congrArg (fun b => Ending.returned (.bool b)) (odd_bit x), (Below.refl _ w).alloc (Nat.le_refl _) _⟩

theorem fe_inj (x y : Nat) (hx : x < 2 ^ 256) (hy : y < 2 ^ 256) : x = y ↔ (limb x 0 = limb y 0 ∧ limb x 1 = limb y 1 ∧ limb x 2 = limb y 2 ∧ limb x 3 = limb y 3) := by
  constructor
  · intro h; subst h; simp
  · rintro ⟨h0, h1, h2, h3⟩
    rw [limb0, limb0] at h0
    rw [limb1, limb1] at h1
    rw [limb2, limb2] at h2
    rw [limb3, limb3] at h3
    omega

theorem size24 (w : World) : (sizeOf 44).run Tryz.prog w = .ok 1 w := by kernel_rfl
theorem size5 (w : World) : (sizeOf 5).run Tryz.prog w = .ok 1 w := by kernel_rfl
theorem eq_limbs (x y : Nat) (hx : x < 2 ^ 256) (hy : y < 2 ^ 256) (w : World) : (Op.equalIn 10000 45 (fe x) (fe y)).run Tryz.prog w = .ok (decide (x = y)) w := by
  have := run_equal_vals (P := Tryz.prog) w 9998 45 44 4 .u64 Tryz.underlying45 Tryz.underlying44 size24 (limb x) (limb y)
  rw [show ((List.range 4).all fun i => limb x i == limb y i) = decide (x = y) from by
    rw [Bool.eq_iff_iff, decide_eq_true_eq, fe_inj x y hx hy]; simp [List.range_succ]] at this
  exact this

set_option maxHeartbeats 400000 in
theorem same_any (x y : Nat) (w : World) (hx : x < pP) (hy : y < pP) :
    Calls Tryz.prog 57 #[fe x, fe y] w fun e w' => e = .returned (.bool (decide (x = y))) ∧ Below w.heap.size w w' := by
  have he := eq_limbs x y (by unfold pP at hx; omega) (by unfold pP at hy; omega)
  rw [fe_def x, fe_def y] at *
  clear hx hy
  go_enter Tryz.func57, Tryz.ntmps57
  go_wp2
  go_ret
  exact ⟨rfl, ((Below.refl _ w).alloc (Nat.le_refl _) _).alloc (by simp) _⟩

def rootN : Nat := 14190309331451158704 + 3405592160176694392 * 2 ^ 64 + 3120150775007532967 * 2 ^ 128 + 3135389899092516619 * 2 ^ 192
theorem root_fe : fe rootN = .agg #[.int .u64 14190309331451158704, .int .u64 3405592160176694392, .int .u64 3120150775007532967, .int .u64 3135389899092516619] := by
  rw [fe_def, limb0, limb1, limb2, limb3]
  rw [show rootN % 18446744073709551616 = 14190309331451158704 by decide +kernel, show rootN / 18446744073709551616 % 18446744073709551616 = 3405592160176694392 by decide +kernel, show rootN / 340282366920938463463374607431768211456 % 18446744073709551616 = 3120150775007532967 by decide +kernel, show rootN / 6277101735386680763835789423207666416102355444464034512896 % 18446744073709551616 = 3135389899092516619 by decide +kernel]
  rfl

set_option maxHeartbeats 400000 in
theorem root_any (w : World) :
    Calls Tryz.prog 97 #[] w fun e w' => e = .returned (fe rootN) ∧ Below w.heap.size w w' := by
  rw [root_fe]
  go_enter Tryz.func97, Tryz.ntmps97
  go_wp2
  refine bodyPost_ret (v := .agg #[.int .u64 14190309331451158704, .int .u64 3405592160176694392, .int .u64 3120150775007532967, .int .u64 3135389899092516619]) (by simp [results, Tryz.results97, go_sem]) rfl ⟨rfl, ?_⟩
  exact (Below.refl _ w).alloc (Nat.le_refl _) _

end Go.Proofs.YtbpmakegimgbpaaGreatDoor.F

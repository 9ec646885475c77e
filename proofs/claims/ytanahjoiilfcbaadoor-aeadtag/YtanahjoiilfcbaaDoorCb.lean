/- What one operation on words, bytes and places tells. No conditions but those that each names. -/
import Derived.Test.YtanahjoiilfcbaaDoorCa
namespace Go.Proofs.YtanahjoiilfcbaaDoor.C
open Go.RowKit

section
variable {ρ : Operand → Value} {o : Oper} {x y : Operand}
theorem b_add32 {a c : Nat} (w : World) (ho : o.op = .binOp .add 31 x y 31 := by rfl) (hx : ρ x = Nv .u32 a := by kernel_rfl) (hy : ρ y = Nv .u32 c := by kernel_rfl) : (execOp ρ o).run Tryd.prog w = .ok (.value (Nv .u32 (ad a c))) w := by
  have h1 := (IntKind.wrap_u32' _).trans (add_nat a c)
  unfold execOp
  simp only [ho, hx, hy]
  go_simp
theorem b_xor32 {a c : Nat} (ha : a < 4294967296) (hc : c < 4294967296) (w : World) (ho : o.op = .binOp .xor 31 x y 31 := by rfl) (hx : ρ x = Nv .u32 a := by kernel_rfl) (hy : ρ y = Nv .u32 c := by kernel_rfl) : (execOp ρ o).run Tryd.prog w = .ok (.value (Nv .u32 (a ^^^ c))) w := by
  have h1 := xor_nat a c ha hc
  unfold execOp
  simp only [ho, hx, hy]
  go_simp
theorem b_ia16 {n a : Nat} (ha : a < 16) (w : World) (ho : o.op = .indexAddr 46 x y := by rfl) (hx : ρ x = D n := by kernel_rfl) (hy : ρ y = Nv .i64 a := by kernel_rfl) : (execOp ρ o).run Tryd.prog w = .ok (.value (E n a)) w := by
  have h1 : (0 : Int) ≤ (a : Int) := by omega
  have h2 : (a : Int) < 16 := by omega
  unfold execOp
  simp only [ho, hx, hy]
  go_simp
end
theorem agg_u32 (w : World) : (isAgg 31).run Tryd.prog w = .ok false w := by kernel_rfl
theorem agg_u8 (w : World) : (isAgg 5).run Tryd.prog w = .ok false w := by kernel_rfl
theorem agg_int (w : World) : (isAgg 3).run Tryd.prog w = .ok false w := by kernel_rfl
theorem sz_u32 (w : World) : (sizeOf 31).run Tryd.prog w = .ok 1 w := by kernel_rfl
theorem sz_u8 (w : World) : (sizeOf 5).run Tryd.prog w = .ok 1 w := by kernel_rfl
theorem fit_w16 (f : Nat → Nat) : Fit 46 (vals .u32 16 f) := ⟨fun _ => by rw [vals_size]; kernel_rfl, vals_one _ _ _⟩
theorem fit_b64 (f : Nat → Nat) : Fit 39 (vals .u8 64 f) := ⟨fun _ => by rw [vals_size]; kernel_rfl, vals_one _ _ _⟩
theorem fit_b32 (f : Nat → Nat) : Fit 23 (vals .u8 32 f) := ⟨fun _ => by rw [vals_size]; kernel_rfl, vals_one _ _ _⟩
theorem fit_b12 (f : Nat → Nat) : Fit 24 (vals .u8 12 f) := ⟨fun _ => by rw [vals_size]; kernel_rfl, vals_one _ _ _⟩
theorem fit_sl (n : Nat) (f : Nat → Nat) : Fit 5 (vals .u8 n f) := ⟨fun h => (by cases h), vals_one _ _ _⟩
end Go.Proofs.YtanahjoiilfcbaaDoor.C

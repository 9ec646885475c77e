/- What one operation on whole numbers tells. No conditions but those that each names. -/
import Derived.Test.YtkljpidlfddgbaaOw
import Derived.Laws.BitsAllLaws
namespace Go.Proofs.Ytkljpidlfddgbaa
set_option maxRecDepth 100000
open Go.RowKit
namespace B

theorem w_u8 (x : Nat) (h : x < 256) : IntKind.u8.wrap (x : Int) = (x : Int) := by unfold IntKind.wrap; simp [IntKind.bits, IntKind.signed]; omega
theorem m_u8 (x : Nat) : IntKind.u8.wrap (x : Int) = ((x % 256 : Nat) : Int) := by unfold IntKind.wrap; simp [IntKind.bits, IntKind.signed]
theorem w_u16 (x : Nat) (h : x < 65536) : IntKind.u16.wrap (x : Int) = (x : Int) := by unfold IntKind.wrap; simp [IntKind.bits, IntKind.signed]; omega
theorem m_u16 (x : Nat) : IntKind.u16.wrap (x : Int) = ((x % 65536 : Nat) : Int) := by unfold IntKind.wrap; simp [IntKind.bits, IntKind.signed]
theorem w_u32 (x : Nat) (h : x < 4294967296) : IntKind.u32.wrap (x : Int) = (x : Int) := by unfold IntKind.wrap; simp [IntKind.bits, IntKind.signed]; omega
theorem m_u32 (x : Nat) : IntKind.u32.wrap (x : Int) = ((x % 4294967296 : Nat) : Int) := by unfold IntKind.wrap; simp [IntKind.bits, IntKind.signed]
theorem w_u64 (x : Nat) (h : x < 18446744073709551616) : IntKind.u64.wrap (x : Int) = (x : Int) := by unfold IntKind.wrap; simp [IntKind.bits, IntKind.signed]; omega
theorem m_u64 (x : Nat) : IntKind.u64.wrap (x : Int) = ((x % 18446744073709551616 : Nat) : Int) := by unfold IntKind.wrap; simp [IntKind.bits, IntKind.signed]
theorem w_i64 (x : Nat) (h : x < 9223372036854775808) : IntKind.i64.wrap (x : Int) = (x : Int) := by unfold IntKind.wrap; simp [IntKind.bits, IntKind.signed]; omega
section
variable {ρ : Operand → Value} {o : Oper} {x y : Operand}
theorem eql_int {a c : Nat} {b : Bool} (h : decide (a = c) = b) (w : World) (ho : o.op = .binOp .eql 3 x y 3 := by rfl) (hx : ρ x = Nv .i64 a := by kernel_rfl) (hy : ρ y = Nv .i64 c := by kernel_rfl) : (execOp ρ o).run Try.prog w = .ok (.value (.bool b)) w := by
  subst h
  unfold execOp
  simp only [ho, hx, hy]
  by_cases h : a = c
  · rw [decide_eq_true h]; have h2 : (a : Int) = (c : Int) := (by omega); go_simp
  · rw [decide_eq_false h]; have h2 : ¬ (a : Int) = (c : Int) := (by omega); go_simp
theorem neq_int {a c : Nat} {b : Bool} (h : decide (a ≠ c) = b) (w : World) (ho : o.op = .binOp .neq 3 x y 3 := by rfl) (hx : ρ x = Nv .i64 a := by kernel_rfl) (hy : ρ y = Nv .i64 c := by kernel_rfl) : (execOp ρ o).run Try.prog w = .ok (.value (.bool b)) w := by
  subst h
  unfold execOp
  simp only [ho, hx, hy]
  by_cases h : a ≠ c
  · rw [decide_eq_true h]; have h2 : ¬ (a : Int) = (c : Int) := (by omega); go_simp
  · rw [decide_eq_false h]; have h2 : (a : Int) = (c : Int) := (by omega); go_simp
theorem lss_int {a c : Nat} {b : Bool} (h : decide (a < c) = b) (w : World) (ho : o.op = .binOp .lss 3 x y 3 := by rfl) (hx : ρ x = Nv .i64 a := by kernel_rfl) (hy : ρ y = Nv .i64 c := by kernel_rfl) : (execOp ρ o).run Try.prog w = .ok (.value (.bool b)) w := by
  subst h
  unfold execOp
  simp only [ho, hx, hy]
  by_cases h : a < c
  · rw [decide_eq_true h]; go_simp
  · rw [decide_eq_false h]; go_simp
theorem leq_int {a c : Nat} {b : Bool} (h : decide (a ≤ c) = b) (w : World) (ho : o.op = .binOp .leq 3 x y 3 := by rfl) (hx : ρ x = Nv .i64 a := by kernel_rfl) (hy : ρ y = Nv .i64 c := by kernel_rfl) : (execOp ρ o).run Try.prog w = .ok (.value (.bool b)) w := by
  subst h
  unfold execOp
  simp only [ho, hx, hy]
  by_cases h : a ≤ c
  · rw [decide_eq_true h]; go_simp
  · rw [decide_eq_false h]; go_simp
theorem gtr_int {a c : Nat} {b : Bool} (h : decide (c < a) = b) (w : World) (ho : o.op = .binOp .gtr 3 x y 3 := by rfl) (hx : ρ x = Nv .i64 a := by kernel_rfl) (hy : ρ y = Nv .i64 c := by kernel_rfl) : (execOp ρ o).run Try.prog w = .ok (.value (.bool b)) w := by
  subst h
  unfold execOp
  simp only [ho, hx, hy]
  by_cases h : c < a
  · rw [decide_eq_true h]; go_simp
  · rw [decide_eq_false h]; go_simp
theorem geq_int {a c : Nat} {b : Bool} (h : decide (c ≤ a) = b) (w : World) (ho : o.op = .binOp .geq 3 x y 3 := by rfl) (hx : ρ x = Nv .i64 a := by kernel_rfl) (hy : ρ y = Nv .i64 c := by kernel_rfl) : (execOp ρ o).run Try.prog w = .ok (.value (.bool b)) w := by
  subst h
  unfold execOp
  simp only [ho, hx, hy]
  by_cases h : c ≤ a
  · rw [decide_eq_true h]; go_simp
  · rw [decide_eq_false h]; go_simp
theorem add_int {a c d : Nat} (h : a + c = d) (hb : d < 9223372036854775808) (w : World) (ho : o.op = .binOp .add 3 x y 3 := by rfl) (hx : ρ x = Nv .i64 a := by kernel_rfl) (hy : ρ y = Nv .i64 c := by kernel_rfl) : (execOp ρ o).run Try.prog w = .ok (.value (Nv .i64 d)) w := by
  subst h
  have h1 : IntKind.i64.wrap ((a : Int) + (c : Int)) = (a : Int) + (c : Int) := by rw [← Int.natCast_add]; exact w_i64 _ hb
  unfold execOp
  simp only [ho, hx, hy]
  go_simp
theorem sub_int {a c d : Nat} (h : d + c = a) (hb : a < 9223372036854775808) (w : World) (ho : o.op = .binOp .sub 3 x y 3 := by rfl) (hx : ρ x = Nv .i64 a := by kernel_rfl) (hy : ρ y = Nv .i64 c := by kernel_rfl) : (execOp ρ o).run Try.prog w = .ok (.value (Nv .i64 d)) w := by
  have h1 : IntKind.i64.wrap ((a : Int) - (c : Int)) = (d : Int) := by rw [show (a : Int) - (c : Int) = (d : Int) by omega]; exact w_i64 _ (by omega)
  unfold execOp
  simp only [ho, hx, hy]
  go_simp
theorem mul_int {a c d : Nat} (h : a * c = d) (hb : d < 9223372036854775808) (w : World) (ho : o.op = .binOp .mul 3 x y 3 := by rfl) (hx : ρ x = Nv .i64 a := by kernel_rfl) (hy : ρ y = Nv .i64 c := by kernel_rfl) : (execOp ρ o).run Try.prog w = .ok (.value (Nv .i64 d)) w := by
  have h1 : IntKind.i64.wrap ((a : Int) * (c : Int)) = (d : Int) := by rw [← Int.natCast_mul, h]; exact w_i64 _ hb
  unfold execOp
  simp only [ho, hx, hy]
  go_simp
theorem rem_int {a c d : Nat} (h : a % c = d) (h0 : 0 < c) (hb : d < 9223372036854775808) (w : World) (ho : o.op = .binOp .rem 3 x y 3 := by rfl) (hx : ρ x = Nv .i64 a := by kernel_rfl) (hy : ρ y = Nv .i64 c := by kernel_rfl) : (execOp ρ o).run Try.prog w = .ok (.value (Nv .i64 d)) w := by
  have h1 : (a : Int).tmod (c : Int) = (d : Int) := by rw [Int.tmod_eq_emod_of_nonneg (by omega), ← h]; exact (Int.natCast_emod _ _).symm
  have h2 : ¬ c = 0 := by omega
  have h3 : IntKind.i64.wrap (d : Int) = (d : Int) := w_i64 _ hb
  clear h hb
  unfold execOp
  simp only [ho, hx, hy]
  go_simp
theorem quo_int {a c d : Nat} (h : a / c = d) (h0 : 0 < c) (hb : d < 9223372036854775808) (w : World) (ho : o.op = .binOp .quo 3 x y 3 := by rfl) (hx : ρ x = Nv .i64 a := by kernel_rfl) (hy : ρ y = Nv .i64 c := by kernel_rfl) : (execOp ρ o).run Try.prog w = .ok (.value (Nv .i64 d)) w := by
  have h1 : (a : Int).tdiv (c : Int) = (d : Int) := by rw [Int.tdiv_eq_ediv_of_nonneg (by omega), ← h]; exact (Int.natCast_ediv _ _).symm
  have h2 : ¬ c = 0 := by omega
  have h3 : IntKind.i64.wrap (d : Int) = (d : Int) := w_i64 _ hb
  clear h hb
  unfold execOp
  simp only [ho, hx, hy]
  go_simp
theorem eql_u8 {a c : Nat} {b : Bool} (h : decide (a = c) = b) (w : World) (ho : o.op = .binOp .eql 5 x y 5 := by rfl) (hx : ρ x = Nv .u8 a := by kernel_rfl) (hy : ρ y = Nv .u8 c := by kernel_rfl) : (execOp ρ o).run Try.prog w = .ok (.value (.bool b)) w := by
  subst h
  unfold execOp
  simp only [ho, hx, hy]
  by_cases h : a = c
  · rw [decide_eq_true h]; have h2 : (a : Int) = (c : Int) := (by omega); go_simp
  · rw [decide_eq_false h]; have h2 : ¬ (a : Int) = (c : Int) := (by omega); go_simp
theorem neq_u8 {a c : Nat} {b : Bool} (h : decide (a ≠ c) = b) (w : World) (ho : o.op = .binOp .neq 5 x y 5 := by rfl) (hx : ρ x = Nv .u8 a := by kernel_rfl) (hy : ρ y = Nv .u8 c := by kernel_rfl) : (execOp ρ o).run Try.prog w = .ok (.value (.bool b)) w := by
  subst h
  unfold execOp
  simp only [ho, hx, hy]
  by_cases h : a ≠ c
  · rw [decide_eq_true h]; have h2 : ¬ (a : Int) = (c : Int) := (by omega); go_simp
  · rw [decide_eq_false h]; have h2 : (a : Int) = (c : Int) := (by omega); go_simp
theorem lss_u8 {a c : Nat} {b : Bool} (h : decide (a < c) = b) (w : World) (ho : o.op = .binOp .lss 5 x y 5 := by rfl) (hx : ρ x = Nv .u8 a := by kernel_rfl) (hy : ρ y = Nv .u8 c := by kernel_rfl) : (execOp ρ o).run Try.prog w = .ok (.value (.bool b)) w := by
  subst h
  unfold execOp
  simp only [ho, hx, hy]
  by_cases h : a < c
  · rw [decide_eq_true h]; go_simp
  · rw [decide_eq_false h]; go_simp
theorem leq_u8 {a c : Nat} {b : Bool} (h : decide (a ≤ c) = b) (w : World) (ho : o.op = .binOp .leq 5 x y 5 := by rfl) (hx : ρ x = Nv .u8 a := by kernel_rfl) (hy : ρ y = Nv .u8 c := by kernel_rfl) : (execOp ρ o).run Try.prog w = .ok (.value (.bool b)) w := by
  subst h
  unfold execOp
  simp only [ho, hx, hy]
  by_cases h : a ≤ c
  · rw [decide_eq_true h]; go_simp
  · rw [decide_eq_false h]; go_simp
theorem gtr_u8 {a c : Nat} {b : Bool} (h : decide (c < a) = b) (w : World) (ho : o.op = .binOp .gtr 5 x y 5 := by rfl) (hx : ρ x = Nv .u8 a := by kernel_rfl) (hy : ρ y = Nv .u8 c := by kernel_rfl) : (execOp ρ o).run Try.prog w = .ok (.value (.bool b)) w := by
  subst h
  unfold execOp
  simp only [ho, hx, hy]
  by_cases h : c < a
  · rw [decide_eq_true h]; go_simp
  · rw [decide_eq_false h]; go_simp
theorem geq_u8 {a c : Nat} {b : Bool} (h : decide (c ≤ a) = b) (w : World) (ho : o.op = .binOp .geq 5 x y 5 := by rfl) (hx : ρ x = Nv .u8 a := by kernel_rfl) (hy : ρ y = Nv .u8 c := by kernel_rfl) : (execOp ρ o).run Try.prog w = .ok (.value (.bool b)) w := by
  subst h
  unfold execOp
  simp only [ho, hx, hy]
  by_cases h : c ≤ a
  · rw [decide_eq_true h]; go_simp
  · rw [decide_eq_false h]; go_simp
theorem add_u8 {a c d : Nat} (h : a + c = d) (hb : d < 256) (w : World) (ho : o.op = .binOp .add 5 x y 5 := by rfl) (hx : ρ x = Nv .u8 a := by kernel_rfl) (hy : ρ y = Nv .u8 c := by kernel_rfl) : (execOp ρ o).run Try.prog w = .ok (.value (Nv .u8 d)) w := by
  subst h
  have h1 : IntKind.u8.wrap ((a : Int) + (c : Int)) = (a : Int) + (c : Int) := by rw [← Int.natCast_add]; exact w_u8 _ hb
  unfold execOp
  simp only [ho, hx, hy]
  go_simp
theorem addw_u8 {a c d : Nat} (h : (a + c) % 256 = d) (w : World) (ho : o.op = .binOp .add 5 x y 5 := by rfl) (hx : ρ x = Nv .u8 a := by kernel_rfl) (hy : ρ y = Nv .u8 c := by kernel_rfl) : (execOp ρ o).run Try.prog w = .ok (.value (Nv .u8 d)) w := by
  subst h
  have h1 : IntKind.u8.wrap ((a : Int) + (c : Int)) = (((a + c) % 256 : Nat) : Int) := by rw [← Int.natCast_add]; exact m_u8 _
  unfold execOp
  simp only [ho, hx, hy]
  go_simp
theorem sub_u8 {a c d : Nat} (h : d + c = a) (hb : a < 256) (w : World) (ho : o.op = .binOp .sub 5 x y 5 := by rfl) (hx : ρ x = Nv .u8 a := by kernel_rfl) (hy : ρ y = Nv .u8 c := by kernel_rfl) : (execOp ρ o).run Try.prog w = .ok (.value (Nv .u8 d)) w := by
  have h1 : IntKind.u8.wrap ((a : Int) - (c : Int)) = (d : Int) := by rw [show (a : Int) - (c : Int) = (d : Int) by omega]; exact w_u8 _ (by omega)
  unfold execOp
  simp only [ho, hx, hy]
  go_simp
theorem mul_u8 {a c d : Nat} (h : a * c = d) (hb : d < 256) (w : World) (ho : o.op = .binOp .mul 5 x y 5 := by rfl) (hx : ρ x = Nv .u8 a := by kernel_rfl) (hy : ρ y = Nv .u8 c := by kernel_rfl) : (execOp ρ o).run Try.prog w = .ok (.value (Nv .u8 d)) w := by
  have h1 : IntKind.u8.wrap ((a : Int) * (c : Int)) = (d : Int) := by rw [← Int.natCast_mul, h]; exact w_u8 _ hb
  unfold execOp
  simp only [ho, hx, hy]
  go_simp
theorem rem_u8 {a c d : Nat} (h : a % c = d) (h0 : 0 < c) (hb : d < 256) (w : World) (ho : o.op = .binOp .rem 5 x y 5 := by rfl) (hx : ρ x = Nv .u8 a := by kernel_rfl) (hy : ρ y = Nv .u8 c := by kernel_rfl) : (execOp ρ o).run Try.prog w = .ok (.value (Nv .u8 d)) w := by
  have h1 : (a : Int).tmod (c : Int) = (d : Int) := by rw [Int.tmod_eq_emod_of_nonneg (by omega), ← h]; exact (Int.natCast_emod _ _).symm
  have h2 : ¬ c = 0 := by omega
  have h3 : IntKind.u8.wrap (d : Int) = (d : Int) := w_u8 _ hb
  clear h hb
  unfold execOp
  simp only [ho, hx, hy]
  go_simp
theorem quo_u8 {a c d : Nat} (h : a / c = d) (h0 : 0 < c) (hb : d < 256) (w : World) (ho : o.op = .binOp .quo 5 x y 5 := by rfl) (hx : ρ x = Nv .u8 a := by kernel_rfl) (hy : ρ y = Nv .u8 c := by kernel_rfl) : (execOp ρ o).run Try.prog w = .ok (.value (Nv .u8 d)) w := by
  have h1 : (a : Int).tdiv (c : Int) = (d : Int) := by rw [Int.tdiv_eq_ediv_of_nonneg (by omega), ← h]; exact (Int.natCast_ediv _ _).symm
  have h2 : ¬ c = 0 := by omega
  have h3 : IntKind.u8.wrap (d : Int) = (d : Int) := w_u8 _ hb
  clear h hb
  unfold execOp
  simp only [ho, hx, hy]
  go_simp
theorem and_u8 {a c d : Nat} (h : a &&& c = d) (ha : a < 256) (hc : c < 256) (w : World) (ho : o.op = .binOp .and 5 x y 5 := by rfl) (hx : ρ x = Nv .u8 a := by kernel_rfl) (hy : ρ y = Nv .u8 c := by kernel_rfl) : (execOp ρ o).run Try.prog w = .ok (.value (Nv .u8 d)) w := by
  have h1 := (u8_and_nat a c (by omega) (by omega)).trans (congrArg (fun n : Nat => (n : Int)) h)
  unfold execOp
  simp only [ho, hx, hy]
  go_simp
theorem or_u8 {a c d : Nat} (h : a ||| c = d) (ha : a < 256) (hc : c < 256) (w : World) (ho : o.op = .binOp .or 5 x y 5 := by rfl) (hx : ρ x = Nv .u8 a := by kernel_rfl) (hy : ρ y = Nv .u8 c := by kernel_rfl) : (execOp ρ o).run Try.prog w = .ok (.value (Nv .u8 d)) w := by
  have h1 := (u8_or_nat a c (by omega) (by omega)).trans (congrArg (fun n : Nat => (n : Int)) h)
  unfold execOp
  simp only [ho, hx, hy]
  go_simp
theorem xor_u8 {a c d : Nat} (h : a ^^^ c = d) (ha : a < 256) (hc : c < 256) (w : World) (ho : o.op = .binOp .xor 5 x y 5 := by rfl) (hx : ρ x = Nv .u8 a := by kernel_rfl) (hy : ρ y = Nv .u8 c := by kernel_rfl) : (execOp ρ o).run Try.prog w = .ok (.value (Nv .u8 d)) w := by
  have h1 := (u8_xor_nat a c (by omega) (by omega)).trans (congrArg (fun n : Nat => (n : Int)) h)
  unfold execOp
  simp only [ho, hx, hy]
  go_simp
theorem shr_u8_int {a s d : Nat} (h : a / 2 ^ s = d) (hs : s < 8) (w : World) (ho : o.op = .binOp .shr 5 x y 3 := by rfl) (hx : ρ x = Nv .u8 a := by kernel_rfl) (hy : ρ y = Nv .i64 s := by kernel_rfl) : (execOp ρ o).run Try.prog w = .ok (.value (Nv .u8 d)) w := by
  subst h
  have h0 : (0 : Int) ≤ (s : Int) := by omega
  have h3 : (s : Int) < 8 := by omega
  have h4 : min s 8 = s := by omega
  unfold execOp
  simp only [ho, hx, hy]
  go_simp
theorem shl_u8_int {a s d : Nat} (h : a * 2 ^ s % 256 = d) (hs : s < 8) (w : World) (ho : o.op = .binOp .shl 5 x y 3 := by rfl) (hx : ρ x = Nv .u8 a := by kernel_rfl) (hy : ρ y = Nv .i64 s := by kernel_rfl) : (execOp ρ o).run Try.prog w = .ok (.value (Nv .u8 d)) w := by
  have h0 : (0 : Int) ≤ (s : Int) := by omega
  have h3 : (s : Int) < 8 := by omega
  have h1 : IntKind.u8.wrap ((a : Int) * 2 ^ s) = (d : Int) := by rw [show (a : Int) * 2 ^ s = ((a * 2 ^ s : Nat) : Int) by simp, ← h]; exact m_u8 _
  clear h
  unfold execOp
  simp only [ho, hx, hy]
  go_simp
theorem shr_u8_u8 {a s d : Nat} (h : a / 2 ^ s = d) (hs : s < 8) (w : World) (ho : o.op = .binOp .shr 5 x y 5 := by rfl) (hx : ρ x = Nv .u8 a := by kernel_rfl) (hy : ρ y = Nv .u8 s := by kernel_rfl) : (execOp ρ o).run Try.prog w = .ok (.value (Nv .u8 d)) w := by
  subst h
  have h0 : (0 : Int) ≤ (s : Int) := by omega
  have h3 : (s : Int) < 8 := by omega
  have h4 : min s 8 = s := by omega
  unfold execOp
  simp only [ho, hx, hy]
  go_simp
theorem shl_u8_u8 {a s d : Nat} (h : a * 2 ^ s % 256 = d) (hs : s < 8) (w : World) (ho : o.op = .binOp .shl 5 x y 5 := by rfl) (hx : ρ x = Nv .u8 a := by kernel_rfl) (hy : ρ y = Nv .u8 s := by kernel_rfl) : (execOp ρ o).run Try.prog w = .ok (.value (Nv .u8 d)) w := by
  have h0 : (0 : Int) ≤ (s : Int) := by omega
  have h3 : (s : Int) < 8 := by omega
  have h1 : IntKind.u8.wrap ((a : Int) * 2 ^ s) = (d : Int) := by rw [show (a : Int) * 2 ^ s = ((a * 2 ^ s : Nat) : Int) by simp, ← h]; exact m_u8 _
  clear h
  unfold execOp
  simp only [ho, hx, hy]
  go_simp
theorem shr_u8_u32 {a s d : Nat} (h : a / 2 ^ s = d) (hs : s < 8) (w : World) (ho : o.op = .binOp .shr 5 x y 24 := by rfl) (hx : ρ x = Nv .u8 a := by kernel_rfl) (hy : ρ y = Nv .u32 s := by kernel_rfl) : (execOp ρ o).run Try.prog w = .ok (.value (Nv .u8 d)) w := by
  subst h
  have h0 : (0 : Int) ≤ (s : Int) := by omega
  have h3 : (s : Int) < 8 := by omega
  have h4 : min s 8 = s := by omega
  unfold execOp
  simp only [ho, hx, hy]
  go_simp
theorem shl_u8_u32 {a s d : Nat} (h : a * 2 ^ s % 256 = d) (hs : s < 8) (w : World) (ho : o.op = .binOp .shl 5 x y 24 := by rfl) (hx : ρ x = Nv .u8 a := by kernel_rfl) (hy : ρ y = Nv .u32 s := by kernel_rfl) : (execOp ρ o).run Try.prog w = .ok (.value (Nv .u8 d)) w := by
  have h0 : (0 : Int) ≤ (s : Int) := by omega
  have h3 : (s : Int) < 8 := by omega
  have h1 : IntKind.u8.wrap ((a : Int) * 2 ^ s) = (d : Int) := by rw [show (a : Int) * 2 ^ s = ((a * 2 ^ s : Nat) : Int) by simp, ← h]; exact m_u8 _
  clear h
  unfold execOp
  simp only [ho, hx, hy]
  go_simp
theorem shr_u8_u64 {a s d : Nat} (h : a / 2 ^ s = d) (hs : s < 8) (w : World) (ho : o.op = .binOp .shr 5 x y 30 := by rfl) (hx : ρ x = Nv .u8 a := by kernel_rfl) (hy : ρ y = Nv .u64 s := by kernel_rfl) : (execOp ρ o).run Try.prog w = .ok (.value (Nv .u8 d)) w := by
  subst h
  have h0 : (0 : Int) ≤ (s : Int) := by omega
  have h3 : (s : Int) < 8 := by omega
  have h4 : min s 8 = s := by omega
  unfold execOp
  simp only [ho, hx, hy]
  go_simp
theorem shl_u8_u64 {a s d : Nat} (h : a * 2 ^ s % 256 = d) (hs : s < 8) (w : World) (ho : o.op = .binOp .shl 5 x y 30 := by rfl) (hx : ρ x = Nv .u8 a := by kernel_rfl) (hy : ρ y = Nv .u64 s := by kernel_rfl) : (execOp ρ o).run Try.prog w = .ok (.value (Nv .u8 d)) w := by
  have h0 : (0 : Int) ≤ (s : Int) := by omega
  have h3 : (s : Int) < 8 := by omega
  have h1 : IntKind.u8.wrap ((a : Int) * 2 ^ s) = (d : Int) := by rw [show (a : Int) * 2 ^ s = ((a * 2 ^ s : Nat) : Int) by simp, ← h]; exact m_u8 _
  clear h
  unfold execOp
  simp only [ho, hx, hy]
  go_simp
theorem shr_u8_uint {a s d : Nat} (h : a / 2 ^ s = d) (hs : s < 8) (w : World) (ho : o.op = .binOp .shr 5 x y 29 := by rfl) (hx : ρ x = Nv .u8 a := by kernel_rfl) (hy : ρ y = Nv .u64 s := by kernel_rfl) : (execOp ρ o).run Try.prog w = .ok (.value (Nv .u8 d)) w := by
  subst h
  have h0 : (0 : Int) ≤ (s : Int) := by omega
  have h3 : (s : Int) < 8 := by omega
  have h4 : min s 8 = s := by omega
  unfold execOp
  simp only [ho, hx, hy]
  go_simp
theorem shl_u8_uint {a s d : Nat} (h : a * 2 ^ s % 256 = d) (hs : s < 8) (w : World) (ho : o.op = .binOp .shl 5 x y 29 := by rfl) (hx : ρ x = Nv .u8 a := by kernel_rfl) (hy : ρ y = Nv .u64 s := by kernel_rfl) : (execOp ρ o).run Try.prog w = .ok (.value (Nv .u8 d)) w := by
  have h0 : (0 : Int) ≤ (s : Int) := by omega
  have h3 : (s : Int) < 8 := by omega
  have h1 : IntKind.u8.wrap ((a : Int) * 2 ^ s) = (d : Int) := by rw [show (a : Int) * 2 ^ s = ((a * 2 ^ s : Nat) : Int) by simp, ← h]; exact m_u8 _
  clear h
  unfold execOp
  simp only [ho, hx, hy]
  go_simp
theorem eql_u16 {a c : Nat} {b : Bool} (h : decide (a = c) = b) (w : World) (ho : o.op = .binOp .eql 66 x y 66 := by rfl) (hx : ρ x = Nv .u16 a := by kernel_rfl) (hy : ρ y = Nv .u16 c := by kernel_rfl) : (execOp ρ o).run Try.prog w = .ok (.value (.bool b)) w := by
  subst h
  unfold execOp
  simp only [ho, hx, hy]
  by_cases h : a = c
  · rw [decide_eq_true h]; have h2 : (a : Int) = (c : Int) := (by omega); go_simp
  · rw [decide_eq_false h]; have h2 : ¬ (a : Int) = (c : Int) := (by omega); go_simp
theorem neq_u16 {a c : Nat} {b : Bool} (h : decide (a ≠ c) = b) (w : World) (ho : o.op = .binOp .neq 66 x y 66 := by rfl) (hx : ρ x = Nv .u16 a := by kernel_rfl) (hy : ρ y = Nv .u16 c := by kernel_rfl) : (execOp ρ o).run Try.prog w = .ok (.value (.bool b)) w := by
  subst h
  unfold execOp
  simp only [ho, hx, hy]
  by_cases h : a ≠ c
  · rw [decide_eq_true h]; have h2 : ¬ (a : Int) = (c : Int) := (by omega); go_simp
  · rw [decide_eq_false h]; have h2 : (a : Int) = (c : Int) := (by omega); go_simp
theorem lss_u16 {a c : Nat} {b : Bool} (h : decide (a < c) = b) (w : World) (ho : o.op = .binOp .lss 66 x y 66 := by rfl) (hx : ρ x = Nv .u16 a := by kernel_rfl) (hy : ρ y = Nv .u16 c := by kernel_rfl) : (execOp ρ o).run Try.prog w = .ok (.value (.bool b)) w := by
  subst h
  unfold execOp
  simp only [ho, hx, hy]
  by_cases h : a < c
  · rw [decide_eq_true h]; go_simp
  · rw [decide_eq_false h]; go_simp
theorem leq_u16 {a c : Nat} {b : Bool} (h : decide (a ≤ c) = b) (w : World) (ho : o.op = .binOp .leq 66 x y 66 := by rfl) (hx : ρ x = Nv .u16 a := by kernel_rfl) (hy : ρ y = Nv .u16 c := by kernel_rfl) : (execOp ρ o).run Try.prog w = .ok (.value (.bool b)) w := by
  subst h
  unfold execOp
  simp only [ho, hx, hy]
  by_cases h : a ≤ c
  · rw [decide_eq_true h]; go_simp
  · rw [decide_eq_false h]; go_simp
theorem gtr_u16 {a c : Nat} {b : Bool} (h : decide (c < a) = b) (w : World) (ho : o.op = .binOp .gtr 66 x y 66 := by rfl) (hx : ρ x = Nv .u16 a := by kernel_rfl) (hy : ρ y = Nv .u16 c := by kernel_rfl) : (execOp ρ o).run Try.prog w = .ok (.value (.bool b)) w := by
  subst h
  unfold execOp
  simp only [ho, hx, hy]
  by_cases h : c < a
  · rw [decide_eq_true h]; go_simp
  · rw [decide_eq_false h]; go_simp
theorem geq_u16 {a c : Nat} {b : Bool} (h : decide (c ≤ a) = b) (w : World) (ho : o.op = .binOp .geq 66 x y 66 := by rfl) (hx : ρ x = Nv .u16 a := by kernel_rfl) (hy : ρ y = Nv .u16 c := by kernel_rfl) : (execOp ρ o).run Try.prog w = .ok (.value (.bool b)) w := by
  subst h
  unfold execOp
  simp only [ho, hx, hy]
  by_cases h : c ≤ a
  · rw [decide_eq_true h]; go_simp
  · rw [decide_eq_false h]; go_simp
theorem add_u16 {a c d : Nat} (h : a + c = d) (hb : d < 65536) (w : World) (ho : o.op = .binOp .add 66 x y 66 := by rfl) (hx : ρ x = Nv .u16 a := by kernel_rfl) (hy : ρ y = Nv .u16 c := by kernel_rfl) : (execOp ρ o).run Try.prog w = .ok (.value (Nv .u16 d)) w := by
  subst h
  have h1 : IntKind.u16.wrap ((a : Int) + (c : Int)) = (a : Int) + (c : Int) := by rw [← Int.natCast_add]; exact w_u16 _ hb
  unfold execOp
  simp only [ho, hx, hy]
  go_simp
theorem addw_u16 {a c d : Nat} (h : (a + c) % 65536 = d) (w : World) (ho : o.op = .binOp .add 66 x y 66 := by rfl) (hx : ρ x = Nv .u16 a := by kernel_rfl) (hy : ρ y = Nv .u16 c := by kernel_rfl) : (execOp ρ o).run Try.prog w = .ok (.value (Nv .u16 d)) w := by
  subst h
  have h1 : IntKind.u16.wrap ((a : Int) + (c : Int)) = (((a + c) % 65536 : Nat) : Int) := by rw [← Int.natCast_add]; exact m_u16 _
  unfold execOp
  simp only [ho, hx, hy]
  go_simp
theorem sub_u16 {a c d : Nat} (h : d + c = a) (hb : a < 65536) (w : World) (ho : o.op = .binOp .sub 66 x y 66 := by rfl) (hx : ρ x = Nv .u16 a := by kernel_rfl) (hy : ρ y = Nv .u16 c := by kernel_rfl) : (execOp ρ o).run Try.prog w = .ok (.value (Nv .u16 d)) w := by
  have h1 : IntKind.u16.wrap ((a : Int) - (c : Int)) = (d : Int) := by rw [show (a : Int) - (c : Int) = (d : Int) by omega]; exact w_u16 _ (by omega)
  unfold execOp
  simp only [ho, hx, hy]
  go_simp
theorem mul_u16 {a c d : Nat} (h : a * c = d) (hb : d < 65536) (w : World) (ho : o.op = .binOp .mul 66 x y 66 := by rfl) (hx : ρ x = Nv .u16 a := by kernel_rfl) (hy : ρ y = Nv .u16 c := by kernel_rfl) : (execOp ρ o).run Try.prog w = .ok (.value (Nv .u16 d)) w := by
  have h1 : IntKind.u16.wrap ((a : Int) * (c : Int)) = (d : Int) := by rw [← Int.natCast_mul, h]; exact w_u16 _ hb
  unfold execOp
  simp only [ho, hx, hy]
  go_simp
theorem rem_u16 {a c d : Nat} (h : a % c = d) (h0 : 0 < c) (hb : d < 65536) (w : World) (ho : o.op = .binOp .rem 66 x y 66 := by rfl) (hx : ρ x = Nv .u16 a := by kernel_rfl) (hy : ρ y = Nv .u16 c := by kernel_rfl) : (execOp ρ o).run Try.prog w = .ok (.value (Nv .u16 d)) w := by
  have h1 : (a : Int).tmod (c : Int) = (d : Int) := by rw [Int.tmod_eq_emod_of_nonneg (by omega), ← h]; exact (Int.natCast_emod _ _).symm
  have h2 : ¬ c = 0 := by omega
  have h3 : IntKind.u16.wrap (d : Int) = (d : Int) := w_u16 _ hb
  clear h hb
  unfold execOp
  simp only [ho, hx, hy]
  go_simp
theorem quo_u16 {a c d : Nat} (h : a / c = d) (h0 : 0 < c) (hb : d < 65536) (w : World) (ho : o.op = .binOp .quo 66 x y 66 := by rfl) (hx : ρ x = Nv .u16 a := by kernel_rfl) (hy : ρ y = Nv .u16 c := by kernel_rfl) : (execOp ρ o).run Try.prog w = .ok (.value (Nv .u16 d)) w := by
  have h1 : (a : Int).tdiv (c : Int) = (d : Int) := by rw [Int.tdiv_eq_ediv_of_nonneg (by omega), ← h]; exact (Int.natCast_ediv _ _).symm
  have h2 : ¬ c = 0 := by omega
  have h3 : IntKind.u16.wrap (d : Int) = (d : Int) := w_u16 _ hb
  clear h hb
  unfold execOp
  simp only [ho, hx, hy]
  go_simp
theorem shr_u16_int {a s d : Nat} (h : a / 2 ^ s = d) (hs : s < 16) (w : World) (ho : o.op = .binOp .shr 66 x y 3 := by rfl) (hx : ρ x = Nv .u16 a := by kernel_rfl) (hy : ρ y = Nv .i64 s := by kernel_rfl) : (execOp ρ o).run Try.prog w = .ok (.value (Nv .u16 d)) w := by
  subst h
  have h0 : (0 : Int) ≤ (s : Int) := by omega
  have h3 : (s : Int) < 16 := by omega
  have h4 : min s 16 = s := by omega
  unfold execOp
  simp only [ho, hx, hy]
  go_simp
theorem shl_u16_int {a s d : Nat} (h : a * 2 ^ s % 65536 = d) (hs : s < 16) (w : World) (ho : o.op = .binOp .shl 66 x y 3 := by rfl) (hx : ρ x = Nv .u16 a := by kernel_rfl) (hy : ρ y = Nv .i64 s := by kernel_rfl) : (execOp ρ o).run Try.prog w = .ok (.value (Nv .u16 d)) w := by
  have h0 : (0 : Int) ≤ (s : Int) := by omega
  have h3 : (s : Int) < 16 := by omega
  have h1 : IntKind.u16.wrap ((a : Int) * 2 ^ s) = (d : Int) := by rw [show (a : Int) * 2 ^ s = ((a * 2 ^ s : Nat) : Int) by simp, ← h]; exact m_u16 _
  clear h
  unfold execOp
  simp only [ho, hx, hy]
  go_simp
theorem shr_u16_u8 {a s d : Nat} (h : a / 2 ^ s = d) (hs : s < 16) (w : World) (ho : o.op = .binOp .shr 66 x y 5 := by rfl) (hx : ρ x = Nv .u16 a := by kernel_rfl) (hy : ρ y = Nv .u8 s := by kernel_rfl) : (execOp ρ o).run Try.prog w = .ok (.value (Nv .u16 d)) w := by
  subst h
  have h0 : (0 : Int) ≤ (s : Int) := by omega
  have h3 : (s : Int) < 16 := by omega
  have h4 : min s 16 = s := by omega
  unfold execOp
  simp only [ho, hx, hy]
  go_simp
theorem shl_u16_u8 {a s d : Nat} (h : a * 2 ^ s % 65536 = d) (hs : s < 16) (w : World) (ho : o.op = .binOp .shl 66 x y 5 := by rfl) (hx : ρ x = Nv .u16 a := by kernel_rfl) (hy : ρ y = Nv .u8 s := by kernel_rfl) : (execOp ρ o).run Try.prog w = .ok (.value (Nv .u16 d)) w := by
  have h0 : (0 : Int) ≤ (s : Int) := by omega
  have h3 : (s : Int) < 16 := by omega
  have h1 : IntKind.u16.wrap ((a : Int) * 2 ^ s) = (d : Int) := by rw [show (a : Int) * 2 ^ s = ((a * 2 ^ s : Nat) : Int) by simp, ← h]; exact m_u16 _
  clear h
  unfold execOp
  simp only [ho, hx, hy]
  go_simp
theorem shr_u16_u32 {a s d : Nat} (h : a / 2 ^ s = d) (hs : s < 16) (w : World) (ho : o.op = .binOp .shr 66 x y 24 := by rfl) (hx : ρ x = Nv .u16 a := by kernel_rfl) (hy : ρ y = Nv .u32 s := by kernel_rfl) : (execOp ρ o).run Try.prog w = .ok (.value (Nv .u16 d)) w := by
  subst h
  have h0 : (0 : Int) ≤ (s : Int) := by omega
  have h3 : (s : Int) < 16 := by omega
  have h4 : min s 16 = s := by omega
  unfold execOp
  simp only [ho, hx, hy]
  go_simp
theorem shl_u16_u32 {a s d : Nat} (h : a * 2 ^ s % 65536 = d) (hs : s < 16) (w : World) (ho : o.op = .binOp .shl 66 x y 24 := by rfl) (hx : ρ x = Nv .u16 a := by kernel_rfl) (hy : ρ y = Nv .u32 s := by kernel_rfl) : (execOp ρ o).run Try.prog w = .ok (.value (Nv .u16 d)) w := by
  have h0 : (0 : Int) ≤ (s : Int) := by omega
  have h3 : (s : Int) < 16 := by omega
  have h1 : IntKind.u16.wrap ((a : Int) * 2 ^ s) = (d : Int) := by rw [show (a : Int) * 2 ^ s = ((a * 2 ^ s : Nat) : Int) by simp, ← h]; exact m_u16 _
  clear h
  unfold execOp
  simp only [ho, hx, hy]
  go_simp
theorem shr_u16_u64 {a s d : Nat} (h : a / 2 ^ s = d) (hs : s < 16) (w : World) (ho : o.op = .binOp .shr 66 x y 30 := by rfl) (hx : ρ x = Nv .u16 a := by kernel_rfl) (hy : ρ y = Nv .u64 s := by kernel_rfl) : (execOp ρ o).run Try.prog w = .ok (.value (Nv .u16 d)) w := by
  subst h
  have h0 : (0 : Int) ≤ (s : Int) := by omega
  have h3 : (s : Int) < 16 := by omega
  have h4 : min s 16 = s := by omega
  unfold execOp
  simp only [ho, hx, hy]
  go_simp
theorem shl_u16_u64 {a s d : Nat} (h : a * 2 ^ s % 65536 = d) (hs : s < 16) (w : World) (ho : o.op = .binOp .shl 66 x y 30 := by rfl) (hx : ρ x = Nv .u16 a := by kernel_rfl) (hy : ρ y = Nv .u64 s := by kernel_rfl) : (execOp ρ o).run Try.prog w = .ok (.value (Nv .u16 d)) w := by
  have h0 : (0 : Int) ≤ (s : Int) := by omega
  have h3 : (s : Int) < 16 := by omega
  have h1 : IntKind.u16.wrap ((a : Int) * 2 ^ s) = (d : Int) := by rw [show (a : Int) * 2 ^ s = ((a * 2 ^ s : Nat) : Int) by simp, ← h]; exact m_u16 _
  clear h
  unfold execOp
  simp only [ho, hx, hy]
  go_simp
theorem shr_u16_uint {a s d : Nat} (h : a / 2 ^ s = d) (hs : s < 16) (w : World) (ho : o.op = .binOp .shr 66 x y 29 := by rfl) (hx : ρ x = Nv .u16 a := by kernel_rfl) (hy : ρ y = Nv .u64 s := by kernel_rfl) : (execOp ρ o).run Try.prog w = .ok (.value (Nv .u16 d)) w := by
  subst h
  have h0 : (0 : Int) ≤ (s : Int) := by omega
  have h3 : (s : Int) < 16 := by omega
  have h4 : min s 16 = s := by omega
  unfold execOp
  simp only [ho, hx, hy]
  go_simp
theorem shl_u16_uint {a s d : Nat} (h : a * 2 ^ s % 65536 = d) (hs : s < 16) (w : World) (ho : o.op = .binOp .shl 66 x y 29 := by rfl) (hx : ρ x = Nv .u16 a := by kernel_rfl) (hy : ρ y = Nv .u64 s := by kernel_rfl) : (execOp ρ o).run Try.prog w = .ok (.value (Nv .u16 d)) w := by
  have h0 : (0 : Int) ≤ (s : Int) := by omega
  have h3 : (s : Int) < 16 := by omega
  have h1 : IntKind.u16.wrap ((a : Int) * 2 ^ s) = (d : Int) := by rw [show (a : Int) * 2 ^ s = ((a * 2 ^ s : Nat) : Int) by simp, ← h]; exact m_u16 _
  clear h
  unfold execOp
  simp only [ho, hx, hy]
  go_simp
theorem eql_u32 {a c : Nat} {b : Bool} (h : decide (a = c) = b) (w : World) (ho : o.op = .binOp .eql 24 x y 24 := by rfl) (hx : ρ x = Nv .u32 a := by kernel_rfl) (hy : ρ y = Nv .u32 c := by kernel_rfl) : (execOp ρ o).run Try.prog w = .ok (.value (.bool b)) w := by
  subst h
  unfold execOp
  simp only [ho, hx, hy]
  by_cases h : a = c
  · rw [decide_eq_true h]; have h2 : (a : Int) = (c : Int) := (by omega); go_simp
  · rw [decide_eq_false h]; have h2 : ¬ (a : Int) = (c : Int) := (by omega); go_simp
theorem neq_u32 {a c : Nat} {b : Bool} (h : decide (a ≠ c) = b) (w : World) (ho : o.op = .binOp .neq 24 x y 24 := by rfl) (hx : ρ x = Nv .u32 a := by kernel_rfl) (hy : ρ y = Nv .u32 c := by kernel_rfl) : (execOp ρ o).run Try.prog w = .ok (.value (.bool b)) w := by
  subst h
  unfold execOp
  simp only [ho, hx, hy]
  by_cases h : a ≠ c
  · rw [decide_eq_true h]; have h2 : ¬ (a : Int) = (c : Int) := (by omega); go_simp
  · rw [decide_eq_false h]; have h2 : (a : Int) = (c : Int) := (by omega); go_simp
theorem lss_u32 {a c : Nat} {b : Bool} (h : decide (a < c) = b) (w : World) (ho : o.op = .binOp .lss 24 x y 24 := by rfl) (hx : ρ x = Nv .u32 a := by kernel_rfl) (hy : ρ y = Nv .u32 c := by kernel_rfl) : (execOp ρ o).run Try.prog w = .ok (.value (.bool b)) w := by
  subst h
  unfold execOp
  simp only [ho, hx, hy]
  by_cases h : a < c
  · rw [decide_eq_true h]; go_simp
  · rw [decide_eq_false h]; go_simp
theorem leq_u32 {a c : Nat} {b : Bool} (h : decide (a ≤ c) = b) (w : World) (ho : o.op = .binOp .leq 24 x y 24 := by rfl) (hx : ρ x = Nv .u32 a := by kernel_rfl) (hy : ρ y = Nv .u32 c := by kernel_rfl) : (execOp ρ o).run Try.prog w = .ok (.value (.bool b)) w := by
  subst h
  unfold execOp
  simp only [ho, hx, hy]
  by_cases h : a ≤ c
  · rw [decide_eq_true h]; go_simp
  · rw [decide_eq_false h]; go_simp
theorem gtr_u32 {a c : Nat} {b : Bool} (h : decide (c < a) = b) (w : World) (ho : o.op = .binOp .gtr 24 x y 24 := by rfl) (hx : ρ x = Nv .u32 a := by kernel_rfl) (hy : ρ y = Nv .u32 c := by kernel_rfl) : (execOp ρ o).run Try.prog w = .ok (.value (.bool b)) w := by
  subst h
  unfold execOp
  simp only [ho, hx, hy]
  by_cases h : c < a
  · rw [decide_eq_true h]; go_simp
  · rw [decide_eq_false h]; go_simp
theorem geq_u32 {a c : Nat} {b : Bool} (h : decide (c ≤ a) = b) (w : World) (ho : o.op = .binOp .geq 24 x y 24 := by rfl) (hx : ρ x = Nv .u32 a := by kernel_rfl) (hy : ρ y = Nv .u32 c := by kernel_rfl) : (execOp ρ o).run Try.prog w = .ok (.value (.bool b)) w := by
  subst h
  unfold execOp
  simp only [ho, hx, hy]
  by_cases h : c ≤ a
  · rw [decide_eq_true h]; go_simp
  · rw [decide_eq_false h]; go_simp
theorem add_u32 {a c d : Nat} (h : a + c = d) (hb : d < 4294967296) (w : World) (ho : o.op = .binOp .add 24 x y 24 := by rfl) (hx : ρ x = Nv .u32 a := by kernel_rfl) (hy : ρ y = Nv .u32 c := by kernel_rfl) : (execOp ρ o).run Try.prog w = .ok (.value (Nv .u32 d)) w := by
  subst h
  have h1 : IntKind.u32.wrap ((a : Int) + (c : Int)) = (a : Int) + (c : Int) := by rw [← Int.natCast_add]; exact w_u32 _ hb
  unfold execOp
  simp only [ho, hx, hy]
  go_simp
theorem addw_u32 {a c d : Nat} (h : (a + c) % 4294967296 = d) (w : World) (ho : o.op = .binOp .add 24 x y 24 := by rfl) (hx : ρ x = Nv .u32 a := by kernel_rfl) (hy : ρ y = Nv .u32 c := by kernel_rfl) : (execOp ρ o).run Try.prog w = .ok (.value (Nv .u32 d)) w := by
  subst h
  have h1 : IntKind.u32.wrap ((a : Int) + (c : Int)) = (((a + c) % 4294967296 : Nat) : Int) := by rw [← Int.natCast_add]; exact m_u32 _
  unfold execOp
  simp only [ho, hx, hy]
  go_simp
theorem sub_u32 {a c d : Nat} (h : d + c = a) (hb : a < 4294967296) (w : World) (ho : o.op = .binOp .sub 24 x y 24 := by rfl) (hx : ρ x = Nv .u32 a := by kernel_rfl) (hy : ρ y = Nv .u32 c := by kernel_rfl) : (execOp ρ o).run Try.prog w = .ok (.value (Nv .u32 d)) w := by
  have h1 : IntKind.u32.wrap ((a : Int) - (c : Int)) = (d : Int) := by rw [show (a : Int) - (c : Int) = (d : Int) by omega]; exact w_u32 _ (by omega)
  unfold execOp
  simp only [ho, hx, hy]
  go_simp
theorem mul_u32 {a c d : Nat} (h : a * c = d) (hb : d < 4294967296) (w : World) (ho : o.op = .binOp .mul 24 x y 24 := by rfl) (hx : ρ x = Nv .u32 a := by kernel_rfl) (hy : ρ y = Nv .u32 c := by kernel_rfl) : (execOp ρ o).run Try.prog w = .ok (.value (Nv .u32 d)) w := by
  have h1 : IntKind.u32.wrap ((a : Int) * (c : Int)) = (d : Int) := by rw [← Int.natCast_mul, h]; exact w_u32 _ hb
  unfold execOp
  simp only [ho, hx, hy]
  go_simp
theorem rem_u32 {a c d : Nat} (h : a % c = d) (h0 : 0 < c) (hb : d < 4294967296) (w : World) (ho : o.op = .binOp .rem 24 x y 24 := by rfl) (hx : ρ x = Nv .u32 a := by kernel_rfl) (hy : ρ y = Nv .u32 c := by kernel_rfl) : (execOp ρ o).run Try.prog w = .ok (.value (Nv .u32 d)) w := by
  have h1 : (a : Int).tmod (c : Int) = (d : Int) := by rw [Int.tmod_eq_emod_of_nonneg (by omega), ← h]; exact (Int.natCast_emod _ _).symm
  have h2 : ¬ c = 0 := by omega
  have h3 : IntKind.u32.wrap (d : Int) = (d : Int) := w_u32 _ hb
  clear h hb
  unfold execOp
  simp only [ho, hx, hy]
  go_simp
theorem quo_u32 {a c d : Nat} (h : a / c = d) (h0 : 0 < c) (hb : d < 4294967296) (w : World) (ho : o.op = .binOp .quo 24 x y 24 := by rfl) (hx : ρ x = Nv .u32 a := by kernel_rfl) (hy : ρ y = Nv .u32 c := by kernel_rfl) : (execOp ρ o).run Try.prog w = .ok (.value (Nv .u32 d)) w := by
  have h1 : (a : Int).tdiv (c : Int) = (d : Int) := by rw [Int.tdiv_eq_ediv_of_nonneg (by omega), ← h]; exact (Int.natCast_ediv _ _).symm
  have h2 : ¬ c = 0 := by omega
  have h3 : IntKind.u32.wrap (d : Int) = (d : Int) := w_u32 _ hb
  clear h hb
  unfold execOp
  simp only [ho, hx, hy]
  go_simp
theorem and_u32 {a c d : Nat} (h : a &&& c = d) (ha : a < 4294967296) (hc : c < 4294967296) (w : World) (ho : o.op = .binOp .and 24 x y 24 := by rfl) (hx : ρ x = Nv .u32 a := by kernel_rfl) (hy : ρ y = Nv .u32 c := by kernel_rfl) : (execOp ρ o).run Try.prog w = .ok (.value (Nv .u32 d)) w := by
  have h1 := (u32_and_nat a c (by omega) (by omega)).trans (congrArg (fun n : Nat => (n : Int)) h)
  unfold execOp
  simp only [ho, hx, hy]
  go_simp
theorem or_u32 {a c d : Nat} (h : a ||| c = d) (ha : a < 4294967296) (hc : c < 4294967296) (w : World) (ho : o.op = .binOp .or 24 x y 24 := by rfl) (hx : ρ x = Nv .u32 a := by kernel_rfl) (hy : ρ y = Nv .u32 c := by kernel_rfl) : (execOp ρ o).run Try.prog w = .ok (.value (Nv .u32 d)) w := by
  have h1 := (u32_or_nat a c (by omega) (by omega)).trans (congrArg (fun n : Nat => (n : Int)) h)
  unfold execOp
  simp only [ho, hx, hy]
  go_simp
theorem xor_u32 {a c d : Nat} (h : a ^^^ c = d) (ha : a < 4294967296) (hc : c < 4294967296) (w : World) (ho : o.op = .binOp .xor 24 x y 24 := by rfl) (hx : ρ x = Nv .u32 a := by kernel_rfl) (hy : ρ y = Nv .u32 c := by kernel_rfl) : (execOp ρ o).run Try.prog w = .ok (.value (Nv .u32 d)) w := by
  have h1 := (u32_xor_nat a c (by omega) (by omega)).trans (congrArg (fun n : Nat => (n : Int)) h)
  unfold execOp
  simp only [ho, hx, hy]
  go_simp
theorem shr_u32_int {a s d : Nat} (h : a / 2 ^ s = d) (hs : s < 32) (w : World) (ho : o.op = .binOp .shr 24 x y 3 := by rfl) (hx : ρ x = Nv .u32 a := by kernel_rfl) (hy : ρ y = Nv .i64 s := by kernel_rfl) : (execOp ρ o).run Try.prog w = .ok (.value (Nv .u32 d)) w := by
  subst h
  have h0 : (0 : Int) ≤ (s : Int) := by omega
  have h3 : (s : Int) < 32 := by omega
  have h4 : min s 32 = s := by omega
  unfold execOp
  simp only [ho, hx, hy]
  go_simp
theorem shl_u32_int {a s d : Nat} (h : a * 2 ^ s % 4294967296 = d) (hs : s < 32) (w : World) (ho : o.op = .binOp .shl 24 x y 3 := by rfl) (hx : ρ x = Nv .u32 a := by kernel_rfl) (hy : ρ y = Nv .i64 s := by kernel_rfl) : (execOp ρ o).run Try.prog w = .ok (.value (Nv .u32 d)) w := by
  have h0 : (0 : Int) ≤ (s : Int) := by omega
  have h3 : (s : Int) < 32 := by omega
  have h1 : IntKind.u32.wrap ((a : Int) * 2 ^ s) = (d : Int) := by rw [show (a : Int) * 2 ^ s = ((a * 2 ^ s : Nat) : Int) by simp, ← h]; exact m_u32 _
  clear h
  unfold execOp
  simp only [ho, hx, hy]
  go_simp
theorem shr_u32_u8 {a s d : Nat} (h : a / 2 ^ s = d) (hs : s < 32) (w : World) (ho : o.op = .binOp .shr 24 x y 5 := by rfl) (hx : ρ x = Nv .u32 a := by kernel_rfl) (hy : ρ y = Nv .u8 s := by kernel_rfl) : (execOp ρ o).run Try.prog w = .ok (.value (Nv .u32 d)) w := by
  subst h
  have h0 : (0 : Int) ≤ (s : Int) := by omega
  have h3 : (s : Int) < 32 := by omega
  have h4 : min s 32 = s := by omega
  unfold execOp
  simp only [ho, hx, hy]
  go_simp
theorem shl_u32_u8 {a s d : Nat} (h : a * 2 ^ s % 4294967296 = d) (hs : s < 32) (w : World) (ho : o.op = .binOp .shl 24 x y 5 := by rfl) (hx : ρ x = Nv .u32 a := by kernel_rfl) (hy : ρ y = Nv .u8 s := by kernel_rfl) : (execOp ρ o).run Try.prog w = .ok (.value (Nv .u32 d)) w := by
  have h0 : (0 : Int) ≤ (s : Int) := by omega
  have h3 : (s : Int) < 32 := by omega
  have h1 : IntKind.u32.wrap ((a : Int) * 2 ^ s) = (d : Int) := by rw [show (a : Int) * 2 ^ s = ((a * 2 ^ s : Nat) : Int) by simp, ← h]; exact m_u32 _
  clear h
  unfold execOp
  simp only [ho, hx, hy]
  go_simp
theorem shr_u32_u32 {a s d : Nat} (h : a / 2 ^ s = d) (hs : s < 32) (w : World) (ho : o.op = .binOp .shr 24 x y 24 := by rfl) (hx : ρ x = Nv .u32 a := by kernel_rfl) (hy : ρ y = Nv .u32 s := by kernel_rfl) : (execOp ρ o).run Try.prog w = .ok (.value (Nv .u32 d)) w := by
  subst h
  have h0 : (0 : Int) ≤ (s : Int) := by omega
  have h3 : (s : Int) < 32 := by omega
  have h4 : min s 32 = s := by omega
  unfold execOp
  simp only [ho, hx, hy]
  go_simp
theorem shl_u32_u32 {a s d : Nat} (h : a * 2 ^ s % 4294967296 = d) (hs : s < 32) (w : World) (ho : o.op = .binOp .shl 24 x y 24 := by rfl) (hx : ρ x = Nv .u32 a := by kernel_rfl) (hy : ρ y = Nv .u32 s := by kernel_rfl) : (execOp ρ o).run Try.prog w = .ok (.value (Nv .u32 d)) w := by
  have h0 : (0 : Int) ≤ (s : Int) := by omega
  have h3 : (s : Int) < 32 := by omega
  have h1 : IntKind.u32.wrap ((a : Int) * 2 ^ s) = (d : Int) := by rw [show (a : Int) * 2 ^ s = ((a * 2 ^ s : Nat) : Int) by simp, ← h]; exact m_u32 _
  clear h
  unfold execOp
  simp only [ho, hx, hy]
  go_simp
theorem shr_u32_u64 {a s d : Nat} (h : a / 2 ^ s = d) (hs : s < 32) (w : World) (ho : o.op = .binOp .shr 24 x y 30 := by rfl) (hx : ρ x = Nv .u32 a := by kernel_rfl) (hy : ρ y = Nv .u64 s := by kernel_rfl) : (execOp ρ o).run Try.prog w = .ok (.value (Nv .u32 d)) w := by
  subst h
  have h0 : (0 : Int) ≤ (s : Int) := by omega
  have h3 : (s : Int) < 32 := by omega
  have h4 : min s 32 = s := by omega
  unfold execOp
  simp only [ho, hx, hy]
  go_simp
theorem shl_u32_u64 {a s d : Nat} (h : a * 2 ^ s % 4294967296 = d) (hs : s < 32) (w : World) (ho : o.op = .binOp .shl 24 x y 30 := by rfl) (hx : ρ x = Nv .u32 a := by kernel_rfl) (hy : ρ y = Nv .u64 s := by kernel_rfl) : (execOp ρ o).run Try.prog w = .ok (.value (Nv .u32 d)) w := by
  have h0 : (0 : Int) ≤ (s : Int) := by omega
  have h3 : (s : Int) < 32 := by omega
  have h1 : IntKind.u32.wrap ((a : Int) * 2 ^ s) = (d : Int) := by rw [show (a : Int) * 2 ^ s = ((a * 2 ^ s : Nat) : Int) by simp, ← h]; exact m_u32 _
  clear h
  unfold execOp
  simp only [ho, hx, hy]
  go_simp
theorem shr_u32_uint {a s d : Nat} (h : a / 2 ^ s = d) (hs : s < 32) (w : World) (ho : o.op = .binOp .shr 24 x y 29 := by rfl) (hx : ρ x = Nv .u32 a := by kernel_rfl) (hy : ρ y = Nv .u64 s := by kernel_rfl) : (execOp ρ o).run Try.prog w = .ok (.value (Nv .u32 d)) w := by
  subst h
  have h0 : (0 : Int) ≤ (s : Int) := by omega
  have h3 : (s : Int) < 32 := by omega
  have h4 : min s 32 = s := by omega
  unfold execOp
  simp only [ho, hx, hy]
  go_simp
theorem shl_u32_uint {a s d : Nat} (h : a * 2 ^ s % 4294967296 = d) (hs : s < 32) (w : World) (ho : o.op = .binOp .shl 24 x y 29 := by rfl) (hx : ρ x = Nv .u32 a := by kernel_rfl) (hy : ρ y = Nv .u64 s := by kernel_rfl) : (execOp ρ o).run Try.prog w = .ok (.value (Nv .u32 d)) w := by
  have h0 : (0 : Int) ≤ (s : Int) := by omega
  have h3 : (s : Int) < 32 := by omega
  have h1 : IntKind.u32.wrap ((a : Int) * 2 ^ s) = (d : Int) := by rw [show (a : Int) * 2 ^ s = ((a * 2 ^ s : Nat) : Int) by simp, ← h]; exact m_u32 _
  clear h
  unfold execOp
  simp only [ho, hx, hy]
  go_simp
theorem eql_u64 {a c : Nat} {b : Bool} (h : decide (a = c) = b) (w : World) (ho : o.op = .binOp .eql 30 x y 30 := by rfl) (hx : ρ x = Nv .u64 a := by kernel_rfl) (hy : ρ y = Nv .u64 c := by kernel_rfl) : (execOp ρ o).run Try.prog w = .ok (.value (.bool b)) w := by
  subst h
  unfold execOp
  simp only [ho, hx, hy]
  by_cases h : a = c
  · rw [decide_eq_true h]; have h2 : (a : Int) = (c : Int) := (by omega); go_simp
  · rw [decide_eq_false h]; have h2 : ¬ (a : Int) = (c : Int) := (by omega); go_simp
theorem neq_u64 {a c : Nat} {b : Bool} (h : decide (a ≠ c) = b) (w : World) (ho : o.op = .binOp .neq 30 x y 30 := by rfl) (hx : ρ x = Nv .u64 a := by kernel_rfl) (hy : ρ y = Nv .u64 c := by kernel_rfl) : (execOp ρ o).run Try.prog w = .ok (.value (.bool b)) w := by
  subst h
  unfold execOp
  simp only [ho, hx, hy]
  by_cases h : a ≠ c
  · rw [decide_eq_true h]; have h2 : ¬ (a : Int) = (c : Int) := (by omega); go_simp
  · rw [decide_eq_false h]; have h2 : (a : Int) = (c : Int) := (by omega); go_simp
theorem lss_u64 {a c : Nat} {b : Bool} (h : decide (a < c) = b) (w : World) (ho : o.op = .binOp .lss 30 x y 30 := by rfl) (hx : ρ x = Nv .u64 a := by kernel_rfl) (hy : ρ y = Nv .u64 c := by kernel_rfl) : (execOp ρ o).run Try.prog w = .ok (.value (.bool b)) w := by
  subst h
  unfold execOp
  simp only [ho, hx, hy]
  by_cases h : a < c
  · rw [decide_eq_true h]; go_simp
  · rw [decide_eq_false h]; go_simp
theorem leq_u64 {a c : Nat} {b : Bool} (h : decide (a ≤ c) = b) (w : World) (ho : o.op = .binOp .leq 30 x y 30 := by rfl) (hx : ρ x = Nv .u64 a := by kernel_rfl) (hy : ρ y = Nv .u64 c := by kernel_rfl) : (execOp ρ o).run Try.prog w = .ok (.value (.bool b)) w := by
  subst h
  unfold execOp
  simp only [ho, hx, hy]
  by_cases h : a ≤ c
  · rw [decide_eq_true h]; go_simp
  · rw [decide_eq_false h]; go_simp
theorem gtr_u64 {a c : Nat} {b : Bool} (h : decide (c < a) = b) (w : World) (ho : o.op = .binOp .gtr 30 x y 30 := by rfl) (hx : ρ x = Nv .u64 a := by kernel_rfl) (hy : ρ y = Nv .u64 c := by kernel_rfl) : (execOp ρ o).run Try.prog w = .ok (.value (.bool b)) w := by
  subst h
  unfold execOp
  simp only [ho, hx, hy]
  by_cases h : c < a
  · rw [decide_eq_true h]; go_simp
  · rw [decide_eq_false h]; go_simp
theorem geq_u64 {a c : Nat} {b : Bool} (h : decide (c ≤ a) = b) (w : World) (ho : o.op = .binOp .geq 30 x y 30 := by rfl) (hx : ρ x = Nv .u64 a := by kernel_rfl) (hy : ρ y = Nv .u64 c := by kernel_rfl) : (execOp ρ o).run Try.prog w = .ok (.value (.bool b)) w := by
  subst h
  unfold execOp
  simp only [ho, hx, hy]
  by_cases h : c ≤ a
  · rw [decide_eq_true h]; go_simp
  · rw [decide_eq_false h]; go_simp
theorem add_u64 {a c d : Nat} (h : a + c = d) (hb : d < 18446744073709551616) (w : World) (ho : o.op = .binOp .add 30 x y 30 := by rfl) (hx : ρ x = Nv .u64 a := by kernel_rfl) (hy : ρ y = Nv .u64 c := by kernel_rfl) : (execOp ρ o).run Try.prog w = .ok (.value (Nv .u64 d)) w := by
  subst h
  have h1 : IntKind.u64.wrap ((a : Int) + (c : Int)) = (a : Int) + (c : Int) := by rw [← Int.natCast_add]; exact w_u64 _ hb
  unfold execOp
  simp only [ho, hx, hy]
  go_simp
theorem addw_u64 {a c d : Nat} (h : (a + c) % 18446744073709551616 = d) (w : World) (ho : o.op = .binOp .add 30 x y 30 := by rfl) (hx : ρ x = Nv .u64 a := by kernel_rfl) (hy : ρ y = Nv .u64 c := by kernel_rfl) : (execOp ρ o).run Try.prog w = .ok (.value (Nv .u64 d)) w := by
  subst h
  have h1 : IntKind.u64.wrap ((a : Int) + (c : Int)) = (((a + c) % 18446744073709551616 : Nat) : Int) := by rw [← Int.natCast_add]; exact m_u64 _
  unfold execOp
  simp only [ho, hx, hy]
  go_simp
theorem sub_u64 {a c d : Nat} (h : d + c = a) (hb : a < 18446744073709551616) (w : World) (ho : o.op = .binOp .sub 30 x y 30 := by rfl) (hx : ρ x = Nv .u64 a := by kernel_rfl) (hy : ρ y = Nv .u64 c := by kernel_rfl) : (execOp ρ o).run Try.prog w = .ok (.value (Nv .u64 d)) w := by
  have h1 : IntKind.u64.wrap ((a : Int) - (c : Int)) = (d : Int) := by rw [show (a : Int) - (c : Int) = (d : Int) by omega]; exact w_u64 _ (by omega)
  unfold execOp
  simp only [ho, hx, hy]
  go_simp
theorem mul_u64 {a c d : Nat} (h : a * c = d) (hb : d < 18446744073709551616) (w : World) (ho : o.op = .binOp .mul 30 x y 30 := by rfl) (hx : ρ x = Nv .u64 a := by kernel_rfl) (hy : ρ y = Nv .u64 c := by kernel_rfl) : (execOp ρ o).run Try.prog w = .ok (.value (Nv .u64 d)) w := by
  have h1 : IntKind.u64.wrap ((a : Int) * (c : Int)) = (d : Int) := by rw [← Int.natCast_mul, h]; exact w_u64 _ hb
  unfold execOp
  simp only [ho, hx, hy]
  go_simp
theorem rem_u64 {a c d : Nat} (h : a % c = d) (h0 : 0 < c) (hb : d < 18446744073709551616) (w : World) (ho : o.op = .binOp .rem 30 x y 30 := by rfl) (hx : ρ x = Nv .u64 a := by kernel_rfl) (hy : ρ y = Nv .u64 c := by kernel_rfl) : (execOp ρ o).run Try.prog w = .ok (.value (Nv .u64 d)) w := by
  have h1 : (a : Int).tmod (c : Int) = (d : Int) := by rw [Int.tmod_eq_emod_of_nonneg (by omega), ← h]; exact (Int.natCast_emod _ _).symm
  have h2 : ¬ c = 0 := by omega
  have h3 : IntKind.u64.wrap (d : Int) = (d : Int) := w_u64 _ hb
  clear h hb
  unfold execOp
  simp only [ho, hx, hy]
  go_simp
theorem quo_u64 {a c d : Nat} (h : a / c = d) (h0 : 0 < c) (hb : d < 18446744073709551616) (w : World) (ho : o.op = .binOp .quo 30 x y 30 := by rfl) (hx : ρ x = Nv .u64 a := by kernel_rfl) (hy : ρ y = Nv .u64 c := by kernel_rfl) : (execOp ρ o).run Try.prog w = .ok (.value (Nv .u64 d)) w := by
  have h1 : (a : Int).tdiv (c : Int) = (d : Int) := by rw [Int.tdiv_eq_ediv_of_nonneg (by omega), ← h]; exact (Int.natCast_ediv _ _).symm
  have h2 : ¬ c = 0 := by omega
  have h3 : IntKind.u64.wrap (d : Int) = (d : Int) := w_u64 _ hb
  clear h hb
  unfold execOp
  simp only [ho, hx, hy]
  go_simp
theorem and_u64 {a c d : Nat} (h : a &&& c = d) (ha : a < 18446744073709551616) (hc : c < 18446744073709551616) (w : World) (ho : o.op = .binOp .and 30 x y 30 := by rfl) (hx : ρ x = Nv .u64 a := by kernel_rfl) (hy : ρ y = Nv .u64 c := by kernel_rfl) : (execOp ρ o).run Try.prog w = .ok (.value (Nv .u64 d)) w := by
  have h1 := (u64_and_nat a c (by omega) (by omega)).trans (congrArg (fun n : Nat => (n : Int)) h)
  unfold execOp
  simp only [ho, hx, hy]
  go_simp
theorem or_u64 {a c d : Nat} (h : a ||| c = d) (ha : a < 18446744073709551616) (hc : c < 18446744073709551616) (w : World) (ho : o.op = .binOp .or 30 x y 30 := by rfl) (hx : ρ x = Nv .u64 a := by kernel_rfl) (hy : ρ y = Nv .u64 c := by kernel_rfl) : (execOp ρ o).run Try.prog w = .ok (.value (Nv .u64 d)) w := by
  have h1 := (u64_or_nat a c (by omega) (by omega)).trans (congrArg (fun n : Nat => (n : Int)) h)
  unfold execOp
  simp only [ho, hx, hy]
  go_simp
theorem xor_u64 {a c d : Nat} (h : a ^^^ c = d) (ha : a < 18446744073709551616) (hc : c < 18446744073709551616) (w : World) (ho : o.op = .binOp .xor 30 x y 30 := by rfl) (hx : ρ x = Nv .u64 a := by kernel_rfl) (hy : ρ y = Nv .u64 c := by kernel_rfl) : (execOp ρ o).run Try.prog w = .ok (.value (Nv .u64 d)) w := by
  have h1 := (u64_xor_nat a c (by omega) (by omega)).trans (congrArg (fun n : Nat => (n : Int)) h)
  unfold execOp
  simp only [ho, hx, hy]
  go_simp
theorem shr_u64_int {a s d : Nat} (h : a / 2 ^ s = d) (hs : s < 64) (w : World) (ho : o.op = .binOp .shr 30 x y 3 := by rfl) (hx : ρ x = Nv .u64 a := by kernel_rfl) (hy : ρ y = Nv .i64 s := by kernel_rfl) : (execOp ρ o).run Try.prog w = .ok (.value (Nv .u64 d)) w := by
  subst h
  have h0 : (0 : Int) ≤ (s : Int) := by omega
  have h3 : (s : Int) < 64 := by omega
  have h4 : min s 64 = s := by omega
  unfold execOp
  simp only [ho, hx, hy]
  go_simp
theorem shl_u64_int {a s d : Nat} (h : a * 2 ^ s % 18446744073709551616 = d) (hs : s < 64) (w : World) (ho : o.op = .binOp .shl 30 x y 3 := by rfl) (hx : ρ x = Nv .u64 a := by kernel_rfl) (hy : ρ y = Nv .i64 s := by kernel_rfl) : (execOp ρ o).run Try.prog w = .ok (.value (Nv .u64 d)) w := by
  have h0 : (0 : Int) ≤ (s : Int) := by omega
  have h3 : (s : Int) < 64 := by omega
  have h1 : IntKind.u64.wrap ((a : Int) * 2 ^ s) = (d : Int) := by rw [show (a : Int) * 2 ^ s = ((a * 2 ^ s : Nat) : Int) by simp, ← h]; exact m_u64 _
  clear h
  unfold execOp
  simp only [ho, hx, hy]
  go_simp
theorem shr_u64_u8 {a s d : Nat} (h : a / 2 ^ s = d) (hs : s < 64) (w : World) (ho : o.op = .binOp .shr 30 x y 5 := by rfl) (hx : ρ x = Nv .u64 a := by kernel_rfl) (hy : ρ y = Nv .u8 s := by kernel_rfl) : (execOp ρ o).run Try.prog w = .ok (.value (Nv .u64 d)) w := by
  subst h
  have h0 : (0 : Int) ≤ (s : Int) := by omega
  have h3 : (s : Int) < 64 := by omega
  have h4 : min s 64 = s := by omega
  unfold execOp
  simp only [ho, hx, hy]
  go_simp
theorem shl_u64_u8 {a s d : Nat} (h : a * 2 ^ s % 18446744073709551616 = d) (hs : s < 64) (w : World) (ho : o.op = .binOp .shl 30 x y 5 := by rfl) (hx : ρ x = Nv .u64 a := by kernel_rfl) (hy : ρ y = Nv .u8 s := by kernel_rfl) : (execOp ρ o).run Try.prog w = .ok (.value (Nv .u64 d)) w := by
  have h0 : (0 : Int) ≤ (s : Int) := by omega
  have h3 : (s : Int) < 64 := by omega
  have h1 : IntKind.u64.wrap ((a : Int) * 2 ^ s) = (d : Int) := by rw [show (a : Int) * 2 ^ s = ((a * 2 ^ s : Nat) : Int) by simp, ← h]; exact m_u64 _
  clear h
  unfold execOp
  simp only [ho, hx, hy]
  go_simp
theorem shr_u64_u32 {a s d : Nat} (h : a / 2 ^ s = d) (hs : s < 64) (w : World) (ho : o.op = .binOp .shr 30 x y 24 := by rfl) (hx : ρ x = Nv .u64 a := by kernel_rfl) (hy : ρ y = Nv .u32 s := by kernel_rfl) : (execOp ρ o).run Try.prog w = .ok (.value (Nv .u64 d)) w := by
  subst h
  have h0 : (0 : Int) ≤ (s : Int) := by omega
  have h3 : (s : Int) < 64 := by omega
  have h4 : min s 64 = s := by omega
  unfold execOp
  simp only [ho, hx, hy]
  go_simp
theorem shl_u64_u32 {a s d : Nat} (h : a * 2 ^ s % 18446744073709551616 = d) (hs : s < 64) (w : World) (ho : o.op = .binOp .shl 30 x y 24 := by rfl) (hx : ρ x = Nv .u64 a := by kernel_rfl) (hy : ρ y = Nv .u32 s := by kernel_rfl) : (execOp ρ o).run Try.prog w = .ok (.value (Nv .u64 d)) w := by
  have h0 : (0 : Int) ≤ (s : Int) := by omega
  have h3 : (s : Int) < 64 := by omega
  have h1 : IntKind.u64.wrap ((a : Int) * 2 ^ s) = (d : Int) := by rw [show (a : Int) * 2 ^ s = ((a * 2 ^ s : Nat) : Int) by simp, ← h]; exact m_u64 _
  clear h
  unfold execOp
  simp only [ho, hx, hy]
  go_simp
theorem shr_u64_u64 {a s d : Nat} (h : a / 2 ^ s = d) (hs : s < 64) (w : World) (ho : o.op = .binOp .shr 30 x y 30 := by rfl) (hx : ρ x = Nv .u64 a := by kernel_rfl) (hy : ρ y = Nv .u64 s := by kernel_rfl) : (execOp ρ o).run Try.prog w = .ok (.value (Nv .u64 d)) w := by
  subst h
  have h0 : (0 : Int) ≤ (s : Int) := by omega
  have h3 : (s : Int) < 64 := by omega
  have h4 : min s 64 = s := by omega
  unfold execOp
  simp only [ho, hx, hy]
  go_simp
theorem shl_u64_u64 {a s d : Nat} (h : a * 2 ^ s % 18446744073709551616 = d) (hs : s < 64) (w : World) (ho : o.op = .binOp .shl 30 x y 30 := by rfl) (hx : ρ x = Nv .u64 a := by kernel_rfl) (hy : ρ y = Nv .u64 s := by kernel_rfl) : (execOp ρ o).run Try.prog w = .ok (.value (Nv .u64 d)) w := by
  have h0 : (0 : Int) ≤ (s : Int) := by omega
  have h3 : (s : Int) < 64 := by omega
  have h1 : IntKind.u64.wrap ((a : Int) * 2 ^ s) = (d : Int) := by rw [show (a : Int) * 2 ^ s = ((a * 2 ^ s : Nat) : Int) by simp, ← h]; exact m_u64 _
  clear h
  unfold execOp
  simp only [ho, hx, hy]
  go_simp
theorem shr_u64_uint {a s d : Nat} (h : a / 2 ^ s = d) (hs : s < 64) (w : World) (ho : o.op = .binOp .shr 30 x y 29 := by rfl) (hx : ρ x = Nv .u64 a := by kernel_rfl) (hy : ρ y = Nv .u64 s := by kernel_rfl) : (execOp ρ o).run Try.prog w = .ok (.value (Nv .u64 d)) w := by
  subst h
  have h0 : (0 : Int) ≤ (s : Int) := by omega
  have h3 : (s : Int) < 64 := by omega
  have h4 : min s 64 = s := by omega
  unfold execOp
  simp only [ho, hx, hy]
  go_simp
theorem shl_u64_uint {a s d : Nat} (h : a * 2 ^ s % 18446744073709551616 = d) (hs : s < 64) (w : World) (ho : o.op = .binOp .shl 30 x y 29 := by rfl) (hx : ρ x = Nv .u64 a := by kernel_rfl) (hy : ρ y = Nv .u64 s := by kernel_rfl) : (execOp ρ o).run Try.prog w = .ok (.value (Nv .u64 d)) w := by
  have h0 : (0 : Int) ≤ (s : Int) := by omega
  have h3 : (s : Int) < 64 := by omega
  have h1 : IntKind.u64.wrap ((a : Int) * 2 ^ s) = (d : Int) := by rw [show (a : Int) * 2 ^ s = ((a * 2 ^ s : Nat) : Int) by simp, ← h]; exact m_u64 _
  clear h
  unfold execOp
  simp only [ho, hx, hy]
  go_simp
theorem eql_uint {a c : Nat} {b : Bool} (h : decide (a = c) = b) (w : World) (ho : o.op = .binOp .eql 29 x y 29 := by rfl) (hx : ρ x = Nv .u64 a := by kernel_rfl) (hy : ρ y = Nv .u64 c := by kernel_rfl) : (execOp ρ o).run Try.prog w = .ok (.value (.bool b)) w := by
  subst h
  unfold execOp
  simp only [ho, hx, hy]
  by_cases h : a = c
  · rw [decide_eq_true h]; have h2 : (a : Int) = (c : Int) := (by omega); go_simp
  · rw [decide_eq_false h]; have h2 : ¬ (a : Int) = (c : Int) := (by omega); go_simp
theorem neq_uint {a c : Nat} {b : Bool} (h : decide (a ≠ c) = b) (w : World) (ho : o.op = .binOp .neq 29 x y 29 := by rfl) (hx : ρ x = Nv .u64 a := by kernel_rfl) (hy : ρ y = Nv .u64 c := by kernel_rfl) : (execOp ρ o).run Try.prog w = .ok (.value (.bool b)) w := by
  subst h
  unfold execOp
  simp only [ho, hx, hy]
  by_cases h : a ≠ c
  · rw [decide_eq_true h]; have h2 : ¬ (a : Int) = (c : Int) := (by omega); go_simp
  · rw [decide_eq_false h]; have h2 : (a : Int) = (c : Int) := (by omega); go_simp
theorem lss_uint {a c : Nat} {b : Bool} (h : decide (a < c) = b) (w : World) (ho : o.op = .binOp .lss 29 x y 29 := by rfl) (hx : ρ x = Nv .u64 a := by kernel_rfl) (hy : ρ y = Nv .u64 c := by kernel_rfl) : (execOp ρ o).run Try.prog w = .ok (.value (.bool b)) w := by
  subst h
  unfold execOp
  simp only [ho, hx, hy]
  by_cases h : a < c
  · rw [decide_eq_true h]; go_simp
  · rw [decide_eq_false h]; go_simp
theorem leq_uint {a c : Nat} {b : Bool} (h : decide (a ≤ c) = b) (w : World) (ho : o.op = .binOp .leq 29 x y 29 := by rfl) (hx : ρ x = Nv .u64 a := by kernel_rfl) (hy : ρ y = Nv .u64 c := by kernel_rfl) : (execOp ρ o).run Try.prog w = .ok (.value (.bool b)) w := by
  subst h
  unfold execOp
  simp only [ho, hx, hy]
  by_cases h : a ≤ c
  · rw [decide_eq_true h]; go_simp
  · rw [decide_eq_false h]; go_simp
theorem gtr_uint {a c : Nat} {b : Bool} (h : decide (c < a) = b) (w : World) (ho : o.op = .binOp .gtr 29 x y 29 := by rfl) (hx : ρ x = Nv .u64 a := by kernel_rfl) (hy : ρ y = Nv .u64 c := by kernel_rfl) : (execOp ρ o).run Try.prog w = .ok (.value (.bool b)) w := by
  subst h
  unfold execOp
  simp only [ho, hx, hy]
  by_cases h : c < a
  · rw [decide_eq_true h]; go_simp
  · rw [decide_eq_false h]; go_simp
theorem geq_uint {a c : Nat} {b : Bool} (h : decide (c ≤ a) = b) (w : World) (ho : o.op = .binOp .geq 29 x y 29 := by rfl) (hx : ρ x = Nv .u64 a := by kernel_rfl) (hy : ρ y = Nv .u64 c := by kernel_rfl) : (execOp ρ o).run Try.prog w = .ok (.value (.bool b)) w := by
  subst h
  unfold execOp
  simp only [ho, hx, hy]
  by_cases h : c ≤ a
  · rw [decide_eq_true h]; go_simp
  · rw [decide_eq_false h]; go_simp
theorem add_uint {a c d : Nat} (h : a + c = d) (hb : d < 18446744073709551616) (w : World) (ho : o.op = .binOp .add 29 x y 29 := by rfl) (hx : ρ x = Nv .u64 a := by kernel_rfl) (hy : ρ y = Nv .u64 c := by kernel_rfl) : (execOp ρ o).run Try.prog w = .ok (.value (Nv .u64 d)) w := by
  subst h
  have h1 : IntKind.u64.wrap ((a : Int) + (c : Int)) = (a : Int) + (c : Int) := by rw [← Int.natCast_add]; exact w_u64 _ hb
  unfold execOp
  simp only [ho, hx, hy]
  go_simp
theorem addw_uint {a c d : Nat} (h : (a + c) % 18446744073709551616 = d) (w : World) (ho : o.op = .binOp .add 29 x y 29 := by rfl) (hx : ρ x = Nv .u64 a := by kernel_rfl) (hy : ρ y = Nv .u64 c := by kernel_rfl) : (execOp ρ o).run Try.prog w = .ok (.value (Nv .u64 d)) w := by
  subst h
  have h1 : IntKind.u64.wrap ((a : Int) + (c : Int)) = (((a + c) % 18446744073709551616 : Nat) : Int) := by rw [← Int.natCast_add]; exact m_u64 _
  unfold execOp
  simp only [ho, hx, hy]
  go_simp
theorem sub_uint {a c d : Nat} (h : d + c = a) (hb : a < 18446744073709551616) (w : World) (ho : o.op = .binOp .sub 29 x y 29 := by rfl) (hx : ρ x = Nv .u64 a := by kernel_rfl) (hy : ρ y = Nv .u64 c := by kernel_rfl) : (execOp ρ o).run Try.prog w = .ok (.value (Nv .u64 d)) w := by
  have h1 : IntKind.u64.wrap ((a : Int) - (c : Int)) = (d : Int) := by rw [show (a : Int) - (c : Int) = (d : Int) by omega]; exact w_u64 _ (by omega)
  unfold execOp
  simp only [ho, hx, hy]
  go_simp
theorem mul_uint {a c d : Nat} (h : a * c = d) (hb : d < 18446744073709551616) (w : World) (ho : o.op = .binOp .mul 29 x y 29 := by rfl) (hx : ρ x = Nv .u64 a := by kernel_rfl) (hy : ρ y = Nv .u64 c := by kernel_rfl) : (execOp ρ o).run Try.prog w = .ok (.value (Nv .u64 d)) w := by
  have h1 : IntKind.u64.wrap ((a : Int) * (c : Int)) = (d : Int) := by rw [← Int.natCast_mul, h]; exact w_u64 _ hb
  unfold execOp
  simp only [ho, hx, hy]
  go_simp
theorem rem_uint {a c d : Nat} (h : a % c = d) (h0 : 0 < c) (hb : d < 18446744073709551616) (w : World) (ho : o.op = .binOp .rem 29 x y 29 := by rfl) (hx : ρ x = Nv .u64 a := by kernel_rfl) (hy : ρ y = Nv .u64 c := by kernel_rfl) : (execOp ρ o).run Try.prog w = .ok (.value (Nv .u64 d)) w := by
  have h1 : (a : Int).tmod (c : Int) = (d : Int) := by rw [Int.tmod_eq_emod_of_nonneg (by omega), ← h]; exact (Int.natCast_emod _ _).symm
  have h2 : ¬ c = 0 := by omega
  have h3 : IntKind.u64.wrap (d : Int) = (d : Int) := w_u64 _ hb
  clear h hb
  unfold execOp
  simp only [ho, hx, hy]
  go_simp
theorem quo_uint {a c d : Nat} (h : a / c = d) (h0 : 0 < c) (hb : d < 18446744073709551616) (w : World) (ho : o.op = .binOp .quo 29 x y 29 := by rfl) (hx : ρ x = Nv .u64 a := by kernel_rfl) (hy : ρ y = Nv .u64 c := by kernel_rfl) : (execOp ρ o).run Try.prog w = .ok (.value (Nv .u64 d)) w := by
  have h1 : (a : Int).tdiv (c : Int) = (d : Int) := by rw [Int.tdiv_eq_ediv_of_nonneg (by omega), ← h]; exact (Int.natCast_ediv _ _).symm
  have h2 : ¬ c = 0 := by omega
  have h3 : IntKind.u64.wrap (d : Int) = (d : Int) := w_u64 _ hb
  clear h hb
  unfold execOp
  simp only [ho, hx, hy]
  go_simp
theorem and_uint {a c d : Nat} (h : a &&& c = d) (ha : a < 18446744073709551616) (hc : c < 18446744073709551616) (w : World) (ho : o.op = .binOp .and 29 x y 29 := by rfl) (hx : ρ x = Nv .u64 a := by kernel_rfl) (hy : ρ y = Nv .u64 c := by kernel_rfl) : (execOp ρ o).run Try.prog w = .ok (.value (Nv .u64 d)) w := by
  have h1 := (u64_and_nat a c (by omega) (by omega)).trans (congrArg (fun n : Nat => (n : Int)) h)
  unfold execOp
  simp only [ho, hx, hy]
  go_simp
theorem or_uint {a c d : Nat} (h : a ||| c = d) (ha : a < 18446744073709551616) (hc : c < 18446744073709551616) (w : World) (ho : o.op = .binOp .or 29 x y 29 := by rfl) (hx : ρ x = Nv .u64 a := by kernel_rfl) (hy : ρ y = Nv .u64 c := by kernel_rfl) : (execOp ρ o).run Try.prog w = .ok (.value (Nv .u64 d)) w := by
  have h1 := (u64_or_nat a c (by omega) (by omega)).trans (congrArg (fun n : Nat => (n : Int)) h)
  unfold execOp
  simp only [ho, hx, hy]
  go_simp
theorem xor_uint {a c d : Nat} (h : a ^^^ c = d) (ha : a < 18446744073709551616) (hc : c < 18446744073709551616) (w : World) (ho : o.op = .binOp .xor 29 x y 29 := by rfl) (hx : ρ x = Nv .u64 a := by kernel_rfl) (hy : ρ y = Nv .u64 c := by kernel_rfl) : (execOp ρ o).run Try.prog w = .ok (.value (Nv .u64 d)) w := by
  have h1 := (u64_xor_nat a c (by omega) (by omega)).trans (congrArg (fun n : Nat => (n : Int)) h)
  unfold execOp
  simp only [ho, hx, hy]
  go_simp
theorem shr_uint_int {a s d : Nat} (h : a / 2 ^ s = d) (hs : s < 64) (w : World) (ho : o.op = .binOp .shr 29 x y 3 := by rfl) (hx : ρ x = Nv .u64 a := by kernel_rfl) (hy : ρ y = Nv .i64 s := by kernel_rfl) : (execOp ρ o).run Try.prog w = .ok (.value (Nv .u64 d)) w := by
  subst h
  have h0 : (0 : Int) ≤ (s : Int) := by omega
  have h3 : (s : Int) < 64 := by omega
  have h4 : min s 64 = s := by omega
  unfold execOp
  simp only [ho, hx, hy]
  go_simp
theorem shl_uint_int {a s d : Nat} (h : a * 2 ^ s % 18446744073709551616 = d) (hs : s < 64) (w : World) (ho : o.op = .binOp .shl 29 x y 3 := by rfl) (hx : ρ x = Nv .u64 a := by kernel_rfl) (hy : ρ y = Nv .i64 s := by kernel_rfl) : (execOp ρ o).run Try.prog w = .ok (.value (Nv .u64 d)) w := by
  have h0 : (0 : Int) ≤ (s : Int) := by omega
  have h3 : (s : Int) < 64 := by omega
  have h1 : IntKind.u64.wrap ((a : Int) * 2 ^ s) = (d : Int) := by rw [show (a : Int) * 2 ^ s = ((a * 2 ^ s : Nat) : Int) by simp, ← h]; exact m_u64 _
  clear h
  unfold execOp
  simp only [ho, hx, hy]
  go_simp
theorem shr_uint_u8 {a s d : Nat} (h : a / 2 ^ s = d) (hs : s < 64) (w : World) (ho : o.op = .binOp .shr 29 x y 5 := by rfl) (hx : ρ x = Nv .u64 a := by kernel_rfl) (hy : ρ y = Nv .u8 s := by kernel_rfl) : (execOp ρ o).run Try.prog w = .ok (.value (Nv .u64 d)) w := by
  subst h
  have h0 : (0 : Int) ≤ (s : Int) := by omega
  have h3 : (s : Int) < 64 := by omega
  have h4 : min s 64 = s := by omega
  unfold execOp
  simp only [ho, hx, hy]
  go_simp
theorem shl_uint_u8 {a s d : Nat} (h : a * 2 ^ s % 18446744073709551616 = d) (hs : s < 64) (w : World) (ho : o.op = .binOp .shl 29 x y 5 := by rfl) (hx : ρ x = Nv .u64 a := by kernel_rfl) (hy : ρ y = Nv .u8 s := by kernel_rfl) : (execOp ρ o).run Try.prog w = .ok (.value (Nv .u64 d)) w := by
  have h0 : (0 : Int) ≤ (s : Int) := by omega
  have h3 : (s : Int) < 64 := by omega
  have h1 : IntKind.u64.wrap ((a : Int) * 2 ^ s) = (d : Int) := by rw [show (a : Int) * 2 ^ s = ((a * 2 ^ s : Nat) : Int) by simp, ← h]; exact m_u64 _
  clear h
  unfold execOp
  simp only [ho, hx, hy]
  go_simp
theorem shr_uint_u32 {a s d : Nat} (h : a / 2 ^ s = d) (hs : s < 64) (w : World) (ho : o.op = .binOp .shr 29 x y 24 := by rfl) (hx : ρ x = Nv .u64 a := by kernel_rfl) (hy : ρ y = Nv .u32 s := by kernel_rfl) : (execOp ρ o).run Try.prog w = .ok (.value (Nv .u64 d)) w := by
  subst h
  have h0 : (0 : Int) ≤ (s : Int) := by omega
  have h3 : (s : Int) < 64 := by omega
  have h4 : min s 64 = s := by omega
  unfold execOp
  simp only [ho, hx, hy]
  go_simp
theorem shl_uint_u32 {a s d : Nat} (h : a * 2 ^ s % 18446744073709551616 = d) (hs : s < 64) (w : World) (ho : o.op = .binOp .shl 29 x y 24 := by rfl) (hx : ρ x = Nv .u64 a := by kernel_rfl) (hy : ρ y = Nv .u32 s := by kernel_rfl) : (execOp ρ o).run Try.prog w = .ok (.value (Nv .u64 d)) w := by
  have h0 : (0 : Int) ≤ (s : Int) := by omega
  have h3 : (s : Int) < 64 := by omega
  have h1 : IntKind.u64.wrap ((a : Int) * 2 ^ s) = (d : Int) := by rw [show (a : Int) * 2 ^ s = ((a * 2 ^ s : Nat) : Int) by simp, ← h]; exact m_u64 _
  clear h
  unfold execOp
  simp only [ho, hx, hy]
  go_simp
theorem shr_uint_u64 {a s d : Nat} (h : a / 2 ^ s = d) (hs : s < 64) (w : World) (ho : o.op = .binOp .shr 29 x y 30 := by rfl) (hx : ρ x = Nv .u64 a := by kernel_rfl) (hy : ρ y = Nv .u64 s := by kernel_rfl) : (execOp ρ o).run Try.prog w = .ok (.value (Nv .u64 d)) w := by
  subst h
  have h0 : (0 : Int) ≤ (s : Int) := by omega
  have h3 : (s : Int) < 64 := by omega
  have h4 : min s 64 = s := by omega
  unfold execOp
  simp only [ho, hx, hy]
  go_simp
theorem shl_uint_u64 {a s d : Nat} (h : a * 2 ^ s % 18446744073709551616 = d) (hs : s < 64) (w : World) (ho : o.op = .binOp .shl 29 x y 30 := by rfl) (hx : ρ x = Nv .u64 a := by kernel_rfl) (hy : ρ y = Nv .u64 s := by kernel_rfl) : (execOp ρ o).run Try.prog w = .ok (.value (Nv .u64 d)) w := by
  have h0 : (0 : Int) ≤ (s : Int) := by omega
  have h3 : (s : Int) < 64 := by omega
  have h1 : IntKind.u64.wrap ((a : Int) * 2 ^ s) = (d : Int) := by rw [show (a : Int) * 2 ^ s = ((a * 2 ^ s : Nat) : Int) by simp, ← h]; exact m_u64 _
  clear h
  unfold execOp
  simp only [ho, hx, hy]
  go_simp
theorem shr_uint_uint {a s d : Nat} (h : a / 2 ^ s = d) (hs : s < 64) (w : World) (ho : o.op = .binOp .shr 29 x y 29 := by rfl) (hx : ρ x = Nv .u64 a := by kernel_rfl) (hy : ρ y = Nv .u64 s := by kernel_rfl) : (execOp ρ o).run Try.prog w = .ok (.value (Nv .u64 d)) w := by
  subst h
  have h0 : (0 : Int) ≤ (s : Int) := by omega
  have h3 : (s : Int) < 64 := by omega
  have h4 : min s 64 = s := by omega
  unfold execOp
  simp only [ho, hx, hy]
  go_simp
theorem shl_uint_uint {a s d : Nat} (h : a * 2 ^ s % 18446744073709551616 = d) (hs : s < 64) (w : World) (ho : o.op = .binOp .shl 29 x y 29 := by rfl) (hx : ρ x = Nv .u64 a := by kernel_rfl) (hy : ρ y = Nv .u64 s := by kernel_rfl) : (execOp ρ o).run Try.prog w = .ok (.value (Nv .u64 d)) w := by
  have h0 : (0 : Int) ≤ (s : Int) := by omega
  have h3 : (s : Int) < 64 := by omega
  have h1 : IntKind.u64.wrap ((a : Int) * 2 ^ s) = (d : Int) := by rw [show (a : Int) * 2 ^ s = ((a * 2 ^ s : Nat) : Int) by simp, ← h]; exact m_u64 _
  clear h
  unfold execOp
  simp only [ho, hx, hy]
  go_simp
theorem eql_errno {a c : Nat} {b : Bool} (h : decide (a = c) = b) (w : World) (ho : o.op = .binOp .eql 26 x y 26 := by rfl) (hx : ρ x = Nv .i64 a := by kernel_rfl) (hy : ρ y = Nv .i64 c := by kernel_rfl) : (execOp ρ o).run Try.prog w = .ok (.value (.bool b)) w := by
  subst h
  unfold execOp
  simp only [ho, hx, hy]
  by_cases h : a = c
  · rw [decide_eq_true h]; have h2 : (a : Int) = (c : Int) := (by omega); go_simp
  · rw [decide_eq_false h]; have h2 : ¬ (a : Int) = (c : Int) := (by omega); go_simp
theorem neq_errno {a c : Nat} {b : Bool} (h : decide (a ≠ c) = b) (w : World) (ho : o.op = .binOp .neq 26 x y 26 := by rfl) (hx : ρ x = Nv .i64 a := by kernel_rfl) (hy : ρ y = Nv .i64 c := by kernel_rfl) : (execOp ρ o).run Try.prog w = .ok (.value (.bool b)) w := by
  subst h
  unfold execOp
  simp only [ho, hx, hy]
  by_cases h : a ≠ c
  · rw [decide_eq_true h]; have h2 : ¬ (a : Int) = (c : Int) := (by omega); go_simp
  · rw [decide_eq_false h]; have h2 : (a : Int) = (c : Int) := (by omega); go_simp
theorem c_int_u8 {a d : Nat} (h : a = d) (hb : d < 256) (w : World) (ho : o.op = .convert 3 5 x := by rfl) (hx : ρ x = Nv .i64 a := by kernel_rfl) : (execOp ρ o).run Try.prog w = .ok (.value (Nv .u8 d)) w := by
  subst h
  have h1 : IntKind.u8.wrap (a : Int) = (a : Int) := w_u8 _ hb
  unfold execOp
  simp only [ho, hx]
  go_simp
theorem cw_int_u8 {a d : Nat} (h : a % 256 = d) (w : World) (ho : o.op = .convert 3 5 x := by rfl) (hx : ρ x = Nv .i64 a := by kernel_rfl) : (execOp ρ o).run Try.prog w = .ok (.value (Nv .u8 d)) w := by
  have h1 : IntKind.u8.wrap (a : Int) = (d : Int) := by rw [← h]; exact m_u8 _
  clear h
  unfold execOp
  simp only [ho, hx]
  go_simp
theorem c_int_u16 {a d : Nat} (h : a = d) (hb : d < 65536) (w : World) (ho : o.op = .convert 3 66 x := by rfl) (hx : ρ x = Nv .i64 a := by kernel_rfl) : (execOp ρ o).run Try.prog w = .ok (.value (Nv .u16 d)) w := by
  subst h
  have h1 : IntKind.u16.wrap (a : Int) = (a : Int) := w_u16 _ hb
  unfold execOp
  simp only [ho, hx]
  go_simp
theorem cw_int_u16 {a d : Nat} (h : a % 65536 = d) (w : World) (ho : o.op = .convert 3 66 x := by rfl) (hx : ρ x = Nv .i64 a := by kernel_rfl) : (execOp ρ o).run Try.prog w = .ok (.value (Nv .u16 d)) w := by
  have h1 : IntKind.u16.wrap (a : Int) = (d : Int) := by rw [← h]; exact m_u16 _
  clear h
  unfold execOp
  simp only [ho, hx]
  go_simp
theorem c_int_u32 {a d : Nat} (h : a = d) (hb : d < 4294967296) (w : World) (ho : o.op = .convert 3 24 x := by rfl) (hx : ρ x = Nv .i64 a := by kernel_rfl) : (execOp ρ o).run Try.prog w = .ok (.value (Nv .u32 d)) w := by
  subst h
  have h1 : IntKind.u32.wrap (a : Int) = (a : Int) := w_u32 _ hb
  unfold execOp
  simp only [ho, hx]
  go_simp
theorem cw_int_u32 {a d : Nat} (h : a % 4294967296 = d) (w : World) (ho : o.op = .convert 3 24 x := by rfl) (hx : ρ x = Nv .i64 a := by kernel_rfl) : (execOp ρ o).run Try.prog w = .ok (.value (Nv .u32 d)) w := by
  have h1 : IntKind.u32.wrap (a : Int) = (d : Int) := by rw [← h]; exact m_u32 _
  clear h
  unfold execOp
  simp only [ho, hx]
  go_simp
theorem c_int_u64 {a d : Nat} (h : a = d) (hb : d < 18446744073709551616) (w : World) (ho : o.op = .convert 3 30 x := by rfl) (hx : ρ x = Nv .i64 a := by kernel_rfl) : (execOp ρ o).run Try.prog w = .ok (.value (Nv .u64 d)) w := by
  subst h
  have h1 : IntKind.u64.wrap (a : Int) = (a : Int) := w_u64 _ hb
  unfold execOp
  simp only [ho, hx]
  go_simp
theorem cw_int_u64 {a d : Nat} (h : a % 18446744073709551616 = d) (w : World) (ho : o.op = .convert 3 30 x := by rfl) (hx : ρ x = Nv .i64 a := by kernel_rfl) : (execOp ρ o).run Try.prog w = .ok (.value (Nv .u64 d)) w := by
  have h1 : IntKind.u64.wrap (a : Int) = (d : Int) := by rw [← h]; exact m_u64 _
  clear h
  unfold execOp
  simp only [ho, hx]
  go_simp
theorem c_int_uint {a d : Nat} (h : a = d) (hb : d < 18446744073709551616) (w : World) (ho : o.op = .convert 3 29 x := by rfl) (hx : ρ x = Nv .i64 a := by kernel_rfl) : (execOp ρ o).run Try.prog w = .ok (.value (Nv .u64 d)) w := by
  subst h
  have h1 : IntKind.u64.wrap (a : Int) = (a : Int) := w_u64 _ hb
  unfold execOp
  simp only [ho, hx]
  go_simp
theorem cw_int_uint {a d : Nat} (h : a % 18446744073709551616 = d) (w : World) (ho : o.op = .convert 3 29 x := by rfl) (hx : ρ x = Nv .i64 a := by kernel_rfl) : (execOp ρ o).run Try.prog w = .ok (.value (Nv .u64 d)) w := by
  have h1 : IntKind.u64.wrap (a : Int) = (d : Int) := by rw [← h]; exact m_u64 _
  clear h
  unfold execOp
  simp only [ho, hx]
  go_simp
theorem c_u8_int {a d : Nat} (h : a = d) (hb : d < 9223372036854775808) (w : World) (ho : o.op = .convert 5 3 x := by rfl) (hx : ρ x = Nv .u8 a := by kernel_rfl) : (execOp ρ o).run Try.prog w = .ok (.value (Nv .i64 d)) w := by
  subst h
  have h1 : IntKind.i64.wrap (a : Int) = (a : Int) := w_i64 _ hb
  unfold execOp
  simp only [ho, hx]
  go_simp
theorem c_u8_u16 {a d : Nat} (h : a = d) (hb : d < 65536) (w : World) (ho : o.op = .convert 5 66 x := by rfl) (hx : ρ x = Nv .u8 a := by kernel_rfl) : (execOp ρ o).run Try.prog w = .ok (.value (Nv .u16 d)) w := by
  subst h
  have h1 : IntKind.u16.wrap (a : Int) = (a : Int) := w_u16 _ hb
  unfold execOp
  simp only [ho, hx]
  go_simp
theorem cw_u8_u16 {a d : Nat} (h : a % 65536 = d) (w : World) (ho : o.op = .convert 5 66 x := by rfl) (hx : ρ x = Nv .u8 a := by kernel_rfl) : (execOp ρ o).run Try.prog w = .ok (.value (Nv .u16 d)) w := by
  have h1 : IntKind.u16.wrap (a : Int) = (d : Int) := by rw [← h]; exact m_u16 _
  clear h
  unfold execOp
  simp only [ho, hx]
  go_simp
theorem c_u8_u32 {a d : Nat} (h : a = d) (hb : d < 4294967296) (w : World) (ho : o.op = .convert 5 24 x := by rfl) (hx : ρ x = Nv .u8 a := by kernel_rfl) : (execOp ρ o).run Try.prog w = .ok (.value (Nv .u32 d)) w := by
  subst h
  have h1 : IntKind.u32.wrap (a : Int) = (a : Int) := w_u32 _ hb
  unfold execOp
  simp only [ho, hx]
  go_simp
theorem cw_u8_u32 {a d : Nat} (h : a % 4294967296 = d) (w : World) (ho : o.op = .convert 5 24 x := by rfl) (hx : ρ x = Nv .u8 a := by kernel_rfl) : (execOp ρ o).run Try.prog w = .ok (.value (Nv .u32 d)) w := by
  have h1 : IntKind.u32.wrap (a : Int) = (d : Int) := by rw [← h]; exact m_u32 _
  clear h
  unfold execOp
  simp only [ho, hx]
  go_simp
theorem c_u8_u64 {a d : Nat} (h : a = d) (hb : d < 18446744073709551616) (w : World) (ho : o.op = .convert 5 30 x := by rfl) (hx : ρ x = Nv .u8 a := by kernel_rfl) : (execOp ρ o).run Try.prog w = .ok (.value (Nv .u64 d)) w := by
  subst h
  have h1 : IntKind.u64.wrap (a : Int) = (a : Int) := w_u64 _ hb
  unfold execOp
  simp only [ho, hx]
  go_simp
theorem cw_u8_u64 {a d : Nat} (h : a % 18446744073709551616 = d) (w : World) (ho : o.op = .convert 5 30 x := by rfl) (hx : ρ x = Nv .u8 a := by kernel_rfl) : (execOp ρ o).run Try.prog w = .ok (.value (Nv .u64 d)) w := by
  have h1 : IntKind.u64.wrap (a : Int) = (d : Int) := by rw [← h]; exact m_u64 _
  clear h
  unfold execOp
  simp only [ho, hx]
  go_simp
theorem c_u8_uint {a d : Nat} (h : a = d) (hb : d < 18446744073709551616) (w : World) (ho : o.op = .convert 5 29 x := by rfl) (hx : ρ x = Nv .u8 a := by kernel_rfl) : (execOp ρ o).run Try.prog w = .ok (.value (Nv .u64 d)) w := by
  subst h
  have h1 : IntKind.u64.wrap (a : Int) = (a : Int) := w_u64 _ hb
  unfold execOp
  simp only [ho, hx]
  go_simp
theorem cw_u8_uint {a d : Nat} (h : a % 18446744073709551616 = d) (w : World) (ho : o.op = .convert 5 29 x := by rfl) (hx : ρ x = Nv .u8 a := by kernel_rfl) : (execOp ρ o).run Try.prog w = .ok (.value (Nv .u64 d)) w := by
  have h1 : IntKind.u64.wrap (a : Int) = (d : Int) := by rw [← h]; exact m_u64 _
  clear h
  unfold execOp
  simp only [ho, hx]
  go_simp
theorem c_u16_int {a d : Nat} (h : a = d) (hb : d < 9223372036854775808) (w : World) (ho : o.op = .convert 66 3 x := by rfl) (hx : ρ x = Nv .u16 a := by kernel_rfl) : (execOp ρ o).run Try.prog w = .ok (.value (Nv .i64 d)) w := by
  subst h
  have h1 : IntKind.i64.wrap (a : Int) = (a : Int) := w_i64 _ hb
  unfold execOp
  simp only [ho, hx]
  go_simp
theorem c_u16_u8 {a d : Nat} (h : a = d) (hb : d < 256) (w : World) (ho : o.op = .convert 66 5 x := by rfl) (hx : ρ x = Nv .u16 a := by kernel_rfl) : (execOp ρ o).run Try.prog w = .ok (.value (Nv .u8 d)) w := by
  subst h
  have h1 : IntKind.u8.wrap (a : Int) = (a : Int) := w_u8 _ hb
  unfold execOp
  simp only [ho, hx]
  go_simp
theorem cw_u16_u8 {a d : Nat} (h : a % 256 = d) (w : World) (ho : o.op = .convert 66 5 x := by rfl) (hx : ρ x = Nv .u16 a := by kernel_rfl) : (execOp ρ o).run Try.prog w = .ok (.value (Nv .u8 d)) w := by
  have h1 : IntKind.u8.wrap (a : Int) = (d : Int) := by rw [← h]; exact m_u8 _
  clear h
  unfold execOp
  simp only [ho, hx]
  go_simp
theorem c_u16_u32 {a d : Nat} (h : a = d) (hb : d < 4294967296) (w : World) (ho : o.op = .convert 66 24 x := by rfl) (hx : ρ x = Nv .u16 a := by kernel_rfl) : (execOp ρ o).run Try.prog w = .ok (.value (Nv .u32 d)) w := by
  subst h
  have h1 : IntKind.u32.wrap (a : Int) = (a : Int) := w_u32 _ hb
  unfold execOp
  simp only [ho, hx]
  go_simp
theorem cw_u16_u32 {a d : Nat} (h : a % 4294967296 = d) (w : World) (ho : o.op = .convert 66 24 x := by rfl) (hx : ρ x = Nv .u16 a := by kernel_rfl) : (execOp ρ o).run Try.prog w = .ok (.value (Nv .u32 d)) w := by
  have h1 : IntKind.u32.wrap (a : Int) = (d : Int) := by rw [← h]; exact m_u32 _
  clear h
  unfold execOp
  simp only [ho, hx]
  go_simp
theorem c_u16_u64 {a d : Nat} (h : a = d) (hb : d < 18446744073709551616) (w : World) (ho : o.op = .convert 66 30 x := by rfl) (hx : ρ x = Nv .u16 a := by kernel_rfl) : (execOp ρ o).run Try.prog w = .ok (.value (Nv .u64 d)) w := by
  subst h
  have h1 : IntKind.u64.wrap (a : Int) = (a : Int) := w_u64 _ hb
  unfold execOp
  simp only [ho, hx]
  go_simp
theorem cw_u16_u64 {a d : Nat} (h : a % 18446744073709551616 = d) (w : World) (ho : o.op = .convert 66 30 x := by rfl) (hx : ρ x = Nv .u16 a := by kernel_rfl) : (execOp ρ o).run Try.prog w = .ok (.value (Nv .u64 d)) w := by
  have h1 : IntKind.u64.wrap (a : Int) = (d : Int) := by rw [← h]; exact m_u64 _
  clear h
  unfold execOp
  simp only [ho, hx]
  go_simp
theorem c_u16_uint {a d : Nat} (h : a = d) (hb : d < 18446744073709551616) (w : World) (ho : o.op = .convert 66 29 x := by rfl) (hx : ρ x = Nv .u16 a := by kernel_rfl) : (execOp ρ o).run Try.prog w = .ok (.value (Nv .u64 d)) w := by
  subst h
  have h1 : IntKind.u64.wrap (a : Int) = (a : Int) := w_u64 _ hb
  unfold execOp
  simp only [ho, hx]
  go_simp
theorem cw_u16_uint {a d : Nat} (h : a % 18446744073709551616 = d) (w : World) (ho : o.op = .convert 66 29 x := by rfl) (hx : ρ x = Nv .u16 a := by kernel_rfl) : (execOp ρ o).run Try.prog w = .ok (.value (Nv .u64 d)) w := by
  have h1 : IntKind.u64.wrap (a : Int) = (d : Int) := by rw [← h]; exact m_u64 _
  clear h
  unfold execOp
  simp only [ho, hx]
  go_simp
theorem c_u32_int {a d : Nat} (h : a = d) (hb : d < 9223372036854775808) (w : World) (ho : o.op = .convert 24 3 x := by rfl) (hx : ρ x = Nv .u32 a := by kernel_rfl) : (execOp ρ o).run Try.prog w = .ok (.value (Nv .i64 d)) w := by
  subst h
  have h1 : IntKind.i64.wrap (a : Int) = (a : Int) := w_i64 _ hb
  unfold execOp
  simp only [ho, hx]
  go_simp
theorem c_u32_u8 {a d : Nat} (h : a = d) (hb : d < 256) (w : World) (ho : o.op = .convert 24 5 x := by rfl) (hx : ρ x = Nv .u32 a := by kernel_rfl) : (execOp ρ o).run Try.prog w = .ok (.value (Nv .u8 d)) w := by
  subst h
  have h1 : IntKind.u8.wrap (a : Int) = (a : Int) := w_u8 _ hb
  unfold execOp
  simp only [ho, hx]
  go_simp
theorem cw_u32_u8 {a d : Nat} (h : a % 256 = d) (w : World) (ho : o.op = .convert 24 5 x := by rfl) (hx : ρ x = Nv .u32 a := by kernel_rfl) : (execOp ρ o).run Try.prog w = .ok (.value (Nv .u8 d)) w := by
  have h1 : IntKind.u8.wrap (a : Int) = (d : Int) := by rw [← h]; exact m_u8 _
  clear h
  unfold execOp
  simp only [ho, hx]
  go_simp
theorem c_u32_u16 {a d : Nat} (h : a = d) (hb : d < 65536) (w : World) (ho : o.op = .convert 24 66 x := by rfl) (hx : ρ x = Nv .u32 a := by kernel_rfl) : (execOp ρ o).run Try.prog w = .ok (.value (Nv .u16 d)) w := by
  subst h
  have h1 : IntKind.u16.wrap (a : Int) = (a : Int) := w_u16 _ hb
  unfold execOp
  simp only [ho, hx]
  go_simp
theorem cw_u32_u16 {a d : Nat} (h : a % 65536 = d) (w : World) (ho : o.op = .convert 24 66 x := by rfl) (hx : ρ x = Nv .u32 a := by kernel_rfl) : (execOp ρ o).run Try.prog w = .ok (.value (Nv .u16 d)) w := by
  have h1 : IntKind.u16.wrap (a : Int) = (d : Int) := by rw [← h]; exact m_u16 _
  clear h
  unfold execOp
  simp only [ho, hx]
  go_simp
theorem c_u32_u64 {a d : Nat} (h : a = d) (hb : d < 18446744073709551616) (w : World) (ho : o.op = .convert 24 30 x := by rfl) (hx : ρ x = Nv .u32 a := by kernel_rfl) : (execOp ρ o).run Try.prog w = .ok (.value (Nv .u64 d)) w := by
  subst h
  have h1 : IntKind.u64.wrap (a : Int) = (a : Int) := w_u64 _ hb
  unfold execOp
  simp only [ho, hx]
  go_simp
theorem cw_u32_u64 {a d : Nat} (h : a % 18446744073709551616 = d) (w : World) (ho : o.op = .convert 24 30 x := by rfl) (hx : ρ x = Nv .u32 a := by kernel_rfl) : (execOp ρ o).run Try.prog w = .ok (.value (Nv .u64 d)) w := by
  have h1 : IntKind.u64.wrap (a : Int) = (d : Int) := by rw [← h]; exact m_u64 _
  clear h
  unfold execOp
  simp only [ho, hx]
  go_simp
theorem c_u32_uint {a d : Nat} (h : a = d) (hb : d < 18446744073709551616) (w : World) (ho : o.op = .convert 24 29 x := by rfl) (hx : ρ x = Nv .u32 a := by kernel_rfl) : (execOp ρ o).run Try.prog w = .ok (.value (Nv .u64 d)) w := by
  subst h
  have h1 : IntKind.u64.wrap (a : Int) = (a : Int) := w_u64 _ hb
  unfold execOp
  simp only [ho, hx]
  go_simp
theorem cw_u32_uint {a d : Nat} (h : a % 18446744073709551616 = d) (w : World) (ho : o.op = .convert 24 29 x := by rfl) (hx : ρ x = Nv .u32 a := by kernel_rfl) : (execOp ρ o).run Try.prog w = .ok (.value (Nv .u64 d)) w := by
  have h1 : IntKind.u64.wrap (a : Int) = (d : Int) := by rw [← h]; exact m_u64 _
  clear h
  unfold execOp
  simp only [ho, hx]
  go_simp
theorem c_u64_int {a d : Nat} (h : a = d) (hb : d < 9223372036854775808) (w : World) (ho : o.op = .convert 30 3 x := by rfl) (hx : ρ x = Nv .u64 a := by kernel_rfl) : (execOp ρ o).run Try.prog w = .ok (.value (Nv .i64 d)) w := by
  subst h
  have h1 : IntKind.i64.wrap (a : Int) = (a : Int) := w_i64 _ hb
  unfold execOp
  simp only [ho, hx]
  go_simp
theorem c_u64_u8 {a d : Nat} (h : a = d) (hb : d < 256) (w : World) (ho : o.op = .convert 30 5 x := by rfl) (hx : ρ x = Nv .u64 a := by kernel_rfl) : (execOp ρ o).run Try.prog w = .ok (.value (Nv .u8 d)) w := by
  subst h
  have h1 : IntKind.u8.wrap (a : Int) = (a : Int) := w_u8 _ hb
  unfold execOp
  simp only [ho, hx]
  go_simp
theorem cw_u64_u8 {a d : Nat} (h : a % 256 = d) (w : World) (ho : o.op = .convert 30 5 x := by rfl) (hx : ρ x = Nv .u64 a := by kernel_rfl) : (execOp ρ o).run Try.prog w = .ok (.value (Nv .u8 d)) w := by
  have h1 : IntKind.u8.wrap (a : Int) = (d : Int) := by rw [← h]; exact m_u8 _
  clear h
  unfold execOp
  simp only [ho, hx]
  go_simp
theorem c_u64_u16 {a d : Nat} (h : a = d) (hb : d < 65536) (w : World) (ho : o.op = .convert 30 66 x := by rfl) (hx : ρ x = Nv .u64 a := by kernel_rfl) : (execOp ρ o).run Try.prog w = .ok (.value (Nv .u16 d)) w := by
  subst h
  have h1 : IntKind.u16.wrap (a : Int) = (a : Int) := w_u16 _ hb
  unfold execOp
  simp only [ho, hx]
  go_simp
theorem cw_u64_u16 {a d : Nat} (h : a % 65536 = d) (w : World) (ho : o.op = .convert 30 66 x := by rfl) (hx : ρ x = Nv .u64 a := by kernel_rfl) : (execOp ρ o).run Try.prog w = .ok (.value (Nv .u16 d)) w := by
  have h1 : IntKind.u16.wrap (a : Int) = (d : Int) := by rw [← h]; exact m_u16 _
  clear h
  unfold execOp
  simp only [ho, hx]
  go_simp
theorem c_u64_u32 {a d : Nat} (h : a = d) (hb : d < 4294967296) (w : World) (ho : o.op = .convert 30 24 x := by rfl) (hx : ρ x = Nv .u64 a := by kernel_rfl) : (execOp ρ o).run Try.prog w = .ok (.value (Nv .u32 d)) w := by
  subst h
  have h1 : IntKind.u32.wrap (a : Int) = (a : Int) := w_u32 _ hb
  unfold execOp
  simp only [ho, hx]
  go_simp
theorem cw_u64_u32 {a d : Nat} (h : a % 4294967296 = d) (w : World) (ho : o.op = .convert 30 24 x := by rfl) (hx : ρ x = Nv .u64 a := by kernel_rfl) : (execOp ρ o).run Try.prog w = .ok (.value (Nv .u32 d)) w := by
  have h1 : IntKind.u32.wrap (a : Int) = (d : Int) := by rw [← h]; exact m_u32 _
  clear h
  unfold execOp
  simp only [ho, hx]
  go_simp
theorem c_u64_uint {a d : Nat} (h : a = d) (hb : d < 18446744073709551616) (w : World) (ho : o.op = .convert 30 29 x := by rfl) (hx : ρ x = Nv .u64 a := by kernel_rfl) : (execOp ρ o).run Try.prog w = .ok (.value (Nv .u64 d)) w := by
  subst h
  have h1 : IntKind.u64.wrap (a : Int) = (a : Int) := w_u64 _ hb
  unfold execOp
  simp only [ho, hx]
  go_simp
theorem c_uint_int {a d : Nat} (h : a = d) (hb : d < 9223372036854775808) (w : World) (ho : o.op = .convert 29 3 x := by rfl) (hx : ρ x = Nv .u64 a := by kernel_rfl) : (execOp ρ o).run Try.prog w = .ok (.value (Nv .i64 d)) w := by
  subst h
  have h1 : IntKind.i64.wrap (a : Int) = (a : Int) := w_i64 _ hb
  unfold execOp
  simp only [ho, hx]
  go_simp
theorem c_uint_u8 {a d : Nat} (h : a = d) (hb : d < 256) (w : World) (ho : o.op = .convert 29 5 x := by rfl) (hx : ρ x = Nv .u64 a := by kernel_rfl) : (execOp ρ o).run Try.prog w = .ok (.value (Nv .u8 d)) w := by
  subst h
  have h1 : IntKind.u8.wrap (a : Int) = (a : Int) := w_u8 _ hb
  unfold execOp
  simp only [ho, hx]
  go_simp
theorem cw_uint_u8 {a d : Nat} (h : a % 256 = d) (w : World) (ho : o.op = .convert 29 5 x := by rfl) (hx : ρ x = Nv .u64 a := by kernel_rfl) : (execOp ρ o).run Try.prog w = .ok (.value (Nv .u8 d)) w := by
  have h1 : IntKind.u8.wrap (a : Int) = (d : Int) := by rw [← h]; exact m_u8 _
  clear h
  unfold execOp
  simp only [ho, hx]
  go_simp
theorem c_uint_u16 {a d : Nat} (h : a = d) (hb : d < 65536) (w : World) (ho : o.op = .convert 29 66 x := by rfl) (hx : ρ x = Nv .u64 a := by kernel_rfl) : (execOp ρ o).run Try.prog w = .ok (.value (Nv .u16 d)) w := by
  subst h
  have h1 : IntKind.u16.wrap (a : Int) = (a : Int) := w_u16 _ hb
  unfold execOp
  simp only [ho, hx]
  go_simp
theorem cw_uint_u16 {a d : Nat} (h : a % 65536 = d) (w : World) (ho : o.op = .convert 29 66 x := by rfl) (hx : ρ x = Nv .u64 a := by kernel_rfl) : (execOp ρ o).run Try.prog w = .ok (.value (Nv .u16 d)) w := by
  have h1 : IntKind.u16.wrap (a : Int) = (d : Int) := by rw [← h]; exact m_u16 _
  clear h
  unfold execOp
  simp only [ho, hx]
  go_simp
theorem c_uint_u32 {a d : Nat} (h : a = d) (hb : d < 4294967296) (w : World) (ho : o.op = .convert 29 24 x := by rfl) (hx : ρ x = Nv .u64 a := by kernel_rfl) : (execOp ρ o).run Try.prog w = .ok (.value (Nv .u32 d)) w := by
  subst h
  have h1 : IntKind.u32.wrap (a : Int) = (a : Int) := w_u32 _ hb
  unfold execOp
  simp only [ho, hx]
  go_simp
theorem cw_uint_u32 {a d : Nat} (h : a % 4294967296 = d) (w : World) (ho : o.op = .convert 29 24 x := by rfl) (hx : ρ x = Nv .u64 a := by kernel_rfl) : (execOp ρ o).run Try.prog w = .ok (.value (Nv .u32 d)) w := by
  have h1 : IntKind.u32.wrap (a : Int) = (d : Int) := by rw [← h]; exact m_u32 _
  clear h
  unfold execOp
  simp only [ho, hx]
  go_simp
theorem c_uint_u64 {a d : Nat} (h : a = d) (hb : d < 18446744073709551616) (w : World) (ho : o.op = .convert 29 30 x := by rfl) (hx : ρ x = Nv .u64 a := by kernel_rfl) : (execOp ρ o).run Try.prog w = .ok (.value (Nv .u64 d)) w := by
  subst h
  have h1 : IntKind.u64.wrap (a : Int) = (a : Int) := w_u64 _ hb
  unfold execOp
  simp only [ho, hx]
  go_simp
end
end B
end Go.Proofs.Ytkljpidlfddgbaa

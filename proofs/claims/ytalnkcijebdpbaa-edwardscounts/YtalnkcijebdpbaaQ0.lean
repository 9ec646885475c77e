/- What the laws' walks share. -/
import Derived.Test.YtalnkcijebdpbaaPl
namespace Go.Proofs.Ytalnkcijebdpbaa
open F Go.RowKit

theorem same_self (f : Nat → Nat) : sameB f f = true := (sameB_iff f f).2 fun _ _ => rfl
theorem eqb_c {ρ : Operand → Value} {o : Oper} (x y : Operand) (b : Bool) (w : World) (ho : o.op = .binOp .eql 4 x y 4) (hx : ρ x = .bool b) (hy : ρ y = .bool b) : (execOp ρ o).run Try.prog w = .ok (.value (.bool true)) w := by
  unfold execOp
  simp only [ho, hx, hy]
  cases b <;> kernel_rfl
theorem decR_num {n : Nat} (hn : n < 2 ^ 256) (h : (decR n).2 = true) : num7 (decR n).1 = n := by
  unfold decR at *
  cases hd : dec7 n with
  | none => rw [hd] at h; cases h
  | some P => rw [hd] at h; exact (dec7_ok n hn P hd).2
theorem decR_no {n : Nat} (h : (decR n).2 = false) : (decR n).1 = zero7 := by
  unfold decR at *
  cases hd : dec7 n with
  | none => rfl
  | some P => rw [hd] at h; cases h
theorem same_byt {f : Nat → Nat} (hf : ∀ i, f i < 256) {n : Nat} (h : n = nb f 32) : sameB (byt n) f = true := by
  rw [same_num (byt_lt _) hf, h, nb_byt32 (nb_lt32 f hf)]; exact decide_eq_true rfl
end Go.Proofs.Ytalnkcijebdpbaa

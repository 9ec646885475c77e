/- The ladder's numbers in the field's own words: sums, differences, products and the inverse of chapter 1. -/
import Derived.Test.YtidhffaphbiapaaEy
namespace Go.Proofs.Ytidhffaphbiapaa
open F

theorem qa_am (x y : Nat) : qa pP x y = am x y := rfl
theorem qs_sm (x y : Nat) : qs pP x y = sm x y := rfl
theorem qm_mm (x y : Nat) : qm pP x y = mm x y := rfl
theorem iN_inv (b : Nat) (h : b < pP) : invV b = iN b := inv_pow b h
end Go.Proofs.Ytidhffaphbiapaa

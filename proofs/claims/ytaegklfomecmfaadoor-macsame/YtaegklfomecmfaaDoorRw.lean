/- How much memory bytes that came in may take. -/
import Derived.Test.YtaegklfomecmfaaDoorRn
namespace Go.Proofs.YtaegklfomecmfaaDoor
open Go.ChangeShapes Go.WideShapes Go.ChangeAt Go.RowKit

theorem bytesOf5 : Tryd.prog.bytesOf 5 = 1 := by kernel_rfl
theorem bytes_weight {H : Type} {enc : TypeId × Value → H} {W : World} {base : Nat} {spare : Nat → Bool} {held : Bool} {A : Option Addr} {n cap : Nat} {d : DataW H} {p : List MemPlace}
    (h : DataW.Trod enc Tryd.prog W base spare held 22 (.slice A n cap) d p) (hw : (d.weights Tryd.prog 22).all (· ≤ reachBytes) = true) : n ≤ 2 ^ 47 := by
  obtain ⟨fuel, hf⟩ := h
  rcases open_ints Tryd.underlying22 Tryd.underlying5 cellsOf5 hf with ⟨h0, _⟩ | ⟨a, len', cap', zs, hcs, _, _, _, hz, hx, _⟩
  · have : Value.slice A n cap = .slice none 0 0 := by simpa [Value.cells] using h0
    injection this with e1 e2 e3
    omega
  · have : Value.slice A n cap = .slice (some a) len' cap' := by simpa [Value.cells] using hcs
    injection this with e1 e2 e3
    subst e1 e2 e3
    have hd := congrArg Prod.fst hx
    dsimp only at hd
    subst hd
    have hle : n ≤ zs.length := by rw [hz]; split <;> omega
    have hl : ∀ t : List Int, (lits (H := H) .u8 t).length = t.length := fun t => by simp [lits]
    simp only [DataW.weights, Tryd.underlying22, bytesOf5, hl, List.all_cons, Bool.and_eq_true, decide_eq_true_eq] at hw
    have h1 := hw.1
    rw [List.length_take, List.length_drop] at h1
    have h2 : reachBytes ≤ 2 ^ 47 := by decide
    omega
end Go.Proofs.YtaegklfomecmfaaDoor

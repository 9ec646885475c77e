/- How the steps that came in are read: of each four cells. -/
import Derived.Test.YtbjcfibpiiplaaaRo
import Derived.Test.YtbjcfibpiiplaaaPa
import Derived.Deep.Slices
namespace Go.Proofs.Ytbjcfibpiiplaaa
open Go.ChangeShapes Go.WideShapes Go.ChangeAt Go.RowKit

theorem cellsOf52 : Try.prog.cellsOf 52 = 4 := by kernel_rfl
theorem cellsOf3 : Try.prog.cellsOf 3 = 1 := by kernel_rfl
theorem u8_of {n : Int} (h : (Lit.int .u8 n).wf = true) : ∃ m : Nat, m < 256 ∧ n = (m : Int) := by
  have hb := bounds_u8 h
  exact ⟨n.toNat, by omega, by omega⟩
theorem open_steps {H : Type} {enc : TypeId × Value → H} {W : World} {base b2 : Nat} {spare : Nat → Bool} {held : Bool} {v : Value} {d : DataW H} {p : List MemPlace} (hv : Value.okWide Try.prog W .any b2 47 v)
    (h : DataW.Trod enc Try.prog W base spare held 47 v d p) : ∃ (A : Option Addr) (len cap : Nat), v = .slice A len cap ∧ Steps W A len := by
  obtain ⟨A, len, cap, rfl⟩ := okWide_slice Try.underlying47 hv
  refine ⟨A, len, cap, rfl, ?_⟩
  obtain ⟨fuel, hf⟩ := h
  rcases Go.Deep.open_slice Try.underlying47 hf with ⟨h0, _⟩ | ⟨a, len', cap', m, n, D, Pl, hcs, hb, hl, hm, hmm, _, hx⟩
  · simp only [Value.cells] at h0
    have : Value.slice A len cap = .slice none 0 0 := by simpa using h0
    injection this with e1 e2 e3
    subst e2
    intro i hi; omega
  · have : Value.slice A len cap = .slice (some a) len' cap' := by simpa [Value.cells] using hcs
    injection this with e1 e2 e3
    subst e1 e2 e3
    intro i hi
    have hlm : len ≤ m := by rw [hmm]; split <;> omega
    obtain ⟨cs', h1, h2⟩ := hx i (by omega)
    rw [cellsOf52] at h1
    obtain ⟨_, hlen, hcell⟩ := World.cells?_some h1
    obtain ⟨xs, k, hk, hxy, _, hxl, hfl⟩ := DataW.trod_struct Try.underlying52 h2
    match xs, hxl, cs', hlen with
    | [y0, y1, y2, y3], _, [v0, v1, v2, v3], _ =>
      have g0 := hfl 0 _ rfl
      have g1 := hfl 1 _ rfl
      have g2 := hfl 2 _ rfl
      have g3 := hfl 3 _ rfl
      simp [cellsOf3, cellsOf5] at g0 g1 g2 g3
      obtain ⟨n0, q0, _, _⟩ := DataW.trod_int Try.underlying3 g0
      obtain ⟨n1, q1, _, w1⟩ := DataW.trod_int Try.underlying5 g1
      obtain ⟨n2, q2, _, w2⟩ := DataW.trod_int Try.underlying5 g2
      obtain ⟨n3, q3, _, w3⟩ := DataW.trod_int Try.underlying5 g3
      obtain ⟨m1, l1, rfl⟩ := u8_of w1
      obtain ⟨m2, l2, rfl⟩ := u8_of w2
      obtain ⟨m3, l3, rfl⟩ := u8_of w3
      simp only [List.cons.injEq, and_true] at q0 q1 q2 q3
      subst q0 q1 q2 q3
      have e0 := hcell 0 (by omega)
      have e1 := hcell 1 (by omega)
      have e2 := hcell 2 (by omega)
      have e3 := hcell 3 (by omega)
      rw [Go.Deep.add_add] at e0 e1 e2 e3
      simp only [Nat.add_zero, List.getElem?_cons_zero, List.getElem?_cons_succ] at e0 e1 e2 e3
      rw [← Go.Deep.add_add] at e1 e2 e3
      obtain ⟨ea, hea⟩ : ∃ ea, a.add (i * 4) = ea := ⟨_, rfl⟩
      rw [hea] at e0 e1 e2 e3
      refine ⟨a, rfl, ea, n0, m1, m2, m3, hea, World.block_lt_of_cell? W _ e0, l1, l2, l3, e0, e1, e2, e3⟩
end Go.Proofs.Ytbjcfibpiiplaaa

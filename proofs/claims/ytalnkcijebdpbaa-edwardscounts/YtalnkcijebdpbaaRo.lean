/- How 32 bytes that came in by value are read: they are a row of 32 numbers below 256. -/
import Derived.Test.YtalnkcijebdpbaaRows
import Derived.Test.YtalnkcijebdpbaaPb
import Derived.ProofKit
import Derived.OpenShut
import Derived.ChangeOld
namespace Go.Proofs.Ytalnkcijebdpbaa
open F Go.ChangeShapes Go.WideShapes Go.ChangeAt Go.RowKit

theorem own : ownKnob Try.prog.godebug = none := by kernel_rfl
theorem laidOut : laidOutB Try.prog = true := by kernel_rfl
theorem cellsOf22 : Try.prog.cellsOf 22 = 32 := by kernel_rfl
theorem cellsOf5 : Try.prog.cellsOf 5 = 1 := by kernel_rfl

/-- What a cell's byte is. -/
def byteOf (v : Value) : Nat := match v with | .int .u8 n => n.toNat | _ => 0

set_option maxRecDepth 100000 in
theorem open_bytes32 {H : Type} {enc : TypeId × Value → H} {W : World} {base b2 : Nat} {spare : Nat → Bool} {held : Bool} {v : Value} {d : DataW H} {p : List MemPlace} (hv : Value.okWide Try.prog W .any b2 22 v)
    (h : DataW.Trod enc Try.prog W base spare held 22 v d p) : ∃ f : Nat → Nat, (∀ i, f i < 256) ∧ v = ba f := by
  have hv' : ∃ cs, v = .agg cs ∧ cs.size = 32 := by
    unfold Value.okWide at hv
    rw [Try.underlying22] at hv
    obtain ⟨cs, rfl, hs, _⟩ := hv
    exact ⟨cs, rfl, by rw [hs, cellsOf22]⟩
  obtain ⟨cs, rfl, hs⟩ := hv'
  obtain ⟨fuel, hf⟩ := h
  obtain ⟨xs, m, _, _, _, hl, hx⟩ := DataW.trod_array Try.underlying22 hf
  have hcell : ∀ i, i < 32 → ∃ n : Nat, n < 256 ∧ cs[i]? = some (.int .u8 (n : Int)) := by
    intro i hi
    have h1 := hx i hi
    rw [List.getElem?_eq_getElem (by omega), cellsOf5, Nat.mul_one] at h1
    obtain ⟨n, e0, _, wf⟩ := DataW.trod_int Try.underlying5 h1
    have hb := bounds_u8 wf
    refine ⟨n.toNat, by omega, ?_⟩
    rw [show ((n.toNat : Nat) : Int) = n by omega]
    have h2 : (cs.toList.drop i).take 1 = [.int .u8 n] := e0
    rw [Array.getElem?_eq_getElem (by omega)]
    rw [List.drop_eq_getElem_cons (by simpa using (by omega : i < cs.size))] at h2
    simpa using h2
  refine ⟨fun i => if i < 32 then byteOf ((cs[i]?).getD undef) else 0, ?_, ?_⟩
  · intro i
    show (if i < 32 then byteOf ((cs[i]?).getD undef) else 0) < 256
    split
    · rename_i hi
      obtain ⟨n, hn, he⟩ := hcell i hi
      rw [he]
      show n < 256
      exact hn
    · omega
  · unfold ba
    congr 1
    apply Array.ext_getElem?
    intro i
    by_cases hi : i < 32
    · rw [vals_get _ _ _ i hi, if_pos hi]
      obtain ⟨n, hn, he⟩ := hcell i hi
      rw [he]
      rfl
    · rw [Array.getElem?_eq_none (by omega), Array.getElem?_eq_none (by rw [vals_size]; omega)]
end Go.Proofs.Ytalnkcijebdpbaa

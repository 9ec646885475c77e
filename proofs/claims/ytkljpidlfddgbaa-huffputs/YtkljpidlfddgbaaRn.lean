/- How what came in is read: slices of numbers. No conditions. -/
import Derived.Test.YtkljpidlfddgbaaRows
import Derived.Test.YtkljpidlfddgbaaRb
import Derived.Test.YtkljpidlfddgbaaRh
import Derived.ProofKit
import Derived.OpenShut
import Derived.ChangeOld
import Derived.Deep.Slices
namespace Go.Proofs.Ytkljpidlfddgbaa
set_option maxRecDepth 100000
open Go.ChangeShapes Go.WideShapes Go.ChangeAt Go.RowKit B H

theorem own : ownKnob Try.prog.godebug = none := by kernel_rfl
theorem laidOut : laidOutB Try.prog = true := by kernel_rfl
theorem cellsOfU8 : Try.prog.cellsOf 5 = 1 := by kernel_rfl
theorem cellsOfU16 : Try.prog.cellsOf 66 = 1 := by kernel_rfl
theorem cellsOfU32 : Try.prog.cellsOf 24 = 1 := by kernel_rfl
theorem cellsOfInt : Try.prog.cellsOf 3 = 1 := by kernel_rfl
def ge (l : List Nat) (i : Nat) : Nat := l.getD i 0
theorem ge_lt {l : List Nat} {B : Nat} (h0 : 0 < B) (h : ∀ x ∈ l, x < B) (i : Nat) : ge l i < B := by
  unfold ge
  rw [List.getD_eq_getElem?_getD]
  cases e : l[i]? with
  | none => simpa using h0
  | some v => exact h v (List.mem_of_getElem? e)
abbrev nwA (l : Nat → Nat) : Nat → Value := Go.Proofs.Ytkljpidlfddgbaa.H.nw l
def nh (l : Nat → Nat) (i : Nat) : Value := .int .u16 ((l i : Nat) : Int)
theorem open_nats {H : Type} {enc : TypeId × Value → H} {W : World} {base b2 B : Nat} {t e : TypeId} {k : IntKind} {spare : Nat → Bool} {held : Bool} {v : Value} {d : DataW H} {p : List MemPlace} (hu : Try.prog.underlying t = some (.slice e)) (he : Try.prog.underlying e = some (.int k)) (hc : Try.prog.cellsOf e = 1) (hB : ∀ n, (Lit.int k n).wf = true → 0 ≤ n ∧ n < (B : Int)) (hv : Value.okWide Try.prog W .any b2 t v)
    (h : DataW.Trod enc Try.prog W base spare held t v d p) : ∃ (A : Option Addr) (l : List Nat) (cap : Nat), v = .slice A l.length cap ∧ l.length ≤ cap ∧ cap ≤ maxLen ∧ (∀ x ∈ l, x < B) ∧
      (l = [] ∨ ∃ a, A = some a ∧ a.block < W.heap.size ∧ ∀ (i : Nat) (x : Nat), l[i]? = some x → W.cell? (a.add i) = some (.int k (x : Nat))) := by
  obtain ⟨A, len, cap, rfl⟩ := okWide_slice hu hv
  obtain ⟨fuel, hf⟩ := h
  rcases open_ints hu he hc hf with ⟨h0, _⟩ | ⟨a, len', cap', zs, hcs, hb, hl, hm, hz, _, hcell, hwf⟩
  · have : Value.slice A len cap = .slice none 0 0 := by simpa [Value.cells] using h0
    injection this with e1 e2 e3
    subst e1 e2 e3
    exact ⟨none, [], 0, rfl, Nat.le_refl _, Nat.zero_le _, (fun x hx => nomatch hx), Or.inl rfl⟩
  · have : Value.slice A len cap = .slice (some a) len' cap' := by simpa [Value.cells] using hcs
    injection this with e1 e2 e3
    subst e1 e2 e3
    have hle : len ≤ zs.length := by rw [hz]; split <;> omega
    have hlen : ((zs.take len).map Int.toNat).length = len := by simp; omega
    have hget : ∀ (i : Nat) (x : Nat), ((zs.take len).map Int.toNat)[i]? = some x → i < len ∧ W.cell? (a.add i) = some (.int k (x : Nat)) ∧ x < B := by
      intro i x hx
      have hi : i < len := by
        have := (List.getElem?_eq_some_iff.1 hx).1
        rw [hlen] at this; exact this
      rw [List.getElem?_map, List.getElem?_take, if_pos hi, List.getElem?_eq_getElem (by omega)] at hx
      obtain rfl := Option.some.inj hx
      have hb := hB _ (hwf _ (List.getElem_mem (by omega : i < zs.length)))
      refine ⟨hi, ?_, by omega⟩
      rw [hcell i (by omega), List.getD_eq_getElem?_getD, List.getElem?_eq_getElem (by omega), Option.getD_some]
      congr 2; omega
    refine ⟨some a, (zs.take len).map Int.toNat, cap, by rw [hlen], by rw [hlen]; exact hl, hm, fun x hx => ?_, ?_⟩
    · obtain ⟨i, hi⟩ := List.getElem?_of_mem hx
      exact (hget i x hi).2.2
    · by_cases h0 : len = 0
      · left; exact List.eq_nil_of_length_eq_zero (by rw [hlen]; exact h0)
      · right
        refine ⟨a, rfl, ?_, fun i x hx => (hget i x hx).2.1⟩
        have := World.block_lt_of_cell? W _ (hcell 0 (by omega))
        simpa [Addr.add] using this
theorem open_bytes {H : Type} {enc : TypeId × Value → H} {W : World} {base b2 : Nat} {spare : Nat → Bool} {held : Bool} {v : Value} {d : DataW H} {p : List MemPlace} (hv : Value.okWide Try.prog W .any b2 44 v)
    (h : DataW.Trod enc Try.prog W base spare held 44 v d p) : ∃ (A : Option Addr) (n cap : Nat) (f : Nat → Nat), v = .slice A n cap ∧ n ≤ cap ∧ cap ≤ maxLen ∧ (∀ i, f i < 256) ∧ Rc W A n (by8 f) := by
  obtain ⟨A, l, cap, hv, hl, hm, hx, hr⟩ := open_nats (B := 256) Try.underlying44 Try.underlying5 cellsOfU8 (fun n h => by have := bounds_u8 h; omega) hv h
  refine ⟨A, l.length, cap, ge l, hv, hl, hm, ge_lt (by decide) hx, ?_⟩
  rcases hr with rfl | ⟨a, ha, hb, hc⟩
  · exact Or.inl rfl
  · refine Or.inr ⟨a, ha, hb, fun i hi => ?_⟩
    have e : ge l i = l[i] := by
      unfold ge
      rw [List.getD_eq_getElem?_getD, List.getElem?_eq_getElem hi]; rfl
    rw [hc i _ (List.getElem?_eq_getElem hi), ← e]
    rfl
theorem open_u16s {H : Type} {enc : TypeId × Value → H} {W : World} {base b2 : Nat} {spare : Nat → Bool} {held : Bool} {v : Value} {d : DataW H} {p : List MemPlace} (hv : Value.okWide Try.prog W .any b2 65 v)
    (h : DataW.Trod enc Try.prog W base spare held 65 v d p) : ∃ (A : Option Addr) (n cap : Nat) (f : Nat → Nat), v = .slice A n cap ∧ n ≤ cap ∧ cap ≤ maxLen ∧ (∀ i, f i < 65536) ∧ Rc W A n (nh f) := by
  obtain ⟨A, l, cap, hv, hl, hm, hx, hr⟩ := open_nats (B := 65536) Try.underlying65 Try.underlying66 cellsOfU16 (fun n h => by have := bounds_u16 h; omega) hv h
  refine ⟨A, l.length, cap, ge l, hv, hl, hm, ge_lt (by decide) hx, ?_⟩
  rcases hr with rfl | ⟨a, ha, hb, hc⟩
  · exact Or.inl rfl
  · refine Or.inr ⟨a, ha, hb, fun i hi => ?_⟩
    have e : ge l i = l[i] := by
      unfold ge
      rw [List.getD_eq_getElem?_getD, List.getElem?_eq_getElem hi]; rfl
    rw [hc i _ (List.getElem?_eq_getElem hi), ← e]
    rfl
theorem open_u32s {H : Type} {enc : TypeId × Value → H} {W : World} {base b2 : Nat} {spare : Nat → Bool} {held : Bool} {v : Value} {d : DataW H} {p : List MemPlace} (hv : Value.okWide Try.prog W .any b2 23 v)
    (h : DataW.Trod enc Try.prog W base spare held 23 v d p) : ∃ (A : Option Addr) (n cap : Nat) (f : Nat → Nat), v = .slice A n cap ∧ n ≤ cap ∧ cap ≤ maxLen ∧ (∀ i, f i < 4294967296) ∧ Rc W A n (nwA f) := by
  obtain ⟨A, l, cap, hv, hl, hm, hx, hr⟩ := open_nats (B := 4294967296) Try.underlying23 Try.underlying24 cellsOfU32 (fun n h => by have := bounds_u32 h; omega) hv h
  refine ⟨A, l.length, cap, ge l, hv, hl, hm, ge_lt (by decide) hx, ?_⟩
  rcases hr with rfl | ⟨a, ha, hb, hc⟩
  · exact Or.inl rfl
  · refine Or.inr ⟨a, ha, hb, fun i hi => ?_⟩
    have e : ge l i = l[i] := by
      unfold ge
      rw [List.getD_eq_getElem?_getD, List.getElem?_eq_getElem hi]; rfl
    rw [hc i _ (List.getElem?_eq_getElem hi), ← e]
    rfl
theorem open_intz {H : Type} {enc : TypeId × Value → H} {W : World} {base b2 : Nat} {spare : Nat → Bool} {held : Bool} {v : Value} {d : DataW H} {p : List MemPlace} (hv : Value.okWide Try.prog W .any b2 25 v)
    (h : DataW.Trod enc Try.prog W base spare held 25 v d p) : ∃ (A : Option Addr) (n cap : Nat) (z : Nat → Int), v = .slice A n cap ∧ n ≤ cap ∧ cap ≤ maxLen ∧ (∀ i, -9223372036854775808 ≤ z i ∧ z i < 9223372036854775808) ∧ Rc W A n (zi z) := by
  obtain ⟨A, len, cap, rfl⟩ := okWide_slice Try.underlying25 hv
  obtain ⟨fuel, hf⟩ := h
  rcases open_ints Try.underlying25 Try.underlying3 cellsOfInt hf with ⟨h0, _⟩ | ⟨a, len', cap', zs, hcs, hb, hl, hm, hz, _, hcell, hwf⟩
  · have : Value.slice A len cap = .slice none 0 0 := by simpa [Value.cells] using h0
    injection this with e1 e2 e3
    subst e1 e2 e3
    exact ⟨none, 0, 0, fun _ => 0, rfl, Nat.le_refl _, Nat.zero_le _, fun _ => ⟨(by decide : (-9223372036854775808 : Int) ≤ 0), (by decide : (0 : Int) < 9223372036854775808)⟩, Or.inl rfl⟩
  · have : Value.slice A len cap = .slice (some a) len' cap' := by simpa [Value.cells] using hcs
    injection this with e1 e2 e3
    subst e1 e2 e3
    have hle : len ≤ zs.length := by rw [hz]; split <;> omega
    refine ⟨some a, len, cap, fun i => zs.getD i 0, rfl, hl, hm, fun i => ?_, ?_⟩
    · show -9223372036854775808 ≤ zs.getD i 0 ∧ zs.getD i 0 < 9223372036854775808
      rw [List.getD_eq_getElem?_getD]
      by_cases hi : i < zs.length
      · rw [List.getElem?_eq_getElem hi, Option.getD_some]
        have := bounds_i64 (hwf _ (List.getElem_mem hi))
        omega
      · rw [List.getElem?_eq_none (by omega), Option.getD_none]; omega
    · by_cases h0 : len = 0
      · exact .inl h0
      · refine .inr ⟨a, rfl, ?_, fun i hi => hcell i (by omega)⟩
        have := World.block_lt_of_cell? W _ (hcell 0 (by omega))
        simpa [Addr.add] using this
end Go.Proofs.Ytkljpidlfddgbaa

/- How bytes that came in by value are read: they are a row of numbers below 256; and what the condition on the package's variable gives. -/
import Derived.Test.YtalnkcijebdpbaaDoorRows
import Derived.Test.YtalnkcijebdpbaaDoorAf
import Derived.ProofKit
import Derived.OpenShut
import Derived.ChangeOld
import Derived.LaidMore
import Derived.Stop.Joined
namespace Go.Proofs.YtalnkcijebdpbaaDoor
open S Go.ChangeShapes Go.WideShapes Go.ChangeAt Go.RowKit

theorem own : ownKnob Tryd.prog.godebug = none := by kernel_rfl
theorem laidOut : laidOutB Tryd.prog = true := by kernel_rfl
theorem cellsOf23 : Tryd.prog.cellsOf 22 = 32 := by kernel_rfl
theorem cellsOf5 : Tryd.prog.cellsOf 5 = 1 := by kernel_rfl
theorem cellsOf35 : Tryd.prog.cellsOf 24 = 1 := by kernel_rfl
theorem cellsOf41 : Tryd.prog.cellsOf 25 = 4 := by kernel_rfl
theorem gOrder : Tryd.prog.globalNamed "fardel/scalar.order" = some 0 := by kernel_rfl
theorem tOrder : (Tryd.prog.globals[0]?).map (·.type) = some 25 := by kernel_rfl

/-- What a cell's byte is. -/
def byteOf (v : Value) : Nat := match v with | .int .u8 n => n.toNat | _ => 0

set_option maxRecDepth 100000 in
theorem open_bytes {H : Type} {enc : TypeId × Value → H} {W : World} {base b2 N : Nat} {t : TypeId} {spare : Nat → Bool} {held : Bool} {v : Value} {d : DataW H} {p : List MemPlace} (hu : Tryd.prog.underlying t = some (.array N 5)) (hc : Tryd.prog.cellsOf t = N) (hv : Value.okWide Tryd.prog W .any b2 t v)
    (h : DataW.Trod enc Tryd.prog W base spare held t v d p) : ∃ f : Nat → Nat, (∀ i, f i < 256) ∧ v = .agg (vals .u8 N f) := by
  have hv' : ∃ cs, v = .agg cs ∧ cs.size = N := by
    unfold Value.okWide at hv
    rw [hu] at hv
    obtain ⟨cs, rfl, hs, _⟩ := hv
    exact ⟨cs, rfl, by rw [hs, hc]⟩
  obtain ⟨cs, rfl, hs⟩ := hv'
  obtain ⟨fuel, hf⟩ := h
  obtain ⟨xs, m, _, _, _, hl, hx⟩ := DataW.trod_array hu hf
  have hcell : ∀ i, i < N → ∃ n : Nat, n < 256 ∧ cs[i]? = some (.int .u8 (n : Int)) := by
    intro i hi
    have h1 := hx i hi
    rw [List.getElem?_eq_getElem (by omega), cellsOf5, Nat.mul_one] at h1
    obtain ⟨n, e0, _, wf⟩ := DataW.trod_int Tryd.underlying5 h1
    have hb := bounds_u8 wf
    refine ⟨n.toNat, by omega, ?_⟩
    rw [show ((n.toNat : Nat) : Int) = n by omega]
    have h2 : (cs.toList.drop i).take 1 = [.int .u8 n] := e0
    rw [Array.getElem?_eq_getElem (by omega)]
    rw [List.drop_eq_getElem_cons (by simpa using (by omega : i < cs.size))] at h2
    simpa using h2
  refine ⟨fun i => if i < N then byteOf ((cs[i]?).getD undef) else 0, ?_, ?_⟩
  · intro i
    show (if i < N then byteOf ((cs[i]?).getD undef) else 0) < 256
    split
    · rename_i hi
      obtain ⟨n, hn, he⟩ := hcell i hi
      rw [he]
      show n < 256
      exact hn
    · omega
  · congr 1
    apply Array.ext_getElem?
    intro i
    by_cases hi : i < N
    · rw [vals_get _ _ _ i hi, if_pos hi]
      obtain ⟨n, hn, he⟩ := hcell i hi
      rw [he]
      rfl
    · rw [Array.getElem?_eq_none (by omega), Array.getElem?_eq_none (by rw [vals_size]; omega)]
theorem open_bytes32 {H : Type} {enc : TypeId × Value → H} {W : World} {base b2 : Nat} {spare : Nat → Bool} {held : Bool} {v : Value} {d : DataW H} {p : List MemPlace} (hv : Value.okWide Tryd.prog W .any b2 22 v)
    (h : DataW.Trod enc Tryd.prog W base spare held 22 v d p) : ∃ f : Nat → Nat, (∀ i, f i < 256) ∧ v = ba f := open_bytes Tryd.underlying22 cellsOf23 hv h
set_option maxRecDepth 100000 in
theorem of_laid {W : World} (h : laidMetH Tryd.prog [("fardel/scalar.order", Rows.laid_fardel_scalar_order)] W) : Glob W := by
  rw [MakeChecks.laidMetH_plain _ _ _ (by kernel_rfl)] at h
  obtain ⟨ps, ⟨g0, t0, cs0, f0, p0, q0, hg0, ht0, hv0, hd0, _, _⟩, _, _⟩ := h
  obtain rfl := Option.some.inj (gOrder.symm.trans hg0)
  obtain rfl := Option.some.inj (tOrder.symm.trans ht0)
  obtain ⟨xs, m1, hm1, hx1, hlen, hn4, hel⟩ := DataW.trod_array Tryd.underlying25 hd0
  have key : ∀ i x, xs[i]? = some x → i < 4 → ∃ k : Int, x.1 = .lit (.int .u64 k) ∧ cs0[i]? = some (.int .u64 k) := by
    intro i x hx hi
    have h1 := hel i hi
    rw [hx, cellsOf35, Nat.mul_one] at h1
    obtain ⟨n, e0, e1, wf⟩ := DataW.trod_int Tryd.underlying24 h1
    refine ⟨n, by rw [e1], ?_⟩
    have h2 : (cs0.toList.drop i).take 1 = [.int .u64 n] := e0
    have hlt : i < cs0.toList.length := by
      rcases Nat.lt_or_ge i cs0.toList.length with h | h
      · exact h
      · rw [List.drop_eq_nil_of_le h] at h2; simp at h2
    rw [List.drop_eq_getElem_cons hlt] at h2
    rw [Array.getElem?_eq_getElem (by simpa using hlt)]
    simpa using h2
  rw [cellsOf41] at hlen
  match xs, hn4, hx1, key with
  | [x0, x1, x2, x3], _, hx1, key =>
    simp only [Rows.laid_fardel_scalar_order, Prod.mk.injEq, DataW.agg.injEq, List.map_cons, List.map_nil, List.cons.injEq, and_true] at hx1
    obtain ⟨⟨a0, a1, a2, a3⟩, _⟩ := hx1
    obtain ⟨k0, e0, c0⟩ := key 0 x0 rfl (by omega)
    obtain ⟨k1, e1, c1⟩ := key 1 x1 rfl (by omega)
    obtain ⟨k2, e2, c2⟩ := key 2 x2 rfl (by omega)
    obtain ⟨k3, e3, c3⟩ := key 3 x3 rfl (by omega)
    rw [e0] at a0
    rw [e1] at a1
    rw [e2] at a2
    rw [e3] at a3
    simp only [DataW.lit.injEq, Lit.int.injEq, true_and] at a0 a1 a2 a3
    subst a0 a1 a2 a3
    have hcs : cs0 = arr 4 (limb qL) := by
      rw [qL_arr]
      apply Array.ext_getElem?
      intro i
      rcases i with _ | _ | _ | _ | i
      · rw [c0]; rfl
      · rw [c1]; rfl
      · rw [c2]; rfl
      · rw [c3]; rfl
      · rw [Array.getElem?_eq_none (by rw [← Array.length_toList]; omega), Array.getElem?_eq_none (by simp)]
    subst hcs
    unfold World.var? at hv0
    rw [hg0, Option.bind_some] at hv0
    split at hv0
    · rename_i cs t fz hh
      obtain rfl := Option.some.inj hv0
      exact ⟨t, fz, hh⟩
    · cases hv0
end Go.Proofs.YtalnkcijebdpbaaDoor

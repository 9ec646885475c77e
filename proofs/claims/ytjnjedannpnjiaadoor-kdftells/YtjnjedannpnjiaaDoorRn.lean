/- How what came in is read: slices of numbers; and what the condition on the package's variables gives. -/
import Derived.Test.YtjnjedannpnjiaaDoorRows
import Derived.Test.YtjnjedannpnjiaaDoorCf
import Derived.ProofKit
import Derived.OpenShut
import Derived.ChangeOld
import Derived.LaidMore
import Derived.Stop.Joined
import Derived.Deep.Slices
namespace Go.Proofs.YtjnjedannpnjiaaDoor
open Go.ChangeShapes Go.WideShapes Go.ChangeAt Go.RowKit

theorem own : ownKnob Tryd.prog.godebug = none := by kernel_rfl
theorem laidOut : laidOutB Tryd.prog = true := by kernel_rfl
theorem cellsOf5 : Tryd.prog.cellsOf 5 = 1 := by kernel_rfl
theorem cellsOf27 : Tryd.prog.cellsOf 44 = 1 := by kernel_rfl
theorem cellsOf28 : Tryd.prog.cellsOf 45 = 8 := by kernel_rfl
theorem cellsOf36 : Tryd.prog.cellsOf 52 = 80 := by kernel_rfl
theorem gFirst : Tryd.prog.globalNamed "fardel/sha.first" = some 0 := by kernel_rfl
theorem tFirst : (Tryd.prog.globals[0]?).map (·.type) = some 45 := by kernel_rfl
theorem gCons : Tryd.prog.globalNamed "fardel/sha.constants" = some 1 := by kernel_rfl
theorem tCons : (Tryd.prog.globals[1]?).map (·.type) = some 52 := by kernel_rfl

theorem open_nats {H : Type} {enc : TypeId × Value → H} {W : World} {base b2 B : Nat} {t e : TypeId} {k : IntKind} {spare : Nat → Bool} {held : Bool} {v : Value} {d : DataW H} {p : List MemPlace} (hu : Tryd.prog.underlying t = some (.slice e)) (he : Tryd.prog.underlying e = some (.int k)) (hc : Tryd.prog.cellsOf e = 1) (hB : ∀ n, (Lit.int k n).wf = true → 0 ≤ n ∧ n < (B : Int)) (hv : Value.okWide Tryd.prog W .any b2 t v)
    (h : DataW.Trod enc Tryd.prog W base spare held t v d p) : ∃ (A : Option Addr) (l : List Nat) (cap : Nat), v = .slice A l.length cap ∧ l.length ≤ cap ∧ cap ≤ maxLen ∧ (∀ x ∈ l, x < B) ∧
      (l = [] ∨ ∃ a, A = some a ∧ a.block < W.heap.size ∧ ∀ (i : Nat) (x : Nat), l[i]? = some x → W.cell? (a.add i) = some (.int k (x : Nat))) := by
  obtain ⟨A, len, cap, rfl⟩ := okWide_slice hu hv
  obtain ⟨fuel, hf⟩ := h
  rcases open_ints hu he hc hf with ⟨h0, _⟩ | ⟨a, len', cap', zs, hcs, hb, hl, hm, hz, _, hcell, hwf⟩
  · have : Value.slice A len cap = .slice none 0 0 := by simpa [Value.cells] using h0
    injection this with e1 e2 e3
    subst e1 e2 e3
    exact ⟨none, [], 0, rfl, Nat.le_refl _, Nat.zero_le _, (fun x hx => nomatch hx), Or.inl rfl⟩
  · have : Value.slice A len cap = .slice (some a) len' cap' := by simpa [Value.cells] using hcs
    injection this with e1 e2 e3
    subst e1 e2 e3
    have hle : len ≤ zs.length := by rw [hz]; split <;> omega
    have hlen : ((zs.take len).map Int.toNat).length = len := by simp; omega
    have hget : ∀ (i : Nat) (x : Nat), ((zs.take len).map Int.toNat)[i]? = some x → i < len ∧ W.cell? (a.add i) = some (.int k (x : Nat)) ∧ x < B := by
      intro i x hx
      have hi : i < len := by
        have := (List.getElem?_eq_some_iff.1 hx).1
        rw [hlen] at this; exact this
      rw [List.getElem?_map, List.getElem?_take, if_pos hi, List.getElem?_eq_getElem (by omega)] at hx
      obtain rfl := Option.some.inj hx
      have hb := hB _ (hwf _ (List.getElem_mem (by omega : i < zs.length)))
      refine ⟨hi, ?_, by omega⟩
      rw [hcell i (by omega), List.getD_eq_getElem?_getD, List.getElem?_eq_getElem (by omega), Option.getD_some]
      congr 2; omega
    refine ⟨some a, (zs.take len).map Int.toNat, cap, by rw [hlen], by rw [hlen]; exact hl, hm, fun x hx => ?_, ?_⟩
    · obtain ⟨i, hi⟩ := List.getElem?_of_mem hx
      exact (hget i x hi).2.2
    · by_cases h0 : len = 0
      · left; exact List.eq_nil_of_length_eq_zero (by rw [hlen]; exact h0)
      · right
        refine ⟨a, rfl, ?_, fun i x hx => (hget i x hx).2.1⟩
        have := World.block_lt_of_cell? W _ (hcell 0 (by omega))
        simpa [Addr.add] using this
theorem open_bytes {H : Type} {enc : TypeId × Value → H} {W : World} {base b2 : Nat} {spare : Nat → Bool} {held : Bool} {v : Value} {d : DataW H} {p : List MemPlace} (hv : Value.okWide Tryd.prog W .any b2 23 v)
    (h : DataW.Trod enc Tryd.prog W base spare held 23 v d p) : ∃ (A : Option Addr) (l : List Nat) (cap : Nat), v = .slice A l.length cap ∧ l.length ≤ cap ∧ (∀ x ∈ l, x < 256) ∧ Rds W A l := by
  obtain ⟨A, l, cap, hv, hl, _, hx, hr⟩ := open_nats (B := 256) Tryd.underlying23 Tryd.underlying5 cellsOf5 (fun n h => by have := bounds_u8 h; omega) hv h
  exact ⟨A, l, cap, hv, hl, hx, hr⟩

theorem arr_of_trod {W : World} {t : TypeId} {N fuel : Nat} {cs : Array Value} {p : List MemPlace} {enc : TypeId × Value → Unit} {base : Nat} {spare : Nat → Bool} {held : Bool} (ks : List Nat) (hu : Tryd.prog.underlying t = some (.array N 44)) (hc : Tryd.prog.cellsOf t = N)
    (hd : DataW.trod enc Tryd.prog W base spare held fuel t cs.toList = some (.agg (ks.map fun k => .lit (.int .u64 (k : Nat))), p)) : cs = arr N (fun i => ks.getD i 0) := by
  obtain ⟨xs, m1, hm1, hx1, hlen, hn, hel⟩ := DataW.trod_array hu hd
  rw [hc] at hlen
  have hmap : xs.map (·.1) = ks.map fun k => (DataW.lit (.int .u64 (k : Nat)) : DataW Unit) := by
    have := congrArg Prod.fst hx1
    simp only [DataW.agg.injEq] at this
    exact this.symm
  apply Array.ext_getElem?
  intro i
  by_cases hi : i < N
  · rw [arr_get _ _ _ hi]
    have hxi : i < xs.length := by omega
    have h1 := hel i hi
    rw [List.getElem?_eq_getElem hxi, cellsOf27, Nat.mul_one] at h1
    obtain ⟨n, e0, e1, wf⟩ := DataW.trod_int Tryd.underlying44 h1
    have hk : i < ks.length := by have := congrArg List.length hmap; simp at this; omega
    have h3 : (xs.map (·.1))[i]? = (ks.map fun k => (DataW.lit (.int .u64 (k : Nat)) : DataW Unit))[i]? := by rw [hmap]
    rw [List.getElem?_map, List.getElem?_map, List.getElem?_eq_getElem hxi, List.getElem?_eq_getElem hk] at h3
    have h4 := Option.some.inj h3
    rw [e1] at h4
    simp only [DataW.lit.injEq, Lit.int.injEq, true_and] at h4
    have h2 : (cs.toList.drop i).take 1 = [.int .u64 n] := e0
    have hlt : i < cs.toList.length := by omega
    rw [List.drop_eq_getElem_cons hlt] at h2
    rw [Array.getElem?_eq_getElem (by simpa using hlt), List.getD_eq_getElem?_getD, List.getElem?_eq_getElem hk, Option.getD_some, ← h4]
    simpa using h2
  · rw [Array.getElem?_eq_none (by rw [← Array.length_toList]; omega), Array.getElem?_eq_none (by rw [arr_size]; omega)]
theorem var_heap {W : World} {n : String} {g : Nat} {cs : Array Value} (hg : Tryd.prog.globalNamed n = some g) (h : W.var? Tryd.prog n = some cs) : ∃ t fz, W.heap[g]? = some (.cells cs t fz) := by
  unfold World.var? at h
  rw [hg, Option.bind_some] at h
  split at h
  · rename_i cs' t fz hh
    obtain rfl := Option.some.inj h
    exact ⟨t, fz, hh⟩
  · cases h
theorem of_laid {W : World} (h : laidMetH Tryd.prog [("fardel/sha.first", Rows.laid_fardel_sha_first), ("fardel/sha.constants", Rows.laid_fardel_sha_constants)] W) : Glob W := by
  rw [MakeChecks.laidMetH_plain _ _ _ (by kernel_rfl)] at h
  obtain ⟨ps, ⟨g0, t0, cs0, f0, p0, q0, hg0, ht0, hv0, hd0, ⟨g1, t1, cs1, f1, p1, q1, hg1, ht1, hv1, hd1, _, _⟩, _⟩, _, _⟩ := h
  obtain rfl := Option.some.inj (gFirst.symm.trans hg0)
  obtain rfl := Option.some.inj (tFirst.symm.trans ht0)
  obtain rfl := Option.some.inj (gCons.symm.trans hg1)
  obtain rfl := Option.some.inj (tCons.symm.trans ht1)
  obtain rfl := arr_of_trod hL Tryd.underlying45 cellsOf28 hd0
  obtain rfl := arr_of_trod kL Tryd.underlying52 cellsOf36 hd1
  exact ⟨var_heap gFirst hv0, var_heap gCons hv1⟩
end Go.Proofs.YtjnjedannpnjiaaDoor

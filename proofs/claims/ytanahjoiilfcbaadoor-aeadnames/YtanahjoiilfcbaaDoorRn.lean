/- How what came in is read: bytes by value, slices of numbers; and what the condition on the package's variable gives. -/
import Derived.Test.YtanahjoiilfcbaaDoorRows
import Derived.Test.YtanahjoiilfcbaaDoorZf
import Derived.ProofKit
import Derived.OpenShut
import Derived.ChangeOld
import Derived.LaidMore
import Derived.Stop.Joined
import Derived.Deep.Slices
namespace Go.Proofs.YtanahjoiilfcbaaDoor
set_option maxRecDepth 100000
open Go.ChangeShapes Go.WideShapes Go.ChangeAt Go.RowKit

theorem own : ownKnob Tryd.prog.godebug = none := by kernel_rfl
theorem laidOut : laidOutB Tryd.prog = true := by kernel_rfl
theorem cellsOf5 : Tryd.prog.cellsOf 5 = 1 := by kernel_rfl
theorem cellsOf35 : Tryd.prog.cellsOf 38 = 1 := by kernel_rfl
theorem cellsOf39 : Tryd.prog.cellsOf 57 = 2 := by kernel_rfl
theorem gKept : Tryd.prog.globalNamed "fardel/poly.kept" = some 1 := by kernel_rfl
theorem tKept : (Tryd.prog.globals[1]?).map (·.type) = some 57 := by kernel_rfl

/-- What a cell's byte is. -/
def byteOf (v : Value) : Nat := match v with | .int .u8 n => n.toNat | _ => 0

set_option maxRecDepth 100000 in
theorem open_arr {H : Type} {enc : TypeId × Value → H} {W : World} {base b2 N : Nat} {t : TypeId} {spare : Nat → Bool} {held : Bool} {v : Value} {d : DataW H} {p : List MemPlace} (hu : Tryd.prog.underlying t = some (.array N 5)) (hc : Tryd.prog.cellsOf t = N) (hv : Value.okWide Tryd.prog W .any b2 t v)
    (h : DataW.Trod enc Tryd.prog W base spare held t v d p) : ∃ f : Nat → Nat, (∀ i, f i < 256) ∧ v = .agg (vals .u8 N f) := by
  have hv' : ∃ cs, v = .agg cs ∧ cs.size = N := by
    unfold Value.okWide at hv
    rw [hu] at hv
    obtain ⟨cs, rfl, hs, _⟩ := hv
    exact ⟨cs, rfl, by rw [hs, hc]⟩
  obtain ⟨cs, rfl, hs⟩ := hv'
  obtain ⟨fuel, hf⟩ := h
  obtain ⟨xs, m, _, _, _, hl, hx⟩ := DataW.trod_array hu hf
  have hcell : ∀ i, i < N → ∃ n : Nat, n < 256 ∧ cs[i]? = some (.int .u8 (n : Int)) := by
    intro i hi
    have h1 := hx i hi
    rw [List.getElem?_eq_getElem (by omega), cellsOf5, Nat.mul_one] at h1
    obtain ⟨n, e0, _, wf⟩ := DataW.trod_int Tryd.underlying5 h1
    have hb := bounds_u8 wf
    refine ⟨n.toNat, by omega, ?_⟩
    rw [show ((n.toNat : Nat) : Int) = n by omega]
    have h2 : (cs.toList.drop i).take 1 = [.int .u8 n] := e0
    rw [Array.getElem?_eq_getElem (by omega)]
    rw [List.drop_eq_getElem_cons (by simpa using (by omega : i < cs.size))] at h2
    simpa using h2
  refine ⟨fun i => if i < N then byteOf ((cs[i]?).getD undef) else 0, ?_, ?_⟩
  · intro i
    show (if i < N then byteOf ((cs[i]?).getD undef) else 0) < 256
    split
    · rename_i hi
      obtain ⟨n, hn, he⟩ := hcell i hi
      rw [he]
      show n < 256
      exact hn
    · omega
  · congr 1
    apply Array.ext_getElem?
    intro i
    by_cases hi : i < N
    · rw [vals_get _ _ _ i hi, if_pos hi]
      obtain ⟨n, hn, he⟩ := hcell i hi
      rw [he]
      rfl
    · rw [Array.getElem?_eq_none (by omega), Array.getElem?_eq_none (by rw [vals_size]; omega)]
theorem open_b32 {H : Type} {enc : TypeId × Value → H} {W : World} {base b2 : Nat} {spare : Nat → Bool} {held : Bool} {v : Value} {d : DataW H} {p : List MemPlace} (hv : Value.okWide Tryd.prog W .any b2 23 v)
    (h : DataW.Trod enc Tryd.prog W base spare held 23 v d p) : ∃ f : Nat → Nat, (∀ i, f i < 256) ∧ v = .agg (vals .u8 32 f) := open_arr Tryd.underlying23 (by kernel_rfl) hv h
theorem open_b16 {H : Type} {enc : TypeId × Value → H} {W : World} {base b2 : Nat} {spare : Nat → Bool} {held : Bool} {v : Value} {d : DataW H} {p : List MemPlace} (hv : Value.okWide Tryd.prog W .any b2 35 v)
    (h : DataW.Trod enc Tryd.prog W base spare held 35 v d p) : ∃ f : Nat → Nat, (∀ i, f i < 256) ∧ v = .agg (vals .u8 16 f) := open_arr Tryd.underlying35 (by kernel_rfl) hv h
theorem open_b12 {H : Type} {enc : TypeId × Value → H} {W : World} {base b2 : Nat} {spare : Nat → Bool} {held : Bool} {v : Value} {d : DataW H} {p : List MemPlace} (hv : Value.okWide Tryd.prog W .any b2 24 v)
    (h : DataW.Trod enc Tryd.prog W base spare held 24 v d p) : ∃ f : Nat → Nat, (∀ i, f i < 256) ∧ v = .agg (vals .u8 12 f) := open_arr Tryd.underlying24 (by kernel_rfl) hv h
theorem open_nats {H : Type} {enc : TypeId × Value → H} {W : World} {base b2 B : Nat} {t e : TypeId} {k : IntKind} {spare : Nat → Bool} {held : Bool} {v : Value} {d : DataW H} {p : List MemPlace} (hu : Tryd.prog.underlying t = some (.slice e)) (he : Tryd.prog.underlying e = some (.int k)) (hc : Tryd.prog.cellsOf e = 1) (hB : ∀ n, (Lit.int k n).wf = true → 0 ≤ n ∧ n < (B : Int)) (hv : Value.okWide Tryd.prog W .any b2 t v)
    (h : DataW.Trod enc Tryd.prog W base spare held t v d p) : ∃ (A : Option Addr) (l : List Nat) (cap : Nat), v = .slice A l.length cap ∧ l.length ≤ cap ∧ cap ≤ maxLen ∧ (∀ x ∈ l, x < B) ∧
      (l = [] ∨ ∃ a, A = some a ∧ a.block < W.heap.size ∧ ∀ (i : Nat) (x : Nat), l[i]? = some x → W.cell? (a.add i) = some (.int k (x : Nat))) := by
  obtain ⟨A, len, cap, rfl⟩ := okWide_slice hu hv
  obtain ⟨fuel, hf⟩ := h
  rcases open_ints hu he hc hf with ⟨h0, _⟩ | ⟨a, len', cap', zs, hcs, hb, hl, hm, hz, _, hcell, hwf⟩
  · have : Value.slice A len cap = .slice none 0 0 := by simpa [Value.cells] using h0
    injection this with e1 e2 e3
    subst e1 e2 e3
    exact ⟨none, [], 0, rfl, Nat.le_refl _, Nat.zero_le _, (fun x hx => nomatch hx), Or.inl rfl⟩
  · have : Value.slice A len cap = .slice (some a) len' cap' := by simpa [Value.cells] using hcs
    injection this with e1 e2 e3
    subst e1 e2 e3
    have hle : len ≤ zs.length := by rw [hz]; split <;> omega
    have hlen : ((zs.take len).map Int.toNat).length = len := by simp; omega
    have hget : ∀ (i : Nat) (x : Nat), ((zs.take len).map Int.toNat)[i]? = some x → i < len ∧ W.cell? (a.add i) = some (.int k (x : Nat)) ∧ x < B := by
      intro i x hx
      have hi : i < len := by
        have := (List.getElem?_eq_some_iff.1 hx).1
        rw [hlen] at this; exact this
      rw [List.getElem?_map, List.getElem?_take, if_pos hi, List.getElem?_eq_getElem (by omega)] at hx
      obtain rfl := Option.some.inj hx
      have hb := hB _ (hwf _ (List.getElem_mem (by omega : i < zs.length)))
      refine ⟨hi, ?_, by omega⟩
      rw [hcell i (by omega), List.getD_eq_getElem?_getD, List.getElem?_eq_getElem (by omega), Option.getD_some]
      congr 2; omega
    refine ⟨some a, (zs.take len).map Int.toNat, cap, by rw [hlen], by rw [hlen]; exact hl, hm, fun x hx => ?_, ?_⟩
    · obtain ⟨i, hi⟩ := List.getElem?_of_mem hx
      exact (hget i x hi).2.2
    · by_cases h0 : len = 0
      · left; exact List.eq_nil_of_length_eq_zero (by rw [hlen]; exact h0)
      · right
        refine ⟨a, rfl, ?_, fun i x hx => (hget i x hx).2.1⟩
        have := World.block_lt_of_cell? W _ (hcell 0 (by omega))
        simpa [Addr.add] using this
theorem open_bytes {H : Type} {enc : TypeId × Value → H} {W : World} {base b2 : Nat} {spare : Nat → Bool} {held : Bool} {v : Value} {d : DataW H} {p : List MemPlace} (hv : Value.okWide Tryd.prog W .any b2 25 v)
    (h : DataW.Trod enc Tryd.prog W base spare held 25 v d p) : ∃ (A : Option Addr) (n cap : Nat) (f : Nat → Nat), v = .slice A n cap ∧ n ≤ cap ∧ (∀ i, f i < 256) ∧ Rd W A n f := by
  obtain ⟨A, l, cap, hv, hl, _, hx, hr⟩ := open_nats (B := 256) Tryd.underlying25 Tryd.underlying5 cellsOf5 (fun n h => by have := bounds_u8 h; omega) hv h
  refine ⟨A, l.length, cap, ge l, hv, hl, ge_lt hx, ?_⟩
  rcases hr with rfl | ⟨a, ha, hb, hc⟩
  · exact Or.inl rfl
  · refine Or.inr ⟨a, ha, hb, fun i hi => ?_⟩
    rw [hc i _ (List.getElem?_eq_getElem hi)]
    unfold ge
    rw [List.getD_eq_getElem?_getD, List.getElem?_eq_getElem hi]; rfl
def kl : List Nat := [1152921487695413247, 1152921487695413244]
theorem laid_eq : (Rows.laid_fardel_poly_kept : DataW Unit) = .agg (kl.map fun k => .lit (.int .u64 (k : Nat))) := by kernel_rfl
theorem kept_of_trod {W : World} {fuel : Nat} {cs : Array Value} {p : List MemPlace} {enc : TypeId × Value → Unit} {base : Nat} {spare : Nat → Bool} {held : Bool}
    (hd : DataW.trod enc Tryd.prog W base spare held fuel 57 cs.toList = some (Rows.laid_fardel_poly_kept, p)) : cs = vals .u64 2 kp := by
  rw [laid_eq] at hd
  obtain ⟨xs, m1, hm1, hx1, hlen, hn, hel⟩ := DataW.trod_array Tryd.underlying57 hd
  rw [cellsOf39] at hlen
  have hmap : xs.map (·.1) = kl.map fun k => (DataW.lit (.int .u64 (k : Nat)) : DataW Unit) := by
    have := congrArg Prod.fst hx1
    simp only [DataW.agg.injEq] at this
    exact this.symm
  have hkl : kl.length = 2 := rfl
  have hxl : xs.length = 2 := by have := congrArg List.length hmap; simp at this; omega
  apply Array.ext_getElem?
  intro i
  by_cases hi : i < 2
  · have hxi : i < xs.length := by omega
    have h1 := hel i hi
    rw [List.getElem?_eq_getElem hxi, cellsOf35, Nat.mul_one] at h1
    obtain ⟨n, e0, e1, wf⟩ := DataW.trod_int (show Tryd.prog.underlying 38 = some (.int .u64) by kernel_rfl) h1
    have hk : i < kl.length := by omega
    have h3 : (xs.map (·.1))[i]? = (kl.map fun k => (DataW.lit (.int .u64 (k : Nat)) : DataW Unit))[i]? := by rw [hmap]
    rw [List.getElem?_map, List.getElem?_map, List.getElem?_eq_getElem hxi, List.getElem?_eq_getElem hk] at h3
    have h4 := Option.some.inj h3
    rw [e1] at h4
    simp only [DataW.lit.injEq, Lit.int.injEq, true_and] at h4
    have h2 : (cs.toList.drop i).take 1 = [.int .u64 n] := e0
    have hlt : i < cs.toList.length := by omega
    rw [List.drop_eq_getElem_cons hlt] at h2
    rw [vals_get _ _ _ _ hi, ← Array.getElem?_toList, List.getElem?_eq_getElem hlt]
    have h5 : cs.toList[i] = .int .u64 n := (List.cons.inj h2).1
    rw [h5, h4]
    obtain ⟨k0, k1, _⟩ := kp_eq
    obtain rfl | rfl : i = 0 ∨ i = 1 := by omega
    · rw [k0]; rfl
    · rw [k1]; rfl
  · rw [Array.getElem?_eq_none (by rw [← Array.length_toList]; omega), Array.getElem?_eq_none (by rw [vals_size]; omega)]
theorem var_heap {W : World} {n : String} {g : Nat} {cs : Array Value} (hg : Tryd.prog.globalNamed n = some g) (h : W.var? Tryd.prog n = some cs) : ∃ t fz, W.heap[g]? = some (.cells cs t fz) := by
  unfold World.var? at h
  rw [hg, Option.bind_some] at h
  split at h
  · rename_i cs' t fz hh
    obtain rfl := Option.some.inj h
    exact ⟨t, fz, hh⟩
  · cases h
theorem cellsOf3 : Tryd.prog.cellsOf 3 = 1 := by kernel_rfl
theorem cellsOf41 : Tryd.prog.cellsOf 51 = 4 := by kernel_rfl
theorem cellsOf42 : Tryd.prog.cellsOf 52 = 32 := by kernel_rfl
theorem gPlaces : Tryd.prog.globalNamed "fardel/chacha.places" = some 0 := by kernel_rfl
theorem tPlaces : (Tryd.prog.globals[0]?).map (·.type) = some 52 := by kernel_rfl
namespace C
theorem lits_of_trod {W : World} {t : TypeId} {N fuel : Nat} {cs : List Value} {p : List MemPlace} {enc : TypeId × Value → Unit} {base : Nat} {spare : Nat → Bool} {held : Bool} (ks : List Nat) (hu : Tryd.prog.underlying t = some (.array N 3)) (hc : Tryd.prog.cellsOf t = N)
    (hd : DataW.trod enc Tryd.prog W base spare held fuel t cs = some (.agg (ks.map fun k => .lit (.int .i64 (k : Nat))), p)) : cs = ks.map fun k => Value.int .i64 (k : Nat) := by
  obtain ⟨xs, m1, hm1, hx1, hlen, hn, hel⟩ := DataW.trod_array hu hd
  rw [hc] at hlen
  have hmap : xs.map (·.1) = ks.map fun k => (DataW.lit (.int .i64 (k : Nat)) : DataW Unit) := by
    have := congrArg Prod.fst hx1
    simp only [DataW.agg.injEq] at this
    exact this.symm
  have hkl : ks.length = N := by have := congrArg List.length hmap; simp at this; omega
  apply List.ext_getElem?
  intro i
  by_cases hi : i < N
  · have hxi : i < xs.length := by omega
    have h1 := hel i hi
    rw [List.getElem?_eq_getElem hxi, cellsOf3, Nat.mul_one] at h1
    obtain ⟨n, e0, e1, wf⟩ := DataW.trod_int (show Tryd.prog.underlying 3 = some (.int .i64) by kernel_rfl) h1
    have hk : i < ks.length := by omega
    have h3 : (xs.map (·.1))[i]? = (ks.map fun k => (DataW.lit (.int .i64 (k : Nat)) : DataW Unit))[i]? := by rw [hmap]
    rw [List.getElem?_map, List.getElem?_map, List.getElem?_eq_getElem hxi, List.getElem?_eq_getElem hk] at h3
    have h4 := Option.some.inj h3
    rw [e1] at h4
    simp only [DataW.lit.injEq, Lit.int.injEq, true_and] at h4
    have h2 : (cs.drop i).take 1 = [.int .i64 n] := e0
    have hlt : i < cs.length := by omega
    rw [List.drop_eq_getElem_cons hlt] at h2
    rw [List.getElem?_eq_getElem hlt, List.getElem?_map, List.getElem?_eq_getElem hk, Option.map_some, ← h4]
    exact congrArg some (List.cons.inj h2).1
  · rw [List.getElem?_eq_none (by omega), List.getElem?_eq_none (by simp; omega)]
def kl (i : Nat) : List Nat := (List.range 4).map fun j => pl (4 * i + j)
theorem laid_eq : (Rows.laid_fardel_chacha_places : DataW Unit) = .agg ((List.range 8).map fun i => .agg ((kl i).map fun k => .lit (.int .i64 (k : Nat)))) := by kernel_rfl
theorem places_of_trod {W : World} {fuel : Nat} {cs : Array Value} {p : List MemPlace} {enc : TypeId × Value → Unit} {base : Nat} {spare : Nat → Bool} {held : Bool}
    (hd : DataW.trod enc Tryd.prog W base spare held fuel 52 cs.toList = some (Rows.laid_fardel_chacha_places, p)) : cs = vals .i64 32 pl := by
  rw [laid_eq] at hd
  obtain ⟨xs, m1, hm1, hx1, hlen, hn, hel⟩ := DataW.trod_array Tryd.underlying52 hd
  rw [cellsOf42] at hlen
  have hmap : xs.map (·.1) = (List.range 8).map fun i => (DataW.agg ((kl i).map fun k => .lit (.int .i64 (k : Nat))) : DataW Unit) := by
    have := congrArg Prod.fst hx1
    simp only [DataW.agg.injEq] at this
    exact this.symm
  have hch : ∀ i, i < 8 → (cs.toList.drop (i * 4)).take 4 = (kl i).map fun k => Value.int .i64 (k : Nat) := by
    intro i hi
    have hxi : i < xs.length := by omega
    have h1 := hel i hi
    rw [List.getElem?_eq_getElem hxi, cellsOf41] at h1
    have h3 : (xs.map (·.1))[i]? = ((List.range 8).map fun i => (DataW.agg ((kl i).map fun k => .lit (.int .i64 (k : Nat))) : DataW Unit))[i]? := by rw [hmap]
    rw [List.getElem?_map, List.getElem?_map, List.getElem?_eq_getElem hxi, List.getElem?_range hi] at h3
    have h4 : (xs[i]).1 = _ := Option.some.inj h3
    have h5 : xs[i] = (DataW.agg ((kl i).map fun k => .lit (.int .i64 (k : Nat))), (xs[i]).2) := Prod.ext h4 rfl
    rw [h5] at h1
    exact lits_of_trod (kl i) Tryd.underlying51 cellsOf41 h1
  apply Array.ext_getElem?
  intro j
  by_cases hj : j < 32
  · rw [vals_get _ _ _ _ hj]
    have h1 := congrArg (·[j % 4]?) (hch (j / 4) (by omega))
    simp only [List.getElem?_take, List.getElem?_drop, List.getElem?_map] at h1
    rw [if_pos (by omega), show j / 4 * 4 + j % 4 = j by omega, Array.getElem?_toList] at h1
    rw [h1]
    have h2 : j % 4 < 4 := by omega
    simp [kl, h2, show 4 * (j / 4) + j % 4 = j by omega]
  · rw [Array.getElem?_eq_none (by rw [← Array.length_toList]; omega), Array.getElem?_eq_none (by rw [vals_size]; omega)]
end C
theorem of_laid {W : World} (h : laidMetH Tryd.prog [("fardel/poly.kept", Rows.laid_fardel_poly_kept), ("fardel/chacha.places", Rows.laid_fardel_chacha_places)] W) : Gl W 1 (vals .u64 2 kp) ∧ Gl W 0 (vals .i64 32 C.pl) := by
  rw [MakeChecks.laidMetH_plain _ _ _ (by kernel_rfl)] at h
  obtain ⟨ps, ⟨g0, t0, cs0, f0, p0, q0, hg0, ht0, hv0, hd0, ⟨g1, t1, cs1, f1, p1, q1, hg1, ht1, hv1, hd1, _, _⟩, _⟩, _, _⟩ := h
  obtain rfl := Option.some.inj (gKept.symm.trans hg0)
  obtain rfl := Option.some.inj (tKept.symm.trans ht0)
  obtain rfl := Option.some.inj (gPlaces.symm.trans hg1)
  obtain rfl := Option.some.inj (tPlaces.symm.trans ht1)
  obtain rfl := kept_of_trod hd0
  obtain rfl := C.places_of_trod hd1
  exact ⟨var_heap gKept hv0, var_heap gPlaces hv1⟩
end Go.Proofs.YtanahjoiilfcbaaDoor

/- How what came in is read: slices of numbers, of calls. No conditions. -/
import Derived.Test.YtacopggeidbnbaaRows
import Derived.Test.YtacopggeidbnbaaCh
import Derived.ProofKit
import Derived.OpenShut
import Derived.ChangeOld
import Derived.Deep.Slices
namespace Go.Proofs.Ytacopggeidbnbaa
set_option maxRecDepth 100000
open Go.ChangeShapes Go.WideShapes Go.ChangeAt Go.RowKit B W

theorem own : ownKnob Try.prog.godebug = none := by kernel_rfl
theorem laidOut : laidOutB Try.prog = true := by kernel_rfl
theorem cellsOfU8 : Try.prog.cellsOf 5 = 1 := by kernel_rfl
theorem cellsOfU64 : Try.prog.cellsOf 35 = 1 := by kernel_rfl
theorem cellsOfInt : Try.prog.cellsOf 3 = 1 := by kernel_rfl
theorem cellsOfBool : Try.prog.cellsOf 4 = 1 := by kernel_rfl
theorem cellsOfCall : Try.prog.cellsOf 37 = 3 := by kernel_rfl
def ge (l : List Nat) (i : Nat) : Nat := l.getD i 0
theorem ge_lt {l : List Nat} (h : ∀ x ∈ l, x < 256) (i : Nat) : ge l i < 256 := by
  unfold ge
  rw [List.getD_eq_getElem?_getD]
  cases e : l[i]? with
  | none => simp
  | some v => exact h v (List.mem_of_getElem? e)
theorem open_nats {H : Type} {enc : TypeId × Value → H} {W : World} {base b2 B : Nat} {t e : TypeId} {k : IntKind} {spare : Nat → Bool} {held : Bool} {v : Value} {d : DataW H} {p : List MemPlace} (hu : Try.prog.underlying t = some (.slice e)) (he : Try.prog.underlying e = some (.int k)) (hc : Try.prog.cellsOf e = 1) (hB : ∀ n, (Lit.int k n).wf = true → 0 ≤ n ∧ n < (B : Int)) (hv : Value.okWide Try.prog W .any b2 t v)
    (h : DataW.Trod enc Try.prog W base spare held t v d p) : ∃ (A : Option Addr) (l : List Nat) (cap : Nat), v = .slice A l.length cap ∧ l.length ≤ cap ∧ cap ≤ maxLen ∧ (∀ x ∈ l, x < B) ∧
      (l = [] ∨ ∃ a, A = some a ∧ a.block < W.heap.size ∧ ∀ (i : Nat) (x : Nat), l[i]? = some x → W.cell? (a.add i) = some (.int k (x : Nat))) := by
  obtain ⟨A, len, cap, rfl⟩ := okWide_slice hu hv
  obtain ⟨fuel, hf⟩ := h
  rcases open_ints hu he hc hf with ⟨h0, _⟩ | ⟨a, len', cap', zs, hcs, hb, hl, hm, hz, _, hcell, hwf⟩
  · have : Value.slice A len cap = .slice none 0 0 := by simpa [Value.cells] using h0
    injection this with e1 e2 e3
    subst e1 e2 e3
    exact ⟨none, [], 0, rfl, Nat.le_refl _, Nat.zero_le _, (fun x hx => nomatch hx), Or.inl rfl⟩
  · have : Value.slice A len cap = .slice (some a) len' cap' := by simpa [Value.cells] using hcs
    injection this with e1 e2 e3
    subst e1 e2 e3
    have hle : len ≤ zs.length := by rw [hz]; split <;> omega
    have hlen : ((zs.take len).map Int.toNat).length = len := by simp; omega
    have hget : ∀ (i : Nat) (x : Nat), ((zs.take len).map Int.toNat)[i]? = some x → i < len ∧ W.cell? (a.add i) = some (.int k (x : Nat)) ∧ x < B := by
      intro i x hx
      have hi : i < len := by
        have := (List.getElem?_eq_some_iff.1 hx).1
        rw [hlen] at this; exact this
      rw [List.getElem?_map, List.getElem?_take, if_pos hi, List.getElem?_eq_getElem (by omega)] at hx
      obtain rfl := Option.some.inj hx
      have hb := hB _ (hwf _ (List.getElem_mem (by omega : i < zs.length)))
      refine ⟨hi, ?_, by omega⟩
      rw [hcell i (by omega), List.getD_eq_getElem?_getD, List.getElem?_eq_getElem (by omega), Option.getD_some]
      congr 2; omega
    refine ⟨some a, (zs.take len).map Int.toNat, cap, by rw [hlen], by rw [hlen]; exact hl, hm, fun x hx => ?_, ?_⟩
    · obtain ⟨i, hi⟩ := List.getElem?_of_mem hx
      exact (hget i x hi).2.2
    · by_cases h0 : len = 0
      · left; exact List.eq_nil_of_length_eq_zero (by rw [hlen]; exact h0)
      · right
        refine ⟨a, rfl, ?_, fun i x hx => (hget i x hx).2.1⟩
        have := World.block_lt_of_cell? W _ (hcell 0 (by omega))
        simpa [Addr.add] using this
theorem open_bytes {H : Type} {enc : TypeId × Value → H} {W : World} {base b2 : Nat} {spare : Nat → Bool} {held : Bool} {v : Value} {d : DataW H} {p : List MemPlace} (hv : Value.okWide Try.prog W .any b2 39 v)
    (h : DataW.Trod enc Try.prog W base spare held 39 v d p) : ∃ (A : Option Addr) (n cap : Nat) (f : Nat → Nat), v = .slice A n cap ∧ n ≤ cap ∧ cap ≤ maxLen ∧ (∀ i, f i < 256) ∧ Rc W A n (by8 f) := by
  obtain ⟨A, l, cap, hv, hl, hm, hx, hr⟩ := open_nats (B := 256) Try.underlying39 Try.underlying5 cellsOfU8 (fun n h => by have := bounds_u8 h; omega) hv h
  refine ⟨A, l.length, cap, ge l, hv, hl, hm, ge_lt hx, ?_⟩
  rcases hr with rfl | ⟨a, ha, hb, hc⟩
  · exact Or.inl rfl
  · refine Or.inr ⟨a, ha, hb, fun i hi => ?_⟩
    have e : ge l i = l[i] := by
      unfold ge
      rw [List.getD_eq_getElem?_getD, List.getElem?_eq_getElem hi]; rfl
    rw [hc i _ (List.getElem?_eq_getElem hi), by8, e]
theorem choose3 {p : Nat → Nat → Int → Bool → Prop} {n : Nat} (h : ∀ i, i < n → ∃ a b c, p i a b c) : ∃ (V : Nat → Nat) (B : Nat → Int) (P : Nat → Bool), ∀ i, i < n → p i (V i) (B i) (P i) := by
  classical
  refine ⟨fun i => if hi : i < n then (h i hi).choose else 0, fun i => if hi : i < n then (h i hi).choose_spec.choose else 0, fun i => if hi : i < n then (h i hi).choose_spec.choose_spec.choose else false, fun i hi => ?_⟩
  simp only [dif_pos hi]
  exact (h i hi).choose_spec.choose_spec.choose_spec
theorem open_calls {H : Type} {enc : TypeId × Value → H} {W : World} {base b2 : Nat} {spare : Nat → Bool} {held : Bool} {v : Value} {d : DataW H} {p : List MemPlace} (hv : Value.okWide Try.prog W .any b2 23 v)
    (h : DataW.Trod enc Try.prog W base spare held 23 v d p) : ∃ (S : Option Addr) (n cap : Nat) (V : Nat → Nat) (B : Nat → Int) (P : Nat → Bool), v = .slice S n cap ∧ Sc W S n V B P := by
  obtain ⟨A, len, cap, rfl⟩ := okWide_slice Try.underlying23 hv
  obtain ⟨fuel, hf⟩ := h
  rcases Go.Deep.open_slice Try.underlying23 hf with ⟨h0, _⟩ | ⟨a, len', cap', m, n, D, Pl, hcs, hb, hl, hm, hmm, _, hx⟩
  · have : Value.slice A len cap = .slice none 0 0 := by simpa [Value.cells] using h0
    injection this with e1 e2 e3
    subst e1 e2 e3
    exact ⟨none, 0, 0, fun _ => 0, fun _ => 0, fun _ => false, rfl, .inl rfl, fun i hi => absurd hi (Nat.not_lt_zero i)⟩
  · have : Value.slice A len cap = .slice (some a) len' cap' := by simpa [Value.cells] using hcs
    injection this with e1 e2 e3
    subst e1 e2 e3
    have hlm : len ≤ m := by rw [hmm]; split <;> omega
    obtain ⟨V, B, P, hVB⟩ := choose3 (n := len) (p := fun i x y z => x < 18446744073709551616 ∧ W.cell? (a.add (i * 3)) = some (.int .u64 (x : Nat)) ∧ W.cell? ((a.add (i * 3)).add 1) = some (.int .i64 y) ∧ W.cell? ((a.add (i * 3)).add 2) = some (.bool z)) (fun i hi => by
      obtain ⟨cs', h1, h2⟩ := hx i (by omega)
      rw [cellsOfCall] at h1
      obtain ⟨_, hlen, hcell⟩ := World.cells?_some h1
      obtain ⟨xs, k, hk, hxy, _, hxl, hfl⟩ := DataW.trod_struct Try.underlying37 h2
      match xs, hxl, cs', hlen with
      | [y0, y1, y2], _, [v0, v1, v2], _ =>
        have g0 := hfl 0 _ rfl
        have g1 := hfl 1 _ rfl
        have g2 := hfl 2 _ rfl
        simp [cellsOfU64, cellsOfInt, cellsOfBool] at g0 g1 g2
        obtain ⟨n0, q0, _, w0⟩ := DataW.trod_int Try.underlying35 g0
        obtain ⟨n1, q1, _, w1⟩ := DataW.trod_int Try.underlying3 g1
        obtain ⟨n2, q2, _⟩ := DataW.trod_bool Try.underlying4 g2
        simp only [List.cons.injEq, and_true] at q0 q1 q2
        subst q0 q1 q2
        have e0 := hcell 0 (by omega)
        have e1 := hcell 1 (by omega)
        have e2 := hcell 2 (by omega)
        simp only [List.getElem?_cons_zero, List.getElem?_cons_succ] at e0 e1 e2
        have hb0 := bounds_u64 w0
        refine ⟨n0.toNat, n1, n2, by omega, ?_, e1, e2⟩
        rw [show ((n0.toNat : Nat) : Int) = n0 by omega]
        simpa [Addr.add] using e0)
    refine ⟨some a, len, cap, V, B, P, rfl, ?_, fun i hi => (hVB i hi).1⟩
    by_cases h0 : len = 0
    · subst h0; exact .inl rfl
    · refine .inr ⟨a, rfl, ?_, fun j hj => ?_⟩
      · have := World.block_lt_of_cell? W _ (hVB 0 (by omega)).2.1
        simpa [Addr.add] using this
      · obtain ⟨_, c0, c1, c2⟩ := hVB (j / 3) (by omega)
        have h3 : j % 3 < 3 := Nat.mod_lt _ (by decide)
        unfold cf
        by_cases j0 : j % 3 = 0
        · rw [if_pos j0, ← c0, show j / 3 * 3 = j by omega]
        · rw [if_neg j0]
          by_cases j1 : j % 3 = 1
          · rw [if_pos j1, ← c1, add_add, show j / 3 * 3 + 1 = j by omega]
          · rw [if_neg j1, ← c2, add_add, show j / 3 * 3 + 2 = j by omega]
end Go.Proofs.Ytacopggeidbnbaa

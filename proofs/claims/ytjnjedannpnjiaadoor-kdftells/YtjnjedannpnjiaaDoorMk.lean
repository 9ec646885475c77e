/- append(s, make([]byte, n)...): n bytes 0 behind an own slice. -/
import Derived.Test.YtjnjedannpnjiaaDoorMy
namespace Go.Proofs.YtjnjedannpnjiaaDoor
open Go.RowKit

theorem under3 : Tryd.prog.underlying 3 = some (.int .i64) := by kernel_rfl
theorem info5 : ∃ i, Tryd.prog.info? 5 = some i ∧ i.size = 1 ∧ i.bytes = 1 ∧ i.zero = some (.int .u8 0) := by
  have h : ((Tryd.prog.info? 5).map fun i => (decide (i.size = 1), decide (i.bytes = 1))) = some (true, true) := by kernel_rfl
  have hz : ((Tryd.prog.info? 5).bind (·.zero)) = some (.int .u8 0) := by kernel_rfl
  cases hi : Tryd.prog.info? 5 with
  | none => rw [hi] at h; cases h
  | some i =>
    rw [hi] at h hz
    simp at h
    exact ⟨i, rfl, h.1, h.2, hz⟩
theorem zeros_list (n : Nat) : (Builtin.zeroCells (Value.int .u8 0).cells n).toList = bv8 (List.replicate n 0) := by
  apply List.ext_getElem?
  intro j
  unfold Builtin.zeroCells bv8
  rw [show (Value.int .u8 0).cells = #[.int .u8 0] from rfl]
  by_cases h : j < n
  · simp [h, Nat.mod_one]
  · simp [h]
theorem bv8_one (l : List Nat) : ∀ u ∈ bv8 l, u.oneCell' = true := fun u hu => mem_map_one l u hu
theorem zeros_if (n : Nat) (w : World) : ((if n = 0 then (pure #[] : Sem (Array Value)) else pure (Builtin.zeroCells (Value.int .u8 0).cells n))).run Tryd.prog w = .ok (bv8 (List.replicate n 0)).toArray w := by
  by_cases h : n = 0
  · subst h; rfl
  · rw [if_neg h, ← zeros_list]; rfl
theorem run_make_room (w : World) (ty : TypeId) (b sLen sCap n : Nat) (hn : n ≤ 2 ^ 20) (hroom : sLen + n ≤ sCap) (hc : ∀ j, j < n → (w.cell? ⟨b, sLen + j, none⟩).isSome = true) (hf : ∀ j, j < n → w.frozen? ⟨b, sLen + j, none⟩ = false) :
    (Builtin.append_ #[23, 3] ty #[.slice (some ⟨b, 0, none⟩) sLen sCap, .int .i64 n]).run Tryd.prog w = .ok (.slice (some ⟨b, 0, none⟩) (sLen + n) sCap) (w.setCells b sLen (bv8 (List.replicate n 0))) := by
  obtain ⟨i, hi, hs, hb, hz⟩ := info5
  have hst := run_storeCells_cells (P := Tryd.prog) b sLen (bv8 (List.replicate n 0)) 0 w (by simpa [bv8_len] using hc) (by simpa [bv8_len] using hf) (bv8_one _)
  simp only [Nat.add_zero] at hst
  have hw : IntKind.i64.wrap (n : Int) = (n : Int) := by unfold IntKind.wrap; simp [IntKind.bits, IntKind.signed]; omega
  have h0 : ¬ (n : Int) < 0 := by omega
  have h1 : ¬ (281474976710656 : Int) < (n : Int) := by omega
  have hzl := zeros_list n
  have hza : Builtin.zeroCells (Value.int .u8 0).cells n = (bv8 (List.replicate n 0)).toArray := by rw [← hzl]
  by_cases hn0 : n = 0
  · subst hn0
    rw [show bv8 (List.replicate 0 0) = [] from rfl] at hst ⊢
    have hw0 : IntKind.i64.wrap 0 = 0 := rfl
    have hr : sLen ≤ sCap := by omega
    simp [Builtin.append_, run_underlying Tryd.underlying23, run_underlying under3, sizeOf, typeInfo, hi, hs, hb, asInt, asIntOf, Addr.add_lit, hw0, hr, hst]
  · simp [Builtin.append_, run_underlying Tryd.underlying23, run_underlying under3, sizeOf, typeInfo, zeroValue, hi, hs, hb, hz, asInt, asIntOf, hw, h0, h1, hroom, hn0, hza, Addr.add_lit, hst]
theorem run_make_grow (w : World) (ty : TypeId) (base : Option Addr) (sLen sCap n : Nat) (olds : List Value) (hold : (Builtin.firstCells 1 sLen (.slice base sLen sCap)).run Tryd.prog w.drew = .ok olds.toArray w.drew) (hn : sLen + n ≤ 2 ^ 20) (hg : sCap < sLen + n) (hp : 0 < n) :
    (Builtin.append_ #[23, 3] ty #[.slice base sLen sCap, .int .i64 n]).run Tryd.prog w =
      .ok (.slice (some ⟨w.heap.size, 0, none⟩) (sLen + n) (grownCap w (sLen + n) sCap 5))
        (w.drew.alloc (.cells ((olds ++ bv8 (List.replicate n 0)).toArray ++ Builtin.zeroCells (Value.int .u8 0).cells (grownCap w (sLen + n) sCap 5 - (sLen + n))) 5)) := by
  obtain ⟨i, hi, hs, hb, hz⟩ := info5
  have hw : IntKind.i64.wrap (n : Int) = (n : Int) := by unfold IntKind.wrap; simp [IntKind.bits, IntKind.signed]; omega
  have h0 : ¬ (n : Int) < 0 := by omega
  have h1 : ¬ (281474976710656 : Int) < (n : Int) := by omega
  have hr : ¬ (sLen + n ≤ sCap) := by omega
  have h63 : ¬ (9223372036854775807 < ((sLen : Int) + (n : Int))) := by omega
  have hfit := growslice_fits (need := sLen + n) (old := sCap) (bytes := 1) hg (by omega)
  have h48 : ¬ (281474976710656 < Builtin.nextslicecap (sLen + n) sCap) := by omega
  have hzl := zeros_list n
  have hza : Builtin.zeroCells (Value.int .u8 0).cells n = (bv8 (List.replicate n 0)).toArray := by rw [← hzl]
  have hn0 : ¬ n = 0 := by omega
  simp [Builtin.append_, run_underlying Tryd.underlying23, run_underlying under3, sizeOf, typeInfo, zeroValue, hi, hs, hb, hz, asInt, asIntOf, hw, h0, h1, hr, h63, h48, hn0, hza, Question.forced, hold, newRow, grownCap]
  congr 2
  apply Array.ext'
  simp [List.append_assoc]
theorem run_make_none (w : World) (ty : TypeId) : (Builtin.append_ #[23, 3] ty #[.slice none 0 0, .int .i64 (0 : Nat)]).run Tryd.prog w = .ok (.slice none 0 0) w := by
  obtain ⟨i, hi, _, hb, _⟩ := info5
  have hw0 : IntKind.i64.wrap 0 = 0 := rfl
  simp [Builtin.append_, run_underlying Tryd.underlying23, run_underlying under3, sizeOf, typeInfo, hi, hb, asInt, asIntOf, hw0]
/-- n bytes 0 appended to a slice that is the call's own. -/
theorem app_zeros {B : Nat} {w : World} {A : Option Addr} {cap : Nat} {vs : List Nat} (h : Own w B 5 (.slice A vs.length cap) (bv8 vs)) (hBw : B ≤ w.heap.size) (n : Nat) (hl : vs.length + n ≤ 2 ^ 20) :
    ∃ A' cap' w', (∀ ty, (Builtin.append_ #[23, 3] ty #[.slice A vs.length cap, .int .i64 n]).run Tryd.prog w = .ok (.slice A' (vs.length + n) cap') w') ∧ Own w' B 5 (.slice A' (vs ++ List.replicate n 0).length cap') (bv8 (vs ++ List.replicate n 0)) ∧ w.heap.size ≤ w'.heap.size ∧ ∀ a, Below B a w → Below B a w' := by
  obtain ⟨A0, cap0, cells, e0, h2, h3, h4, h5⟩ := h
  rw [bv8_len] at e0 h2
  injection e0 with e1 _ e3
  subst e1 e3
  have hlen : (bv8 (vs ++ List.replicate n 0)).length = vs.length + n := by rw [bv8_len]; simp
  by_cases hroom : vs.length + n ≤ cap
  · rcases h5 with ⟨g, rfl, hg, hB⟩ | ⟨rfl, rfl⟩
    · have hr := fun ty => run_make_room w ty g vs.length cap n (by omega) hroom (fun j hj => by rw [hB.cell, Array.getElem?_eq_getElem (by omega)]; rfl) (fun j hj => hB.frozen _)
      refine ⟨_, _, _, hr, ⟨some ⟨g, 0, none⟩, cap, setL cells vs.length (bv8 (List.replicate n 0)), ?_, by rw [hlen]; exact hroom, by rw [setL_size]; exact h3, ?_, Or.inl ⟨g, rfl, hg, hB.setCells _ _⟩⟩, (sto_cells g _ w _).size, fun a ha => (sto_cells g _ w _).low B a ha hg⟩
      · rw [bv8_len]
      · intro j y hy
        rw [setL_get _ _ _ _ (by rw [bv8_len]; simp; omega), bv8_len, List.length_replicate]
        rw [bv8_app] at hy
        by_cases hj : j < vs.length
        · rw [if_neg (by omega)]
          rw [List.getElem?_append_left (by rw [bv8_len]; exact hj)] at hy
          exact h4 j y hy
        · rw [List.getElem?_append_right (by rw [bv8_len]; omega), bv8_len] at hy
          have hjl := (List.getElem?_eq_some_iff.1 hy).1
          rw [bv8_len, List.length_replicate] at hjl
          rw [if_pos (by omega)]; exact hy
    · obtain rfl : n = 0 := by omega
      obtain rfl : vs = [] := List.eq_nil_of_length_eq_zero (by omega)
      exact ⟨none, 0, w, fun ty => run_make_none w ty, own_nil w B 5, Nat.le_refl _, fun a ha => ha⟩
  · have hold : (Builtin.firstCells 1 vs.length (.slice A vs.length cap)).run Tryd.prog w.drew = .ok (bv8 vs).toArray w.drew := by
      rcases h5 with ⟨g, rfl, hg, hB⟩ | ⟨rfl, rfl⟩
      · exact run_firstCells_some w.drew 1 vs.length ⟨g, 0, none⟩ vs.length cap (bv8 vs) (by rw [bv8_len, Nat.mul_one]) (fun j y hy => by
          rw [Addr.add_mid, Nat.zero_add, hB.drew.cell]; exact h4 j y hy)
      · obtain rfl : vs = [] := List.eq_nil_of_length_eq_zero (by omega)
        exact run_firstCells_none w.drew 1 0 0 0
    have hr := fun ty => run_make_grow w ty A vs.length cap n (bv8 vs) hold hl (by omega) (by omega)
    have hge := grownCap_ge w (vs.length + n) cap 5
    rw [← bv8_app] at hr
    refine ⟨_, _, _, hr, ⟨_, _, _, by rw [bv8_len], by rw [hlen]; exact hge, ?_, ?_, Or.inl ⟨w.heap.size, rfl, hBw, Blk.new' w.drew w.heap.size rfl _ _⟩⟩, by simp, fun a ha => ha.drew.alloc hBw _⟩
    · rw [Array.size_append, size_zeroCells]; simp [hlen]; show _ + _ * 1 = _; omega
    · intro j y hy
      have hjl := (List.getElem?_eq_some_iff.1 hy).1
      rw [Array.getElem?_append_left (by simpa using hjl)]
      simpa using hy
end Go.Proofs.YtjnjedannpnjiaaDoor

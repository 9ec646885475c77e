/- A slice of the call's own that is appended to: its first elements are told. -/
import Derived.Test.YtjnjedannpnjiaaDoorCj
import Derived.Deep.AppendSrc
import Derived.Laws.AppendOwn
namespace Go.Proofs.YtjnjedannpnjiaaDoor
open Go.RowKit

/-- v is a slice whose elements are vs, in a block from B on, or none. -/
def Own (w : World) (B : Nat) (e : TypeId) (v : Value) (vs : List Value) : Prop :=
  ∃ (A : Option Addr) (cap : Nat) (cells : Array Value), v = .slice A vs.length cap ∧ vs.length ≤ cap ∧ cells.size = cap ∧ (∀ (i : Nat) (x : Value), vs[i]? = some x → cells[i]? = some x) ∧
    ((∃ g, A = some ⟨g, 0, none⟩ ∧ B ≤ g ∧ Blk w g cells e) ∨ (A = none ∧ cap = 0))
theorem Own.low {w w' : World} {B : Nat} {e : TypeId} {v : Value} {vs : List Value} (h : Own w B e v vs) (hb : Below w.heap.size w w') : Own w' B e v vs := by
  obtain ⟨A, cap, cells, h1, h2, h3, h4, h5⟩ := h
  refine ⟨A, cap, cells, h1, h2, h3, h4, ?_⟩
  rcases h5 with ⟨g, hA, hg, hB⟩ | h5
  · exact Or.inl ⟨g, hA, hg, hB.call hb⟩
  · exact Or.inr h5
theorem Own.alloc {w : World} {B : Nat} {e : TypeId} {v : Value} {vs : List Value} (h : Own w B e v vs) (o : Obj) : Own (w.alloc o) B e v vs := h.low ((Below.refl _ w).alloc (Nat.le_refl _) o)
theorem own_nil (w : World) (B : Nat) (e : TypeId) : Own w B e (.slice none 0 0) [] := ⟨none, 0, #[], rfl, Nat.le_refl _, rfl, (fun i x hx => by simp at hx), Or.inr ⟨rfl, rfl⟩⟩
theorem own_lit {w : World} {B g : Nat} {e : TypeId} {c : Array Value} (h : Blk w g c e) (hg : B ≤ g) : Own w B e (.slice (some ⟨g, 0, none⟩) c.toList.length c.size) c.toList :=
  ⟨_, c.size, c, rfl, by simp, rfl, (fun i x hx => by simpa using hx), Or.inl ⟨g, rfl, hg, h⟩⟩
theorem own_append {B : Nat} {t e : TypeId} {w : World} {v : Value} {vs : List Value} (ht : Tryd.prog.underlying t = some (.slice e)) (hsz : (Tryd.prog.info? e).map (·.size) = some 1) (hz : (((Tryd.prog.info? e).bind (·.zero)).map fun z => z.cells.size) = some 1) (hby : ((Tryd.prog.info? e).map fun i => decide (i.bytes ≤ 24)) = some true)
    (h : Own w B e v vs) (hBw : B ≤ w.heap.size) (x : Value) (news : List Value) (hs : Src Tryd.prog 1 t x news.length news w) (hn : 0 < news.length ∨ ∃ a l c, v = .slice (some a) l c) (hl : vs.length + news.length ≤ 2 ^ 40) :
    ∃ v' w', (∀ ty, (Builtin.append_ #[t, t] ty #[v, x]).run Tryd.prog w = .ok v' w') ∧ Own w' B e v' (vs ++ news) ∧ w.heap.size ≤ w'.heap.size ∧ ∀ a, Below B a w → Below B a w' := by
  cases hi : Tryd.prog.info? e with
  | none => rw [hi] at hsz; cases hsz
  | some i =>
    have hsize : i.size = 1 := by rw [hi] at hsz; simpa using hsz
    have hbytes : i.bytes ≤ 24 := by rw [hi] at hby; simpa using hby
    obtain ⟨z, hzz, hzc⟩ : ∃ z, i.zero = some z ∧ z.cells.size = 1 := by
      rw [hi] at hz
      cases h0 : i.zero with
      | none => simp [h0] at hz
      | some z => exact ⟨z, rfl, by simpa [h0] using hz⟩
    obtain ⟨A, cap, cells, rfl, h2, h3, h4, h5⟩ := h
    by_cases hroom : vs.length + news.length ≤ cap
    · rcases h5 with ⟨g, rfl, hg, hB⟩ | ⟨rfl, rfl⟩
      · have hr := fun ty => run_append_room_src (P := Tryd.prog) w t t ty e i ht hi g 0 vs.length cap x news.length news (by rw [hsize]; exact hs) hroom (fun j hj => by
          rw [hsize, hB.cell, Array.getElem?_eq_getElem (by omega)]; rfl) (fun j hj => hB.frozen _)
        refine ⟨_, _, hr, ⟨some ⟨g, 0, none⟩, cap, setL cells (0 + vs.length * i.size) news, ?_, by simpa using hroom, by rw [setL_size]; exact h3, ?_, Or.inl ⟨g, rfl, hg, hB.setCells news _⟩⟩, (sto_cells g news w _).size, fun a ha => (sto_cells g news w _).low B a ha hg⟩
        · rw [List.length_append]
        · intro j y hy
          rw [setL_get _ _ _ _ (by rw [hsize]; omega), hsize, Nat.mul_one, Nat.zero_add]
          by_cases hj : j < vs.length
          · rw [if_neg (by omega)]
            rw [List.getElem?_append_left hj] at hy
            exact h4 j y hy
          · rw [List.getElem?_append_right (by omega)] at hy
            have hjl := (List.getElem?_eq_some_iff.1 hy).1
            rw [if_pos (by omega)]; exact hy
      · rcases hn with hn | ⟨a, l, c, hn⟩
        · omega
        · injection hn with e1; cases e1
    · have hold : (Builtin.firstCells i.size vs.length (.slice A vs.length cap)).run Tryd.prog w.drew = .ok vs.toArray w.drew := by
        rcases h5 with ⟨g, rfl, hg, hB⟩ | ⟨rfl, rfl⟩
        · exact run_firstCells_some w.drew i.size vs.length ⟨g, 0, none⟩ vs.length cap vs (by rw [hsize, Nat.mul_one]) (fun j y hy => by
            rw [Addr.add_mid, Nat.zero_add, hB.drew.cell]; exact h4 j y hy)
        · obtain rfl : vs = [] := List.eq_nil_of_length_eq_zero (by omega)
          exact run_firstCells_none w.drew i.size 0 0 0
      have hr := fun ty => run_append_grow_src (P := Tryd.prog) w t t ty e i z ht hi hzz A vs.length cap vs hold x news.length news (by rw [hsize]; exact hs) (by omega) (by omega) (growslice_fits (by omega) (by
        have : (vs.length + news.length) * i.bytes ≤ 2 ^ 40 * 24 := Nat.mul_le_mul hl hbytes
        omega))
      have hge := grownCap_ge w (vs.length + news.length) cap e
      refine ⟨_, _, hr, ⟨_, _, _, by rw [List.length_append], by rw [List.length_append]; exact hge, ?_, ?_, Or.inl ⟨w.heap.size, rfl, hBw, Blk.new' w.drew w.heap.size rfl _ _⟩⟩, by simp, fun a ha => ha.drew.alloc hBw _⟩
      · rw [Array.size_append, size_zeroCells, hzc]; simp; omega
      · intro j y hy
        have hjl := (List.getElem?_eq_some_iff.1 hy).1
        rw [Array.getElem?_append_left (by simpa using hjl)]
        simpa using hy
end Go.Proofs.YtjnjedannpnjiaaDoor

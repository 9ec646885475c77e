/- Small laws on worlds: a block whose cells are known whole, behind allocations, stores, draws and calls. No conditions but those that each names. -/
import Derived.WalkKit
namespace Go.Proofs.Ytbjcfibpiiplaaa
open Go.RowKit

/-- Block b holds just the cells c, and none is frozen. -/
def Blk (w : World) (b : Nat) (c : Array Value) (t : TypeId) : Prop := w.heap[b]? = some (.cells c t (0, 0))

theorem Blk.lt {w : World} {b : Nat} {c : Array Value} {t : TypeId} (h : Blk w b c t) : b < w.heap.size := by
  unfold Blk at h
  exact (Array.getElem?_eq_some_iff.1 h).1
theorem Blk.cell {w : World} {b : Nat} {c : Array Value} {t : TypeId} (h : Blk w b c t) (j : Nat) : w.cell? ⟨b, j, none⟩ = c[j]? := by
  unfold Blk at h; simp [World.cell?, h]
theorem Blk.frozen {w : World} {b : Nat} {c : Array Value} {t : TypeId} (h : Blk w b c t) (j : Nat) : w.frozen? ⟨b, j, none⟩ = false := by
  unfold Blk at h; simp [World.frozen?, h]
theorem Blk.new (w : World) (c : Array Value) (t : TypeId) : Blk (w.alloc (.cells c t)) w.heap.size c t := by
  unfold Blk World.alloc; simp
theorem Blk.new' (w : World) (b : Nat) (hb : b = w.heap.size) (c : Array Value) (t : TypeId) : Blk (w.alloc (.cells c t)) b c t := by
  subst hb; exact Blk.new w c t
theorem Blk.alloc {w : World} {b : Nat} {c : Array Value} {t : TypeId} (h : Blk w b c t) (o : Obj) : Blk (w.alloc o) b c t := by
  have := h.lt
  unfold Blk at *
  rw [Below.heap_alloc w o b this]; exact h
theorem Blk.drew {w : World} {b : Nat} {c : Array Value} {t : TypeId} (h : Blk w b c t) : Blk w.drew b c t := h
theorem Blk.below {w w' : World} {b B : Nat} {c : Array Value} {t : TypeId} (h : Blk w b c t) (hb : Below B w w') (hB : b < B) : Blk w' b c t := by
  unfold Blk at *; rw [hb.block b hB]; exact h
theorem Blk.call {w w' : World} {b : Nat} {c : Array Value} {t : TypeId} (h : Blk w b c t) (hb : Below w.heap.size w w') : Blk w' b c t := h.below hb h.lt
theorem Blk.set {w : World} {b : Nat} {c : Array Value} {t : TypeId} (h : Blk w b c t) (i : Nat) (v : Value) : Blk (w.setCell ⟨b, i, none⟩ v) b (c.setIfInBounds i v) t := by
  unfold Blk at *
  simp [World.setCell, Array.getElem?_modify, h]
theorem Blk.setOther {w : World} {b b' : Nat} {c : Array Value} {t : TypeId} (h : Blk w b c t) (i : Nat) (v : Value) (hne : b' ≠ b) : Blk (w.setCell ⟨b', i, none⟩ v) b c t := by
  unfold Blk at *
  rw [Below.heap_setCell w ⟨b', i, none⟩ v b (fun e => hne e.symm)]; exact h
theorem Blk.cast {w : World} {b : Nat} {c c' : Array Value} {t : TypeId} (h : Blk w b c t) (e : c = c') : Blk w b c' t := e ▸ h
/-- What a walk wants of it: rules on cells. -/
theorem Blk.rules {w : World} {b : Nat} {c : Array Value} {t : TypeId} (h : Blk w b c t) : (∀ j, w.cell? ⟨b, j, none⟩ = c[j]?) ∧ (∀ j, w.frozen? ⟨b, j, none⟩ = false) := ⟨h.cell, h.frozen⟩
/-- Behind four stores. -/
theorem Blk.set4 {w : World} {b : Nat} {x0 x1 x2 x3 : Value} {t : TypeId} (h : Blk w b #[x0, x1, x2, x3] t) (y0 y1 y2 y3 : Value) :
    Blk ((((w.setCell ⟨b, 0, none⟩ y0).setCell ⟨b, 1, none⟩ y1).setCell ⟨b, 2, none⟩ y2).setCell ⟨b, 3, none⟩ y3) b #[y0, y1, y2, y3] t := by
  have := (((h.set 0 y0).set 1 y1).set 2 y2).set 3 y3
  exact this.cast (by simp)
theorem Blk.set4Other {w : World} {b b' : Nat} {c : Array Value} {t : TypeId} (h : Blk w b c t) (y0 y1 y2 y3 : Value) (hne : b' ≠ b) :
    Blk ((((w.setCell ⟨b', 0, none⟩ y0).setCell ⟨b', 1, none⟩ y1).setCell ⟨b', 2, none⟩ y2).setCell ⟨b', 3, none⟩ y3) b c t :=
  (((h.setOther 0 y0 hne).setOther 1 y1 hne).setOther 2 y2 hne).setOther 3 y3 hne
theorem Below.set4 {B : Nat} {a w : World} (h : Below B a w) {b : Nat} (hb : B ≤ b) (y0 y1 y2 y3 : Value) :
    Below B a ((((w.setCell ⟨b, 0, none⟩ y0).setCell ⟨b, 1, none⟩ y1).setCell ⟨b, 2, none⟩ y2).setCell ⟨b, 3, none⟩ y3) :=
  (((h.setCell hb y0).setCell hb y1).setCell hb y2).setCell hb y3
theorem Blk.row {w : World} {b : Nat} {c : Array Value} {t : TypeId} (h : Blk w b c t) (cs : Array Value) : Blk (w.setRow b cs) b cs t := setRow_heap w b c cs t (0, 0) h
theorem Blk.rowOther {w : World} {b b' : Nat} {c : Array Value} {t : TypeId} (h : Blk w b c t) (cs : Array Value) (hne : b' ≠ b) : Blk (w.setRow b' cs) b c t := by
  unfold Blk at *; rw [setRow_other w b' b cs (fun e => hne e.symm)]; exact h
theorem Below.row {B : Nat} {a w : World} (h : Below B a w) {b : Nat} (hb : B ≤ b) (cs : Array Value) : Below B a (w.setRow b cs) :=
  ⟨h.os, h.tape, h.output, by rw [setRow_size]; exact h.size, fun k hk => by rw [setRow_other w b k cs (by omega)]; exact h.block k hk⟩
/-- What a walk wants of a block that it writes: stores become one new row. -/
theorem Blk.writes {w : World} {b : Nat} {c : Array Value} {t : TypeId} (h : Blk w b c t) :
    (∀ i v, w.setCell ⟨b, i, none⟩ v = w.setRow b (c.setIfInBounds i v)) ∧ (∀ cs i v, (w.setRow b cs).setCell ⟨b, i, none⟩ v = w.setRow b (cs.setIfInBounds i v)) ∧
    (∀ cs j, (w.setRow b cs).cell? ⟨b, j, none⟩ = cs[j]?) ∧ (∀ cs j, (w.setRow b cs).frozen? ⟨b, j, none⟩ = false) :=
  ⟨fun i v => setCell_eq_setRow w b i c t (0, 0) v h, fun cs i v => by rw [setCell_eq_setRow (w.setRow b cs) b i cs t (0, 0) v (h.row cs), setRow_setRow], fun cs j => (h.row cs).cell j, fun cs j => (h.row cs).frozen j⟩
/-- And of a second block, written behind it. -/
theorem Blk.writes2 {w : World} {b b' : Nat} {c : Array Value} {t : TypeId} (h : Blk w b c t) (hne : b' ≠ b) :
    (∀ cs j, (w.setRow b' cs).cell? ⟨b, j, none⟩ = c[j]?) ∧ (∀ cs j, (w.setRow b' cs).frozen? ⟨b, j, none⟩ = false) ∧
    (∀ cs i v, (w.setRow b' cs).setCell ⟨b, i, none⟩ v = (w.setRow b' cs).setRow b (c.setIfInBounds i v)) ∧ (∀ cs es i v, ((w.setRow b' cs).setRow b es).setCell ⟨b, i, none⟩ v = (w.setRow b' cs).setRow b (es.setIfInBounds i v)) ∧
    (∀ cs es j, ((w.setRow b' cs).setRow b es).cell? ⟨b, j, none⟩ = es[j]?) ∧ (∀ cs es j, ((w.setRow b' cs).setRow b es).frozen? ⟨b, j, none⟩ = false) :=
  ⟨fun cs j => (h.rowOther cs hne).cell j, fun cs j => (h.rowOther cs hne).frozen j, fun cs => (h.rowOther cs hne).writes.1, fun cs => (h.rowOther cs hne).writes.2.1, fun cs => (h.rowOther cs hne).writes.2.2.1, fun cs => (h.rowOther cs hne).writes.2.2.2⟩
theorem hide {p : Prop} (h : p) : Hid p := h
end Go.Proofs.Ytbjcfibpiiplaaa

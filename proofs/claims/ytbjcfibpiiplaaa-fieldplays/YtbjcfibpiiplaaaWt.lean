/- Small laws for walks: loads of whole rows in a region whose order is open; stores of whole rows; bytes held against each other. -/
import Derived.Test.YtbjcfibpiiplaaaWk
import Derived.Test.YtbjcfibpiiplaaaWh
namespace Go.Proofs.Ytbjcfibpiiplaaa
open Go.RowKit

theorem cells27 : (Try.prog.info? 27).map (·.size) = some 4 := by kernel_rfl
theorem Blk.range {w : World} {b : Nat} {c : Array Value} {t : TypeId} (h : Blk w b c t) : w.rangeAt b 0 c.toList := fun j v hv => by
  rw [Nat.zero_add, h.cell j]; simpa using hv
/-- What a store into block g leaves. -/
structure Sto (g : Nat) (w w' : World) : Prop where
  other : ∀ b c t, g ≠ b → Blk w b c t → Blk w' b c t
  low : ∀ B a, Below B a w → B ≤ g → Below B a w'
theorem sto_row (w : World) (g : Nat) (cs : Array Value) : Sto g w (w.setRow g cs) := ⟨fun _ _ _ hne h => h.rowOther cs hne, fun _ _ h hb => Below.row h hb cs⟩
theorem wpList_store_abs {P : Program} {ops : Array Oper} {rest : List Oper} {o : Oper} {a : Act} {w : World} {Q : Exit → Act → World → Prop} (hgd : o.guard = none) (ty : TypeId) (x y : Operand) (ho : o.op = .store ty x y)
    (g : Nat) (cells : Array Value) (hx : a.eval x = .pointer (some ⟨g, 0, none⟩)) (hy : a.eval y = .agg cells)
    (t : TypeId) (old : Array Value) (hg : Blk w g old t) (hi : (P.info? ty).map (·.size) = some cells.size)
    (hold : old.size = cells.size) (h1 : cells.all (·.oneCell') = true)
    (h : ∀ w', Blk w' g cells t → Sto g w w' → wpList P ops Q rest (a.put o.dst undef) w') : wpList P ops Q (o :: rest) a w :=
  wpList_store_row hgd ty x y ho g cells hx hy t old hg hi hold h1 (h _ (hg.row cells) (sto_row w g cells))
theorem neq255 (n : Nat) : (((n : Nat) : Int) != 255) = decide (n ≠ 255) := by
  rw [Bool.eq_iff_iff, bne_iff_ne, decide_eq_true_eq]; omega
theorem lt237 (n : Nat) : decide (((n : Nat) : Int) < 237) = decide (n < 237) := by
  rw [Bool.eq_iff_iff, decide_eq_true_eq, decide_eq_true_eq]; omega
theorem lt127 (n : Nat) : (((n : Nat) : Int) < 127) = (n < 127) := by rw [eq_iff_iff]; omega
theorem yields_blk {P : Program} {ops : Array Oper} {op : Oper} {a : Act} {w0 : World} {b : Nat} {c : Array Value} {t : TypeId} (hB : Blk w0 b c t) (hw : Region.wanted op (yielded ops a.tmps) = true) (ty : TypeId) (x : Operand) (ho : op.op = .load ty x)
    (hx : a.eval x = .pointer (some ⟨b, 0, none⟩)) (d : TypeDesc) (hu : P.underlying ty = some d) (hd : d.isRow = true) (hi : (P.info? ty).map (·.size) = some c.size) :
    YieldsIf P ops (fun w' => Below w0.heap.size w0 w') op (.agg c) a := by
  have := yieldsIf_load_mid (P := P) (ops := ops) (S := fun w' => Below w0.heap.size w0 w') hw ty x ho b 0 hx c.toList d (fun w h => (hB.call h).range) hu hd (by rw [Array.length_toList]; exact hi)
  rwa [Array.toArray_toList] at this
theorem keepLow {w0 w y y' : World} (h : Below w0.heap.size w y) (hb : Below y.heap.size y y') (he : w.heap.size = w0.heap.size := by rfl) : Below w0.heap.size w y' := h.trans (hb.mono (by rw [← he]; exact h.size))
theorem all_self (g : Nat → Nat) : ((List.range 32).all fun i => g i == g i) = true := by simp
theorem eq_vals (f g : Nat → Nat) (w : World) : (Op.equalIn 10000 22 (.agg (vals .u8 32 f)) (.agg (vals .u8 32 g))).run Try.prog w = .ok ((List.range 32).all fun i => f i == g i) w :=
  run_equal_vals (P := Try.prog) w 9998 22 5 32 .u8 Try.underlying22 Try.underlying5 size5 f g
theorem eq_vals' (f g : Nat → Nat) (b : Bool) (h : ((List.range 32).all fun i => f i == g i) = b) (w : World) : (Op.equalIn 10000 22 (.agg (vals .u8 32 f)) (.agg (vals .u8 32 g))).run Try.prog w = .ok b w := by
  rw [eq_vals, h]

end Go.Proofs.Ytbjcfibpiiplaaa

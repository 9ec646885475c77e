/- Walks of regions whose operations move whole rows: what stays as it was (Kp), and one law for each operation: a load, a store, a new row, a call by its contract. No conditions but those that each names. -/
import Derived.Test.YtidhffaphbiapaaVo
import Derived.Test.YtidhffaphbiapaaWr
import Derived.Test.YtidhffaphbiapaaVm
import Derived.Test.YtidhffaphbiapaaVe
import Derived.Test.YtidhffaphbiapaaWo
namespace Go.Proofs.Ytidhffaphbiapaa.F
open Go.RowKit

/-- All rows but X's are as they were. -/
structure Kp (X : List Nat) (u w : World) : Prop where
  size : u.heap.size ≤ w.heap.size
  keep : ∀ b c t, b ∉ X → Blk u b c t → Blk w b c t
  low : ∀ B w0, (∀ x, x ∈ X → B ≤ x) → B ≤ u.heap.size → Below B w0 u → Below B w0 w
theorem Kp.refl (X : List Nat) (u : World) : Kp X u u := ⟨Nat.le_refl _, fun _ _ _ _ h => h, fun _ _ _ _ h => h⟩
theorem Kp.drew (X : List Nat) (u : World) : Kp X u u.drew := ⟨Nat.le_refl _, fun _ _ _ _ h => h.drew, fun _ _ _ _ h => h.drew⟩
theorem Kp.call {X : List Nat} {u w w' : World} (h : Kp X u w) (hb : Below w.heap.size w w') : Kp X u w' :=
  ⟨Nat.le_trans h.size hb.size, fun b c t hx hB => (h.keep b c t hx hB).call hb, fun B w0 hX hB hL => (h.low B w0 hX hB hL).trans (hb.mono (Nat.le_trans hB h.size))⟩
theorem Kp.old {X : List Nat} {u w : World} (h : Kp X u w) {x : Nat} (hx : x ∈ X) (cs : Array Value) : Kp X u (w.setRow x cs) :=
  ⟨Nat.le_trans h.size (Below.row (b := x) (Below.refl 0 w) (Nat.zero_le _) cs).size, fun b c t hn hB => (h.keep b c t hn hB).rowOther cs (fun e => hn (e ▸ hx)), fun B w0 hX hB hL => Below.row (h.low B w0 hX hB hL) (hX x hx) cs⟩
theorem Kp.new {X : List Nat} {u w : World} (h : Kp X u w) {b : Nat} (hb : u.heap.size ≤ b) (cs : Array Value) : Kp X u (w.setRow b cs) :=
  ⟨Nat.le_trans h.size (Below.row (b := b) (Below.refl 0 w) (Nat.zero_le _) cs).size, fun b' c t hn hB => (h.keep b' c t hn hB).rowOther cs (Nat.ne_of_gt (Nat.lt_of_lt_of_le hB.lt hb)), fun B w0 hX hB hL => Below.row (h.low B w0 hX hB hL) (Nat.le_trans hB hb) cs⟩
theorem Kp.below {u w : World} (h : Kp [] u w) (w0 : World) (B : Nat) (hB : B ≤ u.heap.size) (hL : Below B w0 u) : Below B w0 w := h.low B w0 (fun _ hx => by cases hx) hB hL
theorem alloc_below (w : World) (o : Obj) : Below w.heap.size w (w.alloc o) := (Below.refl _ w).alloc (Nat.le_refl _) o

variable {P : Program} {o : Oper} {a : Act} {w : World} {K : Act → World → Prop} {Q : Exit → Act → World → Prop}
theorem wp_call_val (f : FuncId) (args : Array Value) (hrun : (execOp a.eval o).run P w = .ok (.enter f args) w) (v : Value) (hc : Calls P f args w fun e w' => e = .returned v ∧ Below w.heap.size w w')
    (h : ∀ w', Below w.heap.size w w' → K (a.put o.dst v) w') : o.wp P a w K Q := by
  unfold Oper.wp
  rw [hrun, Oper.upon_enter]
  refine hc.mono fun e w' hh => ?_
  obtain ⟨rfl, hb⟩ := hh
  exact h w' hb
theorem wp_new (c : Array Value) (t : TypeId) (hrun : (execOp a.eval o).run P w = .ok (.value (.pointer (some ⟨w.heap.size, 0, none⟩))) (w.alloc (.cells c t)))
    (h : ∀ b w', b = w.heap.size → Blk w' b c t → Below w.heap.size w w' → K (a.put o.dst (.pointer (some ⟨b, 0, none⟩))) w') : o.wp P a w K Q := by
  unfold Oper.wp
  rw [hrun, Oper.upon_value]
  exact h _ _ rfl (Blk.new w c t) (alloc_below w _)
theorem wp_val (v : Value) (hrun : (execOp a.eval o).run P w = .ok (.value v) w) (h : K (a.put o.dst v) w) : o.wp P a w K Q := by
  unfold Oper.wp
  rw [hrun, Oper.upon_value]
  exact h
theorem wpAnyH_at {md : Region.Mode} {ops : Array Oper} {S : World → Prop} {fuel : Nat} {listed listed' : Array Bool} {a' : Act} (hl : listed = listed') (ha : a = a') (h : wpAnyH P md ops Q S fuel listed' a' w) : wpAnyH P md ops Q S fuel listed a w := hl ▸ ha ▸ h
theorem wpList_fr {ops : Array Oper} {l : List Oper} {a' : Act} (ha : a = a') (h : wpList P ops Q l a' w) : wpList P ops Q l a w := ha ▸ h

/-! ### Numbers of four words, of sixteen digits, and thirty-two bytes -/
theorem size_fe (x : Nat → Nat) : (Try.prog.info? 32).map (·.size) = some (arr 4 x).size := by rw [arr_size]; exact cells27
theorem size_by (f : Nat → Nat) : (Try.prog.info? 22).map (·.size) = some (vals .u8 32 f).size := by rw [vals_size]; exact cells22
theorem size_rn (f : Nat → Nat) : (Try.prog.info? 47).map (·.size) = some (vals .u64 16 f).size := by rw [vals_size]; exact cells31
theorem one_fe (x : Nat → Nat) : (arr 4 x).all (·.oneCell') = true := vals_one .u64 4 x
theorem alloc_fe (ρ : Operand → Value) (o : Oper) (w : World) (ho : o.op = .alloc 32) : (execOp ρ o).run Try.prog w = .ok (.value (.pointer (some ⟨w.heap.size, 0, none⟩))) (w.alloc (.cells (arr 4 fun _ => 0) 32)) := by
  unfold execOp
  simp only [ho]
  kernel_rfl
theorem alloc_by (ρ : Operand → Value) (o : Oper) (w : World) (ho : o.op = .alloc 22) : (execOp ρ o).run Try.prog w = .ok (.value (.pointer (some ⟨w.heap.size, 0, none⟩))) (w.alloc (.cells (vals .u8 32 fun _ => 0) 22)) := by
  unfold execOp
  simp only [ho]
  kernel_rfl
theorem alloc_rn (ρ : Operand → Value) (o : Oper) (w : World) (ho : o.op = .alloc 47) : (execOp ρ o).run Try.prog w = .ok (.value (.pointer (some ⟨w.heap.size, 0, none⟩))) (w.alloc (.cells (vals .u64 16 fun _ => 0) 47)) := by
  unfold execOp
  simp only [ho]
  kernel_rfl
theorem box_fe (ρ : Operand → Value) (o : Oper) (w : World) (x : Operand) (c : Nat → Nat) (ho : o.op = .box 32 x) (hx : ρ x = .agg (arr 4 c)) : (execOp ρ o).run Try.prog w = .ok (.value (.pointer (some ⟨w.heap.size, 0, none⟩))) (w.alloc (.cells (arr 4 c) 32)) := by
  unfold execOp
  simp only [ho, hx]
  kernel_rfl
theorem box_by (ρ : Operand → Value) (o : Oper) (w : World) (x : Operand) (c : Nat → Nat) (ho : o.op = .box 22 x) (hx : ρ x = .agg (vals .u8 32 c)) : (execOp ρ o).run Try.prog w = .ok (.value (.pointer (some ⟨w.heap.size, 0, none⟩))) (w.alloc (.cells (vals .u8 32 c) 22)) := by
  unfold execOp
  simp only [ho, hx]
  kernel_rfl
end Go.Proofs.Ytidhffaphbiapaa.F

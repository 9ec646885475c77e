/- One cell of a row read or written; slices that are written out. No conditions but those that each names. -/
import Derived.Test.YtbpmakegimgbpaaDoorPf
namespace Go.Proofs.YtbpmakegimgbpaaDoor
set_option maxRecDepth 100000
open F Go.RowKit

section
variable {o : Oper} {a : Act} {u w : World} {L : List Row} {Q : Exit → Act → World → Prop} {ops : Array Oper} {rest : List Oper} {K : Act → World → Prop}
theorem ld8 {x : Operand} (ho : o.op = .load 5 x) {b i : Nat} (hx : a.eval x = .pointer (some ⟨b, i, none⟩)) {c : Array Value} {t : TypeId} (hB : Blk w b c t) {g : Nat} (hg : c[i]? = some (.int .u8 ((g : Nat) : Int))) : (execOp a.eval o).run Tryd.prog w = .ok (.value (.int .u8 ((g : Nat) : Int))) w := by
  have hc := (hB.cell i).trans hg
  unfold execOp
  simp only [ho, hx]
  go_simp
theorem ld64 {x : Operand} (ho : o.op = .load 36 x) {b i : Nat} (hx : a.eval x = .pointer (some ⟨b, i, none⟩)) {c : Array Value} {t : TypeId} (hB : Blk w b c t) {g : Nat} (hg : c[i]? = some (.int .u64 ((g : Nat) : Int))) : (execOp a.eval o).run Tryd.prog w = .ok (.value (.int .u64 ((g : Nat) : Int))) w := by
  have hc := (hB.cell i).trans hg
  unfold execOp
  simp only [ho, hx]
  go_simp
theorem l_c8 (hO : Own u w L) {x : Operand} (i : Nat) {b off : Nat} {c : Array Value} {t : TypeId} (hi : L[i]? = some (b, c, t)) {g : Nat} (hv : c[off]? = some (.int .u8 ((g : Nat) : Int))) (h : wpList Tryd.prog ops Q rest (a.put o.dst (.int .u8 ((g : Nat) : Int))) w)
    (ho : o.op = .load 5 x := by rfl) (hx : a.eval x = .pointer (some ⟨b, off, none⟩) := by kernel_rfl) (hg : Region.wanted o (yielded ops a.tmps) = true := by kernel_rfl) : wpList Tryd.prog ops Q (o :: rest) a w :=
  l_val _ (ld8 ho hx (hO.row i hi) hv) h hg
theorem l_c64 (hO : Own u w L) {x : Operand} (i : Nat) {b off : Nat} {c : Array Value} {t : TypeId} (hi : L[i]? = some (b, c, t)) {g : Nat} (hv : c[off]? = some (.int .u64 ((g : Nat) : Int))) (h : wpList Tryd.prog ops Q rest (a.put o.dst (.int .u64 ((g : Nat) : Int))) w)
    (ho : o.op = .load 36 x := by rfl) (hx : a.eval x = .pointer (some ⟨b, off, none⟩) := by kernel_rfl) (hg : Region.wanted o (yielded ops a.tmps) = true := by kernel_rfl) : wpList Tryd.prog ops Q (o :: rest) a w :=
  l_val _ (ld64 ho hx (hO.row i hi) hv) h hg
theorem o_stc (hO : Own u w L) {x y : Operand} (ho : o.op = .store 5 x y) (i : Nat) {b off : Nat} {c : Array Value} {t : TypeId} (hi : L[i]? = some (b, c, t)) (g : Nat) {g0 : Nat} (h0 : c[off]? = some (.int .u8 ((g0 : Nat) : Int))) (hx : a.eval x = .pointer (some ⟨b, off, none⟩)) (hy : a.eval y = .int .u8 ((g : Nat) : Int)) {e : Array Value} (he : c.setIfInBounds off (.int .u8 ((g : Nat) : Int)) = e) (hf : Fit t e)
    (h : ∀ w', Own u w' (L.set i (b, e, t)) → K (a.put o.dst undef) w') : o.wp Tryd.prog a w K Q := by
  have hB := hO.row i hi
  have hc := (hB.cell off).trans h0
  have hfr := hB.frozen off
  have h' := h _ (hO.put i hi ((hB.set off (.int .u8 ((g : Nat) : Int))).cast he) (st1_cell w b off _) hf)
  clear h hB hO
  unfold Oper.wp execOp
  simp only [ho, hx, hy]
  go_simp
  exact h'
theorem l_stc (hO : Own u w L) {x y : Operand} (i : Nat) {b off : Nat} {c : Array Value} {t : TypeId} (hi : L[i]? = some (b, c, t)) (g : Nat) {g0 : Nat} (h0 : c[off]? = some (.int .u8 ((g0 : Nat) : Int))) {e : Array Value} (he : c.setIfInBounds off (.int .u8 ((g : Nat) : Int)) = e) (hf : Fit t e)
    (h : ∀ w', Own u w' (L.set i (b, e, t)) → wpList Tryd.prog ops Q rest a w') (ho : o.op = .store 5 x y := by rfl) (hx : a.eval x = .pointer (some ⟨b, off, none⟩) := by kernel_rfl) (hy : a.eval y = .int .u8 ((g : Nat) : Int) := by kernel_rfl) (hd : o.dst = none := by rfl) (hg : Region.wanted o (yielded ops a.tmps) = true := by kernel_rfl) : wpList Tryd.prog ops Q (o :: rest) a w :=
  l_any hg fun _ hK => o_stc hO ho i hi g h0 hx hy he hf fun w' h' => hK _ _ (by rw [hd]; exact h w' h')
variable {S : World → Prop} {M : Act → World → Prop}
theorem k_bs (hK : ∀ a w, S w → M a w → K a w) (hO : Own u w L) (hS : ∀ w, Own u w L → S w) (n : Nat) (c : Array Value) (hrun : ∀ w, (execOp a.eval o).run Tryd.prog w = .ok (.value (.slice (some ⟨w.heap.size, 0, none⟩) n n)) (w.alloc (.cells c 84)))
    (h : ∀ q w', Blk w' q c 84 → Own u w' L → M (a.put o.dst (.slice (some ⟨q, 0, none⟩) n n)) w') : o.wp Tryd.prog a w K Q := by
  have hO' := hO.call ((Below.refl _ w).alloc (Nat.le_refl _) (.cells c 84))
  unfold Oper.wp
  rw [hrun w, Oper.upon_value]
  exact hK _ _ (hS _ hO') (h _ _ (Blk.new w c 84) hO')
theorem k_call1 (hK : ∀ a w, S w → M a w → K a w) (hO : Own u w L) (hS : ∀ w, Own u w L → S w) (f : FuncId) (args : Array Value) (v : Value) (hc : Ret f args w v)
    (h : ∀ w', Own u w' L → M (a.put o.dst v) w') (hrun : (execOp a.eval o).run Tryd.prog w = .ok (.enter f args) w := by kernel_rfl) : o.wp Tryd.prog a w K Q := by
  unfold Oper.wp
  rw [hrun, Oper.upon_enter]
  refine hc.mono fun e w' hh => ?_
  obtain ⟨rfl, hb⟩ := hh
  exact hK _ _ (hS w' (hO.call hb)) (h w' (hO.call hb))
theorem run_bsl {P : Program} (t e : TypeId) (n : Nat) (parts : Array (Nat × Operand)) (ho : o.op = .buildSlice t n parts) (l : Array (Nat × Value)) (hl : (parts.map fun (i, x) => (i, a.eval x)) = l) {c : Array Value} (h : (Instr.buildSlice t n l).run P w = .ok (.slice (some ⟨w.heap.size, 0, none⟩) n n) (w.alloc (.cells c e))) : (execOp a.eval o).run P w = .ok (.value (.slice (some ⟨w.heap.size, 0, none⟩) n n)) (w.alloc (.cells c e)) := by
  subst hl
  unfold execOp
  simp only [ho, Sem.run_bind, h, Result.andThen_ok, Sem.run_pure]
theorem bs1 {x : Operand} (ho : o.op = .buildSlice 105 1 #[(0, x)]) (f : Nat → Nat) (P : Nat × Nat) (hx : a.eval x = .agg (mq f P)) (w : World) : (execOp a.eval o).run Tryd.prog w = .ok (.value (.slice (some ⟨w.heap.size, 0, none⟩) 1 1)) (w.alloc (.cells (sl [(f, P)]) 84)) :=
  run_bsl 105 84 1 _ ho #[(0, .agg (mq f P))] (by simp [hx]) (by kernel_rfl)
theorem bs2 {x y : Operand} (ho : o.op = .buildSlice 105 2 #[(0, x), (1, y)]) (f : Nat → Nat) (P : Nat × Nat) (g : Nat → Nat) (Q : Nat × Nat) (hx : a.eval x = .agg (mq f P)) (hy : a.eval y = .agg (mq g Q)) (w : World) : (execOp a.eval o).run Tryd.prog w = .ok (.value (.slice (some ⟨w.heap.size, 0, none⟩) 2 2)) (w.alloc (.cells (sl [(f, P), (g, Q)]) 84)) :=
  run_bsl 105 84 2 _ ho #[(0, .agg (mq f P)), (1, .agg (mq g Q))] (by simp [hx, hy]) (by kernel_rfl)
end
theorem set_by (f : Nat → Nat) (i v : Nat) : (vals .u8 32 f).setIfInBounds i (.int .u8 ((v : Nat) : Int)) = vals .u8 32 (fun j => if j = i then v else f j) := vals_set .u8 32 f i v
theorem get_by (f : Nat → Nat) (i : Nat) (hi : i < 32) : (vals .u8 32 f)[i]? = some (.int .u8 ((f i : Nat) : Int)) := vals_get _ _ _ _ hi
theorem or8_128 (n : Nat) (h : n < 256) : bits .or .u8 (n : Int) 128 = ((n % 128 + 128 : Nat) : Int) := by
  have := (by decide +kernel : ∀ i : Fin 256, bits .or .u8 ((i.val : Nat) : Int) 128 = ((i.val % 128 + 128 : Nat) : Int)) ⟨n, h⟩
  exact this
theorem and8_127 (n : Nat) (h : n < 256) : bits .and .u8 (n : Int) 127 = ((n % 128 : Nat) : Int) := by
  have := (by decide +kernel : ∀ i : Fin 256, bits .and .u8 ((i.val : Nat) : Int) 127 = ((i.val % 128 : Nat) : Int)) ⟨n, h⟩
  exact this
theorem clr128 (n : Nat) (h : n < 256) : bits .andNot .u8 (n : Int) 128 = ((n % 128 : Nat) : Int) := by
  have := (by decide +kernel : ∀ i : Fin 256, bits .andNot .u8 ((i.val : Nat) : Int) 128 = ((i.val % 128 : Nat) : Int)) ⟨n, h⟩
  exact this
end Go.Proofs.YtbpmakegimgbpaaDoor

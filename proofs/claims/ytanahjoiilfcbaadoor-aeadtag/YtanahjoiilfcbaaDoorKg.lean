/- Straight regions step by step, with literals of bytes; Tag of one part; awake. The variable kept as it is laid. -/
import Derived.Test.YtanahjoiilfcbaaDoorKf
namespace Go.Proofs.YtanahjoiilfcbaaDoor
set_option maxRecDepth 100000
open Go.RowKit Rg

structure WL (ops : Array Oper) (Q : Exit → Act → World → Prop) (l : List Oper) (a : Act) (w : World) : Prop where
  out : wpList Tryd.prog ops Q l a w
/-- Block b holds just the cells c, under any mark. -/
def Cel (w : World) (b : Nat) (c : Array Value) : Prop := ∃ t fz, w.heap[b]? = some (.cells c t fz)
theorem Cel.lt {w : World} {b : Nat} {c : Array Value} (h : Cel w b c) : b < w.heap.size := by
  obtain ⟨t, fz, h⟩ := h
  exact (Array.getElem?_eq_some_iff.1 h).1
theorem Cel.low {w w' : World} {b : Nat} {c : Array Value} (h : Cel w b c) (hb : Below w.heap.size w w') : Cel w' b c := by
  have hl := h.lt
  obtain ⟨t, fz, h⟩ := h
  exact ⟨t, fz, by rw [hb.block b hl]; exact h⟩
theorem Cel.freeze {w : World} {b : Nat} {c : Array Value} (h : Cel w b c) (a : Addr) : Cel (w.freeze a 1) b c := by
  obtain ⟨t, fz, h⟩ := h
  unfold World.freeze
  rw [if_neg (by decide)]
  by_cases e : a.block = b
  · subst e
    exact ⟨t, _, by simp only [Array.getElem?_modify, if_true, h, Option.map_some]; rfl⟩
  · exact ⟨t, fz, by simp only [Array.getElem?_modify, e, if_false]; exact h⟩
theorem Below.freeze {B : Nat} {x w : World} (h : Below B x w) {a : Addr} (ha : B ≤ a.block) : Below B x (w.freeze a 1) := by
  refine h.trans ?_
  unfold World.freeze
  rw [if_neg (by decide)]
  exact ⟨rfl, rfl, rfl, by simp, fun k hk => by simp only [Array.getElem?_modify]; rw [if_neg (by omega)]⟩
theorem conv23 {w : World} {b : Nat} {C : Array Value} (h : Cel w b C) (n c : Nat) : (convert 25 25 (.slice (some ⟨b, 0, none⟩) n c)).run Tryd.prog w = .ok (.slice (some ⟨b, 0, none⟩) n c) (w.freeze ⟨b, C.size, none⟩ 1) := by
  obtain ⟨t, fz, h⟩ := h
  have hsh : w.shape? b = some (t, C.size) := by unfold World.shape?; rw [h]
  simp [convert, run_underlying Tryd.underlying25, run_underlying Tryd.underlying5, markStringish, hsh]
theorem rd_cel {w : World} {b n : Nat} {f : Nat → Nat} (h : Cel w b (vals .u8 n f)) : Rd w (some ⟨b, 0, none⟩) n f := by
  refine Or.inr ⟨_, rfl, h.lt, fun i hi => ?_⟩
  obtain ⟨t, fz, h⟩ := h
  rw [Addr.add_mid, Nat.zero_add]
  simp only [World.cell?, h]
  exact vals_get _ _ _ _ hi
section
variable {o o2 : Oper} {a : Act} {u w : World} {L : List Row} {Q : Exit → Act → World → Prop} {ops : Array Oper} {rest : List Oper}
theorem g_run (v : Value) (w' : World) (hrun : (execOp a.eval o).run Tryd.prog w = .ok (.value v) w') (h : WL ops Q rest (a.put o.dst v) w') (hg : Region.wanted o (yielded ops a.tmps) = true := by kernel_rfl) : WL ops Q (o :: rest) a w :=
  ⟨wpList_step fun K hK => by
    rw [if_pos hg]
    unfold Oper.wp
    rw [hrun, Oper.upon_value]
    exact hK _ _ h.out⟩
theorem g_val (v : Value) (h : WL ops Q rest (a.put o.dst v) w) (hrun : (execOp a.eval o).run Tryd.prog w = .ok (.value v) w := by kernel_rfl) (hg : Region.wanted o (yielded ops a.tmps) = true := by kernel_rfl) : WL ops Q (o :: rest) a w := g_run v w hrun h hg
theorem g_ld (hO : Own u w L) {ty : TypeId} {x : Operand} (j : Nat) {b : Nat} {c : Array Value} (hj : L[j]? = some (b, c, ty)) {d : TypeDesc} (hu : Tryd.prog.underlying ty = some d) (h : WL ops Q rest (a.put o.dst (.agg c)) w) (ho : o.op = .load ty x := by rfl) (hx : a.eval x = D b := by kernel_rfl) (hd : d.isRow = true := by rfl) (h5 : anyLen ty = false := by rfl) (hg : Region.wanted o (yielded ops a.tmps) = true := by kernel_rfl) : WL ops Q (o :: rest) a w :=
  g_run _ w (run_ldm ty x ho _ 0 hx d (hO.row j hj).range hu hd (by rw [(hO.fits j hj).size h5]; simp)) h hg
theorem g_lc (hO : Own u w L) {ty : TypeId} {x : Operand} (j k : Nat) {b : Nat} {c : Array Value} {t : TypeId} (v : Value) (hj : L[j]? = some (b, c, t)) (hv : c[k]? = some v) (hu : ∀ w, (isAgg ty).run Tryd.prog w = .ok false w) (h : WL ops Q rest (a.put o.dst v) w) (ho : o.op = .load ty x := by rfl) (hx : a.eval x = E b k := by kernel_rfl) (hg : Region.wanted o (yielded ops a.tmps) = true := by kernel_rfl) : WL ops Q (o :: rest) a w :=
  g_run _ w (ld_cell ty hu ho hx (((hO.row j hj).cell k).trans hv)) h hg
theorem g_call (hO : Own u w L) (f : FuncId) (args : Array Value) (v : Value) (hc : Ret f args w v) (h : ∀ w', Below w.heap.size w w' → Own u w' L → WL ops Q rest (a.put o.dst v) w') (hrun : (execOp a.eval o).run Tryd.prog w = .ok (.enter f args) w := by kernel_rfl) (hg : Region.wanted o (yielded ops a.tmps) = true := by kernel_rfl) : WL ops Q (o :: rest) a w :=
  ⟨wpList_step fun K hK => by
    rw [if_pos hg]
    unfold Oper.wp
    rw [hrun, Oper.upon_enter]
    refine hc.mono fun e w' hh => ?_
    obtain ⟨rfl, hb⟩ := hh
    exact hK _ _ (h w' hb (hO.call hb)).out⟩
/-- A new row. -/
theorem g_new (hO : Own u w L) (v : Nat → Value) (c : Array Value) (ty : TypeId) (hf : Fit ty c) (hrun : (execOp a.eval o).run Tryd.prog w = .ok (.value (v w.heap.size)) (w.alloc (.cells c ty))) (h : ∀ q w', Below w.heap.size w w' → Own u w' (L ++ [(q, c, ty)]) → WL ops Q rest (a.put o.dst (v q)) w') (hg : Region.wanted o (yielded ops a.tmps) = true := by kernel_rfl) : WL ops Q (o :: rest) a w :=
  g_run _ _ hrun (h _ _ ((Below.refl _ w).alloc (Nat.le_refl _) _) (hO.snoc (Nat.le_refl _) (Blk.new w _ _) ((Below.refl _ w).alloc (Nat.le_refl _) _) hf)) hg
theorem g_st (hO : Own u w L) {ty : TypeId} {x y : Operand} (j : Nat) {b : Nat} {c e : Array Value} (hj : L[j]? = some (b, c, ty)) (hf : Fit ty e) (h : ∀ w', Own u w' (L.set j (b, e, ty)) → WL ops Q rest a w') (ho : o.op = .store ty x y := by rfl) (hx : a.eval x = D b := by kernel_rfl) (hy : a.eval y = .agg e := by kernel_rfl) (hd : o.dst = none := by rfl) (h5 : anyLen ty = false := by rfl) (hg : Region.wanted o (yielded ops a.tmps) = true := by kernel_rfl) : WL ops Q (o :: rest) a w :=
  ⟨wpList_step fun K hK => by
    rw [if_pos hg]
    have hB := hO.row j hj
    refine wp_store_row ty x y ho _ e hx hy ty _ hB (hf.size h5) ?_ hf.one ?_
    · have h1 := (hO.fits j hj).size h5
      rw [hf.size h5] at h1
      exact (Option.some.inj h1).symm
    · have hk := hK a _ (h _ (hO.put j hj (hB.row e) (st1_row w _ _) hf)).out
      rw [hd]
      exact hk⟩
/-- A literal of bytes: built and marked. -/
theorem g_lit (hO : Own u w L) (n : Nat) (f : Nat → Nat) {x : Operand} (h : ∀ q w', Own u w' L → Cel w' q (vals .u8 n f) → WL ops Q rest ((a.put o.dst (.slice (some ⟨q, 0, none⟩) n n)).put o2.dst (.slice (some ⟨q, 0, none⟩) n n)) w') (hrun : (execOp a.eval o).run Tryd.prog w = .ok (.value (.slice (some ⟨w.heap.size, 0, none⟩) n n)) (w.alloc (.cells (vals .u8 n f) 5)) := by kernel_rfl) (ho2 : o2.op = .convert 25 25 x := by rfl) (hx : ∀ q, (a.put o.dst (.slice (some ⟨q, 0, none⟩) n n)).eval x = .slice (some ⟨q, 0, none⟩) n n := by intro q; kernel_rfl)
    (hg : Region.wanted o (yielded ops a.tmps) = true := by kernel_rfl) (hg2 : ∀ q, Region.wanted o2 (yielded ops (a.put o.dst (.slice (some ⟨q, 0, none⟩) n n)).tmps) = true := by intro q; kernel_rfl) : WL ops Q (o :: o2 :: rest) a w := by
  have hC : Cel (w.alloc (.cells (vals .u8 n f) 5)) w.heap.size (vals .u8 n f) := ⟨5, (0, 0), Blk.new w _ _⟩
  have hb : Below w.heap.size w ((w.alloc (.cells (vals .u8 n f) 5)).freeze ⟨w.heap.size, (vals .u8 n f).size, none⟩ 1) := Below.freeze ((Below.refl _ w).alloc (Nat.le_refl _) _) (Nat.le_refl _)
  refine g_run _ _ hrun (g_run _ _ ?_ (h w.heap.size _ (hO.call hb) (hC.freeze _)) (hg2 _)) hg
  unfold execOp
  simp only [ho2, hx, Sem.run_bind, conv23 hC, Result.andThen_ok, Sem.run_pure]
theorem g_nil (h : Q .normal a w) : WL ops Q [] a w := ⟨wpList_nil h⟩
end
theorem b_pt1 {a : Act} {o : Oper} {p : Operand} {A : Option Addr} {n c : Nat} (w : World) (ho : o.op = .buildSlice 42 1 #[(0, p)] := by rfl) (hp : a.eval p = .slice A n c := by kernel_rfl) : (execOp a.eval o).run Tryd.prog w = .ok (.value (.slice (some ⟨w.heap.size, 0, none⟩) 1 1)) (w.alloc (.cells #[.slice A n c] 25)) := by
  have e : (Instr.buildSlice 42 1 #[(0, .slice A n c)]).run Tryd.prog w = .ok (.slice (some ⟨w.heap.size, 0, none⟩) 1 1) (w.alloc (.cells #[.slice A n c] 25)) := by kernel_rfl
  have hm : (#[(0, p)].map fun (q : Nat × Operand) => (q.1, a.eval q.2)) = #[((0 : Nat), .slice A n c)] := by simp [hp]
  unfold execOp
  simp only [ho]
  rw [hm, Sem.run_bind, e]
  rfl
theorem tag1_c (key : Nat → Nat) (hk : ∀ i, key i < 256) (A : Option Addr) (n c q : Nat) (g : Nat → Nat) (hg : ∀ i, g i < 256) (hc : n ≤ c) (w : World) (hG : Gl w 1 (vals .u64 2 kp)) (hB : Blk w q #[.slice A n c] 25) (hR : Rd w A n g) : Ret 20 #[.agg (vals .u8 32 key), .slice (some ⟨q, 0, none⟩) 1 1] w (.agg (vals .u8 16 (tg key g n))) :=
  tag_c key hk (some ⟨q, 0, none⟩) 1 1 g (one n) hg (by decide) w hG (pts_one hB hc hR)
theorem eq16 (f : Nat → Nat) (w : World) : (Op.equalIn 10000 35 (.agg (vals .u8 16 f)) (.agg (vals .u8 16 f))).run Tryd.prog w = .ok true w := by
  have h := run_equal_vals (P := Tryd.prog) w 9998 35 5 16 .u8 Tryd.underlying35 Tryd.underlying5 sz_u8 f f
  rw [h]
  congr 1
  simp
theorem b_eqa {ρ : Operand → Value} {o : Oper} {x y : Operand} {f : Nat → Nat} (w : World) (ho : o.op = .binOp .eql 35 x y 35 := by rfl) (hx : ρ x = .agg (vals .u8 16 f) := by kernel_rfl) (hy : ρ y = .agg (vals .u8 16 f) := by kernel_rfl) : (execOp ρ o).run Tryd.prog w = .ok (.value (.bool true)) w := by
  have h := eq16 f
  unfold execOp
  simp only [ho, hx, hy]
  go_simp
end Go.Proofs.YtanahjoiilfcbaaDoor

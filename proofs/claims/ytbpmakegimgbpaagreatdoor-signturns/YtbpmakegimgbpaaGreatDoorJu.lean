/- Walk: the law SignTurns. A text of any length; the package's variables lie as they were laid. -/
import Derived.Test.YtbpmakegimgbpaaGreatDoorJy
import Derived.Deep.AppendSrc
import Derived.Deep.DeepCutAuto
import Derived.Laws.BitsAllLaws
namespace Go.Proofs.YtbpmakegimgbpaaGreatDoor.U
set_option maxRecDepth 100000
open F Go.RowKit Rg

structure WL (ops : Array Oper) (Q : Exit → Act → World → Prop) (l : List Oper) (a : Act) (w : World) : Prop where
  out : wpList Tryz.prog ops Q l a w
theorem agg5 (w : World) : (isAgg 5).run Tryz.prog w = .ok false w := by kernel_rfl
theorem size5 (w : World) : (sizeOf 5).run Tryz.prog w = .ok 1 w := by kernel_rfl
theorem und23 : Tryz.prog.underlying 23 = some (.slice 5) := by kernel_rfl
section
variable {o : Oper} {a : Act} {u w : World} {L : List Row} {Q : Exit → Act → World → Prop} {ops : Array Oper} {rest : List Oper}
theorem g_run (v : Value) (w' : World) (hrun : (execOp a.eval o).run Tryz.prog w = .ok (.value v) w') (h : WL ops Q rest (a.put o.dst v) w') (hg : Region.wanted o (yielded ops a.tmps) = true := by kernel_rfl) : WL ops Q (o :: rest) a w :=
  ⟨wpList_step fun K hK => by
    rw [if_pos hg]
    unfold Oper.wp
    rw [hrun, Oper.upon_value]
    exact hK _ _ h.out⟩
theorem g_val (v : Value) (h : WL ops Q rest (a.put o.dst v) w) (hrun : (execOp a.eval o).run Tryz.prog w = .ok (.value v) w := by kernel_rfl) (hg : Region.wanted o (yielded ops a.tmps) = true := by kernel_rfl) : WL ops Q (o :: rest) a w := g_run v w hrun h hg
theorem g_skip (h : WL ops Q rest (a.put o.dst undef) w) (hg : Region.wanted o (yielded ops a.tmps) = false := by kernel_rfl) : WL ops Q (o :: rest) a w :=
  ⟨wpList_step fun K hK => by rw [if_neg (by rw [hg]; decide)]; exact hK _ _ h.out⟩
theorem g_ld (hO : Wn u w L) {ty : TypeId} {x : Operand} (j : Nat) {b : Nat} {c : Array Value} (hj : L[j]? = some (b, c, ty)) {d : TypeDesc} (hu : Tryz.prog.underlying ty = some d) (h : WL ops Q rest (a.put o.dst (.agg c)) w) (ho : o.op = .load ty x := by rfl) (hx : a.eval x = D b := by kernel_rfl) (hd : d.isRow = true := by rfl) (h5 : anyLen ty = false := by rfl) (hg : Region.wanted o (yielded ops a.tmps) = true := by kernel_rfl) : WL ops Q (o :: rest) a w :=
  g_run _ w (run_ldm ty x ho _ 0 hx d (hO.row j hj).range hu hd (by rw [(hO.fits j hj).size h5]; simp)) h hg
theorem g_lc (hO : Wn u w L) {ty : TypeId} {x : Operand} (j k : Nat) {b : Nat} {c : Array Value} {t : TypeId} (v : Value) (hj : L[j]? = some (b, c, t)) (hv : c[k]? = some v) (hu : ∀ w, (isAgg ty).run Tryz.prog w = .ok false w) (h : WL ops Q rest (a.put o.dst v) w) (ho : o.op = .load ty x := by rfl) (hx : a.eval x = E b k := by kernel_rfl) (hg : Region.wanted o (yielded ops a.tmps) = true := by kernel_rfl) : WL ops Q (o :: rest) a w :=
  g_run _ w (ld_cell ty hu ho hx (((hO.row j hj).cell k).trans hv)) h hg
theorem g_call (hO : Wn u w L) (f : FuncId) (args : Array Value) (v : Value) (hc : Ret f args w v) (h : ∀ w', Below w.heap.size w w' → Wn u w' L → WL ops Q rest (a.put o.dst v) w') (hrun : (execOp a.eval o).run Tryz.prog w = .ok (.enter f args) w := by kernel_rfl) (hg : Region.wanted o (yielded ops a.tmps) = true := by kernel_rfl) : WL ops Q (o :: rest) a w :=
  ⟨wpList_step fun K hK => by
    rw [if_pos hg]
    unfold Oper.wp
    rw [hrun, Oper.upon_enter]
    refine hc.mono fun e w' hh => ?_
    obtain ⟨rfl, hb⟩ := hh
    exact hK _ _ (h w' hb (hO.call hb)).out⟩
theorem g_new (hO : Wn u w L) (v : Nat → Value) (c : Array Value) (ty : TypeId) (hf : Fw ty c) (hrun : (execOp a.eval o).run Tryz.prog w = .ok (.value (v w.heap.size)) (w.alloc (.cells c ty))) (h : ∀ q w', Below w.heap.size w w' → Wn u w' (L ++ [(q, c, ty)]) → WL ops Q rest (a.put o.dst (v q)) w') (hg : Region.wanted o (yielded ops a.tmps) = true := by kernel_rfl) : WL ops Q (o :: rest) a w :=
  g_run _ _ hrun (h _ _ ((Below.refl _ w).alloc (Nat.le_refl _) _) (hO.snoc (Nat.le_refl _) (Blk.new w _ _) ((Below.refl _ w).alloc (Nat.le_refl _) _) hf)) hg
theorem g_st (hO : Wn u w L) {ty : TypeId} {x y : Operand} (j : Nat) {b : Nat} {c e : Array Value} (hj : L[j]? = some (b, c, ty)) (hf : Fw ty e) (h : ∀ w', Wn u w' (L.set j (b, e, ty)) → WL ops Q rest a w') (ho : o.op = .store ty x y := by rfl) (hx : a.eval x = D b := by kernel_rfl) (hy : a.eval y = .agg e := by kernel_rfl) (hd : o.dst = none := by rfl) (h5 : anyLen ty = false := by rfl) (hg : Region.wanted o (yielded ops a.tmps) = true := by kernel_rfl) : WL ops Q (o :: rest) a w :=
  ⟨wpList_step fun K hK => by
    rw [if_pos hg]
    have hB := hO.row j hj
    refine wp_store_row ty x y ho _ e hx hy ty _ hB (hf.size h5) ?_ hf.one ?_
    · have h1 := (hO.fits j hj).size h5
      rw [hf.size h5] at h1
      exact (Option.some.inj h1).symm
    · have hk := hK a _ (h _ (hO.put j hj (hB.row e) (st1_row w _ _) hf)).out
      rw [hd]
      exact hk⟩
theorem g_sc (hO : Wn u w L) {ty : TypeId} {x y : Operand} (j k : Nat) {b : Nat} {c e : Array Value} {t : TypeId} {kd : IntKind} (n : Int) (v0 : Value) (hj : L[j]? = some (b, c, t)) (hv : c[k]? = some v0) (hs : ∀ w, (sizeOf ty).run Tryz.prog w = .ok 1 w) (he : c.setIfInBounds k (.int kd n) = e) (hf : Fw t e) (h : ∀ w', Wn u w' (L.set j (b, e, t)) → WL ops Q rest a w') (ho : o.op = .store ty x y := by rfl) (hx : a.eval x = E b k := by kernel_rfl) (hy : a.eval y = .int kd n := by kernel_rfl) (hd : o.dst = none := by rfl) (hg : Region.wanted o (yielded ops a.tmps) = true := by kernel_rfl) : WL ops Q (o :: rest) a w :=
  ⟨wpList_step fun K hK => by
    rw [if_pos hg]
    have hB := hO.row j hj
    unfold Oper.wp
    rw [st_cell ty hs ho hx hy ((hB.cell _).trans hv) (hB.frozen _), Oper.upon_skip]
    have hk := hK a _ (h _ (hO.put j hj ((hB.set _ _).cast he) (st1_cell w _ _ _) hf)).out
    rw [hd]
    exact hk⟩
theorem g_nil (h : Q .normal a w) : WL ops Q [] a w := ⟨wpList_nil h⟩
/-- What a list's bytes are, cell by cell. -/
def gl (l : List Nat) (i : Nat) : Nat := l.getD i 0
theorem gl_lt {l : List Nat} (h : ∀ x ∈ l, x < 256) (i : Nat) : gl l i < 256 := by
  unfold gl
  rw [List.getD_eq_getElem?_getD]
  cases e : l[i]? with
  | none => simp
  | some v => exact h v (List.mem_of_getElem? e)
def mz (f : Nat → Nat) (n i : Nat) : Nat := if i < n then f i else 0
/-- The first n bytes, as a list. -/
def lf (n : Nat) (f : Nat → Nat) : List Nat := (List.range n).map f
theorem lf_len (n : Nat) (f : Nat → Nat) : (lf n f).length = n := by simp [lf]
theorem lf_gl (l : List Nat) : lf l.length (gl l) = l := by
  apply List.ext_getElem?
  intro i
  by_cases h : i < l.length
  · simp [lf, gl, h]
  · rw [List.getElem?_eq_none (by rw [lf_len]; omega), List.getElem?_eq_none (by omega)]
theorem lf_lt {n : Nat} {f : Nat → Nat} (hf : ∀ i, f i < 256) : ∀ x ∈ lf n f, x < 256 := fun x hx => by
  obtain ⟨i, _, rfl⟩ := List.mem_map.1 hx; exact hf i
theorem rds_lf {w : World} {q n N : Nat} {t : TypeId} {f : Nat → Nat} (h : Blk w q (vals .u8 N (mz f n)) t) (hn : n ≤ N) : T.Rds w (some ⟨q, 0, none⟩) (lf n f) := by
  refine Or.inr ⟨⟨q, 0, none⟩, rfl, h.lt, fun i x hx => ?_⟩
  have hi : i < n := by
    have := (List.getElem?_eq_some_iff.1 hx).1
    rwa [lf_len] at this
  have e : x = f i := by
    simp [lf, hi] at hx; exact hx.symm
  rw [e, Addr.add_mid, Nat.zero_add, h.cell, vals_get _ _ _ _ (by omega)]
  unfold mz; rw [if_pos hi]
/-- append of a text to an empty slice. -/
theorem g_cpy (hO : Wn u w L) (q0 n c : Nat) {A : Option Addr} {l : List Nat} (hl : l.length = n) (h0 : 0 < n) (hb : n ≤ 1000) (hA : T.Rds w A l) (h : ∀ q d w', Below w.heap.size w w' → Wn u w' (L ++ [(q, vals .u8 (n + d) (mz (gl l) n), 5)]) → WL ops Q rest (a.put o.dst (.slice (some ⟨q, 0, none⟩) n (n + d))) w') {x y : Operand}
    (ho : o.op = .call { callee := .builtin .append, args := #[x, y], argTypes := #[23, 23] } := by rfl) (hx : a.eval x = .slice (some ⟨q0, 0, none⟩) 0 0 := by kernel_rfl) (hy : a.eval y = .slice A n c := by kernel_rfl) (hg : Region.wanted o (yielded ops a.tmps) = true := by kernel_rfl) : WL ops Q (o :: rest) a w := by
  subst hl
  have h1 : ((Tryz.prog.info? 5).map fun i => (decide (i.size = 1), decide (i.bytes = 1))) = some (true, true) := by kernel_rfl
  have hz : ((Tryz.prog.info? 5).bind (·.zero)) = some (.int .u8 0) := by kernel_rfl
  have hlen : (l.map fun x => Value.int .u8 (x : Nat)).length = l.length := by simp
  have hs : Src Tryz.prog 1 23 (.slice A l.length c) (l.map fun x => Value.int .u8 (x : Nat)).length (l.map fun x => Value.int .u8 (x : Nat)) w := by
    rw [hlen]
    rcases hA with rfl | ⟨ad, rfl, _, hc⟩
    · exact absurd h0 (Nat.lt_irrefl 0)
    · refine Src.ofSlice w und23 ad l.length c _ (by rw [hlen, Nat.mul_one]) (fun j v hv => ?_) (fun v hv => ?_)
      · rw [List.getElem?_map] at hv
        cases hx : l[j]? with
        | none => rw [hx] at hv; cases hv
        | some y => rw [hx] at hv; exact (Option.some.inj hv) ▸ hc j y hx
      · obtain ⟨y, _, rfl⟩ := List.mem_map.1 hv; rfl
  cases hi : Tryz.prog.info? 5 with
  | none => rw [hi] at h1; cases h1
  | some i =>
    rw [hi] at h1 hz
    simp at h1
    have hold : (Builtin.firstCells i.size 0 (.slice (some ⟨q0, 0, none⟩) 0 0)).run Tryz.prog w.drew = .ok ([] : List Value).toArray w.drew := run_firstCells_some w.drew i.size 0 ⟨q0, 0, none⟩ 0 0 [] (by simp) (fun k y hy => nomatch hy)
    have hr := fun ty => run_append_grow_src (P := Tryz.prog) w 23 23 ty 5 i (.int .u8 0) und23 hi hz (some ⟨q0, 0, none⟩) 0 0 _ hold _ _ _ (by rw [h1.1]; exact hs) (by omega) (by omega) (growslice_fits (by omega) (by rw [h1.2]; omega))
    rw [hlen] at hr
    simp only [Nat.zero_add, List.nil_append] at hr
    have hge := grownCap_ge w l.length 0 5
    have hcl : (l.map fun x => Value.int .u8 (x : Nat)).toArray ++ Builtin.zeroCells (Value.int .u8 0).cells (grownCap w l.length 0 5 - l.length) = vals .u8 (grownCap w l.length 0 5) (mz (gl l) l.length) := by
      have hzs : (Builtin.zeroCells (Value.int .u8 0).cells (grownCap w l.length 0 5 - l.length)).size = grownCap w l.length 0 5 - l.length := by rw [size_zeroCells]; simp [Value.cells]
      have hz : ∀ j, j < grownCap w l.length 0 5 - l.length → (Builtin.zeroCells (Value.int .u8 0).cells (grownCap w l.length 0 5 - l.length))[j]? = some (.int .u8 0) := by
        intro j hj
        simp [Builtin.zeroCells, Value.cells, hj, Nat.mod_one]
      generalize grownCap w l.length 0 5 = N at *
      apply Array.ext_getElem?
      intro k
      by_cases h2 : k < N
      · rw [vals_get _ _ _ _ h2]
        unfold mz
        by_cases h3 : k < l.length
        · rw [Array.getElem?_append_left (by simp; exact h3), List.getElem?_toArray, if_pos h3]
          simp [gl, h3]
        · rw [Array.getElem?_append_right (by simp; omega), if_neg h3]
          have e1 : (l.map fun x => Value.int .u8 (x : Nat)).toArray.size = l.length := by simp
          rw [e1, hz _ (by omega)]; rfl
      · rw [Array.getElem?_eq_none (by simp [hzs]; omega), Array.getElem?_eq_none (by rw [vals_size]; omega)]
    have hr2 := fun ty => (hr ty).trans (by rw [hcl])
    refine g_run (.slice (some ⟨w.heap.size, 0, none⟩) l.length (l.length + (grownCap w l.length 0 5 - l.length))) _ ?_ (h w.heap.size (grownCap w l.length 0 5 - l.length) _ ((Below.refl _ w).drew.alloc (Nat.le_refl _) _) (hO.drew.snoc (Nat.le_refl _) ((Blk.new w.drew _ 5).cast (by rw [Nat.add_sub_cancel' hge])) ((Below.refl _ w.drew).alloc (Nat.le_refl _) _) (fit_any (vals_one _ _ _)))) hg
    rw [Nat.add_sub_cancel' hge]
    simp [execOp, ho, resolve, invoke, builtin, hx, hy, hr2, Result.andThen]
end
section
variable {ρ : Operand → Value} {o : Oper} {x y : Operand}
theorem b_gtr {a c : Int} {b : Bool} (h : decide (c < a) = b) (w : World) (ho : o.op = .binOp .gtr 3 x y 3 := by rfl) (hx : ρ x = .int .i64 a := by kernel_rfl) (hy : ρ y = .int .i64 c := by kernel_rfl) : (execOp ρ o).run Tryz.prog w = .ok (.value (.bool b)) w := by
  subst h
  unfold execOp
  simp only [ho, hx, hy]
  go_simp
theorem b_eql0 {a : Nat} {b : Bool} (h : decide (a = 0) = b) (w : World) (ho : o.op = .binOp .eql 3 x y 3 := by rfl) (hx : ρ x = Nv .i64 a := by kernel_rfl) (hy : ρ y = .int .i64 0 := by kernel_rfl) : (execOp ρ o).run Tryz.prog w = .ok (.value (.bool b)) w := by
  unfold execOp
  simp only [ho, hx, hy]
  by_cases h0 : a = 0
  · subst h0 h; rfl
  · rw [decide_eq_false h0] at h
    subst h
    go_simp
theorem b_rem {a c d : Nat} (h : a % c = d) (h0 : 0 < c) (w : World) (ho : o.op = .binOp .rem 3 x y 3 := by rfl) (hx : ρ x = Nv .i64 a := by kernel_rfl) (hy : ρ y = Nv .i64 c := by kernel_rfl) : (execOp ρ o).run Tryz.prog w = .ok (.value (Nv .i64 d)) w := by
  subst h
  have h1 : (a : Int).tmod (c : Int) = ((a % c : Nat) : Int) := by rw [Int.tmod_eq_emod_of_nonneg (by omega)]; exact (Int.natCast_emod _ _).symm
  have h2 : ¬ c = 0 := by omega
  unfold execOp
  simp only [ho, hx, hy]
  go_simp
theorem b_rem3 {a d : Nat} (h : a % 3 = d) (w : World) (ho : o.op = .binOp .rem 5 x y 5 := by rfl) (hx : ρ x = Nv .u8 a := by kernel_rfl) (hy : ρ y = .int .u8 3 := by kernel_rfl) : (execOp ρ o).run Tryz.prog w = .ok (.value (Nv .u8 d)) w := by
  subst h
  have h1 : (a : Int).tmod 3 = ((a % 3 : Nat) : Int) := by rw [Int.tmod_eq_emod_of_nonneg (by omega)]; omega
  unfold execOp
  simp only [ho, hx, hy]
  go_simp
theorem b_ia {n a m : Nat} {ty : TypeId} (ha : a < m) (w : World) (ho : o.op = .indexAddr ty x y) (hu : Tryz.prog.underlying ty = some (.array m 5)) (hc : Tryz.prog.cellsOf 5 = 1) (hx : ρ x = D n := by kernel_rfl) (hy : ρ y = Nv .i64 a := by kernel_rfl) : (execOp ρ o).run Tryz.prog w = .ok (.value (E n a)) w := by
  have h1 : (0 : Int) ≤ (a : Int) := by omega
  have h2 : (a : Int) < (m : Int) := by omega
  have := hc
  unfold execOp
  simp only [ho, hx, hy]
  go_simp
theorem b_ias {n a m c : Nat} (ha : a < m) (w : World) (ho : o.op = .indexAddr 23 x y := by rfl) (hx : ρ x = .slice (some ⟨n, 0, none⟩) m c := by kernel_rfl) (hy : ρ y = Nv .i64 a := by kernel_rfl) : (execOp ρ o).run Tryz.prog w = .ok (.value (E n a)) w := by
  have h1 : (0 : Int) ≤ (a : Int) := by omega
  have h2 : (a : Int) < (m : Int) := by omega
  unfold execOp
  simp only [ho, hx, hy]
  go_simp
theorem b_xor8 {a c : Nat} (ha : a < 256) (hc : c < 256) (w : World) (ho : o.op = .binOp .xor 5 x y 5 := by rfl) (hx : ρ x = Nv .u8 a := by kernel_rfl) (hy : ρ y = Nv .u8 c := by kernel_rfl) : (execOp ρ o).run Tryz.prog w = .ok (.value (Nv .u8 (a ^^^ c))) w := by
  have h1 := u8_xor_nat a c ha hc
  unfold execOp
  simp only [ho, hx, hy]
  go_simp
theorem b_ne8 {a : Nat} (h : ¬ a = 0) (w : World) (ho : o.op = .binOp .neq 5 x y 5 := by rfl) (hx : ρ x = Nv .u8 a := by kernel_rfl) (hy : ρ y = .int .u8 0 := by kernel_rfl) : (execOp ρ o).run Tryz.prog w = .ok (.value (.bool true)) w := by
  unfold execOp
  simp only [ho, hx, hy]
  go_simp
theorem b_bb {b : Bool} (w : World) (ho : o.op = .binOp .eql 4 x y 4 := by rfl) (hx : ρ x = .bool b := by kernel_rfl) (hy : ρ y = .bool b := by kernel_rfl) : (execOp ρ o).run Tryz.prog w = .ok (.value (.bool true)) w := by
  unfold execOp
  simp only [ho, hx, hy]
  cases b <;> kernel_rfl
end
theorem b_bs0 {a : Act} {o : Oper} (w : World) (ho : o.op = .buildSlice 23 0 #[] := by rfl) : (execOp a.eval o).run Tryz.prog w = .ok (.value (.slice (some ⟨w.heap.size, 0, none⟩) 0 0)) (w.alloc (.cells #[] 5)) := by
  have e : (Instr.buildSlice 23 0 #[]).run Tryz.prog w = .ok (.slice (some ⟨w.heap.size, 0, none⟩) 0 0) (w.alloc (.cells #[] 5)) := by kernel_rfl
  unfold execOp
  simp only [ho]
  have hm : (#[] : Array (Nat × Operand)).map (fun (q : Nat × Operand) => (q.1, a.eval q.2)) = #[] := by simp
  rw [hm, Sem.run_bind, e]
  rfl
/-- One byte changed. -/
def chg (f : Nat → Nat) (k b i : Nat) : Nat := if i = k then f k ^^^ b else f i
theorem chg_lt {f : Nat → Nat} (hf : ∀ i, f i < 256) {k b : Nat} (hb : b < 256) (i : Nat) : chg f k b i < 256 := by
  unfold chg; split
  · exact Nat.xor_lt_two_pow (n := 8) (hf _) hb
  · exact hf i
theorem chg_zero (f : Nat → Nat) (k : Nat) : chg f k 0 = f := by
  funext i; unfold chg; split
  · rename_i h; rw [h, Nat.xor_zero]
  · rfl
theorem chg_vals {N k b : Nat} (f : Nat → Nat) : (vals .u8 N f).setIfInBounds k (.int .u8 ((f k ^^^ b : Nat) : Int)) = vals .u8 N (chg f k b) := by
  rw [vals_set]
  refine vals_congr _ _ _ _ fun j _ => ?_
  unfold chg
  by_cases h : j = k
  · subst h; rw [if_pos rfl]
  · rw [if_neg h]
theorem chg_mz {N n k b : Nat} (f : Nat → Nat) (hk : k < n) : (vals .u8 N (mz f n)).setIfInBounds k (.int .u8 ((f k ^^^ b : Nat) : Int)) = vals .u8 N (mz (chg f k b) n) := by
  rw [vals_set]
  refine vals_congr _ _ _ _ fun j _ => ?_
  show (if j = k then _ else mz f n j) = _
  unfold mz chg
  by_cases h : j = k
  · subst h; rw [if_pos rfl, if_pos hk, if_pos rfl]
  · rw [if_neg h, if_neg h]
set_option maxHeartbeats 16000000 in
theorem turns_walk (f : Nat → Nat) (A : Option Addr) (l : List Nat) (c : Nat) (a0 : Int) (bx wh : Nat) (w : World) (hG : Glb w) (hf : ∀ i, f i < 256) (hA : T.Rds w A l) (hc : l.length ≤ c) (hl : ∀ x ∈ l, x < 256) (ha1 : -9223372036854775808 ≤ a0) (ha2 : a0 ≤ 9223372036854775807) (hbx : bx < 256) : Ret 4 #[.agg (vals .u8 32 f), .slice A l.length c, .int .i64 a0, Nv .u8 bx, Nv .u8 wh] w (.bool true) := by
  obtain ⟨n, hn⟩ : ∃ n, Hid (l.length = n) := ⟨_, hide rfl⟩
  obtain ⟨P, hP⟩ : ∃ P, Hid (pub f = P) := ⟨_, hide rfl⟩
  obtain ⟨S, hS⟩ : ∃ S, Hid (sgn f l = S) := ⟨_, hide rfl⟩
  obtain ⟨G, hGl⟩ : ∃ G, Hid (gl l = G) := ⟨_, hide rfl⟩
  have HA : Hid (∀ w', Below w.heap.size w w' → Ret 5 #[] w' (.bool true)) := hide fun w' hb => awake_s w' (hG.low hb)
  have HP : Hid (∀ w', Below w.heap.size w w' → Ret 6 #[.agg (vals .u8 32 f)] w' (.agg (vals .u8 32 P))) := hide fun w' hb => hP.out ▸ public_c f hf w' (hG.low hb)
  have HS : Hid (n ≤ 500 → SgnAt f A n c S w) := hide fun h1 => by
    have e := sgnAt (c := c) f hf hG hA hc hl (by rw [hn.out]; exact h1)
    rw [hn.out, hS.out] at e
    exact e
  have HV : Hid (∀ (p s g : Nat → Nat) (b : Bool) (r q d : Nat) (w' : World), (∀ i, p i < 256) → (∀ i, s i < 256) → (∀ i, g i < 256) → n ≤ 500 → verB p s (lf n g) = b → Below w.heap.size w w' → Blk w' r (vals .u8 (n + d) (mz g n)) 5 → Blk w' q #[.slice (some ⟨r, 0, none⟩) n (n + d)] 23 → Ret 10 #[.agg (vals .u8 32 p), .agg (vals .u8 64 s), .slice (some ⟨q, 0, none⟩) 1 1] w' (.bool b)) := hide fun p s g b r q d w' h1 h2 h3 h4 h5 hb hr hq => by
    have e := verAt p s h1 h2 (w := w') (A := some ⟨r, 0, none⟩) (l := lf n g) (c := n + d) (hG.low hb) (rds_lf hr (Nat.le_add_right _ _)) (by rw [lf_len]; exact Nat.le_add_right _ _) (lf_lt h3) (by rw [lf_len]; exact h4) b (hide h5)
    rw [lf_len] at e
    exact e q w' (Below.refl _ w') hq
  have HR : Hid (∀ (p s g : Nat → Nat) (b : Bool) (r d : Nat) (w' : World), (∀ i, p i < 256) → (∀ i, s i < 256) → (∀ i, g i < 256) → n ≤ 500 → verB p s (lf n g) = b → Blk w' r (vals .u8 (n + d) (mz g n)) 5 → Ret 11 #[.agg (vals .u8 32 p), .agg (vals .u8 64 s), .slice (some ⟨r, 0, none⟩) n (n + d)] w' (.bool b)) := hide fun p s g b r d w' h1 h2 h3 h4 h5 hr => by
    have e := rverify_c p s (some ⟨r, 0, none⟩) (lf n g) (n + d) b (hide h5) h1 h2 w' (rds_lf hr (Nat.le_add_right _ _)) (lf_lt h3) (by rw [lf_len]; omega)
    rw [lf_len] at e
    exact e
  have HO0 : Hid (verB P S (lf n G) = true) := hide (by rw [← hP.out, ← hS.out, ← hGl.out, ← hn.out, lf_gl]; exact verB_own f l)
  have HL : Hid ((∀ i, P i < 256) ∧ (∀ i, S i < 256) ∧ ∀ i, G i < 256) := hide ⟨hP.out ▸ pub_lt f, hS.out ▸ sgn_lt f l, hGl.out ▸ gl_lt hl⟩
  have HT := hide (And.intro hA hn.out)
  have Ha := hide (And.intro ha1 ha2)
  rw [hn.out]
  clear hP hS hG hf hA hc hl ha1 ha2 hn
  go_enter Tryz.func4, Tryz.ntmps4
  have hO := Wn.start w
  go_upto_region 0 with (fail)
  refine wp_region_list (WL.out ?_)
  refine g_new hO D (vals .u8 32 f) 22 (ft (fit_by _)) (run_box 22 _ rfl _ (by kernel_rfl) w) ?_
  intro n5 w1 _ hO
  replace hO : Wn w w1 [(n5, vals .u8 32 f, 22)] := hO
  refine g_val (.bool false) ?_
  refine g_nil ?_
  simp only [Act.put, List.setIfInBounds_toArray, List.set_cons_succ, List.set_cons_zero]
  go_upto_region 1 with (fail)
  refine wp_region_list (WL.out ?_)
  refine g_call hO 5 #[] (.bool true) (HA.out w1 hO.low) ?_
  intro w2 hb16 hO
  refine g_val (.bool true) ?_
  refine g_nil ?_
  simp only [Act.put, List.setIfInBounds_toArray, List.set_cons_succ, List.set_cons_zero]
  clear hb16 HA
  by_cases h5 : 500 < n
  · go_upto_region 2 with (fail)
    refine wp_region_list (WL.out ?_)
    refine g_val (.slice A n c) ?_
    refine g_val (Nv .i64 n) ?_
    refine g_val (.bool true) ?_ (b_gtr (a := (n : Int)) (c := 500) (decide_eq_true (by omega)) w2)
    refine g_val (.bool true) ?_
    refine g_skip ?_
    refine g_skip ?_
    refine g_skip ?_
    refine g_val (.bool true) ?_
    refine g_nil ?_
    simp only [Act.put, List.setIfInBounds_toArray, List.set_cons_succ, List.set_cons_zero]
    have HL9 := hide hO.low
    clear hO
    go_wp2_with (fail)
    go_ret
    exact ⟨rfl, HL9.out⟩
  by_cases h0 : n = 0
  · go_upto_region 2 with (fail)
    refine wp_region_list (WL.out ?_)
    refine g_val (.slice A n c) ?_
    refine g_val (Nv .i64 n) ?_
    refine g_val (.bool false) ?_ (b_gtr (a := (n : Int)) (c := 500) (decide_eq_false (by omega)) w2)
    refine g_val (.bool false) ?_
    refine g_val (.slice A n c) ?_
    refine g_val (Nv .i64 n) ?_
    refine g_val (.bool true) ?_ (b_eql0 (decide_eq_true h0) w2)
    refine g_val (.bool true) ?_
    refine g_nil ?_
    simp only [Act.put, List.setIfInBounds_toArray, List.set_cons_succ, List.set_cons_zero]
    have HL9 := hide hO.low
    clear hO
    go_wp2_with (fail)
    go_ret
    exact ⟨rfl, HL9.out⟩
  go_upto_region 2 with (fail)
  refine wp_region_list (WL.out ?_)
  refine g_val (.slice A n c) ?_
  refine g_val (Nv .i64 n) ?_
  refine g_val (.bool false) ?_ (b_gtr (a := (n : Int)) (c := 500) (decide_eq_false (by omega)) w2)
  refine g_val (.bool false) ?_
  refine g_val (.slice A n c) ?_
  refine g_val (Nv .i64 n) ?_
  refine g_val (.bool false) ?_ (b_eql0 (decide_eq_false h0) w2)
  refine g_val (.bool false) ?_
  refine g_nil ?_
  simp only [Act.put, List.setIfInBounds_toArray, List.set_cons_succ, List.set_cons_zero]
  have h1 : n ≤ 500 := by omega
  have h2 : 0 < n := by omega
  clear h5 h0
  have HO := hide hO
  clear hO
  go_upto_if 27 with (fail)
  go_cut [2] (fun s wc => ∃ a : Nat, s = .int .i64 (a : Int) ∧ wc = w2)
  case first =>
    by_cases hneg : a0 < 0
    · have hw1 : IntKind.i64.wrap (a0 + 1) = a0 + 1 := by have := Ha.out; simp [IntKind.wrap, IntKind.bits, IntKind.signed]; omega
      have hw2 : IntKind.i64.wrap (-(a0 + 1)) = -(a0 + 1) := by have := Ha.out; simp [IntKind.wrap, IntKind.bits, IntKind.signed]; omega
      go_wp2_with (fail)
      go_meet
      exact ⟨(-(a0 + 1)).toNat, by first | go_num | (congr 1; omega), rfl⟩
    · go_wp2_with (fail)
      go_meet
      exact ⟨a0.toNat, by first | go_num | (congr 1; omega), rfl⟩
  case rest =>
    obtain ⟨a, rfl, hwc⟩ := hcut
    obtain rfl : w2 = wc := hwc.symm
    clear Ha
    have hO := HO.out
    clear HO
    go_upto_region 6 with (fail)
    refine wp_region_list (WL.out ?_)
    refine g_ld hO 0 rfl Tryz.underlying22 ?_
    refine g_call hO 6 #[.agg (vals .u8 32 f)] (.agg (vals .u8 32 P)) (HP.out w2 hO.low) ?_
    intro w3 hb32 hO
    refine g_new hO D (vals .u8 32 (fun _ => 0)) 22 (ft (fit_by _)) (al22 rfl w3) ?_
    intro n12 w4 _ hO
    replace hO : Wn w w4 [(n5, vals .u8 32 f, 22), (n12, vals .u8 32 (fun _ => 0), 22)] := hO
    refine g_st hO 1 (e := vals .u8 32 P) rfl (ft (fit_by _)) ?_
    intro w5 hO
    replace hO : Wn w w5 [(n5, vals .u8 32 f, 22), (n12, vals .u8 32 P, 22)] := hO
    refine g_nil ?_
    simp only [Act.put, List.setIfInBounds_toArray, List.set_cons_succ, List.set_cons_zero]
    clear hb32 HP
    go_upto_region 7 with (fail)
    refine wp_region_list (WL.out ?_)
    refine g_ld hO 0 rfl Tryz.underlying22 ?_
    refine g_val (.slice A n c) ?_
    refine g_new hO (fun q => .slice (some ⟨q, 0, none⟩) 1 1) #[.slice A n c] 23 (fit_any (by kernel_rfl)) (run_bsl 35 23 1 _ rfl #[(0, .slice A n c)] (by kernel_rfl) (by kernel_rfl)) ?_
    intro t35 w6 _ hO
    replace hO : Wn w w6 [(n5, vals .u8 32 f, 22), (n12, vals .u8 32 P, 22), (t35, #[.slice A n c], 23)] := hO
    refine g_call hO 7 #[.agg (vals .u8 32 f), .slice (some ⟨t35, 0, none⟩) 1 1] (.agg (vals .u8 64 S)) (HS.out h1 t35 w6 hO.low (hO.row 2 rfl)) ?_
    intro w7 hb36 hO
    refine g_new hO D (vals .u8 64 (fun _ => 0)) 24 (ft (fit_b6 _)) (alb6 rfl w7) ?_
    intro n13 w8 _ hO
    replace hO : Wn w w8 [(n5, vals .u8 32 f, 22), (n12, vals .u8 32 P, 22), (t35, #[.slice A n c], 23), (n13, vals .u8 64 (fun _ => 0), 24)] := hO
    refine g_st hO 3 (e := vals .u8 64 S) rfl (ft (fit_b6 _)) ?_
    intro w9 hO
    replace hO : Wn w w9 [(n5, vals .u8 32 f, 22), (n12, vals .u8 32 P, 22), (t35, #[.slice A n c], 23), (n13, vals .u8 64 S, 24)] := hO
    refine g_nil ?_
    simp only [Act.put, List.setIfInBounds_toArray, List.set_cons_succ, List.set_cons_zero]
    clear hb36 HS
    go_upto_region 8 with (fail)
    refine wp_region_list (WL.out ?_)
    refine g_new hO (fun q => .slice (some ⟨q, 0, none⟩) 0 0) (#[]) 5 (fit_any (by kernel_rfl)) (b_bs0 w9) ?_
    intro n37 w10 hb37 hO
    replace hO : Wn w w10 [(n5, vals .u8 32 f, 22), (n12, vals .u8 32 P, 22), (t35, #[.slice A n c], 23), (n13, vals .u8 64 S, 24), (n37, #[], 5)] := hO
    refine g_val (.slice A n c) ?_
    refine g_cpy hO n37 n c HT.out.2 h2 (by omega) (HT.out.1.low hO.low) ?_
    rw [hGl.out]
    intro qt dt w11 _ hO
    replace hO : Wn w w11 [(n5, vals .u8 32 f, 22), (n12, vals .u8 32 P, 22), (t35, #[.slice A n c], 23), (n13, vals .u8 64 S, 24), (n37, #[], 5), (qt, vals .u8 (n + dt) (mz G n), 5)] := hO
    refine g_val (.slice (some ⟨qt, 0, none⟩) n (n + dt)) ?_
    refine g_nil ?_
    simp only [Act.put, List.setIfInBounds_toArray, List.set_cons_succ, List.set_cons_zero]
    clear HT hGl
    have hc3 : wh % 3 = 0 ∨ wh % 3 = 1 ∨ wh % 3 = 2 := by omega
    rcases hc3 with hc | hc | hc
    · go_upto_region 9 with (fail)
      refine wp_region_list (WL.out ?_)
      refine g_val (Nv .u8 wh) ?_
      refine g_val (Nv .u8 0) ?_ (b_rem3 hc w11)
      refine g_nil ?_
      simp only [Act.put, List.setIfInBounds_toArray, List.set_cons_succ, List.set_cons_zero]
      go_upto_region 10 with (fail)
      refine wp_region_list (WL.out ?_)
      refine g_val (.bool true) ?_
      refine g_val (.bool true) ?_
      refine g_nil ?_
      simp only [Act.put, List.setIfInBounds_toArray, List.set_cons_succ, List.set_cons_zero]
      obtain ⟨p, hp⟩ : ∃ p, a % 64 = p := ⟨_, rfl⟩
      have hpl : p < 64 := hp ▸ Nat.mod_lt _ (by decide)
      have hz := HL.out.2.1 p
      go_upto_region 11 with (fail)
      refine wp_region_list (WL.out ?_)
      refine g_val (Nv .i64 a) ?_
      refine g_val (Nv .i64 p) ?_ (b_rem (c := 64) hp (by decide) w11)
      refine g_val (Nv .i64 a) ?_
      refine g_val (Nv .i64 p) ?_ (b_rem (c := 64) hp (by decide) w11)
      refine g_val (E n13 p) ?_ (b_ia hpl w11 rfl Tryz.underlying24 (by kernel_rfl))
      refine g_lc hO 3 p (Nv .u8 (S p)) rfl (vals_get _ _ _ _ hpl) agg5 ?_
      refine g_val (Nv .u8 bx) ?_
      refine g_val (Nv .u8 (S p ^^^ bx)) ?_ (b_xor8 hz hbx w11)
      refine g_val (E n13 p) ?_ (b_ia hpl w11 rfl Tryz.underlying24 (by kernel_rfl))
      refine g_sc hO 3 p ((S p ^^^ bx : Nat) : Int) _ rfl (vals_get _ _ _ _ hpl) size5 (chg_vals S) (ft (fit_b6 _)) ?_
      intro w12 hO
      replace hO : Wn w w12 [(n5, vals .u8 32 f, 22), (n12, vals .u8 32 P, 22), (t35, #[.slice A n c], 23), (n13, vals .u8 64 (chg S p bx), 24), (n37, #[], 5), (qt, vals .u8 (n + dt) (mz G n), 5)] := hO
      refine g_nil ?_
      simp only [Act.put, List.setIfInBounds_toArray, List.set_cons_succ, List.set_cons_zero]
      have hZ2 : ∀ i, chg S p bx i < 256 := chg_lt HL.out.2.1 hbx
      clear hz hp hpl
      obtain ⟨b, hb⟩ : ∃ b, verB P (chg S p bx) (lf n G) = b := ⟨_, rfl⟩
      have Hb0 : Hid (bx = 0 → b = true) := hide fun e => by rw [← hb, e, chg_zero]; exact HO0.out
      have HV2 := fun r q d w' => HV.out P (chg S p bx) G b r q d w' HL.out.1 hZ2 HL.out.2.2 h1 hb
      have HR2 := fun r d w' => HR.out P (chg S p bx) G b r d w' HL.out.1 hZ2 HL.out.2.2 h1 hb
      replace HV2 := hide HV2
      replace HR2 := hide HR2
      obtain ⟨Z2, hZ3⟩ : ∃ Z2, chg S p bx = Z2 := ⟨_, rfl⟩
      rw [hZ3] at hO HV2 HR2
      clear HV HR HL hb hZ2 HO0 hZ3
      go_upto_region 16 with (fail)
      refine wp_region_list (WL.out ?_)
      refine g_ld hO 1 rfl Tryz.underlying22 ?_
      refine g_ld hO 3 rfl Tryz.underlying24 ?_
      refine g_val (.slice (some ⟨qt, 0, none⟩) n (n + dt)) ?_
      refine g_new hO (fun q => .slice (some ⟨q, 0, none⟩) 1 1) #[.slice (some ⟨qt, 0, none⟩) n (n + dt)] 23 (fit_any (by kernel_rfl)) (run_bsl 35 23 1 _ rfl #[(0, .slice (some ⟨qt, 0, none⟩) n (n + dt))] (by kernel_rfl) (by kernel_rfl)) ?_
      intro t84 w13 _ hO
      replace hO : Wn w w13 [(n5, vals .u8 32 f, 22), (n12, vals .u8 32 P, 22), (t35, #[.slice A n c], 23), (n13, vals .u8 64 Z2, 24), (n37, #[], 5), (qt, vals .u8 (n + dt) (mz G n), 5), (t84, #[.slice (some ⟨qt, 0, none⟩) n (n + dt)], 23)] := hO
      refine g_call hO 10 #[.agg (vals .u8 32 P), .agg (vals .u8 64 Z2), .slice (some ⟨t84, 0, none⟩) 1 1] (.bool b) (HV2.out qt t84 dt w13 hO.low (hO.row 5 rfl) (hO.row 6 rfl)) ?_
      intro w14 hb85 hO
      refine g_val (.bool b) ?_
      refine g_nil ?_
      simp only [Act.put, List.setIfInBounds_toArray, List.set_cons_succ, List.set_cons_zero]
      clear hb85 HV2
      by_cases hb0 : bx = 0
      · obtain rfl := Hb0.out hb0
        subst hb0
        go_upto_region 17 with (fail)
        refine wp_region_list (WL.out ?_)
        refine g_val (.bool true) ?_
        refine g_val (.bool true) ?_
        refine g_val (.bool true) ?_
        refine g_ld hO 1 rfl Tryz.underlying22 ?_
        refine g_ld hO 3 rfl Tryz.underlying24 ?_
        refine g_val (.slice (some ⟨qt, 0, none⟩) n (n + dt)) ?_
        refine g_call hO 11 #[.agg (vals .u8 32 P), .agg (vals .u8 64 Z2), .slice (some ⟨qt, 0, none⟩) n (n + dt)] (.bool true) (HR2.out qt dt w14 (hO.row 5 rfl)) ?_
        intro w15 hb92 hO
        refine g_val (.bool true) ?_
        refine g_val (.bool true) ?_
        refine g_val (.bool true) ?_
        refine g_val (Nv .u8 0) ?_
        refine g_val (.bool false) ?_
        refine g_val (.bool false) ?_
        refine g_val (.bool true) ?_
        refine g_val (.bool true) ?_
        refine g_val (.bool true) ?_
        refine g_val (.bool true) ?_
        refine g_nil ?_
        simp only [Act.put, List.setIfInBounds_toArray, List.set_cons_succ, List.set_cons_zero]
        have HL9 := hide hO.low
        clear hO HR2 Hb0
        go_wp2_with (fail)
        go_ret
        exact ⟨rfl, HL9.out⟩
      · go_upto_region 17 with (fail)
        refine wp_region_list (WL.out ?_)
        refine g_val (.bool true) ?_
        refine g_val (.bool true) ?_
        refine g_val (.bool b) ?_
        refine g_ld hO 1 rfl Tryz.underlying22 ?_
        refine g_ld hO 3 rfl Tryz.underlying24 ?_
        refine g_val (.slice (some ⟨qt, 0, none⟩) n (n + dt)) ?_
        refine g_call hO 11 #[.agg (vals .u8 32 P), .agg (vals .u8 64 Z2), .slice (some ⟨qt, 0, none⟩) n (n + dt)] (.bool b) (HR2.out qt dt w14 (hO.row 5 rfl)) ?_
        intro w15 hb92 hO
        refine g_val (.bool true) ?_ (b_bb (b := b) w15)
        refine g_val (.bool true) ?_
        refine g_val (.bool true) ?_
        refine g_val (Nv .u8 bx) ?_
        refine g_val (.bool true) ?_ (b_ne8 hb0 w15)
        refine g_val (.bool true) ?_
        refine g_skip ?_
        refine g_val (.bool true) ?_
        refine g_val (.bool true) ?_
        refine g_val (.bool true) ?_
        refine g_nil ?_
        simp only [Act.put, List.setIfInBounds_toArray, List.set_cons_succ, List.set_cons_zero]
        have HL9 := hide hO.low
        clear hO HR2 Hb0
        go_wp2_with (fail)
        go_ret
        exact ⟨rfl, HL9.out⟩
    · go_upto_region 9 with (fail)
      refine wp_region_list (WL.out ?_)
      refine g_val (Nv .u8 wh) ?_
      refine g_val (Nv .u8 1) ?_ (b_rem3 hc w11)
      refine g_nil ?_
      simp only [Act.put, List.setIfInBounds_toArray, List.set_cons_succ, List.set_cons_zero]
      go_upto_region 10 with (fail)
      refine wp_region_list (WL.out ?_)
      refine g_val (.bool false) ?_
      refine g_val (.bool false) ?_
      refine g_nil ?_
      simp only [Act.put, List.setIfInBounds_toArray, List.set_cons_succ, List.set_cons_zero]
      go_upto_region 12 with (fail)
      refine wp_region_list (WL.out ?_)
      refine g_val (.bool true) ?_
      refine g_val (.bool true) ?_
      refine g_nil ?_
      simp only [Act.put, List.setIfInBounds_toArray, List.set_cons_succ, List.set_cons_zero]
      obtain ⟨p, hp⟩ : ∃ p, a % 32 = p := ⟨_, rfl⟩
      have hpl : p < 32 := hp ▸ Nat.mod_lt _ (by decide)
      have hz := HL.out.1 p
      go_upto_region 13 with (fail)
      refine wp_region_list (WL.out ?_)
      refine g_val (Nv .i64 a) ?_
      refine g_val (Nv .i64 p) ?_ (b_rem (c := 32) hp (by decide) w11)
      refine g_val (Nv .i64 a) ?_
      refine g_val (Nv .i64 p) ?_ (b_rem (c := 32) hp (by decide) w11)
      refine g_val (E n12 p) ?_ (b_ia hpl w11 rfl Tryz.underlying22 (by kernel_rfl))
      refine g_lc hO 1 p (Nv .u8 (P p)) rfl (vals_get _ _ _ _ hpl) agg5 ?_
      refine g_val (Nv .u8 bx) ?_
      refine g_val (Nv .u8 (P p ^^^ bx)) ?_ (b_xor8 hz hbx w11)
      refine g_val (E n12 p) ?_ (b_ia hpl w11 rfl Tryz.underlying22 (by kernel_rfl))
      refine g_sc hO 1 p ((P p ^^^ bx : Nat) : Int) _ rfl (vals_get _ _ _ _ hpl) size5 (chg_vals P) (ft (fit_by _)) ?_
      intro w12 hO
      replace hO : Wn w w12 [(n5, vals .u8 32 f, 22), (n12, vals .u8 32 (chg P p bx), 22), (t35, #[.slice A n c], 23), (n13, vals .u8 64 S, 24), (n37, #[], 5), (qt, vals .u8 (n + dt) (mz G n), 5)] := hO
      refine g_nil ?_
      simp only [Act.put, List.setIfInBounds_toArray, List.set_cons_succ, List.set_cons_zero]
      have hZ2 : ∀ i, chg P p bx i < 256 := chg_lt HL.out.1 hbx
      clear hz hp hpl
      obtain ⟨b, hb⟩ : ∃ b, verB (chg P p bx) S (lf n G) = b := ⟨_, rfl⟩
      have Hb0 : Hid (bx = 0 → b = true) := hide fun e => by rw [← hb, e, chg_zero]; exact HO0.out
      have HV2 := fun r q d w' => HV.out (chg P p bx) S G b r q d w' hZ2 HL.out.2.1 HL.out.2.2 h1 hb
      have HR2 := fun r d w' => HR.out (chg P p bx) S G b r d w' hZ2 HL.out.2.1 HL.out.2.2 h1 hb
      replace HV2 := hide HV2
      replace HR2 := hide HR2
      obtain ⟨Z2, hZ3⟩ : ∃ Z2, chg P p bx = Z2 := ⟨_, rfl⟩
      rw [hZ3] at hO HV2 HR2
      clear HV HR HL hb hZ2 HO0 hZ3
      go_upto_region 16 with (fail)
      refine wp_region_list (WL.out ?_)
      refine g_ld hO 1 rfl Tryz.underlying22 ?_
      refine g_ld hO 3 rfl Tryz.underlying24 ?_
      refine g_val (.slice (some ⟨qt, 0, none⟩) n (n + dt)) ?_
      refine g_new hO (fun q => .slice (some ⟨q, 0, none⟩) 1 1) #[.slice (some ⟨qt, 0, none⟩) n (n + dt)] 23 (fit_any (by kernel_rfl)) (run_bsl 35 23 1 _ rfl #[(0, .slice (some ⟨qt, 0, none⟩) n (n + dt))] (by kernel_rfl) (by kernel_rfl)) ?_
      intro t84 w13 _ hO
      replace hO : Wn w w13 [(n5, vals .u8 32 f, 22), (n12, vals .u8 32 Z2, 22), (t35, #[.slice A n c], 23), (n13, vals .u8 64 S, 24), (n37, #[], 5), (qt, vals .u8 (n + dt) (mz G n), 5), (t84, #[.slice (some ⟨qt, 0, none⟩) n (n + dt)], 23)] := hO
      refine g_call hO 10 #[.agg (vals .u8 32 Z2), .agg (vals .u8 64 S), .slice (some ⟨t84, 0, none⟩) 1 1] (.bool b) (HV2.out qt t84 dt w13 hO.low (hO.row 5 rfl) (hO.row 6 rfl)) ?_
      intro w14 hb85 hO
      refine g_val (.bool b) ?_
      refine g_nil ?_
      simp only [Act.put, List.setIfInBounds_toArray, List.set_cons_succ, List.set_cons_zero]
      clear hb85 HV2
      by_cases hb0 : bx = 0
      · obtain rfl := Hb0.out hb0
        subst hb0
        go_upto_region 17 with (fail)
        refine wp_region_list (WL.out ?_)
        refine g_val (.bool true) ?_
        refine g_val (.bool true) ?_
        refine g_val (.bool true) ?_
        refine g_ld hO 1 rfl Tryz.underlying22 ?_
        refine g_ld hO 3 rfl Tryz.underlying24 ?_
        refine g_val (.slice (some ⟨qt, 0, none⟩) n (n + dt)) ?_
        refine g_call hO 11 #[.agg (vals .u8 32 Z2), .agg (vals .u8 64 S), .slice (some ⟨qt, 0, none⟩) n (n + dt)] (.bool true) (HR2.out qt dt w14 (hO.row 5 rfl)) ?_
        intro w15 hb92 hO
        refine g_val (.bool true) ?_
        refine g_val (.bool true) ?_
        refine g_val (.bool true) ?_
        refine g_val (Nv .u8 0) ?_
        refine g_val (.bool false) ?_
        refine g_val (.bool false) ?_
        refine g_val (.bool true) ?_
        refine g_val (.bool true) ?_
        refine g_val (.bool true) ?_
        refine g_val (.bool true) ?_
        refine g_nil ?_
        simp only [Act.put, List.setIfInBounds_toArray, List.set_cons_succ, List.set_cons_zero]
        have HL9 := hide hO.low
        clear hO HR2 Hb0
        go_wp2_with (fail)
        go_ret
        exact ⟨rfl, HL9.out⟩
      · go_upto_region 17 with (fail)
        refine wp_region_list (WL.out ?_)
        refine g_val (.bool true) ?_
        refine g_val (.bool true) ?_
        refine g_val (.bool b) ?_
        refine g_ld hO 1 rfl Tryz.underlying22 ?_
        refine g_ld hO 3 rfl Tryz.underlying24 ?_
        refine g_val (.slice (some ⟨qt, 0, none⟩) n (n + dt)) ?_
        refine g_call hO 11 #[.agg (vals .u8 32 Z2), .agg (vals .u8 64 S), .slice (some ⟨qt, 0, none⟩) n (n + dt)] (.bool b) (HR2.out qt dt w14 (hO.row 5 rfl)) ?_
        intro w15 hb92 hO
        refine g_val (.bool true) ?_ (b_bb (b := b) w15)
        refine g_val (.bool true) ?_
        refine g_val (.bool true) ?_
        refine g_val (Nv .u8 bx) ?_
        refine g_val (.bool true) ?_ (b_ne8 hb0 w15)
        refine g_val (.bool true) ?_
        refine g_skip ?_
        refine g_val (.bool true) ?_
        refine g_val (.bool true) ?_
        refine g_val (.bool true) ?_
        refine g_nil ?_
        simp only [Act.put, List.setIfInBounds_toArray, List.set_cons_succ, List.set_cons_zero]
        have HL9 := hide hO.low
        clear hO HR2 Hb0
        go_wp2_with (fail)
        go_ret
        exact ⟨rfl, HL9.out⟩
    · go_upto_region 9 with (fail)
      refine wp_region_list (WL.out ?_)
      refine g_val (Nv .u8 wh) ?_
      refine g_val (Nv .u8 2) ?_ (b_rem3 hc w11)
      refine g_nil ?_
      simp only [Act.put, List.setIfInBounds_toArray, List.set_cons_succ, List.set_cons_zero]
      go_upto_region 10 with (fail)
      refine wp_region_list (WL.out ?_)
      refine g_val (.bool false) ?_
      refine g_val (.bool false) ?_
      refine g_nil ?_
      simp only [Act.put, List.setIfInBounds_toArray, List.set_cons_succ, List.set_cons_zero]
      go_upto_region 12 with (fail)
      refine wp_region_list (WL.out ?_)
      refine g_val (.bool false) ?_
      refine g_val (.bool false) ?_
      refine g_nil ?_
      simp only [Act.put, List.setIfInBounds_toArray, List.set_cons_succ, List.set_cons_zero]
      go_upto_region 14 with (fail)
      refine wp_region_list (WL.out ?_)
      refine g_val (.bool true) ?_
      refine g_val (.bool true) ?_
      refine g_nil ?_
      simp only [Act.put, List.setIfInBounds_toArray, List.set_cons_succ, List.set_cons_zero]
      obtain ⟨p, hp⟩ : ∃ p, a % n = p := ⟨_, rfl⟩
      have hpl : p < n := hp ▸ Nat.mod_lt _ h2
      have hz := HL.out.2.2 p
      have cz : (vals .u8 (n + dt) (mz G n))[p]? = some (Nv .u8 (G p)) := by rw [vals_get _ _ _ _ (by omega)]; unfold mz; rw [if_pos hpl]
      go_upto_region 15 with (fail)
      refine Rg.pd [15] (fun _ => [(66, .slice (some ⟨qt, 0, none⟩) n (n + dt)), (67, Nv .i64 a), (68, .slice (some ⟨qt, 0, none⟩) n (n + dt)), (69, Nv .i64 n), (70, Nv .i64 p), (71, .slice (some ⟨qt, 0, none⟩) n (n + dt)), (72, Nv .i64 a), (73, .slice (some ⟨qt, 0, none⟩) n (n + dt)), (74, Nv .i64 n), (75, Nv .i64 p), (76, E qt p), (77, Nv .u8 (G p)), (78, Nv .u8 bx), (79, Nv .u8 (G p ^^^ bx)), (80, E qt p)]) (OI w (fun s _ => [[(n5, vals .u8 32 f, 22), (n12, vals .u8 32 P, 22), (t35, #[.slice A n c], 23), (n13, vals .u8 64 S, 24), (n37, #[], 5), (qt, vals .u8 (n + dt) (mz G n), 5)], [(n5, vals .u8 32 f, 22), (n12, vals .u8 32 P, 22), (t35, #[.slice A n c], 23), (n13, vals .u8 64 S, 24), (n37, #[], 5), (qt, vals .u8 (n + dt) (mz (chg G p bx) n), 5)]].getD s [])) (fun _ => 0) hO.drew (Rg.ac nV (Rg.ac nV (Rg.ac nV (Rg.ac nV (Rg.ac (nx (fun _ => Nv .i64 p) (fun _ w => b_rem (c := n) hp h2 w)) (Rg.ac nV (Rg.ac nV (Rg.ac nV (Rg.ac nV (Rg.ac (nx (fun _ => Nv .i64 p) (fun _ w => b_rem (c := n) hp h2 w)) (Rg.ac (nx (fun _ => E qt p) (fun _ w => b_ias (n := qt) (m := n) (c := n + dt) hpl w)) (Rg.ac (nc 0 0 5 (fun _ => qt) 5 (fun _ => vals .u8 (n + dt) (mz G n)) (fun _ => p) (fun _ => Nv .u8 (G p)) agg5 (fun _ => cz) (t1 0)) (Rg.ac nV (Rg.ac (nx (fun _ => Nv .u8 (G p ^^^ bx)) (fun _ w => b_xor8 hz hbx w)) (Rg.ac (nx (fun _ => E qt p) (fun _ w => b_ias (n := qt) (m := n) (c := n + dt) hpl w)) (Rg.ac (sL 0 5 (fun _ => p) (fun _ => Nv .u8 (G p)) (fun _ => ((G p ^^^ bx : Nat) : Int)) size5 (fun _ => cz) (fun _ => chg_mz G hpl) (fun _ => fit_any (vals_one _ _ _))) Rg.an)))))))))))))))) ?_
      intro ν wy hO
      replace hO : Wn w wy [(n5, vals .u8 32 f, 22), (n12, vals .u8 32 P, 22), (t35, #[.slice A n c], 23), (n13, vals .u8 64 S, 24), (n37, #[], 5), (qt, vals .u8 (n + dt) (mz (chg G p bx) n), 5)] := hO
      simp only [Rg.putL, Act.put, qC, qD, qE]
      clear ν cz
      have hZ2 : ∀ i, chg G p bx i < 256 := chg_lt HL.out.2.2 hbx
      clear hz hp hpl
      obtain ⟨b, hb⟩ : ∃ b, verB P S (lf n (chg G p bx)) = b := ⟨_, rfl⟩
      have Hb0 : Hid (bx = 0 → b = true) := hide fun e => by rw [← hb, e, chg_zero]; exact HO0.out
      have HV2 := fun r q d w' => HV.out P S (chg G p bx) b r q d w' HL.out.1 HL.out.2.1 hZ2 h1 hb
      have HR2 := fun r d w' => HR.out P S (chg G p bx) b r d w' HL.out.1 HL.out.2.1 hZ2 h1 hb
      replace HV2 := hide HV2
      replace HR2 := hide HR2
      obtain ⟨Z2, hZ3⟩ : ∃ Z2, chg G p bx = Z2 := ⟨_, rfl⟩
      rw [hZ3] at hO HV2 HR2
      clear HV HR HL hb hZ2 HO0 hZ3
      go_upto_region 16 with (fail)
      refine wp_region_list (WL.out ?_)
      refine g_ld hO 1 rfl Tryz.underlying22 ?_
      refine g_ld hO 3 rfl Tryz.underlying24 ?_
      refine g_val (.slice (some ⟨qt, 0, none⟩) n (n + dt)) ?_
      refine g_new hO (fun q => .slice (some ⟨q, 0, none⟩) 1 1) #[.slice (some ⟨qt, 0, none⟩) n (n + dt)] 23 (fit_any (by kernel_rfl)) (run_bsl 35 23 1 _ rfl #[(0, .slice (some ⟨qt, 0, none⟩) n (n + dt))] (by kernel_rfl) (by kernel_rfl)) ?_
      intro t84 w12 _ hO
      replace hO : Wn w w12 [(n5, vals .u8 32 f, 22), (n12, vals .u8 32 P, 22), (t35, #[.slice A n c], 23), (n13, vals .u8 64 S, 24), (n37, #[], 5), (qt, vals .u8 (n + dt) (mz Z2 n), 5), (t84, #[.slice (some ⟨qt, 0, none⟩) n (n + dt)], 23)] := hO
      refine g_call hO 10 #[.agg (vals .u8 32 P), .agg (vals .u8 64 S), .slice (some ⟨t84, 0, none⟩) 1 1] (.bool b) (HV2.out qt t84 dt w12 hO.low (hO.row 5 rfl) (hO.row 6 rfl)) ?_
      intro w13 hb85 hO
      refine g_val (.bool b) ?_
      refine g_nil ?_
      simp only [Act.put, List.setIfInBounds_toArray, List.set_cons_succ, List.set_cons_zero]
      clear hb85 HV2
      by_cases hb0 : bx = 0
      · obtain rfl := Hb0.out hb0
        subst hb0
        go_upto_region 17 with (fail)
        refine wp_region_list (WL.out ?_)
        refine g_val (.bool true) ?_
        refine g_val (.bool true) ?_
        refine g_val (.bool true) ?_
        refine g_ld hO 1 rfl Tryz.underlying22 ?_
        refine g_ld hO 3 rfl Tryz.underlying24 ?_
        refine g_val (.slice (some ⟨qt, 0, none⟩) n (n + dt)) ?_
        refine g_call hO 11 #[.agg (vals .u8 32 P), .agg (vals .u8 64 S), .slice (some ⟨qt, 0, none⟩) n (n + dt)] (.bool true) (HR2.out qt dt w13 (hO.row 5 rfl)) ?_
        intro w14 hb92 hO
        refine g_val (.bool true) ?_
        refine g_val (.bool true) ?_
        refine g_val (.bool true) ?_
        refine g_val (Nv .u8 0) ?_
        refine g_val (.bool false) ?_
        refine g_val (.bool false) ?_
        refine g_val (.bool true) ?_
        refine g_val (.bool true) ?_
        refine g_val (.bool true) ?_
        refine g_val (.bool true) ?_
        refine g_nil ?_
        simp only [Act.put, List.setIfInBounds_toArray, List.set_cons_succ, List.set_cons_zero]
        have HL9 := hide hO.low
        clear hO HR2 Hb0
        go_wp2_with (fail)
        go_ret
        exact ⟨rfl, HL9.out⟩
      · go_upto_region 17 with (fail)
        refine wp_region_list (WL.out ?_)
        refine g_val (.bool true) ?_
        refine g_val (.bool true) ?_
        refine g_val (.bool b) ?_
        refine g_ld hO 1 rfl Tryz.underlying22 ?_
        refine g_ld hO 3 rfl Tryz.underlying24 ?_
        refine g_val (.slice (some ⟨qt, 0, none⟩) n (n + dt)) ?_
        refine g_call hO 11 #[.agg (vals .u8 32 P), .agg (vals .u8 64 S), .slice (some ⟨qt, 0, none⟩) n (n + dt)] (.bool b) (HR2.out qt dt w13 (hO.row 5 rfl)) ?_
        intro w14 hb92 hO
        refine g_val (.bool true) ?_ (b_bb (b := b) w14)
        refine g_val (.bool true) ?_
        refine g_val (.bool true) ?_
        refine g_val (Nv .u8 bx) ?_
        refine g_val (.bool true) ?_ (b_ne8 hb0 w14)
        refine g_val (.bool true) ?_
        refine g_skip ?_
        refine g_val (.bool true) ?_
        refine g_val (.bool true) ?_
        refine g_val (.bool true) ?_
        refine g_nil ?_
        simp only [Act.put, List.setIfInBounds_toArray, List.set_cons_succ, List.set_cons_zero]
        have HL9 := hide hO.low
        clear hO HR2 Hb0
        go_wp2_with (fail)
        go_ret
        exact ⟨rfl, HL9.out⟩
end Go.Proofs.YtbpmakegimgbpaaGreatDoor.U

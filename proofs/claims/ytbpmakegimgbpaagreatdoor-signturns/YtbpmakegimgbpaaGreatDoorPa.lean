/- Walks over a list of own rows (Own): what a function has laid since it was entered; one law for each operation: a call by its contract, a new row, a store, a load of a row or of a part of it. No conditions but those that each names. -/
import Derived.Test.YtbpmakegimgbpaaGreatDoorJv
import Derived.Test.YtbpmakegimgbpaaGreatDoorWr
import Derived.Test.YtbpmakegimgbpaaGreatDoorWo
import Derived.Test.YtbpmakegimgbpaaGreatDoorWn
import Derived.Test.YtbpmakegimgbpaaGreatDoorEf
import Derived.Deep.MidRow
namespace Go.Proofs.YtbpmakegimgbpaaGreatDoor
set_option maxRecDepth 100000
open F Go.RowKit

abbrev Row := Nat × Array Value × TypeId
/-- As many cells as the type has, each one cell. -/
structure Fit (t : TypeId) (c : Array Value) : Prop where
  size : (Tryz.prog.info? t).map (·.size) = some c.size
  one : c.all (·.oneCell') = true
/-- The rows L are a function's own: laid since the world u; what lay there before is as it was. -/
structure Own (u w : World) (L : List Row) : Prop where
  low : Below u.heap.size u w
  blk : ∀ r ∈ L, Blk w r.1 r.2.1 r.2.2
  new : ∀ r ∈ L, u.heap.size ≤ r.1
  fit : ∀ r ∈ L, Fit r.2.2 r.2.1
  dist : (L.map (·.1)).Nodup
theorem Own.start (w : World) : Own w w [] := ⟨Below.refl _ w, (fun _ h => nomatch h), (fun _ h => nomatch h), (fun _ h => nomatch h), List.nodup_nil⟩
theorem Own.row {u w : World} {L : List Row} (h : Own u w L) (i : Nat) {b : Nat} {c : Array Value} {t : TypeId} (hi : L[i]? = some (b, c, t)) : Blk w b c t := h.blk _ (List.mem_of_getElem? hi)
theorem Own.fits {u w : World} {L : List Row} (h : Own u w L) (i : Nat) {b : Nat} {c : Array Value} {t : TypeId} (hi : L[i]? = some (b, c, t)) : Fit t c := h.fit _ (List.mem_of_getElem? hi)
theorem Own.call {u w w' : World} {L : List Row} (h : Own u w L) (hb : Below w.heap.size w w') : Own u w' L :=
  ⟨h.low.trans (hb.mono h.low.size), fun r hr => (h.blk r hr).call hb, h.new, h.fit, h.dist⟩
theorem Own.drew {u w : World} {L : List Row} (h : Own u w L) : Own u w.drew L := ⟨h.low.drew, fun r hr => (h.blk r hr).drew, h.new, h.fit, h.dist⟩
theorem Own.cons {u w w' : World} {L : List Row} (h : Own u w L) {n : Nat} {c : Array Value} {t : TypeId} (hn : n = w.heap.size) (hB : Blk w' n c t) (hb : Below w.heap.size w w') (hf : Fit t c) : Own u w' ((n, c, t) :: L) := by
  have h' := h.call hb
  refine ⟨h'.low, ?_, ?_, ?_, ?_⟩
  · intro r hr
    rcases List.mem_cons.1 hr with rfl | hr
    · exact hB
    · exact h'.blk r hr
  · intro r hr
    rcases List.mem_cons.1 hr with rfl | hr
    · rw [hn]; exact h.low.size
    · exact h'.new r hr
  · intro r hr
    rcases List.mem_cons.1 hr with rfl | hr
    · exact hf
    · exact h'.fit r hr
  · rw [List.map_cons, List.nodup_cons]
    refine ⟨fun hm => ?_, h.dist⟩
    obtain ⟨r, hr, e⟩ := List.mem_map.1 hm
    have hl := (h.blk r hr).lt
    rw [e] at hl
    rw [hn] at hl
    exact Nat.lt_irrefl _ hl
/-- What a store changes: one row. -/
structure Sto1 (b : Nat) (w w' : World) : Prop where
  keep : ∀ b' c t, b' ≠ b → Blk w b' c t → Blk w' b' c t
  low : ∀ B w0, B ≤ b → Below B w0 w → Below B w0 w'
theorem Own.put {u w w' : World} {L : List Row} (h : Own u w L) (i : Nat) {b : Nat} {c : Array Value} {t : TypeId} (hi : L[i]? = some (b, c, t)) {e : Array Value} (hB : Blk w' b e t) (hk : Sto1 b w w') (hf : Fit t e) : Own u w' (L.set i (b, e, t)) := by
  have hm := List.mem_of_getElem? hi
  have hmap : (L.set i (b, e, t)).map (·.1) = L.map (·.1) := by
    rw [List.map_set]
    apply List.ext_getElem?
    intro j
    rw [List.getElem?_set]
    by_cases hj : i = j
    · subst hj
      have hl : i < L.length := (List.getElem?_eq_some_iff.1 hi).1
      have he : L[i] = (b, c, t) := (List.getElem?_eq_some_iff.1 hi).2
      simp [hl, he]
    · simp [hj]
  have hr : ∀ r ∈ L.set i (b, e, t), r = (b, e, t) ∨ (r ∈ L ∧ r.1 ≠ b) := by
    intro r hr
    obtain ⟨j, hj⟩ := List.getElem?_of_mem hr
    rw [List.getElem?_set] at hj
    by_cases hij : i = j
    · subst hij
      have hl : i < L.length := (List.getElem?_eq_some_iff.1 hi).1
      simp [hl] at hj
      exact Or.inl hj.symm
    · rw [if_neg hij] at hj
      refine Or.inr ⟨List.mem_of_getElem? hj, fun e1 => hij ?_⟩
      refine (List.getElem?_inj (l := L.map (·.1)) ?_ h.dist).1 ?_
      · rw [List.length_map]; exact (List.getElem?_eq_some_iff.1 hi).1
      · rw [List.getElem?_map, List.getElem?_map, hi, hj]; simp [e1]
  refine ⟨hk.low _ _ (h.new _ hm) h.low, ?_, ?_, ?_, ?_⟩
  · intro r h1
    rcases hr r h1 with rfl | ⟨h2, h3⟩
    · exact hB
    · exact hk.keep _ _ _ h3 (h.blk r h2)
  · intro r h1
    rcases hr r h1 with rfl | ⟨h2, h3⟩
    · exact h.new (b, c, t) hm
    · exact h.new r h2
  · intro r h1
    rcases hr r h1 with rfl | ⟨h2, h3⟩
    · exact hf
    · exact h.fit r h2
  · rw [hmap]; exact h.dist
theorem st1_row (w : World) (b : Nat) (e : Array Value) : Sto1 b w (w.setRow b e) := ⟨fun _ _ _ hn hB => hB.rowOther e (fun h => hn h.symm), fun _ _ hb hL => Below.row hL hb e⟩
theorem st1_cell (w : World) (b i : Nat) (v : Value) : Sto1 b w (w.setCell ⟨b, i, none⟩ v) := ⟨fun _ _ _ hn hB => hB.setOther i v (fun h => hn h.symm), fun _ _ hb hL => hL.setCell (p := ⟨b, i, none⟩) hb v⟩
theorem get_set {L : List Row} {i j : Nat} {r x : Row} (h : L[j]? = some r) (hne : i ≠ j) : (L.set i x)[j]? = some r := by rw [List.getElem?_set_ne hne]; exact h
/-- A part of a row. -/
structure Part (c : Array Value) (off : Nat) (ty : TypeId) (e : Array Value) : Prop where
  eq : c.extract off (off + e.size) = e
  size : (Tryz.prog.info? ty).map (·.size) = some e.size
theorem Part.range {w : World} {b off : Nat} {c e : Array Value} {t ty : TypeId} (h : Part c off ty e) (hB : Blk w b c t) : w.rangeAt b off e.toList := fun j v hv => by
  rw [hB.cell]
  have hj : j < e.size := by simpa using (List.getElem?_eq_some_iff.1 hv).1
  rw [Array.getElem?_toList, ← h.eq, Array.getElem?_extract] at hv
  split at hv
  · exact hv
  · cases hv

def Has : List Row → World → Prop
  | [], _ => True
  | r :: l, w => Blk w r.1 r.2.1 r.2.2 ∧ Has l w

section
variable {o : Oper} {a : Act} {u w : World} {L : List Row} {K : Act → World → Prop} {Q : Exit → Act → World → Prop}
theorem o_call (hO : Own u w L) (f : FuncId) (args : Array Value) (hrun : (execOp a.eval o).run Tryz.prog w = .ok (.enter f args) w) (v : Value) (hc : ∀ w, Calls Tryz.prog f args w fun e w' => e = .returned v ∧ Below w.heap.size w w')
    (h : ∀ w', Own u w' L → K (a.put o.dst v) w') : o.wp Tryz.prog a w K Q := by
  unfold Oper.wp
  rw [hrun, Oper.upon_enter]
  refine (hc w).mono fun e w' hh => ?_
  obtain ⟨rfl, hb⟩ := hh
  exact h w' (hO.call hb)
theorem o_new (hO : Own u w L) (c : Array Value) (t : TypeId) (hrun : ∀ w, (execOp a.eval o).run Tryz.prog w = .ok (.value (.pointer (some ⟨w.heap.size, 0, none⟩))) (w.alloc (.cells c t))) (hf : Fit t c)
    (h : ∀ n w', Own u w' ((n, c, t) :: L) → K (a.put o.dst (.pointer (some ⟨n, 0, none⟩))) w') : o.wp Tryz.prog a w K Q := by
  unfold Oper.wp
  rw [hrun w, Oper.upon_value]
  exact h _ _ (hO.cons rfl (Blk.new w c t) ((Below.refl _ w).alloc (Nat.le_refl _) _) hf)
theorem o_val (v : Value) (hrun : (execOp a.eval o).run Tryz.prog w = .ok (.value v) w) (h : K (a.put o.dst v) w) : o.wp Tryz.prog a w K Q := by
  unfold Oper.wp
  rw [hrun, Oper.upon_value]
  exact h
theorem o_st (hO : Own u w L) (ty : TypeId) (x y : Operand) (ho : o.op = .store ty x y) (i : Nat) {b : Nat} {c : Array Value} (hi : L[i]? = some (b, c, ty)) (e : Array Value) (hx : a.eval x = .pointer (some ⟨b, 0, none⟩)) (hy : a.eval y = .agg e) (hf : Fit ty e)
    (h : ∀ w', Own u w' (L.set i (b, e, ty)) → K (a.put o.dst undef) w') : o.wp Tryz.prog a w K Q := by
  have hB := hO.row i hi
  refine wp_store_row ty x y ho b e hx hy ty c hB hf.size ?_ hf.one (h _ (hO.put i hi (hB.row e) (st1_row w b e) hf))
  have h1 := (hO.fits i hi).size
  rw [hf.size] at h1
  exact (Option.some.inj h1).symm
theorem o_ld (hO : Own u w L) (ty : TypeId) (x : Operand) (ho : o.op = .load ty x) (i : Nat) {b : Nat} {c : Array Value} (hi : L[i]? = some (b, c, ty)) (hx : a.eval x = .pointer (some ⟨b, 0, none⟩)) (d : TypeDesc) (hu : Tryz.prog.underlying ty = some d) (hd : d.isRow = true)
    (h : K (a.put o.dst (.agg c)) w) : o.wp Tryz.prog a w K Q := by
  have := wp_load_mid (P := Tryz.prog) (K := K) (Q := Q) ty x ho b 0 hx c.toList d (hO.row i hi).range hu hd (by rw [(hO.fits i hi).size]; simp) (by simpa using h)
  exact this
theorem o_part (hO : Own u w L) (ty : TypeId) (x : Operand) (ho : o.op = .load ty x) (i : Nat) {b off : Nat} {c : Array Value} {t : TypeId} (hi : L[i]? = some (b, c, t)) (hx : a.eval x = .pointer (some ⟨b, off, none⟩)) {e : Array Value} (hp : Part c off ty e) (d : TypeDesc) (hu : Tryz.prog.underlying ty = some d) (hd : d.isRow = true)
    (h : K (a.put o.dst (.agg e)) w) : o.wp Tryz.prog a w K Q := by
  have := wp_load_mid (P := Tryz.prog) (K := K) (Q := Q) ty x ho b off hx e.toList d (hp.range (hO.row i hi)) hu hd (by rw [hp.size]; simp) (by simpa using h)
  exact this
theorem y_ld {ops : Array Oper} {S : World → Prop} (ty : TypeId) (x : Operand) (ho : o.op = .load ty x) {b : Nat} {c : Array Value} (hB : ∀ w, S w → Blk w b c ty) (hf : Fit ty c) (hw : Region.wanted o (yielded ops a.tmps) = true) (hx : a.eval x = .pointer (some ⟨b, 0, none⟩)) (d : TypeDesc) (hu : Tryz.prog.underlying ty = some d) (hd : d.isRow = true) : YieldsIf Tryz.prog ops S o (.agg c) a :=
  yields_S hB hw ty x ho hx d hu hd hf.size
theorem run_bd' {P : Program} (t : TypeId) (parts : Array (Nat × Operand)) (ho : o.op = .build t parts) (e : Array Value) (h : P.built t (parts.map fun (i, x) => (i, a.eval x)).toList = some e) (w : World) : (execOp a.eval o).run P w = .ok (.value (.agg e)) w := by
  unfold execOp
  simp only [ho]
  have h1 := run_build (P := P) w t (parts.map fun (i, x) => (i, a.eval x)) e h
  simp only [Sem.run_bind, h1, Result.andThen_ok, Sem.run_pure]
theorem run_bd {P : Program} (t : TypeId) (parts : Array (Nat × Operand)) (ho : o.op = .build t parts) (l : List (Nat × Value)) (hl : (parts.map fun (i, x) => (i, a.eval x)).toList = l) (e : Array Value) (h : P.built t l = some e) (w : World) : (execOp a.eval o).run P w = .ok (.value (.agg e)) w :=
  run_bd' t parts ho e (hl ▸ h) w
theorem run_box (t : TypeId) (x : Operand) (ho : o.op = .box t x) (c : Array Value) (hx : a.eval x = .agg c) (w : World) : (execOp a.eval o).run Tryz.prog w = .ok (.value (.pointer (some ⟨w.heap.size, 0, none⟩))) (w.alloc (.cells c t)) := by
  unfold execOp
  simp only [ho, hx]
  kernel_rfl
end
theorem o_fr {P : Program} {ops : Array Oper} {l : List Oper} {a a' : Act} {w : World} {Q : Exit → Act → World → Prop} (ha : a = a') (h : wpList P ops Q l a' w) : wpList P ops Q l a w := ha ▸ h
/-! ### Rows of several numbers -/
def ps (l : List Nat) : Array Value := vals .u64 (4 * l.length) fun c => limb (l.getD (c / 4) 0) (c % 4)
def qn (l : List Nat) : Array Value := vals .u64 (16 * l.length) fun c => F.dg (l.getD (c / 16) 0) (c % 16)
def mu (f : Nat → Nat) (l : List Nat) : Array Value := vals .u8 32 f ++ ps l
theorem fit_fe (x : Nat) : Fit 47 (arr 4 (limb x)) := ⟨by rw [arr_size]; exact cells27, vals_one .u64 4 _⟩
theorem fit_by (f : Nat → Nat) : Fit 22 (vals .u8 32 f) := ⟨by rw [vals_size]; exact cells22, vals_one _ _ _⟩
theorem fit_rn (x : Nat) : Fit 58 (vals .u64 16 (F.dg x)) := ⟨by rw [vals_size]; kernel_rfl, vals_one _ _ _⟩
theorem fit_pt (x y : Nat) : Fit 49 (ps [x, y]) := ⟨by unfold ps; rw [vals_size]; kernel_rfl, vals_one _ _ _⟩
theorem fit_co (x y z : Nat) : Fit 141 (ps [x, y, z]) := ⟨by unfold ps; rw [vals_size]; kernel_rfl, vals_one _ _ _⟩
theorem fit_ad (x y z : Nat) : Fit 97 (ps [x, y, z]) := ⟨by unfold ps; rw [vals_size]; kernel_rfl, vals_one _ _ _⟩
theorem fit_ru (x y z t : Nat) : Fit 143 (ps [x, y, z, t]) := ⟨by unfold ps; rw [vals_size]; kernel_rfl, vals_one _ _ _⟩
theorem fit_rp (x y : Nat) : Fit 60 (qn [x, y]) := ⟨by unfold qn; rw [vals_size]; kernel_rfl, vals_one _ _ _⟩
theorem fit_wd (x y z t : Nat) : Fit 111 (qn [x, y, z, t]) := ⟨by unfold qn; rw [vals_size]; kernel_rfl, vals_one _ _ _⟩
theorem fit_mu (f : Nat → Nat) (x y z : Nat) : Fit 100 (mu f [x, y, z]) := ⟨by kernel_rfl, by kernel_rfl⟩
end Go.Proofs.YtbpmakegimgbpaaGreatDoor

/- Straight regions step by step; stores of one cell; slices that read, grow, are told as strings; calls that answer with rows of their own. No conditions but those that each names. -/
import Derived.Test.YtkljpidlfddgbaaOw
import Derived.Deep.AppendSrc
import Derived.Laws.AppendOwn
import Derived.Laws.IdiomStrings
import Derived.Deep.OwnRows
namespace Go.Proofs.Ytkljpidlfddgbaa
set_option maxRecDepth 100000
open Go.RowKit Rg
namespace B

structure WL (ops : Array Oper) (Q : Exit → Act → World → Prop) (l : List Oper) (a : Act) (w : World) : Prop where
  out : wpList Try.prog ops Q l a w
/-- A store of one value, of one cell, anywhere. -/
theorem st_int {ρ : Operand → Value} {o : Oper} (ty : TypeId) (hs : ∀ w, (sizeOf ty).run Try.prog w = .ok 1 w) {x y : Operand} (ho : o.op = .store ty x y) {ad : Addr} (hx : ρ x = .pointer (some ad)) {kd : IntKind} {n : Int} (hy : ρ y = .int kd n) {w : World} {v : Value} (hc : w.cell? ad = some v) (hf : w.frozen? ad = false) : (execOp ρ o).run Try.prog w = .ok .skip (w.setCell ad (.int kd n)) := by
  unfold execOp
  simp only [ho, hx, hy]
  go_simp
theorem st_bool {ρ : Operand → Value} {o : Oper} (ty : TypeId) (hs : ∀ w, (sizeOf ty).run Try.prog w = .ok 1 w) {x y : Operand} (ho : o.op = .store ty x y) {ad : Addr} (hx : ρ x = .pointer (some ad)) {b : Bool} (hy : ρ y = .bool b) {w : World} {v : Value} (hc : w.cell? ad = some v) (hf : w.frozen? ad = false) : (execOp ρ o).run Try.prog w = .ok .skip (w.setCell ad (.bool b)) := by
  unfold execOp
  simp only [ho, hx, hy]
  go_simp
theorem st_slice {ρ : Operand → Value} {o : Oper} (ty : TypeId) (hs : ∀ w, (sizeOf ty).run Try.prog w = .ok 1 w) {x y : Operand} (ho : o.op = .store ty x y) {ad : Addr} (hx : ρ x = .pointer (some ad)) {A : Option Addr} {n c : Nat} (hy : ρ y = .slice A n c) {w : World} {v : Value} (hc : w.cell? ad = some v) (hf : w.frozen? ad = false) : (execOp ρ o).run Try.prog w = .ok .skip (w.setCell ad (.slice A n c)) := by
  unfold execOp
  simp only [ho, hx, hy]
  go_simp
/-- A call, by whatever it tells. -/
def RetP (f : FuncId) (args : Array Value) (w : World) (P : Value → World → Prop) : Prop := Calls Try.prog f args w fun e w' => ∃ v, e = .returned v ∧ P v w'
section
variable {o o2 : Oper} {a : Act} {u w : World} {L : List Row} {Q : Exit → Act → World → Prop} {ops : Array Oper} {rest : List Oper}
theorem g_run (v : Value) (w' : World) (hrun : (execOp a.eval o).run Try.prog w = .ok (.value v) w') (h : WL ops Q rest (a.put o.dst v) w') (hg : Region.wanted o (yielded ops a.tmps) = true := by kernel_rfl) : WL ops Q (o :: rest) a w :=
  ⟨wpList_step fun K hK => by
    rw [if_pos hg]
    unfold Oper.wp
    rw [hrun, Oper.upon_value]
    exact hK _ _ h.out⟩
theorem g_val (v : Value) (h : WL ops Q rest (a.put o.dst v) w) (hrun : (execOp a.eval o).run Try.prog w = .ok (.value v) w := by kernel_rfl) (hg : Region.wanted o (yielded ops a.tmps) = true := by kernel_rfl) : WL ops Q (o :: rest) a w := g_run v w hrun h hg
theorem g_skip (h : WL ops Q rest (a.put o.dst undef) w) (hg : Region.wanted o (yielded ops a.tmps) = false := by kernel_rfl) : WL ops Q (o :: rest) a w :=
  ⟨wpList_step fun K hK => by rw [if_neg (by rw [hg]; decide)]; exact hK _ _ h.out⟩
theorem g_fr (a' : Act) (h : WL ops Q rest a' w) (e : a = a' := by kernel_rfl) : WL ops Q rest a w := e ▸ h
theorem g_nil (h : Q .normal a w) : WL ops Q [] a w := ⟨wpList_nil h⟩
/-- A row is loaded whole. -/
theorem g_ld (hO : Own u w L) {ty : TypeId} {x : Operand} (j : Nat) {b : Nat} {c : Array Value} (hj : L[j]? = some (b, c, ty)) {d : TypeDesc} (hu : Try.prog.underlying ty = some d) (h : WL ops Q rest (a.put o.dst (.agg c)) w) (ho : o.op = .load ty x := by rfl) (hx : a.eval x = D b := by kernel_rfl) (hd : d.isRow = true := by rfl) (h5 : anyLen ty = false := by rfl) (hg : Region.wanted o (yielded ops a.tmps) = true := by kernel_rfl) : WL ops Q (o :: rest) a w :=
  g_run _ w (run_ldm ty x ho _ 0 hx d (hO.row j hj).range hu hd (by rw [(hO.fits j hj).size h5]; simp)) h hg
/-- A part of a row is loaded. -/
theorem g_lp (hO : Own u w L) {ty : TypeId} {x : Operand} (j off : Nat) {b : Nat} {c e : Array Value} {t : TypeId} (hj : L[j]? = some (b, c, t)) (hp : Part c off ty e) {d : TypeDesc} (hu : Try.prog.underlying ty = some d) (h : WL ops Q rest (a.put o.dst (.agg e)) w) (ho : o.op = .load ty x := by rfl) (hx : a.eval x = E b off := by kernel_rfl) (hd : d.isRow = true := by rfl) (hg : Region.wanted o (yielded ops a.tmps) = true := by kernel_rfl) : WL ops Q (o :: rest) a w :=
  g_run _ w (run_ldm ty x ho _ off hx d (hp.range (hO.row j hj)) hu hd (by rw [hp.size]; simp)) h hg
/-- One cell of a row is loaded. -/
theorem g_lc (hO : Own u w L) {ty : TypeId} {x : Operand} (j k : Nat) {b : Nat} {c : Array Value} {t : TypeId} (v : Value) (hj : L[j]? = some (b, c, t)) (hv : c[k]? = some v) (hu : ∀ w, (isAgg ty).run Try.prog w = .ok false w) (h : WL ops Q rest (a.put o.dst v) w) (ho : o.op = .load ty x := by rfl) (hx : a.eval x = E b k := by kernel_rfl) (hg : Region.wanted o (yielded ops a.tmps) = true := by kernel_rfl) : WL ops Q (o :: rest) a w :=
  g_run _ w (ld_cell ty hu ho hx (((hO.row j hj).cell k).trans hv)) h hg
/-- One cell is loaded from anywhere. -/
theorem g_la {ty : TypeId} {x : Operand} {ad : Addr} (v : Value) (hv : w.cell? ad = some v) (hu : ∀ w, (isAgg ty).run Try.prog w = .ok false w) (h : WL ops Q rest (a.put o.dst v) w) (ho : o.op = .load ty x := by rfl) (hx : a.eval x = .pointer (some ad) := by kernel_rfl) (hg : Region.wanted o (yielded ops a.tmps) = true := by kernel_rfl) : WL ops Q (o :: rest) a w :=
  g_run v w (by unfold execOp; simp only [ho, hx]; go_simp) h hg
theorem g_any {P : Value → World → Prop} (f : FuncId) (args : Array Value) (hc : RetP f args w P) (h : ∀ v w', P v w' → WL ops Q rest (a.put o.dst v) w') (hrun : (execOp a.eval o).run Try.prog w = .ok (.enter f args) w := by kernel_rfl) (hg : Region.wanted o (yielded ops a.tmps) = true := by kernel_rfl) : WL ops Q (o :: rest) a w :=
  ⟨wpList_step fun K hK => by
    rw [if_pos hg]
    unfold Oper.wp
    rw [hrun, Oper.upon_enter]
    refine Calls.mono hc fun e w' hh => ?_
    obtain ⟨v, rfl, hP⟩ := hh
    exact hK _ _ (h v w' hP).out⟩
theorem g_call (hO : Own u w L) (f : FuncId) (args : Array Value) (v : Value) (hc : Ret f args w v) (h : ∀ w', Below w.heap.size w w' → Own u w' L → WL ops Q rest (a.put o.dst v) w') (hrun : (execOp a.eval o).run Try.prog w = .ok (.enter f args) w := by kernel_rfl) (hg : Region.wanted o (yielded ops a.tmps) = true := by kernel_rfl) : WL ops Q (o :: rest) a w :=
  g_any (P := fun v' w' => v' = v ∧ Below w.heap.size w w') f args (Calls.mono hc fun _ _ hh => ⟨_, hh.1, rfl, hh.2⟩) (fun _ w' hP => by obtain ⟨rfl, hb⟩ := hP; exact h w' hb (hO.call hb)) hrun hg
/-- A call that changes rows: those before, those behind. -/
theorem g_chg {L' : List Row} (f : FuncId) (args : Array Value) (v : Value) (hc : Calls Try.prog f args w fun e w' => e = .returned v ∧ Own u w' L') (h : ∀ w', Own u w' L' → WL ops Q rest (a.put o.dst v) w') (hrun : (execOp a.eval o).run Try.prog w = .ok (.enter f args) w := by kernel_rfl) (hg : Region.wanted o (yielded ops a.tmps) = true := by kernel_rfl) : WL ops Q (o :: rest) a w :=
  g_any (P := fun v' w' => v' = v ∧ Own u w' L') f args (hc.mono fun _ _ hh => ⟨_, hh.1, rfl, hh.2⟩) (fun _ w' hP => by obtain ⟨rfl, hO⟩ := hP; exact h w' hO) hrun hg
theorem g_new (hO : Own u w L) (v : Nat → Value) (c : Array Value) (ty : TypeId) (hf : Fit ty c) (hrun : (execOp a.eval o).run Try.prog w = .ok (.value (v w.heap.size)) (w.alloc (.cells c ty))) (h : ∀ q w', Below w.heap.size w w' → Own u w' (L ++ [(q, c, ty)]) → WL ops Q rest (a.put o.dst (v q)) w') (hg : Region.wanted o (yielded ops a.tmps) = true := by kernel_rfl) : WL ops Q (o :: rest) a w :=
  g_run _ _ hrun (h _ _ ((Below.refl _ w).alloc (Nat.le_refl _) _) (hO.snoc (Nat.le_refl _) (Blk.new w _ _) ((Below.refl _ w).alloc (Nat.le_refl _) _) hf)) hg
theorem g_st (hO : Own u w L) {ty : TypeId} {x y : Operand} (j : Nat) {b : Nat} {c e : Array Value} (hj : L[j]? = some (b, c, ty)) (hf : Fit ty e) (h : ∀ w', Own u w' (L.set j (b, e, ty)) → WL ops Q rest a w') (ho : o.op = .store ty x y := by rfl) (hx : a.eval x = D b := by kernel_rfl) (hy : a.eval y = .agg e := by kernel_rfl) (hd : o.dst = none := by rfl) (h5 : anyLen ty = false := by rfl) (hg : Region.wanted o (yielded ops a.tmps) = true := by kernel_rfl) : WL ops Q (o :: rest) a w :=
  ⟨wpList_step fun K hK => by
    rw [if_pos hg]
    have hB := hO.row j hj
    refine wp_store_row ty x y ho _ e hx hy ty _ hB (hf.size h5) ?_ hf.one ?_
    · have h1 := (hO.fits j hj).size h5
      rw [hf.size h5] at h1
      exact (Option.some.inj h1).symm
    · have hk := hK a _ (h _ (hO.put j hj (hB.row e) (st1_row w _ _) hf)).out
      rw [hd]
      exact hk⟩
/-- One cell of a row is stored; what the store does is told by st_int, st_bool, st_slice. -/
theorem g_sc (hO : Own u w L) (j k : Nat) {b : Nat} {c e : Array Value} {t : TypeId} (v v0 : Value) (hj : L[j]? = some (b, c, t)) (hv : c[k]? = some v0) (hrun : w.cell? ⟨b, k, none⟩ = some v0 → w.frozen? ⟨b, k, none⟩ = false → (execOp a.eval o).run Try.prog w = .ok .skip (w.setCell ⟨b, k, none⟩ v)) (he : c.setIfInBounds k v = e) (hf : Fit t e) (h : ∀ w', Own u w' (L.set j (b, e, t)) → WL ops Q rest a w') (hd : o.dst = none := by rfl) (hg : Region.wanted o (yielded ops a.tmps) = true := by kernel_rfl) : WL ops Q (o :: rest) a w :=
  ⟨wpList_step fun K hK => by
    rw [if_pos hg]
    have hB := hO.row j hj
    unfold Oper.wp
    rw [hrun ((hB.cell _).trans hv) (hB.frozen _), Oper.upon_skip]
    have hk := hK a _ (h _ (hO.put j hj ((hB.set _ _).cast he) (st1_cell w _ _ _) hf)).out
    rw [hd]
    exact hk⟩
end
/-- Rows that a call has laid, joined to one's own. -/
theorem own_join {u w1 w2 : World} {L L' : List Row} (h : Own u w1 L) (h' : Own w1 w2 L') : Own u w2 (L ++ L') := by
  refine ⟨h.low.trans (h'.low.mono h.low.size), fun r hr => ?_, fun r hr => ?_, fun r hr => ?_, ?_⟩
  · exact (List.mem_append.1 hr).elim (fun hr => (h.blk r hr).call h'.low) (h'.blk r)
  · exact (List.mem_append.1 hr).elim (h.new r) (fun hr => Nat.le_trans h.low.size (h'.new r hr))
  · exact (List.mem_append.1 hr).elim (h.fit r) (h'.fit r)
  · rw [List.map_append]
    refine List.nodup_append.2 ⟨h.dist, h'.dist, fun a ha b hb => ?_⟩
    obtain ⟨x, hx, rfl⟩ := List.mem_map.1 ha
    obtain ⟨y, hy, rfl⟩ := List.mem_map.1 hb
    have h1 := h'.new y hy
    have h2 := (h.blk x hx).lt
    omega
theorem at_end (L : List Row) (r : Row) : (L ++ [r])[L.length]? = some r := by simp
theorem set_end (L : List Row) (r r' : Row) : (L ++ [r]).set L.length r' = L ++ [r'] := by simp
/-- A call that answers with rows of its own. -/
def RetZ (f : FuncId) (args : Array Value) (w : World) (v : (Nat → Nat) → Value) (R : (Nat → Nat) → List Row) : Prop := Calls Try.prog f args w fun e w' => ∃ z, e = .returned (v z) ∧ Own w w' (R z)
def upz (ν : Nu) (B : Nat) (z : Nat → Nat) : Nu := fun k => if B ≤ k then z (k - B) else ν k
section
variable {b : Bool} {ops : Array Oper} {sts : List Nat} {F : Nu → Act} {u : World} {L : Nat → Nu → List Row} {i : Nat} {o : Oper}
/-- The same, in a region over one frame: ν (B + k) is z k. -/
theorem sz (t B : Nat) (f : FuncId) (args : Nu → Array Value) (v : (Nat → Nat) → Value) (R : (Nat → Nat) → List Row) (hc : ∀ ν w, Own u w (L t ν) → RetZ f (args ν) w v R) (hL : ∀ ν z, L (t + 1) (upz ν B z) = L t ν ++ R z := by intro ν z; kernel_rfl) (hm : ∀ ν z, msk ops ((F ν).put o.dst (v z)).tmps (deps b ops i) = msk ops (F (upz ν B z)).tmps (deps b ops i) := by intro ν z; kernel_rfl) (hrun : ∀ ν w, (execOp (F ν).eval o).run Try.prog w = .ok (.enter f (args ν)) w := by intro ν w; kernel_rfl)
    (hp : plc b ops sts i t = true := by kernel_rfl) (hw : ∀ ν, Region.wanted o (yielded ops (F ν).tmps) = true := by intro ν; kernel_rfl) (hF : ∀ ν, (F ν).defers = [] := by intro ν; kernel_rfl) : Ob b Try.prog ops sts F (OI u L) i o := by
  refine .inr ⟨t, (plc_spec hp).1, (plc_spec hp).2, fun ν => ⟨hw ν, fun w hO => ?_⟩⟩
  unfold Oper.wp
  rw [hrun ν w, Oper.upon_enter]
  refine (hc ν w hO).mono fun e w' hh => ?_
  obtain ⟨z, rfl, hO'⟩ := hh
  refine ⟨upz ν B z, by rw [put_defers]; exact hF ν, hm ν z, ?_⟩
  show Own u w' (L (t + 1) (upz ν B z))
  rw [hL]
  exact own_join hO hO'
end
/-- N places of which the first k are filled. -/
def cl (z : Nat → Value) (N k : Nat) (f : Nat → Value) : Array Value := ((List.range N).map fun i => if i < k then f i else z i).toArray
theorem cl_size (z : Nat → Value) (N k : Nat) (f : Nat → Value) : (cl z N k f).size = N := by simp [cl]
theorem cl_get (z : Nat → Value) (N k : Nat) (f : Nat → Value) (i : Nat) (h : i < N) : (cl z N k f)[i]? = some (if i < k then f i else z i) := by simp [cl, h]
theorem cl_at (z : Nat → Value) (N k : Nat) (f : Nat → Value) (i : Nat) (h : i < N) (hk : i < k) : (cl z N k f)[i]? = some (f i) := by rw [cl_get _ _ _ _ _ h, if_pos hk]
theorem cl_ext {c d : Array Value} {N : Nat} (hc : c.size = N) (hd : d.size = N) (h : ∀ i, i < N → c[i]? = d[i]?) : c = d := by
  apply Array.ext_getElem?
  intro i
  by_cases hi : i < N
  · exact h i hi
  · rw [Array.getElem?_eq_none (by omega), Array.getElem?_eq_none (by omega)]
theorem cl_congr {z : Nat → Value} {N k : Nat} {f g : Nat → Value} (h : ∀ i, i < k → f i = g i) : cl z N k f = cl z N k g := cl_ext (cl_size ..) (cl_size ..) fun i hi => by
  rw [cl_get _ _ _ _ _ hi, cl_get _ _ _ _ _ hi]
  by_cases h2 : i < k
  · rw [if_pos h2, if_pos h2, h i h2]
  · rw [if_neg h2, if_neg h2]
theorem cl_one {z : Nat → Value} {N k : Nat} {f : Nat → Value} (hz : ∀ i, (z i).oneCell' = true) (hf : ∀ i, i < k → (f i).oneCell' = true) : (cl z N k f).all (·.oneCell') = true := by
  unfold cl
  simp only [List.all_toArray, List.all_map, List.all_eq_true, List.mem_range, Function.comp]
  intro i _
  by_cases hi : i < k
  · rw [if_pos hi]; exact hf i hi
  · rw [if_neg hi]; exact hz i
/-- One place changed. -/
theorem cl_set {z : Nat → Value} {N k p : Nat} {f : Nat → Value} (v : Value) (hp : p < k) : (cl z N k f).setIfInBounds p v = cl z N k (fun i => if i = p then v else f i) := cl_ext (by simp [cl_size]) (cl_size ..) fun i hi => by
  rw [Array.getElem?_setIfInBounds, cl_size, cl_get _ _ _ _ _ hi, cl_get _ _ _ _ _ hi]
  by_cases h : p = i
  · subst h; rw [if_pos rfl, if_pos hi, if_pos hp, if_pos rfl]
  · rw [if_neg h, if_neg (show ¬ i = p from fun e => h e.symm)]
theorem cl_vals (N k : Nat) (kd : IntKind) (f : Nat → Nat) : cl (fun _ => .int kd 0) N k (fun i => .int kd ((f i : Nat) : Int)) = vals kd N (fun i => if i < k then f i else 0) := cl_ext (cl_size ..) (vals_size ..) fun i hi => by
  rw [cl_get _ _ _ _ _ hi, vals_get _ _ _ _ hi]
  by_cases h : i < k
  · rw [if_pos h, if_pos h]
  · rw [if_neg h, if_neg h]; rfl
def setL (c : Array Value) : Nat → List Value → Array Value
  | _, [] => c
  | o, v :: r => setL (c.setIfInBounds o v) (o + 1) r
theorem setL_size (c : Array Value) : ∀ o vs, (setL c o vs).size = c.size
  | _, [] => rfl
  | o, v :: r => by rw [setL, setL_size]; simp
theorem setL_get : ∀ (vs : List Value) (c : Array Value) (o i : Nat), o + vs.length ≤ c.size → (setL c o vs)[i]? = if o ≤ i ∧ i < o + vs.length then vs[i - o]? else c[i]?
  | [], c, o, i, _ => by rw [setL, if_neg (by simp)]
  | v :: r, c, o, i, h => by
    simp only [List.length_cons] at h ⊢
    rw [setL, setL_get r _ (o + 1) i (by simp; omega)]
    by_cases h1 : o + 1 ≤ i ∧ i < o + 1 + r.length
    · rw [if_pos h1, if_pos (by omega), show i - o = (i - (o + 1)) + 1 by omega, List.getElem?_cons_succ]
    · rw [if_neg h1, Array.getElem?_setIfInBounds]
      by_cases h2 : o = i
      · subst h2
        rw [if_pos rfl, if_pos (by omega), if_pos (by omega), Nat.sub_self]; rfl
      · rw [if_neg h2, if_neg (by omega)]
theorem blk_setCells {b : Nat} {t : TypeId} : ∀ (vs : List Value) {w : World} {c : Array Value} (o : Nat), Blk w b c t → Blk (w.setCells b o vs) b (setL c o vs) t
  | [], _, _, _, h => h
  | v :: r, _, _, o, h => blk_setCells r (o + 1) (h.set o v)
theorem st1_cells (b : Nat) : ∀ (vs : List Value) (w : World) (o : Nat), Sto1 b w (w.setCells b o vs)
  | [], w, _ => ⟨fun _ _ _ _ h => h, fun _ _ _ h => h⟩
  | v :: r, w, o => by
    have h1 := st1_cell w b o v
    have h2 := st1_cells b r (w.setCell ⟨b, o, none⟩ v) (o + 1)
    exact ⟨fun b' c t hn hB => h2.keep b' c t hn (h1.keep b' c t hn hB), fun B w0 hb hL => h2.low B w0 hb (h1.low B w0 hb hL)⟩
theorem own_swap {u w : World} {L : List Row} {j : Nat} {r r' : Row} (h : Own u w (L ++ [r'])) (hj : L[j]? = some r) : Own u w (L.set j r') := by
  have h1 := (h.perm (List.perm_append_comm (l₁ := L) (l₂ := [r']))).perm ((perm_at hj).cons r')
  have h2 : Own u w (r' :: L.eraseIdx j) := h1.sub (List.Sublist.cons_cons r' (List.sublist_cons_self r _))
  exact h2.perm (perm_set hj)
/-- A slice's element: s cells, with its zero. -/
structure El (t e : TypeId) (s : Nat) (zv : Value) : Prop where
  und : Try.prog.underlying t = some (.slice e)
  info : ((Try.prog.info? e).map fun i => (decide (i.size = s), decide (i.bytes ≤ 1024))) = some (true, true)
  zero : ((Try.prog.info? e).bind (·.zero)) = some zv
  cells : zv.cells.size = s
  pos : 0 < s
  any : anyLen e = true
  one : zv.cells.all (·.oneCell') = true
/-- Its zero, cell by cell. -/
def zc (s : Nat) (zv : Value) (i : Nat) : Value := zv.cells.getD (i % s) undef
theorem El.zone {t e : TypeId} {s : Nat} {zv : Value} (h : El t e s zv) (i : Nat) : (zc s zv i).oneCell' = true := by
  have hi : i % s < zv.cells.size := by rw [h.cells]; exact Nat.mod_lt _ h.pos
  unfold zc
  rw [Array.getD_eq_getD_getElem?, Array.getElem?_eq_getElem hi, Option.getD_some]
  exact Array.all_eq_true.1 h.one _ hi
theorem El.fit {t e : TypeId} {s : Nat} {zv : Value} (h : El t e s zv) {N k : Nat} {f : Nat → Value} (hf : ∀ i, i < k → (f i).oneCell' = true) : Fit e (cl (zc s zv) N k f) := ⟨fun h' => absurd (h.any.symm.trans h') (by decide), cl_one h.zone hf⟩
theorem El.zsize {t e : TypeId} {s : Nat} {zv : Value} (h : El t e s zv) (n : Nat) : (Builtin.zeroCells zv.cells n).size = n * s := by rw [size_zeroCells, h.cells]
theorem El.zget {t e : TypeId} {s : Nat} {zv : Value} (h : El t e s zv) (n j : Nat) (hj : j < n * s) : (Builtin.zeroCells zv.cells n)[j]? = some (zc s zv j) := by
  have hi : j % s < zv.cells.size := by rw [h.cells]; exact Nat.mod_lt _ h.pos
  unfold zc
  simp only [Builtin.zeroCells, h.cells]
  rw [Array.getD_eq_getD_getElem?, Array.getElem?_eq_getElem hi, Option.getD_some]
  have e := getElem!_pos zv.cells (j % s) hi
  simp [hj, e]
theorem grown_cl {t e : TypeId} {s : Nat} {zv : Value} (h : El t e s zv) (f : Nat → Value) (cap n m : Nat) (hc : n + m ≤ cap) : (((List.range (n * s)).map f) ++ (List.range (m * s)).map fun i => f (n * s + i)).toArray ++ Builtin.zeroCells zv.cells (cap - (n + m)) = cl (zc s zv) (cap * s) ((n + m) * s) f := by
  have hl : (((List.range (n * s)).map f) ++ (List.range (m * s)).map fun i => f (n * s + i)).toArray.size = (n + m) * s := by simp [Nat.add_mul]
  have h9 : (cap - (n + m)) * s = cap * s - (n + m) * s := Nat.sub_mul ..
  have h8 : (n + m) * s ≤ cap * s := Nat.mul_le_mul_right _ hc
  have h7 := Nat.add_mul n m s
  refine cl_ext (by rw [Array.size_append, hl, h.zsize]; omega) (cl_size ..) fun i hi => ?_
  rw [cl_get _ _ _ _ _ hi]
  by_cases h3 : i < (n + m) * s
  · rw [Array.getElem?_append_left (by rw [hl]; exact h3), List.getElem?_toArray, if_pos h3]
    by_cases h4 : i < n * s
    · rw [List.getElem?_append_left (by simpa using h4)]; simp [h4]
    · rw [List.getElem?_append_right (by simp; omega)]
      have h5 : i - n * s < m * s := by omega
      simp [h5, show n * s + (i - n * s) = i by omega]
  · rw [Array.getElem?_append_right (by rw [hl]; omega), hl, h.zget _ _ (by omega), if_neg h3]
    unfold zc
    congr 2
    rw [Nat.mul_comm, Nat.sub_mul_mod (by rw [Nat.mul_comm]; omega)]
theorem room_cl {z : Nat → Value} (f : Nat → Value) (cap n m : Nat) (hc : n + m ≤ cap) : setL (cl z cap n f) n ((List.range m).map fun i => f (n + i)) = cl z cap (n + m) f := cl_ext (by rw [setL_size, cl_size]) (cl_size ..) fun i hi => by
  rw [setL_get _ _ _ _ (by rw [cl_size]; simpa using hc), cl_get _ _ _ _ _ hi, cl_get _ _ _ _ _ hi]
  simp only [List.length_map, List.length_range]
  by_cases h1 : n ≤ i ∧ i < n + m
  · have h2 : i - n < m := by omega
    rw [if_pos h1, if_pos h1.2]; simp [h2, show n + (i - n) = i by omega]
  · rw [if_neg h1]
    by_cases h3 : i < n
    · rw [if_pos h3, if_pos (by omega)]
    · rw [if_neg h3, if_neg (by omega)]
/-- n elements of s cells in a row of one's own, the last one, with room for more; f tells the cells. -/
def Rw (u w : World) (L : List Row) (e : TypeId) (s : Nat) (zv : Value) (n : Nat) (f : Nat → Value) (v : Value) : Prop := ∃ g d, v = .slice (some ⟨g, 0, none⟩) n (n + d) ∧ Own u w (L ++ [(g, cl (zc s zv) ((n + d) * s) (n * s) f, e)])
/-- The same, or none at all. -/
def Gr (u w : World) (L : List Row) (e : TypeId) (s : Nat) (zv : Value) (n : Nat) (f : Nat → Value) (v : Value) : Prop := (n = 0 ∧ v = .slice none 0 0 ∧ Own u w L) ∨ Rw u w L e s zv n f v
section
variable {u w : World} {L : List Row} {t e : TypeId} {zv : Value} {s n m : Nat} {f : Nat → Value} {v x : Value}
theorem Rw.call {w' : World} (h : Rw u w L e s zv n f v) (hb : Below w.heap.size w w') : Rw u w' L e s zv n f v := by
  obtain ⟨g, d, hv, hO⟩ := h; exact ⟨g, d, hv, hO.call hb⟩
theorem Gr.call {w' : World} (h : Gr u w L e s zv n f v) (hb : Below w.heap.size w w') : Gr u w' L e s zv n f v := by
  rcases h with ⟨h0, hv, hO⟩ | h
  · exact .inl ⟨h0, hv, hO.call hb⟩
  · exact .inr (h.call hb)
theorem Rw.congr {g : Nat → Value} (h : Rw u w L e s zv n f v) (he : ∀ i, i < n * s → f i = g i) : Rw u w L e s zv n g v := by
  obtain ⟨q, d, hv, hO⟩ := h; exact ⟨q, d, hv, by rw [← cl_congr he]; exact hO⟩
theorem Gr.congr {g : Nat → Value} (h : Gr u w L e s zv n f v) (he : ∀ i, i < n * s → f i = g i) : Gr u w L e s zv n g v := h.imp id fun h => h.congr he
theorem Gr.low (h : Gr u w L e s zv n f v) : Below u.heap.size u w := by
  rcases h with ⟨_, _, hO⟩ | ⟨_, _, _, hO⟩ <;> exact hO.low
/-- m more elements. -/
theorem gr_app (hE : El t e s zv) (h : Gr u w L e s zv n f v) (h0 : 0 < m ∨ v ≠ .slice none 0 0) (hf : ∀ i, i < (n + m) * s → (f i).oneCell' = true) (hs : Src Try.prog s t x m ((List.range (m * s)).map fun i => f (n * s + i)) w) (hb : n + m ≤ 2 ^ 30) :
    ∃ g d w', (∀ ty, (Builtin.append_ #[t, t] ty #[v, x]).run Try.prog w = .ok (.slice (some ⟨g, 0, none⟩) (n + m) (n + m + d)) w') ∧ Own u w' (L ++ [(g, cl (zc s zv) ((n + m + d) * s) ((n + m) * s) f, e)]) := by
  have hi' := hE.info
  have hz' := hE.zero
  cases hi : Try.prog.info? e with
  | none => rw [hi] at hi'; cases hi'
  | some i =>
    rw [hi] at hi' hz'
    simp at hi'
    have hz2 : i.zero = some zv := hz'
    rcases h with ⟨rfl, rfl, hO⟩ | ⟨g, d, rfl, hO⟩
    · have hm : 0 < m := h0.elim id (fun hh => absurd rfl hh)
      have hold : (Builtin.firstCells i.size 0 (.slice none 0 0)).run Try.prog w.drew = .ok ([] : List Value).toArray w.drew := run_firstCells_none w.drew i.size 0 0 0
      have hr := fun ty => run_append_grow_src (P := Try.prog) w t t ty e i zv hE.und hi hz2 none 0 0 _ hold x m _ (by rw [hi'.1]; exact hs) (by omega) (by omega) (growslice_fits (by omega) (by have := Nat.mul_le_mul (show 0 + m ≤ 2 ^ 30 by omega) hi'.2; omega))
      have hge := grownCap_ge w (0 + m) 0 e
      have hg := grown_cl hE f (grownCap w (0 + m) 0 e) 0 m hge
      simp only [Nat.zero_mul, List.range_zero, List.map_nil] at hg hr
      refine ⟨_, grownCap w (0 + m) 0 e - (0 + m), _, fun ty => by rw [Nat.add_sub_cancel' hge]; exact hr ty, ?_⟩
      rw [Nat.add_sub_cancel' hge]
      exact Own.snoc hO.drew (Nat.le_refl _) ((Blk.new w.drew _ e).cast hg) ((Below.refl _ w.drew).alloc (Nat.le_refl _) _) (hE.fit hf)
    · have hB := hO.row L.length (at_end L _)
      by_cases hroom : n + m ≤ n + d
      · have h8 : n * s + m * s ≤ (n + d) * s := by rw [← Nat.add_mul]; exact Nat.mul_le_mul_right _ hroom
        have hr := fun ty => run_append_room_src (P := Try.prog) w t t ty e i hE.und hi g 0 n (n + d) x m _ (by rw [hi'.1]; exact hs) hroom (fun k hk => by
          rw [hi'.1, hB.cell, cl_get _ _ _ _ _ (by simp at hk; omega)]; rfl) (fun k hk => hB.frozen _)
        rw [hi'.1, Nat.zero_add] at hr
        refine ⟨g, n + d - (n + m), _, fun ty => by rw [Nat.add_sub_cancel' hroom]; exact hr ty, ?_⟩
        rw [Nat.add_sub_cancel' hroom]
        have hp := hO.put L.length (at_end L _) ((blk_setCells _ (n * s) hB).cast (room_cl f ((n + d) * s) (n * s) (m * s) h8)) (st1_cells g _ w (n * s)) (hE.fit fun j hj => hf j (by rw [Nat.add_mul]; exact hj))
        rw [set_end, ← Nat.add_mul] at hp
        exact hp
      · have hold : (Builtin.firstCells i.size n (.slice (some ⟨g, 0, none⟩) n (n + d))).run Try.prog w.drew = .ok ((List.range (n * s)).map f).toArray w.drew :=
          run_firstCells_some w.drew i.size n ⟨g, 0, none⟩ n (n + d) _ (by rw [hi'.1]; simp) (fun k y hy => by
            rw [Addr.add_mid, Nat.zero_add, hB.drew.cell]
            have hk : k < n * s := by simpa using (List.getElem?_eq_some_iff.1 hy).1
            rw [cl_get _ _ _ _ _ (by rw [Nat.add_mul]; omega), if_pos hk]
            simp [hk] at hy
            rw [← hy])
        have hr := fun ty => run_append_grow_src (P := Try.prog) w t t ty e i zv hE.und hi hz2 (some ⟨g, 0, none⟩) n (n + d) _ hold x m _ (by rw [hi'.1]; exact hs) (by omega) (by omega) (growslice_fits (by omega) (by have := Nat.mul_le_mul (show n + m ≤ 2 ^ 30 by omega) hi'.2; omega))
        have hge := grownCap_ge w (n + m) (n + d) e
        refine ⟨_, grownCap w (n + m) (n + d) e - (n + m), _, fun ty => by rw [Nat.add_sub_cancel' hge]; exact hr ty, ?_⟩
        rw [Nat.add_sub_cancel' hge]
        have hs2 := own_swap (j := L.length) (Own.snoc hO.drew (Nat.le_refl _) ((Blk.new w.drew _ e).cast (grown_cl hE f _ n m hge)) ((Below.refl _ w.drew).alloc (Nat.le_refl _) _) (hE.fit hf)) (at_end L _)
        rw [set_end] at hs2
        exact hs2
end
/-- A slice whose first k cells are told by f. -/
def Rc (w : World) (A : Option Addr) (k : Nat) (f : Nat → Value) : Prop := k = 0 ∨ ∃ a, A = some a ∧ a.block < w.heap.size ∧ ∀ i, i < k → w.cell? (a.add i) = some (f i)
theorem add_block (a : Addr) (i : Nat) : (a.add i).block = a.block := by unfold Addr.add; split <;> rfl
theorem add_add (a : Addr) (i j : Nat) : (a.add i).add j = a.add (i + j) := by
  unfold Addr.add
  by_cases hi : i = 0
  · subst hi; simp
  · by_cases hj : j = 0
    · subst hj; simp [hi]
    · simp [hi, hj, Nat.add_assoc]
section
variable {w : World} {A : Option Addr} {k : Nat} {f : Nat → Value}
theorem Rc.low {w' : World} (h : Rc w A k f) (hb : Below w.heap.size w w') : Rc w' A k f := by
  rcases h with h | ⟨a, ha, hlt, hc⟩
  · exact .inl h
  · refine .inr ⟨a, ha, Nat.lt_of_lt_of_le hlt hb.size, fun i hi => ?_⟩
    rw [hb.cell (p := a.add i) (by rw [add_block]; exact hlt)]
    exact hc i hi
theorem Rc.take (h : Rc w A k f) (m : Nat) (hm : m ≤ k) : Rc w A m f := by
  rcases h with rfl | ⟨a, ha, hb, hc⟩
  · exact .inl (by omega)
  · exact .inr ⟨a, ha, hb, fun i hi => hc i (by omega)⟩
theorem Rc.congr {g : Nat → Value} (h : Rc w A k f) (e : ∀ i, i < k → f i = g i) : Rc w A k g := by
  rcases h with h | ⟨a, ha, hb, hc⟩
  · exact .inl h
  · exact .inr ⟨a, ha, hb, fun i hi => by rw [← e i hi]; exact hc i hi⟩
/-- What is left of a slice behind m cells. -/
def cutC (A : Option Addr) (m : Nat) : Option Addr := A.map (·.add m)
theorem Rc.cut (h : Rc w A k f) (m : Nat) : Rc w (cutC A m) (k - m) (fun j => f (m + j)) := by
  rcases h with rfl | ⟨a, rfl, hb, hc⟩
  · exact .inl (Nat.zero_sub m)
  · by_cases hm : k ≤ m
    · exact .inl (by omega)
    · exact .inr ⟨a.add m, rfl, by rw [add_block]; exact hb, fun i hi => by rw [add_add]; exact hc _ (by omega)⟩
theorem Rc.cell (h : Rc w A k f) {i : Nat} (hi : i < k) : ∃ a, A = some a ∧ ∀ w' : World, Below w.heap.size w w' → w'.cell? (a.add i) = some (f i) := by
  rcases h with rfl | ⟨a, ha, hlt, hc⟩
  · omega
  · refine ⟨a, ha, fun w' hb => ?_⟩
    rw [hb.cell (p := a.add i) (by rw [add_block]; exact hlt)]
    exact hc i hi
theorem rc_row {q o m : Nat} {c : Array Value} {t : TypeId} (h : Blk w q c t) (e : ∀ i, i < m → c[o + i]? = some (f i)) : Rc w (some ⟨q, o, none⟩) m f :=
  .inr ⟨⟨q, o, none⟩, rfl, h.lt, fun i hi => by rw [Addr.add_mid, h.cell]; exact e i hi⟩
theorem rc_cl {q N n : Nat} {z : Nat → Value} {t : TypeId} (h : Blk w q (cl z N n f) t) (hn : n ≤ N) : Rc w (some ⟨q, 0, none⟩) n f :=
  rc_row h fun i hi => by rw [Nat.zero_add]; exact cl_at _ _ _ _ _ (by omega) hi
theorem src_rc {t e : TypeId} {s n : Nat} {zv : Value} (hE : El t e s zv) (c : Nat) (h : Rc w A (n * s) f) (h1 : ∀ i, i < n * s → (f i).oneCell' = true) : Src Try.prog s t (.slice A n c) n ((List.range (n * s)).map f) w := by
  have hl : ((List.range (n * s)).map f).length = n * s := by simp
  have ho : ∀ v ∈ (List.range (n * s)).map f, v.oneCell' = true := fun v hv => by
    obtain ⟨i, hi, rfl⟩ := List.mem_map.1 hv
    exact h1 i (List.mem_range.1 hi)
  rcases h with h | ⟨a, rfl, _, hc⟩
  · have hn : n = 0 := by
      rcases Nat.mul_eq_zero.1 h with h | h
      · exact h
      · exact absurd hE.pos (by omega)
    subst hn
    cases A with
    | none => rw [show (List.range (0 * s)).map f = [] by simp]; exact Src.ofNil w hE.und c
    | some a => exact Src.ofSlice w hE.und a 0 c _ hl (fun j u hu => by simp at hu) ho
  · refine Src.ofSlice w hE.und a n c _ hl (fun j u hu => ?_) ho
    have hj := (List.getElem?_eq_some_iff.1 hu).1
    rw [hl] at hj
    rw [List.getElem?_map, List.getElem?_range hj] at hu
    rw [hc j hj]; exact hu
end
section
variable {o o2 : Oper} {a : Act} {u w : World} {L : List Row} {Q : Exit → Act → World → Prop} {ops : Array Oper} {rest : List Oper}
/-- append of what is read. -/
theorem g_app {t e : TypeId} {s n m N c : Nat} {zv : Value} {f h' g : Nat → Value} {A : Option Addr} (v : Value) (hE : El t e s zv) (hG : Gr u w L e s zv n f v) (h0 : 0 < m ∨ v ≠ .slice none 0 0) (hN : n + m = N) (hb : N ≤ 2 ^ 30) (hS : Rc w A (m * s) h') (hone : ∀ i, i < N * s → (g i).oneCell' = true) (e1 : ∀ i, i < n * s → f i = g i) (e2 : ∀ i, i < m * s → h' i = g (n * s + i)) (h : ∀ q d w', Own u w' (L ++ [(q, cl (zc s zv) ((N + d) * s) (N * s) g, e)]) → WL ops Q rest (a.put o.dst (.slice (some ⟨q, 0, none⟩) N (N + d))) w') {x y : Operand}
    (ho : o.op = .call { callee := .builtin .append, args := #[x, y], argTypes := #[t, t] } := by rfl) (hx : a.eval x = v := by kernel_rfl) (hy : a.eval y = .slice A m c := by kernel_rfl) (hg : Region.wanted o (yielded ops a.tmps) = true := by kernel_rfl) : WL ops Q (o :: rest) a w := by
  subst hN
  have e3 : (List.range (m * s)).map h' = (List.range (m * s)).map fun i => g (n * s + i) := List.map_congr_left fun i hi => e2 i (List.mem_range.1 hi)
  have hs := src_rc hE c hS (fun i hi => by rw [e2 i hi]; exact hone _ (by rw [Nat.add_mul]; omega))
  rw [e3] at hs
  obtain ⟨q, d, w', hr, hO'⟩ := gr_app hE (hG.congr e1) h0 hone hs hb
  refine g_run (.slice (some ⟨q, 0, none⟩) (n + m) (n + m + d)) w' ?_ (h q d w' hO') hg
  simp [execOp, ho, resolve, invoke, builtin, hx, hy, hr, Result.andThen]
/-- One element appended: it is built in a row of its own first. -/
theorem g_ap1 {t e : TypeId} {s n N x0 : Nat} {zv : Value} {f g : Nat → Value} (v : Value) (hE : El t e s zv) (c0 : Array Value) (hG : Gr u w L e s zv n f v) (hN : n + 1 = N) (hb : N ≤ 2 ^ 30) (hone : ∀ i, i < N * s → (g i).oneCell' = true) (e1 : ∀ i, i < n * s → f i = g i) (e2 : ∀ i, i < s → c0[i]? = some (g (n * s + i))) (hrun : (execOp a.eval o).run Try.prog w = .ok (.value (.slice (some ⟨w.heap.size, 0, none⟩) 1 1)) (w.alloc (.cells c0 e))) (h : ∀ q r d w', Own u w' (L ++ [(q, cl (zc s zv) ((N + d) * s) (N * s) g, e)]) → WL ops Q rest ((a.put (some x0) (.slice (some ⟨r, 0, none⟩) 1 1)).put o2.dst (.slice (some ⟨q, 0, none⟩) N (N + d))) w') {x : Operand}
    (hd : o.dst = some x0 := by rfl) (ho2 : o2.op = .call { callee := .builtin .append, args := #[x, .tmp x0], argTypes := #[t, t] } := by rfl) (hx : ∀ r, (a.put (some x0) (.slice (some ⟨r, 0, none⟩) 1 1)).eval x = v := by intro r; kernel_rfl) (hy : ∀ r, (a.put (some x0) (.slice (some ⟨r, 0, none⟩) 1 1)).eval (.tmp x0) = .slice (some ⟨r, 0, none⟩) 1 1 := by intro r; kernel_rfl)
    (hg : Region.wanted o (yielded ops a.tmps) = true := by kernel_rfl) (hg2 : ∀ r, Region.wanted o2 (yielded ops (a.put (some x0) (.slice (some ⟨r, 0, none⟩) 1 1)).tmps) = true := by intro r; kernel_rfl) : WL ops Q (o :: o2 :: rest) a w := by
  have hbl : Below w.heap.size w (w.alloc (.cells c0 e)) := (Below.refl _ w).alloc (Nat.le_refl _) _
  have hS : Rc (w.alloc (.cells c0 e)) (some ⟨w.heap.size, 0, none⟩) (1 * s) (fun i => g (n * s + i)) := rc_row (Blk.new w c0 e) fun i hi => by rw [Nat.zero_add]; exact e2 i (by omega)
  refine g_run _ _ hrun ?_ hg
  rw [hd]
  exact g_app (m := 1) (c := 1) v hE (hG.call hbl) (.inl (by decide)) hN hb hS hone e1 (fun _ _ => rfl) (fun q d w' hO => h q w.heap.size d w' hO) ho2 (hx _) (hy _) (hg2 _)
end
/-- The bytes of a function, as a string. -/
def sk (n : Nat) (f : Nat → Nat) : ByteArray := ⟨((List.range n).map fun i => UInt8.ofNat (f i)).toArray⟩
theorem sk_congr {n : Nat} {f g : Nat → Nat} (h : ∀ i, i < n → f i = g i) : sk n f = sk n g := by
  unfold sk
  rw [List.map_congr_left fun i hi => by rw [h i (List.mem_range.1 hi)]]
def by8 (f : Nat → Nat) (i : Nat) : Value := .int .u8 ((f i : Nat) : Int)
theorem run_str (w : World) (A : Option Addr) (n c : Nat) (f : Nat → Nat) (hA : Rc w A n (by8 f)) (hf : ∀ i, f i < 256) : (convert 44 9 (.slice A n c)).run Try.prog w = .ok (.string (sk n f)) w := by
  have h9 : Try.prog.underlying 9 = some .string := by kernel_rfl
  have hl : ((List.range n).map fun i => UInt8.ofNat (f i)).length = n := by simp
  cases A with
  | none =>
    rcases hA with rfl | ⟨a, ha, _⟩
    · rw [run_convert_bytes_nil w 44 5 Try.underlying44 Try.underlying5 _ _ 9 h9]; rfl
    · cases ha
  | some a =>
    have hc : ∀ j (hj : j < ((List.range n).map fun i => UInt8.ofNat (f i)).length), w.cell? (a.add j) = some (.int .u8 (((List.range n).map fun i => UInt8.ofNat (f i))[j].toNat : Int)) := by
      intro j hj
      rw [hl] at hj
      rcases hA with rfl | ⟨a', ha, _, hc⟩
      · exact absurd hj (Nat.not_lt_zero j)
      · obtain rfl := Option.some.inj ha
        rw [hc j hj, List.getElem_map, List.getElem_range]
        have := hf j
        rw [UInt8.toNat_ofNat', Nat.mod_eq_of_lt this]; rfl
    have := run_convert_bytes_back (P := Try.prog) w 44 9 5 a c ((List.range n).map fun i => UInt8.ofNat (f i)) Try.underlying44 Try.underlying5 h9 hc
    rw [hl] at this
    exact this
theorem sk_iff {n : Nat} {f g : Nat → Nat} (hf : ∀ i, f i < 256) (hg : ∀ i, g i < 256) : sk n f = sk n g ↔ ∀ i, i < n → f i = g i := by
  constructor
  · intro e i hi
    have h1 := congrArg (fun b : ByteArray => b.data.toList[i]?) e
    simp [sk, hi] at h1
    have h2 := congrArg UInt8.toNat h1
    rw [UInt8.toNat_ofNat', UInt8.toNat_ofNat', Nat.mod_eq_of_lt (hf i), Nat.mod_eq_of_lt (hg i)] at h2
    exact h2
  · exact sk_congr
section
variable {ρ : Operand → Value} {o : Oper} {x y : Operand}
theorem b_str {A : Option Addr} {n c : Nat} {f : Nat → Nat} (w : World) (hA : Rc w A n (by8 f)) (hf : ∀ i, f i < 256) (ho : o.op = .convert 44 9 x := by rfl) (hx : ρ x = .slice A n c := by kernel_rfl) : (execOp ρ o).run Try.prog w = .ok (.value (.string (sk n f))) w := by
  unfold execOp
  simp only [ho, hx, Sem.run_bind, run_str w A n c f hA hf, Result.andThen_ok, Sem.run_pure]
theorem b_seq {s t : ByteArray} {b : Bool} (h : decide (s = t) = b) (w : World) (ho : o.op = .binOp .eql 9 x y 9 := by rfl) (hx : ρ x = .string s := by kernel_rfl) (hy : ρ y = .string t := by kernel_rfl) : (execOp ρ o).run Try.prog w = .ok (.value (.bool b)) w := by
  have e : (s.toList == t.toList) = b := by
    rw [← h]
    by_cases hst : s = t
    · subst hst; simp
    · rw [decide_eq_false hst, beq_eq_false_iff_ne]
      intro e
      rw [ByteArray.toList_eq, ByteArray.toList_eq] at e
      exact hst (ByteArray.ext (Array.toList_inj.1 e))
  clear h
  unfold execOp
  simp only [ho, hx, hy]
  go_simp
theorem b_sne {s t : ByteArray} {b : Bool} (h : decide (s = t) = b) (w : World) (ho : o.op = .binOp .neq 9 x y 9 := by rfl) (hx : ρ x = .string s := by kernel_rfl) (hy : ρ y = .string t := by kernel_rfl) : (execOp ρ o).run Try.prog w = .ok (.value (.bool (!b))) w := by
  have e : (s.toList == t.toList) = b := by
    rw [← h]
    by_cases hst : s = t
    · subst hst; simp
    · rw [decide_eq_false hst, beq_eq_false_iff_ne]
      intro e
      rw [ByteArray.toList_eq, ByteArray.toList_eq] at e
      exact hst (ByteArray.ext (Array.toList_inj.1 e))
  clear h
  unfold execOp
  simp only [ho, hx, hy]
  go_simp
theorem b_bb {b c : Bool} (w : World) (ho : o.op = .binOp .eql 4 x y 4 := by rfl) (hx : ρ x = .bool b := by kernel_rfl) (hy : ρ y = .bool c := by kernel_rfl) : (execOp ρ o).run Try.prog w = .ok (.value (.bool (b == c))) w := by
  unfold execOp
  simp only [ho, hx, hy]
  cases b <;> cases c <;> kernel_rfl
/-- An element of a slice: s cells each. -/
theorem b_ix {ty e : TypeId} {a : Addr} {k n c s : Nat} (hk : k < n) (hu : Try.prog.underlying ty = some (.slice e)) (hc : ∀ w, (sizeOf e).run Try.prog w = .ok s w) (w : World) (ho : o.op = .indexAddr ty x y := by rfl) (hx : ρ x = .slice (some a) n c := by kernel_rfl) (hy : ρ y = Nv .i64 k := by kernel_rfl) : (execOp ρ o).run Try.prog w = .ok (.value (.pointer (some (a.add (k * s))))) w := by
  have h1 : (0 : Int) ≤ (k : Int) := by omega
  have h2 : (k : Int) < (n : Int) := by omega
  unfold execOp
  simp only [ho, hx, hy]
  go_simp
end
section
variable {b : Bool} {ops : Array Oper} {sts : List Nat} {F : Nu → Act} {u : World} {L : Nat → Nu → List Row} {i : Nat} {o : Oper}
/-- In a region over one frame: what was read when it began, told as a string. -/
theorem nsf {A : Option Addr} {n c : Nat} {f : Nat → Nat} {x : Operand} (hS : Rc u A n (by8 f)) (hf : ∀ i, f i < 256) (ho : o.op = .convert 44 9 x := by rfl) (hx : ∀ ν, (F ν).eval x = .slice A n c := by intro ν; kernel_rfl)
    (hv : ∀ ν, vof (F ν) o = .string (sk n f) := by intro ν; kernel_rfl) (hw : ∀ ν, Region.wanted o (yielded ops (F ν).tmps) = true := by intro ν; kernel_rfl) (hn : sts.contains i = false := by kernel_rfl) : Ob b Try.prog ops sts F (OI u L) i o :=
  nw 0 sts.length (fun _ => .string (sk n f)) (fun _ ν w _ _ hO => b_str w (hS.low (Own.low hO)) hf ho (hx ν)) (by simp [win]) hv hw hn
end
end B
end Go.Proofs.Ytkljpidlfddgbaa

/- Rows that a function has laid (Own), and what each operation of a region tells of them (n.. leaves the world, s.. changes it). No conditions but those that each names. -/
import Derived.Test.YtkljpidlfddgbaaRg
import Derived.Test.YtkljpidlfddgbaaProg
import Derived.Deep.MidRow
import Derived.Deep.DeepCutAuto
namespace Go.Proofs.Ytkljpidlfddgbaa
open Go.RowKit

abbrev Ret (f : FuncId) (args : Array Value) (w : World) (v : Value) : Prop := Calls Try.prog f args w fun e w' => e = .returned v ∧ Below w.heap.size w w'
abbrev U : Value := undef
abbrev A (c : Array Value) : Value := .agg c
abbrev D (n : Nat) : Value := .pointer (some ⟨n, 0, none⟩)
abbrev E (n i : Nat) : Value := .pointer (some ⟨n, i, none⟩)
abbrev Fr (l : List Value) : Act := { tmps := List.toArray l, defers := [] }
abbrev Nv (k : IntKind) (n : Nat) : Value := .int k ((n : Nat) : Int)
abbrev Row := Nat × Array Value × TypeId
/-- A row of these may have any length: bytes, slices of bytes. -/
def anyLen (t : TypeId) : Bool := t == 5 || t == 44 || t == 4 || t == 82 || t == 24 || t == 3 || t == 79 || t == 66 || t == 76
/-- As many cells as the type has (of a row of bytes, or of slices, any number), each one cell. -/
structure Fit (t : TypeId) (c : Array Value) : Prop where
  size : anyLen t = false → (Try.prog.info? t).map (·.size) = some c.size
  one : c.all (·.oneCell') = true
/-- The rows L are a function's own: laid since the world u; what lay there before is as it was. -/
structure Own (u w : World) (L : List Row) : Prop where
  low : Below u.heap.size u w
  blk : ∀ r ∈ L, Blk w r.1 r.2.1 r.2.2
  new : ∀ r ∈ L, u.heap.size ≤ r.1
  fit : ∀ r ∈ L, Fit r.2.2 r.2.1
  dist : (L.map (·.1)).Nodup
theorem Own.start (w : World) : Own w w [] := ⟨Below.refl _ w, (fun _ h => nomatch h), (fun _ h => nomatch h), (fun _ h => nomatch h), List.nodup_nil⟩
theorem Own.row {u w : World} {L : List Row} (h : Own u w L) (i : Nat) {b : Nat} {c : Array Value} {t : TypeId} (hi : L[i]? = some (b, c, t)) : Blk w b c t := h.blk _ (List.mem_of_getElem? hi)
theorem Own.fits {u w : World} {L : List Row} (h : Own u w L) (i : Nat) {b : Nat} {c : Array Value} {t : TypeId} (hi : L[i]? = some (b, c, t)) : Fit t c := h.fit _ (List.mem_of_getElem? hi)
theorem Own.call {u w w' : World} {L : List Row} (h : Own u w L) (hb : Below w.heap.size w w') : Own u w' L :=
  ⟨h.low.trans (hb.mono h.low.size), fun r hr => (h.blk r hr).call hb, h.new, h.fit, h.dist⟩
theorem Own.drew {u w : World} {L : List Row} (h : Own u w L) : Own u w.drew L := ⟨h.low.drew, fun r hr => (h.blk r hr).drew, h.new, h.fit, h.dist⟩
theorem Own.perm {u w : World} {L L' : List Row} (h : Own u w L) (p : L.Perm L') : Own u w L' :=
  ⟨h.low, fun r hr => h.blk r (p.mem_iff.2 hr), fun r hr => h.new r (p.mem_iff.2 hr), fun r hr => h.fit r (p.mem_iff.2 hr), (p.map _).nodup_iff.1 h.dist⟩
theorem Own.cons {u w w' : World} {L : List Row} (h : Own u w L) {n : Nat} {c : Array Value} {t : TypeId} (hn : w.heap.size ≤ n) (hB : Blk w' n c t) (hb : Below w.heap.size w w') (hf : Fit t c) : Own u w' ((n, c, t) :: L) := by
  have h' := h.call hb
  refine ⟨h'.low, ?_, ?_, ?_, ?_⟩
  · intro r hr
    rcases List.mem_cons.1 hr with rfl | hr
    · exact hB
    · exact h'.blk r hr
  · intro r hr
    rcases List.mem_cons.1 hr with rfl | hr
    · exact Nat.le_trans h.low.size hn
    · exact h'.new r hr
  · intro r hr
    rcases List.mem_cons.1 hr with rfl | hr
    · exact hf
    · exact h'.fit r hr
  · rw [List.map_cons, List.nodup_cons]
    refine ⟨fun hm => ?_, h.dist⟩
    obtain ⟨r, hr, e⟩ := List.mem_map.1 hm
    have hl := (h.blk r hr).lt
    rw [e] at hl
    exact Nat.not_lt.2 hn hl
/-- What a store changes: one row. -/
structure Sto1 (b : Nat) (w w' : World) : Prop where
  keep : ∀ b' c t, b' ≠ b → Blk w b' c t → Blk w' b' c t
  low : ∀ B w0, B ≤ b → Below B w0 w → Below B w0 w'
theorem Own.put {u w w' : World} {L : List Row} (h : Own u w L) (i : Nat) {b : Nat} {c : Array Value} {t : TypeId} (hi : L[i]? = some (b, c, t)) {e : Array Value} (hB : Blk w' b e t) (hk : Sto1 b w w') (hf : Fit t e) : Own u w' (L.set i (b, e, t)) := by
  have hm := List.mem_of_getElem? hi
  have hmap : (L.set i (b, e, t)).map (·.1) = L.map (·.1) := by
    rw [List.map_set]
    apply List.ext_getElem?
    intro j
    rw [List.getElem?_set]
    by_cases hj : i = j
    · subst hj
      have hl : i < L.length := (List.getElem?_eq_some_iff.1 hi).1
      have he : L[i] = (b, c, t) := (List.getElem?_eq_some_iff.1 hi).2
      simp [hl, he]
    · simp [hj]
  have hr : ∀ r ∈ L.set i (b, e, t), r = (b, e, t) ∨ (r ∈ L ∧ r.1 ≠ b) := by
    intro r hr
    obtain ⟨j, hj⟩ := List.getElem?_of_mem hr
    rw [List.getElem?_set] at hj
    by_cases hij : i = j
    · subst hij
      have hl : i < L.length := (List.getElem?_eq_some_iff.1 hi).1
      simp [hl] at hj
      exact Or.inl hj.symm
    · rw [if_neg hij] at hj
      refine Or.inr ⟨List.mem_of_getElem? hj, fun e1 => hij ?_⟩
      refine (List.getElem?_inj (l := L.map (·.1)) ?_ h.dist).1 ?_
      · rw [List.length_map]; exact (List.getElem?_eq_some_iff.1 hi).1
      · rw [List.getElem?_map, List.getElem?_map, hi, hj]; simp [e1]
  refine ⟨hk.low _ _ (h.new _ hm) h.low, ?_, ?_, ?_, ?_⟩
  · intro r h1
    rcases hr r h1 with rfl | ⟨h2, h3⟩
    · exact hB
    · exact hk.keep _ _ _ h3 (h.blk r h2)
  · intro r h1
    rcases hr r h1 with rfl | ⟨h2, h3⟩
    · exact h.new (b, c, t) hm
    · exact h.new r h2
  · intro r h1
    rcases hr r h1 with rfl | ⟨h2, h3⟩
    · exact hf
    · exact h.fit r h2
  · rw [hmap]; exact h.dist
theorem st1_row (w : World) (b : Nat) (e : Array Value) : Sto1 b w (w.setRow b e) := ⟨fun _ _ _ hn hB => hB.rowOther e (fun h => hn h.symm), fun _ _ hb hL => Below.row hL hb e⟩
theorem st1_cell (w : World) (b i : Nat) (v : Value) : Sto1 b w (w.setCell ⟨b, i, none⟩ v) := ⟨fun _ _ _ hn hB => hB.setOther i v (fun h => hn h.symm), fun _ _ hb hL => hL.setCell (p := ⟨b, i, none⟩) hb v⟩
theorem get_set {L : List Row} {i j : Nat} {r x : Row} (h : L[j]? = some r) (hne : i ≠ j) : (L.set i x)[j]? = some r := by rw [List.getElem?_set_ne hne]; exact h
/-- A part of a row. -/
structure Part (c : Array Value) (off : Nat) (ty : TypeId) (e : Array Value) : Prop where
  eq : c.extract off (off + e.size) = e
  size : (Try.prog.info? ty).map (·.size) = some e.size
theorem Part.range {w : World} {b off : Nat} {c e : Array Value} {t ty : TypeId} (h : Part c off ty e) (hB : Blk w b c t) : w.rangeAt b off e.toList := fun j v hv => by
  rw [hB.cell]
  have hj : j < e.size := by simpa using (List.getElem?_eq_some_iff.1 hv).1
  rw [Array.getElem?_toList, ← h.eq, Array.getElem?_extract] at hv
  split at hv
  · exact hv
  · cases hv

section
variable {o : Oper} {a : Act}
theorem run_bd' {P : Program} (t : TypeId) (parts : Array (Nat × Operand)) (ho : o.op = .build t parts) (e : Array Value) (h : P.built t (parts.map fun (i, x) => (i, a.eval x)).toList = some e) (w : World) : (execOp a.eval o).run P w = .ok (.value (.agg e)) w := by
  unfold execOp
  simp only [ho]
  have h1 := run_build (P := P) w t (parts.map fun (i, x) => (i, a.eval x)) e h
  simp only [Sem.run_bind, h1, Result.andThen_ok, Sem.run_pure]
theorem run_bd {P : Program} (t : TypeId) (parts : Array (Nat × Operand)) (ho : o.op = .build t parts) (l : List (Nat × Value)) (hl : (parts.map fun (i, x) => (i, a.eval x)).toList = l) (e : Array Value) (h : P.built t l = some e) (w : World) : (execOp a.eval o).run P w = .ok (.value (.agg e)) w :=
  run_bd' t parts ho e (hl ▸ h) w
theorem run_box (t : TypeId) (x : Operand) (ho : o.op = .box t x) (c : Array Value) (hx : a.eval x = .agg c) (w : World) : (execOp a.eval o).run Try.prog w = .ok (.value (.pointer (some ⟨w.heap.size, 0, none⟩))) (w.alloc (.cells c t)) := by
  unfold execOp
  simp only [ho, hx]
  kernel_rfl
end

theorem Own.snoc {u w w' : World} {L : List Row} (h : Own u w L) {n : Nat} {c : Array Value} {t : TypeId} (hn : w.heap.size ≤ n) (hB : Blk w' n c t) (hb : Below w.heap.size w w') (hf : Fit t c) : Own u w' (L ++ [(n, c, t)]) :=
  (h.cons hn hB hb hf).perm (by simpa using (List.perm_append_comm (l₁ := [(n, c, t)]) (l₂ := L)))
open Rg
abbrev OI (u : World) (L : Nat → Nu → List Row) : Nat → Nu → World → Prop := fun s ν w => Own u w (L s ν)
/-- What the frame behind holds where an operation tells. -/
def vof (F : Act) (o : Oper) : Value := match o.dst with | some d => F.tmps.getD d undef | none => undef
theorem put_vof (F : Act) (o : Oper) : F.put o.dst (vof F o) = F := by
  unfold vof
  cases o.dst with
  | none => rfl
  | some d =>
    obtain ⟨t, df⟩ := F
    simp only [Act.put]
    congr 1
    apply Array.ext_getElem?
    intro i
    by_cases h : d = i
    · subst h
      by_cases hs : d < t.size
      · simp [hs, Array.getD_eq_getD_getElem?]
      · simp [hs]
    · rw [Array.getElem?_setIfInBounds_ne h]
theorem Own.sub {u w : World} {L L' : List Row} (h : Own u w L) (hs : L'.Sublist L) : Own u w L' :=
  ⟨h.low, fun r hr => h.blk r (hs.subset hr), fun r hr => h.new r (hs.subset hr), fun r hr => h.fit r (hs.subset hr), h.dist.sublist (hs.map _)⟩
theorem Own.take {u w : World} {L : List Row} (h : Own u w L) (k : Nat) : Own u w (L.take k) := h.sub (List.take_sublist k L)
theorem perm_at {r : Row} : ∀ {L : List Row} {j : Nat}, L[j]? = some r → L.Perm (r :: L.eraseIdx j)
  | x :: l, 0, h => by
    have : x = r := by simpa using h
    subst this; exact List.Perm.refl _
  | x :: l, j + 1, h => ((perm_at (L := l) (j := j) (by simpa using h)).cons x).trans (List.Perm.swap r x _)
theorem perm_set {L : List Row} {j : Nat} {r r' : Row} (h : L[j]? = some r) : (r' :: L.eraseIdx j).Perm (L.set j r') := by
  have hl := (List.getElem?_eq_some_iff.1 h).1
  have h1 : (L.set j r')[j]? = some r' := by simp [hl]
  have := (perm_at h1).symm
  rwa [List.eraseIdx_set_eq] at this
/-- A call that changes one row, by its contract over that row in front. -/
theorem call1 {u w : World} {L : List Row} {f : FuncId} {args : Array Value} {v : Value} {r r' : Row} (hC : ∀ (u : World) (M : List Row) (w : World), Own u w (r :: M) → Calls Try.prog f args w fun e w' => e = .returned v ∧ Own u w' (r' :: M)) (hO : Own u w L) (j : Nat) (hj : L[j]? = some r) : Calls Try.prog f args w fun e w' => e = .returned v ∧ Own u w' (L.set j r') :=
  (hC u _ w (hO.perm (perm_at hj))).mono fun _ _ h => ⟨h.1, h.2.perm (perm_set hj)⟩
/-- And looks at another one. -/
theorem call2 {u w : World} {L : List Row} {f : FuncId} {args : Array Value} {v : Value} {r r' q : Row} (hC : ∀ (u : World) (M : List Row) (w : World), Own u w (r :: q :: M) → Calls Try.prog f args w fun e w' => e = .returned v ∧ Own u w' (r' :: q :: M)) (hO : Own u w L) (j k : Nat) (hj : L[j]? = some r) (hk : (L.eraseIdx j)[k]? = some q) : Calls Try.prog f args w fun e w' => e = .returned v ∧ Own u w' (L.set j r') :=
  (hC u _ w (hO.perm ((perm_at hj).trans ((perm_at hk).cons r)))).mono fun _ _ h => ⟨h.1, (h.2.perm ((perm_at hk).symm.cons r')).perm (perm_set hj)⟩
def rowAt (l : List Row) (j : Nat) : Row := l.getD j (0, #[], 0)
theorem row_some {l : List Row} {j : Nat} (h : j < l.length) : l[j]? = some (rowAt l j) := by
  unfold rowAt
  rw [List.getD_eq_getElem?_getD, List.getElem?_eq_getElem h]; rfl
section
variable {b : Bool} {ops : Array Oper} {sts : List Nat} {F : Nu → Act} {I : Nat → Nu → World → Prop} {u : World} {L : Nat → Nu → List Row} {i : Nat} {o : Oper}
theorem nx (v : Nu → Value) (hrun : ∀ ν w, (execOp (F ν).eval o).run Try.prog w = .ok (.value (v ν)) w) (hv : ∀ ν, vof (F ν) o = v ν := by intro ν; kernel_rfl) (hw : ∀ ν, Region.wanted o (yielded ops (F ν).tmps) = true := by intro ν; kernel_rfl) (hn : sts.contains i = false := by kernel_rfl) : Ob b Try.prog ops sts F I i o :=
  .inl ⟨hn, fun ν => .inl ⟨hw ν, v ν, by rw [← hv ν]; exact put_vof _ _, 0, sts.length, by simp [win], fun _ w _ _ _ => hrun ν w⟩⟩
theorem nv (hrun : ∀ ν w, (execOp (F ν).eval o).run Try.prog w = .ok (.value (vof (F ν) o)) w := by intro ν w; kernel_rfl) (hw : ∀ ν, Region.wanted o (yielded ops (F ν).tmps) = true := by intro ν; kernel_rfl) (hn : sts.contains i = false := by kernel_rfl) : Ob b Try.prog ops sts F I i o :=
  nx (fun ν => vof (F ν) o) hrun (fun _ => rfl) hw hn
theorem nk (hv : ∀ ν, vof (F ν) o = undef := by intro ν; kernel_rfl) (hw : ∀ ν, Region.wanted o (yielded ops (F ν).tmps) = false := by intro ν; kernel_rfl) (hn : sts.contains i = false := by kernel_rfl) : Ob b Try.prog ops sts F I i o :=
  .inl ⟨hn, fun ν => .inr ⟨hw ν, by rw [← hv ν]; exact put_vof _ _⟩⟩
/-- What the world tells. -/
theorem nw (lo hi : Nat) (v : Nu → Value) (hrun : ∀ s ν w, lo ≤ s → s ≤ hi → I s ν w → (execOp (F ν).eval o).run Try.prog w = .ok (.value (v ν)) w) (hwin : win b ops sts i lo hi = true := by kernel_rfl) (hv : ∀ ν, vof (F ν) o = v ν := by intro ν; kernel_rfl) (hw : ∀ ν, Region.wanted o (yielded ops (F ν).tmps) = true := by intro ν; kernel_rfl) (hn : sts.contains i = false := by kernel_rfl) : Ob b Try.prog ops sts F I i o :=
  .inl ⟨hn, fun ν => .inl ⟨hw ν, v ν, by rw [← hv ν]; exact put_vof _ _, lo, hi, hwin, fun s w h1 h2 h => hrun s ν w h1 h2 h⟩⟩
theorem at1 {p : Nat → Prop} (k : Nat) (h : p k) (s : Nat) (h1 : k ≤ s) (h2 : s ≤ k) : p s := Nat.le_antisymm h1 h2 ▸ h
theorem at2 {p : Nat → Prop} (k m : Nat) (h : p k) (h' : ∀ s, k + 1 ≤ s → s ≤ m → p s) : ∀ s, k ≤ s → s ≤ m → p s := fun s h1 h2 => by
  by_cases hs : s = k
  · subst hs; exact h
  · exact h' s (by omega) h2
theorem run_ldm {ρ : Operand → Value} (ty : TypeId) (x : Operand) (ho : o.op = .load ty x) (bk k : Nat) {c : Array Value} {w : World} (hx : ρ x = .pointer (some ⟨bk, k, none⟩)) (d : TypeDesc) (hc : w.rangeAt bk k c.toList) (hu : Try.prog.underlying ty = some d) (hd : d.isRow = true) (hi : (Try.prog.info? ty).map (·.size) = some c.toList.length) : (execOp ρ o).run Try.prog w = .ok (.value (.agg c)) w := by
  have := run_loadVar_mid (P := Try.prog) w bk k ty c.toList d hc hu hd hi
  unfold execOp
  simp only [ho, hx, Instr.loadAt, Instr.sureAddr, Sem.run_bind, Sem.run_pure, Result.andThen_ok, this]
/-- A whole row is loaded. -/
theorem nld (lo hi j : Nat) {ty : TypeId} {x : Operand} {d : TypeDesc} (hL : ∀ s, lo ≤ s → s ≤ hi → ∀ ν, (L s ν)[j]? = some (rowAt (L lo ν) j)) (hu : Try.prog.underlying ty = some d) (ho : o.op = .load ty x := by rfl) (ht : ∀ ν, (rowAt (L lo ν) j).2.2 = ty := by intro ν; kernel_rfl) (hx : ∀ ν, (F ν).eval x = D (rowAt (L lo ν) j).1 := by intro ν; kernel_rfl) (hd : d.isRow = true := by rfl) (h5 : anyLen ty = false := by rfl)
    (hwin : win b ops sts i lo hi = true := by kernel_rfl) (hv : ∀ ν, vof (F ν) o = .agg (rowAt (L lo ν) j).2.1 := by intro ν; kernel_rfl) (hw : ∀ ν, Region.wanted o (yielded ops (F ν).tmps) = true := by intro ν; kernel_rfl) (hn : sts.contains i = false := by kernel_rfl) : Ob b Try.prog ops sts F (OI u L) i o := by
  refine nw lo hi (fun ν => .agg (rowAt (L lo ν) j).2.1) (fun s ν w h1 h2 hO => ?_) hwin hv hw hn
  have hj := hL s h1 h2 ν
  have hB := Own.row hO j (b := (rowAt (L lo ν) j).1) (c := (rowAt (L lo ν) j).2.1) (t := (rowAt (L lo ν) j).2.2) hj
  have hf := Own.fits hO j (b := (rowAt (L lo ν) j).1) (c := (rowAt (L lo ν) j).2.1) (t := (rowAt (L lo ν) j).2.2) hj
  exact run_ldm ty x ho _ 0 (hx ν) d hB.range hu hd (by rw [← ht ν, hf.size (by rw [ht ν]; exact h5)]; simp)
/-- What a variable of a package holds. -/
def Gl (w : World) (bk : Nat) (c : Array Value) : Prop := ∃ t fz, w.heap[bk]? = some (.cells c t fz)
theorem Gl.lt {w : World} {bk : Nat} {c : Array Value} (h : Gl w bk c) : bk < w.heap.size := by
  obtain ⟨t, fz, h⟩ := h
  exact (Array.getElem?_eq_some_iff.1 h).1
theorem Gl.low {w w' : World} {bk : Nat} {c : Array Value} (h : Gl w bk c) (hb : Below w.heap.size w w') : Gl w' bk c := by
  have hl := h.lt
  obtain ⟨t, fz, h⟩ := h
  exact ⟨t, fz, by rw [hb.block bk hl]; exact h⟩
theorem Gl.range {w : World} {bk : Nat} {c : Array Value} (h : Gl w bk c) : w.rangeAt bk 0 c.toList := fun j v hv => by
  obtain ⟨t, fz, h⟩ := h
  simp only [World.cell?, h, Nat.zero_add]
  rw [Array.getElem?_toList] at hv
  exact hv
/-- A package's variable is loaded. -/
theorem nfr (bk : Nat) (c : Array Value) {ty : TypeId} {x : Operand} {d : TypeDesc} (hG : Gl u bk c) (hs : (Try.prog.info? ty).map (·.size) = some c.size) (hu : Try.prog.underlying ty = some d) (ho : o.op = .load ty x := by rfl) (hx : ∀ ν, (F ν).eval x = D bk := by intro ν; kernel_rfl) (hd : d.isRow = true := by rfl)
    (hv : ∀ ν, vof (F ν) o = .agg c := by intro ν; kernel_rfl) (hw : ∀ ν, Region.wanted o (yielded ops (F ν).tmps) = true := by intro ν; kernel_rfl) (hn : sts.contains i = false := by kernel_rfl) : Ob b Try.prog ops sts F (OI u L) i o :=
  nw 0 sts.length (fun _ => .agg c) (fun _ ν w _ _ hO => run_ldm ty x ho _ 0 (hx ν) d (hG.low (Own.low hO)).range hu hd (by rw [hs]; simp)) (by simp [win]) hv hw hn
/-- A part of a row is loaded. -/
theorem npt (lo hi j off : Nat) {ty : TypeId} {x : Operand} {d : TypeDesc} (e : Nu → Array Value) (hp : ∀ ν, Part (rowAt (L lo ν) j).2.1 off ty (e ν)) (hL : ∀ s, lo ≤ s → s ≤ hi → ∀ ν, (L s ν)[j]? = some (rowAt (L lo ν) j)) (hu : Try.prog.underlying ty = some d) (ho : o.op = .load ty x := by rfl) (hx : ∀ ν, (F ν).eval x = E (rowAt (L lo ν) j).1 off := by intro ν; kernel_rfl) (hd : d.isRow = true := by rfl)
    (hwin : win b ops sts i lo hi = true := by kernel_rfl) (hv : ∀ ν, vof (F ν) o = .agg (e ν) := by intro ν; kernel_rfl) (hw : ∀ ν, Region.wanted o (yielded ops (F ν).tmps) = true := by intro ν; kernel_rfl) (hn : sts.contains i = false := by kernel_rfl) : Ob b Try.prog ops sts F (OI u L) i o := by
  refine nw lo hi (fun ν => .agg (e ν)) (fun s ν w h1 h2 hO => ?_) hwin hv hw hn
  have hj := hL s h1 h2 ν
  have hB := Own.row hO j (b := (rowAt (L lo ν) j).1) (c := (rowAt (L lo ν) j).2.1) (t := (rowAt (L lo ν) j).2.2) hj
  exact run_ldm ty x ho _ off (hx ν) d ((hp ν).range hB) hu hd (by rw [(hp ν).size]; simp)
theorem ld_cell {ρ : Operand → Value} (ty : TypeId) (hu : ∀ w, (isAgg ty).run Try.prog w = .ok false w) {x : Operand} (ho : o.op = .load ty x) {bk k : Nat} (hx : ρ x = .pointer (some ⟨bk, k, none⟩)) {w : World} {v : Value} (hc : w.cell? ⟨bk, k, none⟩ = some v) : (execOp ρ o).run Try.prog w = .ok (.value v) w := by
  unfold execOp
  simp only [ho, hx]
  go_simp
/-- One cell of a row is loaded. -/
theorem nc (lo hi j : Nat) {ty : TypeId} {x : Operand} (k : Nu → Nat) (v : Nu → Value) (hu : ∀ w, (isAgg ty).run Try.prog w = .ok false w) (hg : ∀ ν, (rowAt (L lo ν) j).2.1[k ν]? = some (v ν)) (hL : ∀ s, lo ≤ s → s ≤ hi → ∀ ν, (L s ν)[j]? = some (rowAt (L lo ν) j)) (ho : o.op = .load ty x := by rfl) (hx : ∀ ν, (F ν).eval x = E (rowAt (L lo ν) j).1 (k ν) := by intro ν; kernel_rfl)
    (hwin : win b ops sts i lo hi = true := by kernel_rfl) (hv : ∀ ν, vof (F ν) o = v ν := by intro ν; kernel_rfl) (hw : ∀ ν, Region.wanted o (yielded ops (F ν).tmps) = true := by intro ν; kernel_rfl) (hn : sts.contains i = false := by kernel_rfl) : Ob b Try.prog ops sts F (OI u L) i o := by
  refine nw lo hi v (fun s ν w h1 h2 hO => ?_) hwin hv hw hn
  have hj := hL s h1 h2 ν
  have hB := Own.row hO j (b := (rowAt (L lo ν) j).1) (c := (rowAt (L lo ν) j).2.1) (t := (rowAt (L lo ν) j).2.2) hj
  exact ld_cell ty hu ho (hx ν) ((hB.cell (k ν)).trans (hg ν))
theorem SS_of (t : Nat) (ν' : Nu → World → Value → Nu) (ht : sts[t]? = some i) (htp : t = 0 ∨ ∃ j, sts[t - 1]? = some j ∧ reach b ops 4 i j = true) (hw : ∀ ν, Region.wanted o (yielded ops (F ν).tmps) = true)
    (h : ∀ ν w (K : Act → World → Prop), I t ν w → (∀ v w', msk ops ((F ν).put o.dst v).tmps (deps b ops i) = msk ops (F (ν' ν w v)).tmps (deps b ops i) → I (t + 1) (ν' ν w v) w' → K ((F ν).put o.dst v) w') → o.wp Try.prog (F ν) w K (fun _ _ _ => False)) (hF : ∀ ν, (F ν).defers = []) : Ob b Try.prog ops sts F I i o :=
  .inr ⟨t, ht, htp, fun ν => ⟨hw ν, fun w hI => h ν w _ hI fun v w' hm hI' => ⟨ν' ν w v, by rw [put_defers]; exact hF ν, hm, hI'⟩⟩⟩
/-- A step's place. -/
def plc (b : Bool) (ops : Array Oper) (sts : List Nat) (i t : Nat) : Bool := sts[t]? == some i && (t == 0 || ((sts[t - 1]?).map fun j => reach b ops 4 i j).getD false)
theorem plc_spec {t : Nat} (h : plc b ops sts i t = true) : sts[t]? = some i ∧ (t = 0 ∨ ∃ j, sts[t - 1]? = some j ∧ reach b ops 4 i j = true) := by
  unfold plc at h
  rw [Bool.and_eq_true, Bool.or_eq_true] at h
  refine ⟨by simpa using h.1, h.2.imp (fun h => by simpa using h) fun h => ?_⟩
  cases hj : sts[t - 1]? with
  | none => rw [hj] at h; cases h
  | some j => rw [hj] at h; exact ⟨j, rfl, h⟩
/-- A call that changes rows. -/
theorem sg (t : Nat) (f : FuncId) (args : Nu → Array Value) (v : Nu → Value) {L' : Nu → List Row} (hc : ∀ ν w, Own u w (L t ν) → Calls Try.prog f (args ν) w fun e w' => e = .returned (v ν) ∧ Own u w' (L' ν)) (hL : ∀ ν, L (t + 1) ν = L' ν := by intro ν; kernel_rfl) (hv : ∀ ν, vof (F ν) o = v ν := by intro ν; kernel_rfl) (hrun : ∀ ν w, (execOp (F ν).eval o).run Try.prog w = .ok (.enter f (args ν)) w := by intro ν w; kernel_rfl)
    (hp : plc b ops sts i t = true := by kernel_rfl) (hw : ∀ ν, Region.wanted o (yielded ops (F ν).tmps) = true := by intro ν; kernel_rfl) (hF : ∀ ν, (F ν).defers = [] := by intro ν; kernel_rfl) : Ob b Try.prog ops sts F (OI u L) i o := by
  refine SS_of t (fun ν _ _ => ν) (plc_spec hp).1 (plc_spec hp).2 hw (fun ν w K hO hK => ?_) hF
  unfold Oper.wp
  rw [hrun ν w, Oper.upon_enter]
  refine (hc ν w hO).mono fun e w' hh => ?_
  obtain ⟨rfl, hO'⟩ := hh
  refine hK _ _ (by rw [← hv ν, put_vof]) ?_
  show Own u w' (L (t + 1) ν)
  rw [hL]
  exact hO'
/-- A call, by what is known where it comes up. -/
theorem sq (t : Nat) (f : FuncId) (args : Nu → Array Value) (v : Nu → Value) (hc : ∀ ν w, Own u w (L t ν) → Ret f (args ν) w (v ν)) (hv : ∀ ν, vof (F ν) o = v ν := by intro ν; kernel_rfl) (hL : ∀ ν, L (t + 1) ν = L t ν := by intro ν; kernel_rfl) (hrun : ∀ ν w, (execOp (F ν).eval o).run Try.prog w = .ok (.enter f (args ν)) w := by intro ν w; kernel_rfl)
    (hp : plc b ops sts i t = true := by kernel_rfl) (hw : ∀ ν, Region.wanted o (yielded ops (F ν).tmps) = true := by intro ν; kernel_rfl) (hF : ∀ ν, (F ν).defers = [] := by intro ν; kernel_rfl) : Ob b Try.prog ops sts F (OI u L) i o :=
  sg t f args v (fun ν w hO => (hc ν w hO).mono fun _ _ h => ⟨h.1, Own.call hO h.2⟩) hL hv hrun hp hw hF
theorem sc (t : Nat) (f : FuncId) (args : Nu → Array Value) (v : Nu → Value) (hc : ∀ ν w, Ret f (args ν) w (v ν)) (hv : ∀ ν, vof (F ν) o = v ν := by intro ν; kernel_rfl) (hL : ∀ ν, L (t + 1) ν = L t ν := by intro ν; kernel_rfl) (hrun : ∀ ν w, (execOp (F ν).eval o).run Try.prog w = .ok (.enter f (args ν)) w := by intro ν w; kernel_rfl)
    (hp : plc b ops sts i t = true := by kernel_rfl) (hw : ∀ ν, Region.wanted o (yielded ops (F ν).tmps) = true := by intro ν; kernel_rfl) (hF : ∀ ν, (F ν).defers = [] := by intro ν; kernel_rfl) : Ob b Try.prog ops sts F (OI u L) i o :=
  sq t f args v (fun ν w _ => hc ν w) hv hL hrun hp hw hF
/-- A call that answers with a row of its own. -/
def RetN (f : FuncId) (args : Array Value) (w : World) (v : Nat → Value) (c : Array Value) (ty : TypeId) : Prop := Calls Try.prog f args w fun e w' => ∃ q, e = .returned (v q) ∧ Below w.heap.size w w' ∧ w.heap.size ≤ q ∧ Blk w' q c ty
theorem sf (t : Nat) (f : FuncId) (args : Nu → Array Value) (v : Nu → Nat → Value) (c : Nu → Array Value) (ty : TypeId) (hc : ∀ ν w, Own u w (L t ν) → RetN f (args ν) w (v ν) (c ν) ty) (hf : ∀ ν, Fit ty (c ν)) (hL : ∀ ν n, L (t + 1) (up ν i n) = L t ν ++ [(n, c ν, ty)] := by intro ν n; kernel_rfl) (hm : ∀ ν n, msk ops ((F ν).put o.dst (v ν n)).tmps (deps b ops i) = msk ops (F (up ν i n)).tmps (deps b ops i) := by intro ν n; kernel_rfl) (hrun : ∀ ν w, (execOp (F ν).eval o).run Try.prog w = .ok (.enter f (args ν)) w := by intro ν w; kernel_rfl)
    (hp : plc b ops sts i t = true := by kernel_rfl) (hw : ∀ ν, Region.wanted o (yielded ops (F ν).tmps) = true := by intro ν; kernel_rfl) (hF : ∀ ν, (F ν).defers = [] := by intro ν; kernel_rfl) : Ob b Try.prog ops sts F (OI u L) i o := by
  refine .inr ⟨t, (plc_spec hp).1, (plc_spec hp).2, fun ν => ⟨hw ν, fun w hO => ?_⟩⟩
  unfold Oper.wp
  rw [hrun ν w, Oper.upon_enter]
  refine (hc ν w hO).mono fun e w' hh => ?_
  obtain ⟨q, rfl, hb, hq, hB⟩ := hh
  refine ⟨up ν i q, by rw [put_defers]; exact hF ν, hm ν q, ?_⟩
  show Own u w' (L (t + 1) (up ν i q))
  rw [hL]
  exact Own.snoc hO hq hB hb (hf ν)
/-- A new row, of which the operation tells more than its place. -/
theorem sv (t : Nat) (v : Nu → Nat → Value) (c : Nu → Array Value) (ty : TypeId) (hrun : ∀ ν w, (execOp (F ν).eval o).run Try.prog w = .ok (.value (v ν w.heap.size)) (w.alloc (.cells (c ν) ty))) (hf : ∀ ν, Fit ty (c ν)) (hL : ∀ ν n, L (t + 1) (up ν i n) = L t ν ++ [(n, c ν, ty)] := by intro ν n; kernel_rfl) (hm : ∀ ν n, msk ops ((F ν).put o.dst (v ν n)).tmps (deps b ops i) = msk ops (F (up ν i n)).tmps (deps b ops i) := by intro ν n; kernel_rfl)
    (hp : plc b ops sts i t = true := by kernel_rfl) (hw : ∀ ν, Region.wanted o (yielded ops (F ν).tmps) = true := by intro ν; kernel_rfl) (hF : ∀ ν, (F ν).defers = [] := by intro ν; kernel_rfl) : Ob b Try.prog ops sts F (OI u L) i o := by
  refine SS_of t (fun ν w _ => up ν i w.heap.size) (plc_spec hp).1 (plc_spec hp).2 hw (fun ν w K hO hK => ?_) hF
  unfold Oper.wp
  rw [hrun ν w, Oper.upon_value]
  refine hK _ _ (hm ν _) ?_
  show Own u _ (L (t + 1) (up ν i w.heap.size))
  rw [hL]
  exact Own.snoc hO (Nat.le_refl _) (Blk.new w _ _) ((Below.refl _ w).alloc (Nat.le_refl _) _) (hf ν)
/-- A new row. -/
theorem sn (t : Nat) (c : Nu → Array Value) (ty : TypeId) (hrun : ∀ ν w, (execOp (F ν).eval o).run Try.prog w = .ok (.value (D w.heap.size)) (w.alloc (.cells (c ν) ty))) (hf : ∀ ν, Fit ty (c ν)) (hL : ∀ ν n, L (t + 1) (up ν i n) = L t ν ++ [(n, c ν, ty)] := by intro ν n; kernel_rfl) (hm : ∀ ν n, msk ops ((F ν).put o.dst (D n)).tmps (deps b ops i) = msk ops (F (up ν i n)).tmps (deps b ops i) := by intro ν n; kernel_rfl)
    (hp : plc b ops sts i t = true := by kernel_rfl) (hw : ∀ ν, Region.wanted o (yielded ops (F ν).tmps) = true := by intro ν; kernel_rfl) (hF : ∀ ν, (F ν).defers = [] := by intro ν; kernel_rfl) : Ob b Try.prog ops sts F (OI u L) i o :=
  sv t (fun _ n => D n) c ty hrun hf hL hm hp hw hF
/-- A whole row is stored. -/
theorem sr (t j : Nat) {ty : TypeId} {x y : Operand} (e : Nu → Array Value) (hf : ∀ ν, Fit ty (e ν)) (ho : o.op = .store ty x y := by rfl) (hj : ∀ ν, (L t ν)[j]? = some (rowAt (L t ν) j) := by intro ν; kernel_rfl) (hty : ∀ ν, (rowAt (L t ν) j).2.2 = ty := by intro ν; kernel_rfl) (hL : ∀ ν, L (t + 1) ν = (L t ν).set j ((rowAt (L t ν) j).1, e ν, ty) := by intro ν; kernel_rfl) (hx : ∀ ν, (F ν).eval x = D (rowAt (L t ν) j).1 := by intro ν; kernel_rfl) (hy : ∀ ν, (F ν).eval y = .agg (e ν) := by intro ν; kernel_rfl) (hd : o.dst = none := by rfl) (h5 : anyLen ty = false := by rfl)
    (hp : plc b ops sts i t = true := by kernel_rfl) (hw : ∀ ν, Region.wanted o (yielded ops (F ν).tmps) = true := by intro ν; kernel_rfl) (hF : ∀ ν, (F ν).defers = [] := by intro ν; kernel_rfl) : Ob b Try.prog ops sts F (OI u L) i o := by
  refine SS_of t (fun ν _ _ => ν) (plc_spec hp).1 (plc_spec hp).2 hw (fun ν w K hO hK => ?_) hF
  have hj' : (L t ν)[j]? = some ((rowAt (L t ν) j).1, (rowAt (L t ν) j).2.1, ty) := by rw [hj ν, ← hty ν]
  have hB := Own.row hO j hj'
  refine wp_store_row ty x y ho _ (e ν) (hx ν) (hy ν) ty _ hB ((hf ν).size h5) ?_ (hf ν).one ?_
  · have h1 := (Own.fits hO j hj').size h5
    rw [(hf ν).size h5] at h1
    exact (Option.some.inj h1).symm
  · refine hK _ _ (by rw [hd]; rfl) ?_
    show Own u _ (L (t + 1) ν)
    rw [hL]
    exact Own.put hO j hj' (hB.row (e ν)) (st1_row w _ _) (hf ν)
theorem st_cell {ρ : Operand → Value} (ty : TypeId) {kd : IntKind} (hs : ∀ w, (sizeOf ty).run Try.prog w = .ok 1 w) {x y : Operand} (ho : o.op = .store ty x y) {bk k : Nat} (hx : ρ x = .pointer (some ⟨bk, k, none⟩)) {n : Int} (hy : ρ y = .int kd n) {w : World} {v : Value} (hc : w.cell? ⟨bk, k, none⟩ = some v) (hfr : w.frozen? ⟨bk, k, none⟩ = false) : (execOp ρ o).run Try.prog w = .ok .skip (w.setCell ⟨bk, k, none⟩ (.int kd n)) := by
  unfold execOp
  simp only [ho, hx, hy]
  go_simp
/-- One cell of a row is stored. -/
theorem sl (t j : Nat) {ty : TypeId} {x y : Operand} (k : Nu → Nat) (v0 : Nu → Value) {kd : IntKind} (n : Nu → Int) (hs : ∀ w, (sizeOf ty).run Try.prog w = .ok 1 w) (hg : ∀ ν, (rowAt (L t ν) j).2.1[k ν]? = some (v0 ν)) (he : ∀ ν, (rowAt (L t ν) j).2.1.setIfInBounds (k ν) (.int kd (n ν)) = (rowAt (L (t + 1) ν) j).2.1) (hf : ∀ ν, Fit (rowAt (L t ν) j).2.2 (rowAt (L (t + 1) ν) j).2.1) (ho : o.op = .store ty x y := by rfl) (hj : ∀ ν, (L t ν)[j]? = some (rowAt (L t ν) j) := by intro ν; kernel_rfl) (hL : ∀ ν, L (t + 1) ν = (L t ν).set j ((rowAt (L t ν) j).1, (rowAt (L (t + 1) ν) j).2.1, (rowAt (L t ν) j).2.2) := by intro ν; kernel_rfl) (hx : ∀ ν, (F ν).eval x = E (rowAt (L t ν) j).1 (k ν) := by intro ν; kernel_rfl) (hy : ∀ ν, (F ν).eval y = .int kd (n ν) := by intro ν; kernel_rfl) (hd : o.dst = none := by rfl)
    (hp : plc b ops sts i t = true := by kernel_rfl) (hw : ∀ ν, Region.wanted o (yielded ops (F ν).tmps) = true := by intro ν; kernel_rfl) (hF : ∀ ν, (F ν).defers = [] := by intro ν; kernel_rfl) : Ob b Try.prog ops sts F (OI u L) i o := by
  refine SS_of t (fun ν _ _ => ν) (plc_spec hp).1 (plc_spec hp).2 hw (fun ν w K hO hK => ?_) hF
  have hj' : (L t ν)[j]? = some ((rowAt (L t ν) j).1, (rowAt (L t ν) j).2.1, (rowAt (L t ν) j).2.2) := hj ν
  have hB := Own.row hO j hj'
  unfold Oper.wp
  rw [st_cell ty hs ho (hx ν) (hy ν) ((hB.cell _).trans (hg ν)) (hB.frozen _), Oper.upon_skip]
  refine hK _ _ (by rw [hd]; rfl) ?_
  show Own u _ (L (t + 1) ν)
  rw [hL]
  exact Own.put hO j hj' ((hB.set _ _).cast (he ν)) (st1_cell w _ _ _) (hf ν)
end
end Go.Proofs.Ytkljpidlfddgbaa

/- One operation of a region, with the frame behind it: in the written order (l_), and in a drawn one (d_). No conditions but those that each names. -/
import Derived.Test.YtbpmakegimgbpaaDoorPb
namespace Go.Proofs.YtbpmakegimgbpaaDoor
set_option maxRecDepth 100000
open F Go.RowKit

abbrev A (c : Array Value) : Value := .agg c
abbrev D (n : Nat) : Value := .pointer (some ⟨n, 0, none⟩)
abbrev Fr (l zz : List Value) : Act := { tmps := List.toArray (l ++ zz), defers := [] }
/-- Which of n operations are done. -/
def ls (n m : Nat) : Array Bool := ((List.range n).map fun i => m.testBit i).toArray
section
variable {o : Oper} {a : Act} {u w : World} {L : List Row} {Q : Exit → Act → World → Prop} {ops : Array Oper} {rest : List Oper}
theorem l_any (hg : Region.wanted o (yielded ops a.tmps) = true) (h : ∀ K : Act → World → Prop, (∀ a w, wpList Tryd.prog ops Q rest a w → K a w) → o.wp Tryd.prog a w K Q) : wpList Tryd.prog ops Q (o :: rest) a w :=
  wpList_step fun K hK => by rw [if_pos hg]; exact h K hK
theorem l_skip (h : wpList Tryd.prog ops Q rest (a.put o.dst undef) w) (hg : Region.wanted o (yielded ops a.tmps) = false := by kernel_rfl) : wpList Tryd.prog ops Q (o :: rest) a w :=
  wpList_step fun K hK => by rw [if_neg (by rw [hg]; exact Bool.false_ne_true)]; exact hK _ _ h
theorem l_call (hO : Own u w L) (f : FuncId) (args : Array Value) (v : Value) (hc : ∀ w, Ret f args w v) (h : ∀ w', Own u w' L → wpList Tryd.prog ops Q rest (a.put o.dst v) w')
    (hrun : (execOp a.eval o).run Tryd.prog w = .ok (.enter f args) w := by kernel_rfl) (hg : Region.wanted o (yielded ops a.tmps) = true := by kernel_rfl) : wpList Tryd.prog ops Q (o :: rest) a w :=
  l_any hg fun _ hK => o_call hO f args hrun v hc fun w' h' => hK _ _ (h w' h')
theorem l_new (hO : Own u w L) (c : Array Value) (t : TypeId) (hrun : ∀ w, (execOp a.eval o).run Tryd.prog w = .ok (.value (.pointer (some ⟨w.heap.size, 0, none⟩))) (w.alloc (.cells c t))) (hf : Fit t c)
    (h : ∀ n w', Own u w' ((n, c, t) :: L) → wpList Tryd.prog ops Q rest (a.put o.dst (.pointer (some ⟨n, 0, none⟩))) w') (hg : Region.wanted o (yielded ops a.tmps) = true := by kernel_rfl) : wpList Tryd.prog ops Q (o :: rest) a w :=
  l_any hg fun _ hK => o_new hO c t hrun hf fun n w' h' => hK _ _ (h n w' h')
theorem l_val (v : Value) (hrun : (execOp a.eval o).run Tryd.prog w = .ok (.value v) w) (h : wpList Tryd.prog ops Q rest (a.put o.dst v) w) (hg : Region.wanted o (yielded ops a.tmps) = true := by kernel_rfl) : wpList Tryd.prog ops Q (o :: rest) a w :=
  l_any hg fun _ hK => o_val v hrun (hK _ _ h)
theorem l_st (hO : Own u w L) (ty : TypeId) {x y : Operand} (i : Nat) {b : Nat} {c : Array Value} (hi : L[i]? = some (b, c, ty)) (e : Array Value) (hf : Fit ty e)
    (h : ∀ w', Own u w' (L.set i (b, e, ty)) → wpList Tryd.prog ops Q rest a w') (ho : o.op = .store ty x y := by rfl) (hx : a.eval x = .pointer (some ⟨b, 0, none⟩) := by kernel_rfl) (hy : a.eval y = .agg e := by kernel_rfl) (hd : o.dst = none := by rfl) (hg : Region.wanted o (yielded ops a.tmps) = true := by kernel_rfl) : wpList Tryd.prog ops Q (o :: rest) a w :=
  l_any hg fun _ hK => o_st hO ty x y ho i hi e hx hy hf fun w' h' => hK _ _ (by rw [hd]; exact h w' h')
theorem l_ld (hO : Own u w L) (ty : TypeId) {x : Operand} (i : Nat) {b : Nat} {c : Array Value} (hi : L[i]? = some (b, c, ty)) {d : TypeDesc} (hu : Tryd.prog.underlying ty = some d)
    (h : wpList Tryd.prog ops Q rest (a.put o.dst (.agg c)) w) (ho : o.op = .load ty x := by rfl) (hx : a.eval x = .pointer (some ⟨b, 0, none⟩) := by kernel_rfl) (hd : d.isRow = true := by rfl) (hg : Region.wanted o (yielded ops a.tmps) = true := by kernel_rfl) : wpList Tryd.prog ops Q (o :: rest) a w :=
  l_any hg fun _ hK => o_ld hO ty x ho i hi hx d hu hd (hK _ _ h)
theorem l_part (hO : Own u w L) (ty : TypeId) {x : Operand} (i : Nat) {b off : Nat} {c : Array Value} {t : TypeId} (hi : L[i]? = some (b, c, t)) {e : Array Value} (hp : Part c off ty e) {d : TypeDesc} (hu : Tryd.prog.underlying ty = some d)
    (h : wpList Tryd.prog ops Q rest (a.put o.dst (.agg e)) w) (ho : o.op = .load ty x := by rfl) (hx : a.eval x = .pointer (some ⟨b, off, none⟩) := by kernel_rfl) (hd : d.isRow = true := by rfl) (hg : Region.wanted o (yielded ops a.tmps) = true := by kernel_rfl) : wpList Tryd.prog ops Q (o :: rest) a w :=
  l_any hg fun _ hK => o_part hO ty x ho i hi hx hp d hu hd (hK _ _ h)

variable {S : World → Prop} {fuel : Nat} {listed l' : Array Bool}
theorem d_tk (i : Nat) (o : Oper) (v : Value) (hQ : ∀ c a w n v, Q (.panic c) (a.put (some n) v) w → Q (.panic c) a w) (hy : YieldsIf Tryd.prog ops S o v a) (hS : S w) (h : wpAnyH Tryd.prog .any ops Q S fuel (listed.setIfInBounds i true) (a.put o.dst v) w) {k : Nat}
    (hi : ops[i]? = some o := by rfl) (hk : o.dst = some k := by rfl) (hs : Region.noSelect ops = true := by kernel_rfl) (hf : Region.free .any ops listed i = true := by kernel_rfl) (hr : (Region.ready .any ops listed).contains i = true := by kernel_rfl) : wpAnyH Tryd.prog .any ops Q S (fuel + 1) listed a w :=
  wpAnyH_take hi hs hf hr (fun _ _ _ => by rw [hk]; exact hQ _ _ _ _ _) hy hS h
theorem l_fr {l : List Oper} (a' : Act) (h : wpList Tryd.prog ops Q l a' w) (ha : a = a' := by kernel_rfl) : wpList Tryd.prog ops Q l a w := ha ▸ h
theorem d_fr (l' : Array Bool) (a' : Act) (h : wpAnyH Tryd.prog .any ops Q S fuel l' a' w) (hl : listed = l' := by kernel_rfl) (ha : a = a' := by kernel_rfl) : wpAnyH Tryd.prog .any ops Q S fuel listed a w := hl ▸ ha ▸ h
theorem y_val {v : Value} (h : ∀ w, (execOp a.eval o).run Tryd.prog w = .ok (.value v) w) (hg : Region.wanted o (yielded ops a.tmps) = true := by kernel_rfl) : YieldsIf Tryd.prog ops S o v a := Or.inl ⟨hg, fun w _ => h w⟩
theorem y_skip (hg : Region.wanted o (yielded ops a.tmps) = false := by kernel_rfl) : YieldsIf Tryd.prog ops S o undef a := Or.inr ⟨hg, rfl⟩
theorem y_l (ty : TypeId) {x : Operand} {b : Nat} {c : Array Value} (hB : ∀ w, S w → Blk w b c ty) (hf : Fit ty c) {d : TypeDesc} (hu : Tryd.prog.underlying ty = some d) (ho : o.op = .load ty x := by rfl) (hx : a.eval x = .pointer (some ⟨b, 0, none⟩) := by kernel_rfl) (hd : d.isRow = true := by rfl) (hw : Region.wanted o (yielded ops a.tmps) = true := by kernel_rfl) : YieldsIf Tryd.prog ops S o (.agg c) a :=
  y_ld ty x ho hB hf hw hx d hu hd
theorem y_p (ty : TypeId) {x : Operand} {b off : Nat} {c : Array Value} {t : TypeId} (hB : ∀ w, S w → Blk w b c t) {e : Array Value} (hp : Part c off ty e) {d : TypeDesc} (hu : Tryd.prog.underlying ty = some d) (ho : o.op = .load ty x := by rfl) (hx : a.eval x = .pointer (some ⟨b, off, none⟩) := by kernel_rfl) (hd : d.isRow = true := by rfl) (hw : Region.wanted o (yielded ops a.tmps) = true := by kernel_rfl) : YieldsIf Tryd.prog ops S o (.agg e) a :=
  y_part ty x ho hB hw hx hp d hu hd
theorem d_one (i : Nat) (o : Oper) (l' : Array Bool) (h : ∀ K : Act → World → Prop, (∀ a w, S w → wpAnyH Tryd.prog .any ops Q S fuel l' a w → K a w) → o.wp Tryd.prog a w K Q)
    (hr : Region.ready .any ops listed = [i] := by kernel_rfl) (ho : ops[i]? = some o := by rfl) (hw : Region.wanted o (yielded ops a.tmps) = true := by kernel_rfl) (hl : listed.setIfInBounds i true = l' := by kernel_rfl) : wpAnyH Tryd.prog .any ops Q S (fuel + 1) listed a w := by
  refine wpAnyH_ready hr (by simp) (AllReadyH.cons ho (fun K hK => ?_) AllReadyH.nil)
  rw [if_pos hw]
  exact h K fun a w hS hW => hK.out a w hS (fun _ => hl ▸ hW)
/-- One of several that may come up. -/
theorem d_cons {rs : List Nat} (i : Nat) (o : Oper) (l' : Array Bool) (h : ∀ K : Act → World → Prop, (∀ a w, S w → wpAnyH Tryd.prog .any ops Q S fuel l' a w → K a w) → o.wp Tryd.prog a w K Q)
    (hs : AllReadyH Tryd.prog .any ops Q S fuel listed a w rs) (ho : ops[i]? = some o := by rfl) (hw : Region.wanted o (yielded ops a.tmps) = true := by kernel_rfl) (hl : listed.setIfInBounds i true = l' := by kernel_rfl) : AllReadyH Tryd.prog .any ops Q S fuel listed a w (i :: rs) :=
  AllReadyH.cons ho (fun K hK => by rw [if_pos hw]; exact h K fun a w hS hW => hK.out a w hS (fun _ => hl ▸ hW)) hs
end
section
variable {o : Oper} {a : Act} {u w : World} {L L' : List Row} {K : Act → World → Prop} {Q : Exit → Act → World → Prop} {S : World → Prop} {M : Act → World → Prop}
theorem k_call (hK : ∀ a w, S w → M a w → K a w) (hO : Own u w L) (hS : ∀ w, Own u w L → S w) (f : FuncId) (args : Array Value) (v : Value) (hc : ∀ w, Ret f args w v)
    (h : ∀ w', Own u w' L → M (a.put o.dst v) w') (hrun : (execOp a.eval o).run Tryd.prog w = .ok (.enter f args) w := by kernel_rfl) : o.wp Tryd.prog a w K Q := o_call hO f args hrun v hc fun w' h' => hK _ _ (hS w' h') (h w' h')
theorem k_new (hK : ∀ a w, S w → M a w → K a w) (hO : Own u w L) (c : Array Value) (t : TypeId) (hrun : ∀ w, (execOp a.eval o).run Tryd.prog w = .ok (.value (.pointer (some ⟨w.heap.size, 0, none⟩))) (w.alloc (.cells c t))) (hf : Fit t c) (hS : ∀ n w, Own u w ((n, c, t) :: L) → S w)
    (h : ∀ n w', Own u w' ((n, c, t) :: L) → M (a.put o.dst (.pointer (some ⟨n, 0, none⟩))) w') : o.wp Tryd.prog a w K Q := o_new hO c t hrun hf fun n w' h' => hK _ _ (hS n w' h') (h n w' h')
theorem k_st (hK : ∀ a w, S w → M a w → K a w) (hO : Own u w L) (ty : TypeId) {x y : Operand} (i : Nat) {b : Nat} {c : Array Value} (hi : L[i]? = some (b, c, ty)) (e : Array Value) (hf : Fit ty e) (hS : ∀ w, Own u w (L.set i (b, e, ty)) → S w)
    (h : ∀ w', Own u w' (L.set i (b, e, ty)) → M a w') (ho : o.op = .store ty x y := by rfl) (hx : a.eval x = .pointer (some ⟨b, 0, none⟩) := by kernel_rfl) (hy : a.eval y = .agg e := by kernel_rfl) (hd : o.dst = none := by rfl) : o.wp Tryd.prog a w K Q := o_st hO ty x y ho i hi e hx hy hf fun w' h' => hK _ _ (hS w' h') (by rw [hd]; exact h w' h')
theorem k_ld (hK : ∀ a w, S w → M a w → K a w) (hO : Own u w L) (hS : S w) (ty : TypeId) {x : Operand} (i : Nat) {b : Nat} {c : Array Value} (hi : L[i]? = some (b, c, ty)) {d : TypeDesc} (hu : Tryd.prog.underlying ty = some d)
    (h : M (a.put o.dst (.agg c)) w) (ho : o.op = .load ty x := by rfl) (hx : a.eval x = .pointer (some ⟨b, 0, none⟩) := by kernel_rfl) (hd : d.isRow = true := by rfl) : o.wp Tryd.prog a w K Q := o_ld hO ty x ho i hi hx d hu hd (hK _ _ hS h)
end
theorem gs {L : List Row} {i : Nat} {r x : Row} (h : L[i]? = some x) : (r :: L)[i + 1]? = some x := by simpa using h
theorem load_k (f : Nat → Nat) (n : Nat) (hf : ∀ i, f i < 256) (hn : nb f 32 % pP = n) (w : World) : Ret 30 #[.agg (vals .u8 32 f)] w (.agg (arr 4 (limb n))) := by subst hn; exact load_c f hf w
/-- Bytes that are written out. -/
def cb (l : List Nat) (i : Nat) : Nat := l.getD i 0
theorem cb_lt (l : List Nat) (h : l.all (· < 256) = true) (i : Nat) : cb l i < 256 := by
  unfold cb
  rw [List.getD_eq_getElem?_getD]
  cases e : l[i]? with
  | none => simp
  | some v =>
    have := List.all_eq_true.1 h v (List.mem_of_getElem? e)
    simpa using this
theorem pt_one : sm 1 1 = 0 := by decide +kernel
theorem sm_am {y : Nat} (hy : y < pP) : am (sm y 1) 1 = y := by
  apply ph_inj (am_lt _ _) hy
  rw [ph_am, ph_sm _ _ one_lt]
  generalize ph y = a
  generalize ph 1 = b
  grind
end Go.Proofs.YtbpmakegimgbpaaDoor

/- What each operation tells of a function's rows in a region where what is laid anew may come up at any time. No conditions but those that each names. -/
import Derived.Test.YtkljpidlfddgbaaOw
import Derived.Test.YtkljpidlfddgbaaRf
namespace Go.Proofs.Ytkljpidlfddgbaa
open Go.RowKit

namespace Rf
open Rg
abbrev OD (u : World) (L : Dn → Nu → List Row) : Dn → Nu → World → Prop := fun D ν w => Own u w (L D ν)
theorem May.nf {ops : Array Oper} {D : Dn} {i k j : Nat} (m : May ops D i) (hj : D j = false) (ha : aft true ops k j = true) : D k = false := by
  cases h : D k with
  | false => rfl
  | true =>
    have := m.cl k j h ha
    rw [hj] at this; cases this
section
variable {ops : Array Oper} {F : Nu → Act} {u : World} {L : Dn → Nu → List Row} {i : Nat} {o : Oper}
/-- What the world tells. -/
theorem fw (v : Nu → Value) (hrun : ∀ D ν w, May ops D i → Own u w (L D ν) → (execOp (F ν).eval o).run Try.prog w = .ok (.value (v ν)) w) (hI : ∀ D ν, L (ins D i) ν = L D ν := by intro D ν; kernel_rfl) (hv : ∀ ν, vof (F ν) o = v ν := by intro ν; kernel_rfl) (hw : ∀ ν, Region.wanted o (yielded ops (F ν).tmps) = true := by intro ν; kernel_rfl) : Ob ops Try.prog F (OD u L) i o :=
  .inl ⟨fun D ν w h => by show Own u w (L (ins D i) ν); rw [hI]; exact h, fun ν => .inl ⟨hw ν, v ν, by rw [← hv ν]; exact put_vof _ _, fun D w m h => hrun D ν w m h⟩⟩
theorem fx (v : Nu → Value) (hrun : ∀ ν w, (execOp (F ν).eval o).run Try.prog w = .ok (.value (v ν)) w) (hI : ∀ D ν, L (ins D i) ν = L D ν := by intro D ν; kernel_rfl) (hv : ∀ ν, vof (F ν) o = v ν := by intro ν; kernel_rfl) (hw : ∀ ν, Region.wanted o (yielded ops (F ν).tmps) = true := by intro ν; kernel_rfl) : Ob ops Try.prog F (OD u L) i o :=
  fw v (fun _ ν w _ _ => hrun ν w) hI hv hw
theorem fv (hrun : ∀ ν w, (execOp (F ν).eval o).run Try.prog w = .ok (.value (vof (F ν) o)) w := by intro ν w; kernel_rfl) (hI : ∀ D ν, L (ins D i) ν = L D ν := by intro D ν; kernel_rfl) (hw : ∀ ν, Region.wanted o (yielded ops (F ν).tmps) = true := by intro ν; kernel_rfl) : Ob ops Try.prog F (OD u L) i o :=
  fx (fun ν => vof (F ν) o) hrun hI (fun _ => rfl) hw
/-- A whole row is loaded. -/
theorem fld (j : Nat) {ty : TypeId} {x : Operand} {d : TypeDesc} (b : Nu → Nat) (c : Nu → Array Value) (hL : ∀ D ν, May ops D i → (L D ν)[j]? = some (b ν, c ν, ty)) (hu : Try.prog.underlying ty = some d) (ho : o.op = .load ty x := by rfl) (hx : ∀ ν, (F ν).eval x = D (b ν) := by intro ν; kernel_rfl) (hd : d.isRow = true := by rfl) (h5 : anyLen ty = false := by rfl)
    (hI : ∀ D ν, L (ins D i) ν = L D ν := by intro D ν; kernel_rfl) (hv : ∀ ν, vof (F ν) o = .agg (c ν) := by intro ν; kernel_rfl) (hw : ∀ ν, Region.wanted o (yielded ops (F ν).tmps) = true := by intro ν; kernel_rfl) : Ob ops Try.prog F (OD u L) i o := by
  refine fw (fun ν => .agg (c ν)) (fun D ν w m hO => ?_) hI hv hw
  have hj := hL D ν m
  have hB := Own.row hO j hj
  have hf := Own.fits hO j hj
  exact run_ldm ty x ho _ 0 (hx ν) d hB.range hu hd (by rw [hf.size h5]; simp)
/-- A call. -/
theorem fq (f : FuncId) (args : Nu → Array Value) (v : Nu → Value) (hc : ∀ D ν w, May ops D i → Own u w (L D ν) → Ret f (args ν) w (v ν)) (hI : ∀ D ν, L (ins D i) ν = L D ν := by intro D ν; kernel_rfl) (hv : ∀ ν, vof (F ν) o = v ν := by intro ν; kernel_rfl) (hrun : ∀ ν w, (execOp (F ν).eval o).run Try.prog w = .ok (.enter f (args ν)) w := by intro ν w; kernel_rfl)
    (hw : ∀ ν, Region.wanted o (yielded ops (F ν).tmps) = true := by intro ν; kernel_rfl) (hF : ∀ ν, (F ν).defers = [] := by intro ν; kernel_rfl) : Ob ops Try.prog F (OD u L) i o := by
  refine .inr fun ν => ⟨hw ν, fun D w m hO => ?_⟩
  unfold Oper.wp
  rw [hrun ν w, Oper.upon_enter]
  refine (hc D ν w m hO).mono fun e w' hh => ?_
  obtain ⟨rfl, hb⟩ := hh
  refine ⟨ν, by rw [put_defers]; exact hF ν, by rw [← hv ν, put_vof], ?_⟩
  show Own u w' (L (ins D i) ν)
  rw [hI]
  exact Own.call hO hb
/-- A new row, of which the operation tells more than its place. -/
theorem fnw (v : Nu → Nat → Value) (c : Nu → Array Value) (ty : TypeId) (hrun : ∀ ν w, (execOp (F ν).eval o).run Try.prog w = .ok (.value (v ν w.heap.size)) (w.alloc (.cells (c ν) ty))) (hf : ∀ ν, Fit ty (c ν)) (hL : ∀ D ν n, May ops D i → (L D ν ++ [(n, c ν, ty)]).Perm (L (ins D i) (up ν i n))) (hm : ∀ ν n, msk ops ((F ν).put o.dst (v ν n)).tmps (deps true ops i) = msk ops (F (up ν i n)).tmps (deps true ops i) := by intro ν n; kernel_rfl)
    (hw : ∀ ν, Region.wanted o (yielded ops (F ν).tmps) = true := by intro ν; kernel_rfl) (hF : ∀ ν, (F ν).defers = [] := by intro ν; kernel_rfl) : Ob ops Try.prog F (OD u L) i o := by
  refine .inr fun ν => ⟨hw ν, fun D w m hO => ?_⟩
  unfold Oper.wp
  rw [hrun ν w, Oper.upon_value]
  refine ⟨up ν i w.heap.size, by rw [put_defers]; exact hF ν, hm ν _, ?_⟩
  show Own u _ (L (ins D i) (up ν i w.heap.size))
  exact (Own.snoc hO (Nat.le_refl _) (Blk.new w _ _) ((Below.refl _ w).alloc (Nat.le_refl _) _) (hf ν)).perm (hL D ν _ m)
/-- A new row. -/
theorem fal (c : Nu → Array Value) (ty : TypeId) (hrun : ∀ ν w, (execOp (F ν).eval o).run Try.prog w = .ok (.value (D w.heap.size)) (w.alloc (.cells (c ν) ty))) (hf : ∀ ν, Fit ty (c ν)) (hL : ∀ D ν n, May ops D i → (L D ν ++ [(n, c ν, ty)]).Perm (L (ins D i) (up ν i n))) (hm : ∀ ν n, msk ops ((F ν).put o.dst (D n)).tmps (deps true ops i) = msk ops (F (up ν i n)).tmps (deps true ops i) := by intro ν n; kernel_rfl)
    (hw : ∀ ν, Region.wanted o (yielded ops (F ν).tmps) = true := by intro ν; kernel_rfl) (hF : ∀ ν, (F ν).defers = [] := by intro ν; kernel_rfl) : Ob ops Try.prog F (OD u L) i o := fnw (fun _ n => D n) c ty hrun hf hL hm hw hF
/-- A whole row is stored. -/
theorem fst (j : Nat) {ty : TypeId} {x y : Operand} (b : Nu → Nat) (c e : Nu → Array Value) (hf : ∀ ν, Fit ty (e ν)) (hj : ∀ D ν, May ops D i → (L D ν)[j]? = some (b ν, c ν, ty)) (hL : ∀ D ν, May ops D i → L (ins D i) ν = (L D ν).set j (b ν, e ν, ty)) (ho : o.op = .store ty x y := by rfl) (hx : ∀ ν, (F ν).eval x = D (b ν) := by intro ν; kernel_rfl) (hy : ∀ ν, (F ν).eval y = .agg (e ν) := by intro ν; kernel_rfl) (hd : o.dst = none := by rfl) (h5 : anyLen ty = false := by rfl)
    (hw : ∀ ν, Region.wanted o (yielded ops (F ν).tmps) = true := by intro ν; kernel_rfl) (hF : ∀ ν, (F ν).defers = [] := by intro ν; kernel_rfl) : Ob ops Try.prog F (OD u L) i o := by
  refine .inr fun ν => ⟨hw ν, fun D w m hO => ?_⟩
  have hj' := hj D ν m
  have hB := Own.row hO j hj'
  refine wp_store_row ty x y ho _ (e ν) (hx ν) (hy ν) ty _ hB ((hf ν).size h5) ?_ (hf ν).one ?_
  · have h1 := (Own.fits hO j hj').size h5
    rw [(hf ν).size h5] at h1
    exact (Option.some.inj h1).symm
  · refine ⟨ν, by rw [put_defers]; exact hF ν, by rw [hd]; rfl, ?_⟩
    show Own u _ (L (ins D i) ν)
    rw [hL D ν m]
    exact Own.put hO j hj' (hB.row (e ν)) (st1_row w _ _) (hf ν)
end
end Rf
end Go.Proofs.Ytkljpidlfddgbaa

/- The contracts of the field's functions, and of the reference's, over whole rows; parts of rows. -/
import Derived.Test.YtbpmakegimgbpaaDoorPa
namespace Go.Proofs.YtbpmakegimgbpaaDoor
open F Go.RowKit

abbrev Ret (f : FuncId) (args : Array Value) (w : World) (v : Value) : Prop := Calls Tryd.prog f args w fun e w' => e = .returned v ∧ Below w.heap.size w w'
theorem add_c (x y : Nat) (hx : x < pP) (hy : y < pP) (w : World) : Ret 36 #[.agg (arr 4 (limb x)), .agg (arr 4 (limb y))] w (.agg (arr 4 (limb (am x y)))) := add_at' x y _ w rfl hx hy
theorem sub_c (x y : Nat) (hx : x < pP) (hy : y < pP) (w : World) : Ret 34 #[.agg (arr 4 (limb x)), .agg (arr 4 (limb y))] w (.agg (arr 4 (limb (sm x y)))) := sub_at' x y _ w rfl hx hy
theorem mul_c (x y : Nat) (hx : x < pP) (hy : y < pP) (w : World) : Ret 37 #[.agg (arr 4 (limb x)), .agg (arr 4 (limb y))] w (.agg (arr 4 (limb (mm x y)))) := mul_mm x y _ w rfl hx hy
theorem sq_c (x : Nat) (hx : x < pP) (w : World) : Ret 32 #[.agg (arr 4 (limb x))] w (.agg (arr 4 (limb (mm x x)))) := square_mm x _ w rfl hx
theorem load_c (f : Nat → Nat) (hf : ∀ i, f i < 256) (w : World) : Ret 30 #[.agg (vals .u8 32 f)] w (.agg (arr 4 (limb (nb f 32 % pP)))) := load_at f _ w rfl hf
theorem inv_c (x : Nat) (hx : x < pP) (w : World) : Ret 82 #[.agg (arr 4 (limb x))] w (.agg (arr 4 (limb (iN x)))) := by
  rw [← iN_inv x hx]; exact inv_any x w hx
theorem bytes_c (x : Nat) (w : World) : Ret 31 #[.agg (arr 4 (limb x))] w (.agg (vals .u8 32 (byt x))) := bytes_at x _ w rfl
theorem neg_c (x : Nat) (hx : x < pP) (w : World) : Ret 42 #[.agg (arr 4 (limb x))] w (.agg (arr 4 (limb (ng x)))) := neg_at x _ w rfl hx
theorem pick_c (x y : Nat) (b : Bool) (w : World) : Ret 41 #[.agg (arr 4 (limb x)), .agg (arr 4 (limb y)), .bool b] w (.agg (arr 4 (limb (cond b x y)))) := by
  have h := pick_at x y b _ w rfl
  cases b
  · exact h
  · exact h
theorem same_c (x y : Nat) (hx : x < pP) (hy : y < pP) (w : World) : Ret 39 #[.agg (arr 4 (limb x)), .agg (arr 4 (limb y))] w (.bool (decide (x = y))) := same_at x y _ w rfl hx hy
theorem odd_c (x : Nat) (w : World) : Ret 59 #[.agg (arr 4 (limb x))] w (.bool (decide (x % 2 = 1))) := odd_at x _ w rfl
theorem ratio_c (u v : Nat) (hu : u < pP) (hv : v < pP) (w : World) : Ret 33 #[.agg (arr 4 (limb u)), .agg (arr 4 (limb v))] w (.tuple #[.agg (arr 4 (limb (rVal u v))), .bool (rOk u v)]) := ratio_at u v _ w rfl hu hv
theorem lt256 {x : Nat} (h : x < pP) : x < 2 ^ 256 := by unfold pP at h; omega
theorem of_lt {n : Nat} (hn : n < 200000) : n < pP := Nat.lt_trans hn (by unfold pP; omega)
theorem one_lt : 1 < pP := of_lt (by omega)
theorem zero_fe : arr 4 (fun _ => 0) = arr 4 (limb 0) := by kernel_rfl

/-! ### Parts -/
theorem part_pt0 (x y : Nat) : Part (ps [x, y]) 0 39 (arr 4 (limb x)) := ⟨by kernel_rfl, by kernel_rfl⟩
theorem part_pt1 (x y : Nat) : Part (ps [x, y]) 4 39 (arr 4 (limb y)) := ⟨by kernel_rfl, by kernel_rfl⟩
theorem part_co0 (x y z : Nat) : Part (ps [x, y, z]) 0 39 (arr 4 (limb x)) := ⟨by kernel_rfl, by kernel_rfl⟩
theorem part_co1 (x y z : Nat) : Part (ps [x, y, z]) 4 39 (arr 4 (limb y)) := ⟨by kernel_rfl, by kernel_rfl⟩
theorem part_co2 (x y z : Nat) : Part (ps [x, y, z]) 8 39 (arr 4 (limb z)) := ⟨by kernel_rfl, by kernel_rfl⟩
theorem part_ruc (x y z t : Nat) : Part (ps [x, y, z, t]) 0 107 (ps [x, y, z]) := ⟨by kernel_rfl, by kernel_rfl⟩
theorem part_ru2 (x y z t : Nat) : Part (ps [x, y, z, t]) 8 39 (arr 4 (limb z)) := ⟨by kernel_rfl, by kernel_rfl⟩
theorem part_ru3 (x y z t : Nat) : Part (ps [x, y, z, t]) 12 39 (arr 4 (limb t)) := ⟨by kernel_rfl, by kernel_rfl⟩
theorem part_mub (f : Nat → Nat) (x y z : Nat) : Part (mu f [x, y, z]) 0 22 (vals .u8 32 f) := ⟨by kernel_rfl, by kernel_rfl⟩
theorem part_mu0 (f : Nat → Nat) (x y z : Nat) : Part (mu f [x, y, z]) 32 39 (arr 4 (limb x)) := ⟨by kernel_rfl, by kernel_rfl⟩
theorem part_mu1 (f : Nat → Nat) (x y z : Nat) : Part (mu f [x, y, z]) 36 39 (arr 4 (limb y)) := ⟨by kernel_rfl, by kernel_rfl⟩
theorem part_mu2 (f : Nat → Nat) (x y z : Nat) : Part (mu f [x, y, z]) 40 39 (arr 4 (limb z)) := ⟨by kernel_rfl, by kernel_rfl⟩
/-! ### What is built -/
theorem bd_pt (x y : Nat) : Tryd.prog.built 41 [(0, .agg (arr 4 (limb x))), (1, .agg (arr 4 (limb y)))] = some (ps [x, y]) := by kernel_rfl
theorem bd_pt0 : Tryd.prog.built 41 [] = some (ps [0, 0]) := by kernel_rfl
theorem bd_fe0 : Tryd.prog.built 39 [] = some (arr 4 (limb 0)) := by kernel_rfl
theorem bd_co (x y z : Nat) : Tryd.prog.built 107 [(0, .agg (arr 4 (limb x))), (1, .agg (arr 4 (limb y))), (2, .agg (arr 4 (limb z)))] = some (ps [x, y, z]) := by kernel_rfl
theorem bd_ad (x y z : Nat) : Tryd.prog.built 81 [(0, .agg (arr 4 (limb x))), (1, .agg (arr 4 (limb y))), (2, .agg (arr 4 (limb z)))] = some (ps [x, y, z]) := by kernel_rfl
theorem bd_ru (x y z t : Nat) : Tryd.prog.built 109 [(0, .agg (ps [x, y, z])), (1, .agg (arr 4 (limb t)))] = some (ps [x, y, z, t]) := by kernel_rfl
theorem bd_mu (f : Nat → Nat) (x y z : Nat) : Tryd.prog.built 84 [(0, .agg (vals .u8 32 f)), (1, .agg (ps [x, y, z]))] = some (mu f [x, y, z]) := by kernel_rfl
/-! ### New rows -/
section
variable {a : Act} {o : Oper}
theorem al27 (ho : o.op = .alloc 39) (w : World) : (execOp a.eval o).run Tryd.prog w = .ok (.value (.pointer (some ⟨w.heap.size, 0, none⟩))) (w.alloc (.cells (arr 4 (limb 0)) 39)) := by unfold execOp; simp only [ho]; kernel_rfl
theorem al22 (ho : o.op = .alloc 22) (w : World) : (execOp a.eval o).run Tryd.prog w = .ok (.value (.pointer (some ⟨w.heap.size, 0, none⟩))) (w.alloc (.cells (vals .u8 32 fun _ => 0) 22)) := by unfold execOp; simp only [ho]; kernel_rfl
theorem al29 (ho : o.op = .alloc 41) (w : World) : (execOp a.eval o).run Tryd.prog w = .ok (.value (.pointer (some ⟨w.heap.size, 0, none⟩))) (w.alloc (.cells (ps [0, 0]) 41)) := by unfold execOp; simp only [ho]; kernel_rfl
theorem al83 (ho : o.op = .alloc 109) (w : World) : (execOp a.eval o).run Tryd.prog w = .ok (.value (.pointer (some ⟨w.heap.size, 0, none⟩))) (w.alloc (.cells (ps [0, 0, 0, 0]) 109)) := by unfold execOp; simp only [ho]; kernel_rfl
theorem al87 (ho : o.op = .alloc 81) (w : World) : (execOp a.eval o).run Tryd.prog w = .ok (.value (.pointer (some ⟨w.heap.size, 0, none⟩))) (w.alloc (.cells (ps [0, 0, 0]) 81)) := by unfold execOp; simp only [ho]; kernel_rfl
theorem al95 (ho : o.op = .alloc 84) (w : World) : (execOp a.eval o).run Tryd.prog w = .ok (.value (.pointer (some ⟨w.heap.size, 0, none⟩))) (w.alloc (.cells (mu (fun _ => 0) [0, 0, 0]) 84)) := by unfold execOp; simp only [ho]; kernel_rfl
theorem run_fld {c e : Array Value} (t ty : TypeId) (x : Operand) (k off : Nat) (fs : Array Field) (f : Field) (d : TypeDesc) (ho : o.op = .field t x k) (hx : a.eval x = .agg c) (hu : Tryd.prog.underlying t = some (.struct fs)) (hf : fs[k]? = some f) (ht : f.type = ty) (hof : f.offset = off) (hu2 : Tryd.prog.underlying ty = some d) (hd : d.isRow = true) (hp : Part c off ty e) (w : World) : (execOp a.eval o).run Tryd.prog w = .ok (.value (.agg e)) w := by
  subst ht hof
  have hagg : ∀ w, (isAgg f.type).run Tryd.prog w = .ok true w := by
    intro w
    unfold isAgg
    rw [Sem.run_bind, run_underlying hu2 w]
    cases d <;> simp_all
  cases hq : Tryd.prog.info? f.type with
  | none => have := hp.size; simp [hq] at this
  | some i =>
    have hs : i.size = e.size := by have := hp.size; simpa [hq] using this
    unfold execOp
    simp only [ho, hx]
    simp [Instr.field, run_underlying hu, hf, part, hagg, sizeOf, typeInfo, hq, hs, hp.eq, asAgg]
end
theorem results_two {P : Program} {fn : Func} {p q : Tmp} {ty ty2 : TypeId} (h : fn.results = #[.cell p ty, .cell q ty2]) (tmps : Array Value) (w : World) (g g2 : Nat) (t t2 : TypeId) (cs cs2 : Array Value) (fr fr2 : Nat × Nat) (d d2 : TypeDesc)
    (hp : tmps.getD p undef = .pointer (some ⟨g, 0, none⟩)) (hg : w.heap[g]? = some (.cells cs t fr))
    (hu : P.underlying ty = some d) (hd : (match d with | .struct _ | .array _ _ => true | _ => false) = true) (hi : (P.info? ty).map (·.size) = some cs.size)
    (hp2 : tmps.getD q undef = .pointer (some ⟨g2, 0, none⟩)) (hg2 : w.heap[g2]? = some (.cells cs2 t2 fr2))
    (hu2 : P.underlying ty2 = some d2) (hd2 : (match d2 with | .struct _ | .array _ _ => true | _ => false) = true) (hi2 : (P.info? ty2).map (·.size) = some cs2.size) :
    (results fn tmps).run P w = .ok (.tuple #[.agg cs, .agg cs2]) w := by
  have hp' : tmps[p]?.getD undef = .pointer (some ⟨g, 0, none⟩) := by simpa using hp
  have hq' : tmps[q]?.getD undef = .pointer (some ⟨g2, 0, none⟩) := by simpa using hp2
  simp [results, h, hp', hq', asAddr, run_loadVar_row w g t ty cs fr d hg hu hd hi, run_loadVar_row w g2 t2 ty2 cs2 fr2 d2 hg2 hu2 hd2 hi2]
theorem results_and {P : Program} {fn : Func} {p q : Tmp} {ty : TypeId} (h : fn.results = #[.cell p ty, .tmp q]) (tmps : Array Value) (w : World) (g : Nat) (t : TypeId) (cs : Array Value) (fr : Nat × Nat) (d : TypeDesc) (v : Value)
    (hp : tmps.getD p undef = .pointer (some ⟨g, 0, none⟩)) (hg : w.heap[g]? = some (.cells cs t fr))
    (hu : P.underlying ty = some d) (hd : (match d with | .struct _ | .array _ _ => true | _ => false) = true) (hi : (P.info? ty).map (·.size) = some cs.size) (hq : tmps.getD q undef = v) :
    (results fn tmps).run P w = .ok (.tuple #[.agg cs, v]) w := by
  have hp' : tmps[p]?.getD undef = .pointer (some ⟨g, 0, none⟩) := by simpa using hp
  have hq' : tmps[q]?.getD undef = v := by simpa using hq
  simp [results, h, hp', hq', asAddr, run_loadVar_row w g t ty cs fr d hg hu hd hi]
end Go.Proofs.YtbpmakegimgbpaaDoor

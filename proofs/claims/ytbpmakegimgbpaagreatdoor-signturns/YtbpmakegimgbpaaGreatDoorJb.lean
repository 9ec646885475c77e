/- Texts in one: Pb Pc. -/
import Derived.Test.YtbpmakegimgbpaaGreatDoorPa
import Derived.Test.YtbpmakegimgbpaaGreatDoorVn
namespace Go.Proofs.YtbpmakegimgbpaaGreatDoor
set_option maxRecDepth 100000
open F Go.RowKit

abbrev Ret (f : FuncId) (args : Array Value) (w : World) (v : Value) : Prop := Calls Tryz.prog f args w fun e w' => e = .returned v ∧ Below w.heap.size w w'
theorem add_c (x y : Nat) (hx : x < pP) (hy : y < pP) (w : World) : Ret 54 #[.agg (arr 4 (limb x)), .agg (arr 4 (limb y))] w (.agg (arr 4 (limb (am x y)))) := add_at' x y _ w rfl hx hy
theorem sub_c (x y : Nat) (hx : x < pP) (hy : y < pP) (w : World) : Ret 52 #[.agg (arr 4 (limb x)), .agg (arr 4 (limb y))] w (.agg (arr 4 (limb (sm x y)))) := sub_at' x y _ w rfl hx hy
theorem mul_c (x y : Nat) (hx : x < pP) (hy : y < pP) (w : World) : Ret 55 #[.agg (arr 4 (limb x)), .agg (arr 4 (limb y))] w (.agg (arr 4 (limb (mm x y)))) := mul_mm x y _ w rfl hx hy
theorem sq_c (x : Nat) (hx : x < pP) (w : World) : Ret 50 #[.agg (arr 4 (limb x))] w (.agg (arr 4 (limb (mm x x)))) := square_mm x _ w rfl hx
theorem load_c (f : Nat → Nat) (hf : ∀ i, f i < 256) (w : World) : Ret 48 #[.agg (vals .u8 32 f)] w (.agg (arr 4 (limb (nb f 32 % pP)))) := load_at f _ w rfl hf
theorem inv_c (x : Nat) (hx : x < pP) (w : World) : Ret 117 #[.agg (arr 4 (limb x))] w (.agg (arr 4 (limb (iN x)))) := by
  rw [← iN_inv x hx]; exact inv_any x w hx
theorem bytes_c (x : Nat) (w : World) : Ret 49 #[.agg (arr 4 (limb x))] w (.agg (vals .u8 32 (byt x))) := bytes_at x _ w rfl
theorem neg_c (x : Nat) (hx : x < pP) (w : World) : Ret 60 #[.agg (arr 4 (limb x))] w (.agg (arr 4 (limb (ng x)))) := neg_at x _ w rfl hx
theorem pick_c (x y : Nat) (b : Bool) (w : World) : Ret 59 #[.agg (arr 4 (limb x)), .agg (arr 4 (limb y)), .bool b] w (.agg (arr 4 (limb (cond b x y)))) := by
  have h := pick_at x y b _ w rfl
  cases b
  · exact h
  · exact h
theorem same_c (x y : Nat) (hx : x < pP) (hy : y < pP) (w : World) : Ret 57 #[.agg (arr 4 (limb x)), .agg (arr 4 (limb y))] w (.bool (decide (x = y))) := same_at x y _ w rfl hx hy
theorem odd_c (x : Nat) (w : World) : Ret 81 #[.agg (arr 4 (limb x))] w (.bool (decide (x % 2 = 1))) := odd_at x _ w rfl
theorem ratio_c (u v : Nat) (hu : u < pP) (hv : v < pP) (w : World) : Ret 51 #[.agg (arr 4 (limb u)), .agg (arr 4 (limb v))] w (.tuple #[.agg (arr 4 (limb (rVal u v))), .bool (rOk u v)]) := ratio_at u v _ w rfl hu hv
theorem radd_c (x y : Nat) (hx : x < pP) (hy : y < pP) (w : World) : Ret 70 #[.agg (vals .u64 16 (F.dg x)), .agg (vals .u64 16 (F.dg y))] w (.agg (vals .u64 16 (F.dg (am x y)))) := refAdd_at x y _ w rfl (lt256 hx) (lt256 hy)
theorem rsub_c (x y : Nat) (hx : x < pP) (hy : y < pP) (w : World) : Ret 68 #[.agg (vals .u64 16 (F.dg x)), .agg (vals .u64 16 (F.dg y))] w (.agg (vals .u64 16 (F.dg (sm x y)))) := by
  have h := refSub_at x y _ w rfl (lt256 hx) (Nat.le_of_lt hy)
  rw [← Nat.add_sub_assoc (Nat.le_of_lt hy)] at h
  exact h
theorem rmul_c (x y : Nat) (hx : x < pP) (hy : y < pP) (w : World) : Ret 67 #[.agg (vals .u64 16 (F.dg x)), .agg (vals .u64 16 (F.dg y))] w (.agg (vals .u64 16 (F.dg (mm x y)))) := refMul_at x y _ w rfl (lt256 hx) (lt256 hy)
theorem rload_c (f : Nat → Nat) (hf : ∀ i, f i < 256) (w : World) : Ret 64 #[.agg (vals .u8 32 f)] w (.agg (vals .u64 16 (F.dg (nb f 32 % pP)))) := refLoad_at f _ w rfl hf
theorem rinv_c (x : Nat) (hx : x < pP) (w : World) : Ret 75 #[.agg (vals .u64 16 (F.dg x))] w (.agg (vals .u64 16 (F.dg (iN x)))) := refInv_at x _ w rfl (lt256 hx)
theorem rbytes_c (x : Nat) (w : World) : Ret 65 #[.agg (vals .u64 16 (F.dg x))] w (.agg (vals .u8 32 (byt x))) := refBytes_at x _ w rfl
theorem rratio_c (u v : Nat) (hu : u < pP) (hv : v < pP) (w : World) : Ret 72 #[.agg (vals .u64 16 (F.dg u)), .agg (vals .u64 16 (F.dg v))] w (.tuple #[.agg (vals .u64 16 (F.dg (rVal u v))), .bool (rOk u v)]) := refRatio_any u v w hu hv
theorem rof_c (n : Nat) (hn : n < 200000) (w : World) : Ret 69 #[.int .u64 (n : Int)] w (.agg (vals .u64 16 (F.dg n))) := by
  have h := refOf2_at n _ w rfl (by omega)
  rw [Nat.mod_eq_of_lt (Nat.lt_trans hn (by unfold pP; omega))] at h
  exact h
theorem of_lt {n : Nat} (hn : n < 200000) : n < pP := Nat.lt_trans hn (by unfold pP; omega)
theorem one_lt : 1 < pP := of_lt (by omega)
/-! ### Parts -/
theorem part_pt0 (x y : Nat) : Part (ps [x, y]) 0 47 (arr 4 (limb x)) := ⟨by kernel_rfl, by kernel_rfl⟩
theorem part_pt1 (x y : Nat) : Part (ps [x, y]) 4 47 (arr 4 (limb y)) := ⟨by kernel_rfl, by kernel_rfl⟩
theorem part_co0 (x y z : Nat) : Part (ps [x, y, z]) 0 47 (arr 4 (limb x)) := ⟨by kernel_rfl, by kernel_rfl⟩
theorem part_co1 (x y z : Nat) : Part (ps [x, y, z]) 4 47 (arr 4 (limb y)) := ⟨by kernel_rfl, by kernel_rfl⟩
theorem part_co2 (x y z : Nat) : Part (ps [x, y, z]) 8 47 (arr 4 (limb z)) := ⟨by kernel_rfl, by kernel_rfl⟩
theorem part_ruc (x y z t : Nat) : Part (ps [x, y, z, t]) 0 141 (ps [x, y, z]) := ⟨by kernel_rfl, by kernel_rfl⟩
theorem part_ru2 (x y z t : Nat) : Part (ps [x, y, z, t]) 8 47 (arr 4 (limb z)) := ⟨by kernel_rfl, by kernel_rfl⟩
theorem part_ru3 (x y z t : Nat) : Part (ps [x, y, z, t]) 12 47 (arr 4 (limb t)) := ⟨by kernel_rfl, by kernel_rfl⟩
theorem part_mub (f : Nat → Nat) (x y z : Nat) : Part (mu f [x, y, z]) 0 22 (vals .u8 32 f) := ⟨by kernel_rfl, by kernel_rfl⟩
theorem part_mu0 (f : Nat → Nat) (x y z : Nat) : Part (mu f [x, y, z]) 32 47 (arr 4 (limb x)) := ⟨by kernel_rfl, by kernel_rfl⟩
theorem part_mu1 (f : Nat → Nat) (x y z : Nat) : Part (mu f [x, y, z]) 36 47 (arr 4 (limb y)) := ⟨by kernel_rfl, by kernel_rfl⟩
theorem part_mu2 (f : Nat → Nat) (x y z : Nat) : Part (mu f [x, y, z]) 40 47 (arr 4 (limb z)) := ⟨by kernel_rfl, by kernel_rfl⟩
theorem part_rp0 (x y : Nat) : Part (qn [x, y]) 0 58 (vals .u64 16 (F.dg x)) := ⟨by kernel_rfl, by kernel_rfl⟩
theorem part_rp1 (x y : Nat) : Part (qn [x, y]) 16 58 (vals .u64 16 (F.dg y)) := ⟨by kernel_rfl, by kernel_rfl⟩
theorem part_wd0 (x y z t : Nat) : Part (qn [x, y, z, t]) 0 58 (vals .u64 16 (F.dg x)) := ⟨by kernel_rfl, by kernel_rfl⟩
theorem part_wd1 (x y z t : Nat) : Part (qn [x, y, z, t]) 16 58 (vals .u64 16 (F.dg y)) := ⟨by kernel_rfl, by kernel_rfl⟩
theorem part_wd2 (x y z t : Nat) : Part (qn [x, y, z, t]) 32 58 (vals .u64 16 (F.dg z)) := ⟨by kernel_rfl, by kernel_rfl⟩
theorem part_wd3 (x y z t : Nat) : Part (qn [x, y, z, t]) 48 58 (vals .u64 16 (F.dg t)) := ⟨by kernel_rfl, by kernel_rfl⟩
/-! ### What is built -/
theorem bd_pt (x y : Nat) : Tryz.prog.built 49 [(0, .agg (arr 4 (limb x))), (1, .agg (arr 4 (limb y)))] = some (ps [x, y]) := by kernel_rfl
theorem bd_pt0 : Tryz.prog.built 49 [] = some (ps [0, 0]) := by kernel_rfl
theorem bd_fe0 : Tryz.prog.built 47 [] = some (arr 4 (limb 0)) := by kernel_rfl
theorem bd_co (x y z : Nat) : Tryz.prog.built 141 [(0, .agg (arr 4 (limb x))), (1, .agg (arr 4 (limb y))), (2, .agg (arr 4 (limb z)))] = some (ps [x, y, z]) := by kernel_rfl
theorem bd_ad (x y z : Nat) : Tryz.prog.built 97 [(0, .agg (arr 4 (limb x))), (1, .agg (arr 4 (limb y))), (2, .agg (arr 4 (limb z)))] = some (ps [x, y, z]) := by kernel_rfl
theorem bd_ru (x y z t : Nat) : Tryz.prog.built 143 [(0, .agg (ps [x, y, z])), (1, .agg (arr 4 (limb t)))] = some (ps [x, y, z, t]) := by kernel_rfl
theorem bd_mu (f : Nat → Nat) (x y z : Nat) : Tryz.prog.built 100 [(0, .agg (vals .u8 32 f)), (1, .agg (ps [x, y, z]))] = some (mu f [x, y, z]) := by kernel_rfl
theorem bd_rp (x y : Nat) : Tryz.prog.built 60 [(0, .agg (vals .u64 16 (F.dg x))), (1, .agg (vals .u64 16 (F.dg y)))] = some (qn [x, y]) := by kernel_rfl
theorem bd_rp1 (y : Nat) : Tryz.prog.built 60 [(1, .agg (vals .u64 16 (F.dg y)))] = some (qn [0, y]) := by kernel_rfl
theorem bd_wd (x y z t : Nat) : Tryz.prog.built 111 [(0, .agg (vals .u64 16 (F.dg x))), (1, .agg (vals .u64 16 (F.dg y))), (2, .agg (vals .u64 16 (F.dg z))), (3, .agg (vals .u64 16 (F.dg t)))] = some (qn [x, y, z, t]) := by kernel_rfl
/-! ### New rows -/
section
variable {a : Act} {o : Oper}
theorem al27 (ho : o.op = .alloc 47) (w : World) : (execOp a.eval o).run Tryz.prog w = .ok (.value (.pointer (some ⟨w.heap.size, 0, none⟩))) (w.alloc (.cells (arr 4 (limb 0)) 47)) := by unfold execOp; simp only [ho]; kernel_rfl
theorem al22 (ho : o.op = .alloc 22) (w : World) : (execOp a.eval o).run Tryz.prog w = .ok (.value (.pointer (some ⟨w.heap.size, 0, none⟩))) (w.alloc (.cells (vals .u8 32 fun _ => 0) 22)) := by unfold execOp; simp only [ho]; kernel_rfl
theorem al29 (ho : o.op = .alloc 49) (w : World) : (execOp a.eval o).run Tryz.prog w = .ok (.value (.pointer (some ⟨w.heap.size, 0, none⟩))) (w.alloc (.cells (ps [0, 0]) 49)) := by unfold execOp; simp only [ho]; kernel_rfl
theorem al83 (ho : o.op = .alloc 143) (w : World) : (execOp a.eval o).run Tryz.prog w = .ok (.value (.pointer (some ⟨w.heap.size, 0, none⟩))) (w.alloc (.cells (ps [0, 0, 0, 0]) 143)) := by unfold execOp; simp only [ho]; kernel_rfl
theorem al87 (ho : o.op = .alloc 97) (w : World) : (execOp a.eval o).run Tryz.prog w = .ok (.value (.pointer (some ⟨w.heap.size, 0, none⟩))) (w.alloc (.cells (ps [0, 0, 0]) 97)) := by unfold execOp; simp only [ho]; kernel_rfl
theorem al95 (ho : o.op = .alloc 100) (w : World) : (execOp a.eval o).run Tryz.prog w = .ok (.value (.pointer (some ⟨w.heap.size, 0, none⟩))) (w.alloc (.cells (mu (fun _ => 0) [0, 0, 0]) 100)) := by unfold execOp; simp only [ho]; kernel_rfl
theorem al33 (ho : o.op = .alloc 58) (w : World) : (execOp a.eval o).run Tryz.prog w = .ok (.value (.pointer (some ⟨w.heap.size, 0, none⟩))) (w.alloc (.cells (vals .u64 16 (F.dg 0)) 58)) := by unfold execOp; simp only [ho]; kernel_rfl
theorem al35 (ho : o.op = .alloc 60) (w : World) : (execOp a.eval o).run Tryz.prog w = .ok (.value (.pointer (some ⟨w.heap.size, 0, none⟩))) (w.alloc (.cells (qn [0, 0]) 60)) := by unfold execOp; simp only [ho]; kernel_rfl
theorem al91 (ho : o.op = .alloc 111) (w : World) : (execOp a.eval o).run Tryz.prog w = .ok (.value (.pointer (some ⟨w.heap.size, 0, none⟩))) (w.alloc (.cells (qn [0, 0, 0, 0]) 111)) := by unfold execOp; simp only [ho]; kernel_rfl
end
theorem results_two {P : Program} {fn : Func} {p q : Tmp} {ty ty2 : TypeId} (h : fn.results = #[.cell p ty, .cell q ty2]) (tmps : Array Value) (w : World) (g g2 : Nat) (t t2 : TypeId) (cs cs2 : Array Value) (fr fr2 : Nat × Nat) (d d2 : TypeDesc)
    (hp : tmps.getD p undef = .pointer (some ⟨g, 0, none⟩)) (hg : w.heap[g]? = some (.cells cs t fr))
    (hu : P.underlying ty = some d) (hd : (match d with | .struct _ | .array _ _ => true | _ => false) = true) (hi : (P.info? ty).map (·.size) = some cs.size)
    (hp2 : tmps.getD q undef = .pointer (some ⟨g2, 0, none⟩)) (hg2 : w.heap[g2]? = some (.cells cs2 t2 fr2))
    (hu2 : P.underlying ty2 = some d2) (hd2 : (match d2 with | .struct _ | .array _ _ => true | _ => false) = true) (hi2 : (P.info? ty2).map (·.size) = some cs2.size) :
    (results fn tmps).run P w = .ok (.tuple #[.agg cs, .agg cs2]) w := by
  have hp' : tmps[p]?.getD undef = .pointer (some ⟨g, 0, none⟩) := by simpa using hp
  have hq' : tmps[q]?.getD undef = .pointer (some ⟨g2, 0, none⟩) := by simpa using hp2
  simp [results, h, hp', hq', asAddr, run_loadVar_row w g t ty cs fr d hg hu hd hi, run_loadVar_row w g2 t2 ty2 cs2 fr2 d2 hg2 hu2 hd2 hi2]
theorem results_and {P : Program} {fn : Func} {p q : Tmp} {ty : TypeId} (h : fn.results = #[.cell p ty, .tmp q]) (tmps : Array Value) (w : World) (g : Nat) (t : TypeId) (cs : Array Value) (fr : Nat × Nat) (d : TypeDesc) (v : Value)
    (hp : tmps.getD p undef = .pointer (some ⟨g, 0, none⟩)) (hg : w.heap[g]? = some (.cells cs t fr))
    (hu : P.underlying ty = some d) (hd : (match d with | .struct _ | .array _ _ => true | _ => false) = true) (hi : (P.info? ty).map (·.size) = some cs.size) (hq : tmps.getD q undef = v) :
    (results fn tmps).run P w = .ok (.tuple #[.agg cs, v]) w := by
  have hp' : tmps[p]?.getD undef = .pointer (some ⟨g, 0, none⟩) := by simpa using hp
  have hq' : tmps[q]?.getD undef = v := by simpa using hq
  simp [results, h, hp', hq', asAddr, run_loadVar_row w g t ty cs fr d hg hu hd hi]
end Go.Proofs.YtbpmakegimgbpaaGreatDoor
namespace Go.Proofs.YtbpmakegimgbpaaGreatDoor
set_option maxRecDepth 100000
open F Go.RowKit

abbrev A (c : Array Value) : Value := .agg c
abbrev D (n : Nat) : Value := .pointer (some ⟨n, 0, none⟩)
abbrev Fr (l zz : List Value) : Act := { tmps := List.toArray (l ++ zz), defers := [] }
/-- Which of n operations are done. -/
def ls (n m : Nat) : Array Bool := ((List.range n).map fun i => m.testBit i).toArray
section
variable {o : Oper} {a : Act} {u w : World} {L : List Row} {Q : Exit → Act → World → Prop} {ops : Array Oper} {rest : List Oper}
theorem l_any (hg : Region.wanted o (yielded ops a.tmps) = true) (h : ∀ K : Act → World → Prop, (∀ a w, wpList Tryz.prog ops Q rest a w → K a w) → o.wp Tryz.prog a w K Q) : wpList Tryz.prog ops Q (o :: rest) a w :=
  wpList_step fun K hK => by rw [if_pos hg]; exact h K hK
theorem l_call (hO : Own u w L) (f : FuncId) (args : Array Value) (v : Value) (hc : ∀ w, Ret f args w v) (h : ∀ w', Own u w' L → wpList Tryz.prog ops Q rest (a.put o.dst v) w')
    (hrun : (execOp a.eval o).run Tryz.prog w = .ok (.enter f args) w := by kernel_rfl) (hg : Region.wanted o (yielded ops a.tmps) = true := by kernel_rfl) : wpList Tryz.prog ops Q (o :: rest) a w :=
  l_any hg fun _ hK => o_call hO f args hrun v hc fun w' h' => hK _ _ (h w' h')
theorem l_new (hO : Own u w L) (c : Array Value) (t : TypeId) (hrun : ∀ w, (execOp a.eval o).run Tryz.prog w = .ok (.value (.pointer (some ⟨w.heap.size, 0, none⟩))) (w.alloc (.cells c t))) (hf : Fit t c)
    (h : ∀ n w', Own u w' ((n, c, t) :: L) → wpList Tryz.prog ops Q rest (a.put o.dst (.pointer (some ⟨n, 0, none⟩))) w') (hg : Region.wanted o (yielded ops a.tmps) = true := by kernel_rfl) : wpList Tryz.prog ops Q (o :: rest) a w :=
  l_any hg fun _ hK => o_new hO c t hrun hf fun n w' h' => hK _ _ (h n w' h')
theorem l_val (v : Value) (hrun : (execOp a.eval o).run Tryz.prog w = .ok (.value v) w) (h : wpList Tryz.prog ops Q rest (a.put o.dst v) w) (hg : Region.wanted o (yielded ops a.tmps) = true := by kernel_rfl) : wpList Tryz.prog ops Q (o :: rest) a w :=
  l_any hg fun _ hK => o_val v hrun (hK _ _ h)
theorem l_st (hO : Own u w L) (ty : TypeId) {x y : Operand} (i : Nat) {b : Nat} {c : Array Value} (hi : L[i]? = some (b, c, ty)) (e : Array Value) (hf : Fit ty e)
    (h : ∀ w', Own u w' (L.set i (b, e, ty)) → wpList Tryz.prog ops Q rest a w') (ho : o.op = .store ty x y := by rfl) (hx : a.eval x = .pointer (some ⟨b, 0, none⟩) := by kernel_rfl) (hy : a.eval y = .agg e := by kernel_rfl) (hd : o.dst = none := by rfl) (hg : Region.wanted o (yielded ops a.tmps) = true := by kernel_rfl) : wpList Tryz.prog ops Q (o :: rest) a w :=
  l_any hg fun _ hK => o_st hO ty x y ho i hi e hx hy hf fun w' h' => hK _ _ (by rw [hd]; exact h w' h')
theorem l_ld (hO : Own u w L) (ty : TypeId) {x : Operand} (i : Nat) {b : Nat} {c : Array Value} (hi : L[i]? = some (b, c, ty)) {d : TypeDesc} (hu : Tryz.prog.underlying ty = some d)
    (h : wpList Tryz.prog ops Q rest (a.put o.dst (.agg c)) w) (ho : o.op = .load ty x := by rfl) (hx : a.eval x = .pointer (some ⟨b, 0, none⟩) := by kernel_rfl) (hd : d.isRow = true := by rfl) (hg : Region.wanted o (yielded ops a.tmps) = true := by kernel_rfl) : wpList Tryz.prog ops Q (o :: rest) a w :=
  l_any hg fun _ hK => o_ld hO ty x ho i hi hx d hu hd (hK _ _ h)
theorem l_part (hO : Own u w L) (ty : TypeId) {x : Operand} (i : Nat) {b off : Nat} {c : Array Value} {t : TypeId} (hi : L[i]? = some (b, c, t)) {e : Array Value} (hp : Part c off ty e) {d : TypeDesc} (hu : Tryz.prog.underlying ty = some d)
    (h : wpList Tryz.prog ops Q rest (a.put o.dst (.agg e)) w) (ho : o.op = .load ty x := by rfl) (hx : a.eval x = .pointer (some ⟨b, off, none⟩) := by kernel_rfl) (hd : d.isRow = true := by rfl) (hg : Region.wanted o (yielded ops a.tmps) = true := by kernel_rfl) : wpList Tryz.prog ops Q (o :: rest) a w :=
  l_any hg fun _ hK => o_part hO ty x ho i hi hx hp d hu hd (hK _ _ h)

variable {S : World → Prop} {fuel : Nat} {listed l' : Array Bool}
theorem d_tk (i : Nat) (o : Oper) (v : Value) (hQ : ∀ c a w n v, Q (.panic c) (a.put (some n) v) w → Q (.panic c) a w) (hy : YieldsIf Tryz.prog ops S o v a) (hS : S w) (h : wpAnyH Tryz.prog .any ops Q S fuel (listed.setIfInBounds i true) (a.put o.dst v) w) {k : Nat}
    (hi : ops[i]? = some o := by rfl) (hk : o.dst = some k := by rfl) (hs : Region.noSelect ops = true := by kernel_rfl) (hf : Region.free .any ops listed i = true := by kernel_rfl) (hr : (Region.ready .any ops listed).contains i = true := by kernel_rfl) : wpAnyH Tryz.prog .any ops Q S (fuel + 1) listed a w :=
  wpAnyH_take hi hs hf hr (fun _ _ _ => by rw [hk]; exact hQ _ _ _ _ _) hy hS h
theorem l_fr {l : List Oper} (a' : Act) (h : wpList Tryz.prog ops Q l a' w) (ha : a = a' := by kernel_rfl) : wpList Tryz.prog ops Q l a w := ha ▸ h
theorem d_fr (l' : Array Bool) (a' : Act) (h : wpAnyH Tryz.prog .any ops Q S fuel l' a' w) (hl : listed = l' := by kernel_rfl) (ha : a = a' := by kernel_rfl) : wpAnyH Tryz.prog .any ops Q S fuel listed a w := hl ▸ ha ▸ h
theorem y_val {v : Value} (h : ∀ w, (execOp a.eval o).run Tryz.prog w = .ok (.value v) w) (hg : Region.wanted o (yielded ops a.tmps) = true := by kernel_rfl) : YieldsIf Tryz.prog ops S o v a := Or.inl ⟨hg, fun w _ => h w⟩
theorem y_l (ty : TypeId) {x : Operand} {b : Nat} {c : Array Value} (hB : ∀ w, S w → Blk w b c ty) (hf : Fit ty c) {d : TypeDesc} (hu : Tryz.prog.underlying ty = some d) (ho : o.op = .load ty x := by rfl) (hx : a.eval x = .pointer (some ⟨b, 0, none⟩) := by kernel_rfl) (hd : d.isRow = true := by rfl) (hw : Region.wanted o (yielded ops a.tmps) = true := by kernel_rfl) : YieldsIf Tryz.prog ops S o (.agg c) a :=
  y_ld ty x ho hB hf hw hx d hu hd
theorem d_one (i : Nat) (o : Oper) (l' : Array Bool) (h : ∀ K : Act → World → Prop, (∀ a w, S w → wpAnyH Tryz.prog .any ops Q S fuel l' a w → K a w) → o.wp Tryz.prog a w K Q)
    (hr : Region.ready .any ops listed = [i] := by kernel_rfl) (ho : ops[i]? = some o := by rfl) (hw : Region.wanted o (yielded ops a.tmps) = true := by kernel_rfl) (hl : listed.setIfInBounds i true = l' := by kernel_rfl) : wpAnyH Tryz.prog .any ops Q S (fuel + 1) listed a w := by
  refine wpAnyH_ready hr (by simp) (AllReadyH.cons ho (fun K hK => ?_) AllReadyH.nil)
  rw [if_pos hw]
  exact h K fun a w hS hW => hK.out a w hS (fun _ => hl ▸ hW)
/-- One of several that may come up. -/
theorem d_cons {rs : List Nat} (i : Nat) (o : Oper) (l' : Array Bool) (h : ∀ K : Act → World → Prop, (∀ a w, S w → wpAnyH Tryz.prog .any ops Q S fuel l' a w → K a w) → o.wp Tryz.prog a w K Q)
    (hs : AllReadyH Tryz.prog .any ops Q S fuel listed a w rs) (ho : ops[i]? = some o := by rfl) (hw : Region.wanted o (yielded ops a.tmps) = true := by kernel_rfl) (hl : listed.setIfInBounds i true = l' := by kernel_rfl) : AllReadyH Tryz.prog .any ops Q S fuel listed a w (i :: rs) :=
  AllReadyH.cons ho (fun K hK => by rw [if_pos hw]; exact h K fun a w hS hW => hK.out a w hS (fun _ => hl ▸ hW)) hs
end
section
variable {o : Oper} {a : Act} {u w : World} {L L' : List Row} {K : Act → World → Prop} {Q : Exit → Act → World → Prop} {S : World → Prop} {M : Act → World → Prop}
theorem k_call (hK : ∀ a w, S w → M a w → K a w) (hO : Own u w L) (hS : ∀ w, Own u w L → S w) (f : FuncId) (args : Array Value) (v : Value) (hc : ∀ w, Ret f args w v)
    (h : ∀ w', Own u w' L → M (a.put o.dst v) w') (hrun : (execOp a.eval o).run Tryz.prog w = .ok (.enter f args) w := by kernel_rfl) : o.wp Tryz.prog a w K Q := o_call hO f args hrun v hc fun w' h' => hK _ _ (hS w' h') (h w' h')
theorem k_new (hK : ∀ a w, S w → M a w → K a w) (hO : Own u w L) (c : Array Value) (t : TypeId) (hrun : ∀ w, (execOp a.eval o).run Tryz.prog w = .ok (.value (.pointer (some ⟨w.heap.size, 0, none⟩))) (w.alloc (.cells c t))) (hf : Fit t c) (hS : ∀ n w, Own u w ((n, c, t) :: L) → S w)
    (h : ∀ n w', Own u w' ((n, c, t) :: L) → M (a.put o.dst (.pointer (some ⟨n, 0, none⟩))) w') : o.wp Tryz.prog a w K Q := o_new hO c t hrun hf fun n w' h' => hK _ _ (hS n w' h') (h n w' h')
theorem k_st (hK : ∀ a w, S w → M a w → K a w) (hO : Own u w L) (ty : TypeId) {x y : Operand} (i : Nat) {b : Nat} {c : Array Value} (hi : L[i]? = some (b, c, ty)) (e : Array Value) (hf : Fit ty e) (hS : ∀ w, Own u w (L.set i (b, e, ty)) → S w)
    (h : ∀ w', Own u w' (L.set i (b, e, ty)) → M a w') (ho : o.op = .store ty x y := by rfl) (hx : a.eval x = .pointer (some ⟨b, 0, none⟩) := by kernel_rfl) (hy : a.eval y = .agg e := by kernel_rfl) (hd : o.dst = none := by rfl) : o.wp Tryz.prog a w K Q := o_st hO ty x y ho i hi e hx hy hf fun w' h' => hK _ _ (hS w' h') (by rw [hd]; exact h w' h')
theorem k_ld (hK : ∀ a w, S w → M a w → K a w) (hO : Own u w L) (hS : S w) (ty : TypeId) {x : Operand} (i : Nat) {b : Nat} {c : Array Value} (hi : L[i]? = some (b, c, ty)) {d : TypeDesc} (hu : Tryz.prog.underlying ty = some d)
    (h : M (a.put o.dst (.agg c)) w) (ho : o.op = .load ty x := by rfl) (hx : a.eval x = .pointer (some ⟨b, 0, none⟩) := by kernel_rfl) (hd : d.isRow = true := by rfl) : o.wp Tryz.prog a w K Q := o_ld hO ty x ho i hi hx d hu hd (hK _ _ hS h)
end
theorem gs {L : List Row} {i : Nat} {r x : Row} (h : L[i]? = some x) : (r :: L)[i + 1]? = some x := by simpa using h
theorem load_k (f : Nat → Nat) (n : Nat) (hf : ∀ i, f i < 256) (hn : nb f 32 % pP = n) (w : World) : Ret 48 #[.agg (vals .u8 32 f)] w (.agg (arr 4 (limb n))) := by subst hn; exact load_c f hf w
/-- Bytes that are written out. -/
def cb (l : List Nat) (i : Nat) : Nat := l.getD i 0
theorem cb_lt (l : List Nat) (h : l.all (· < 256) = true) (i : Nat) : cb l i < 256 := by
  unfold cb
  rw [List.getD_eq_getElem?_getD]
  cases e : l[i]? with
  | none => simp
  | some v =>
    have := List.all_eq_true.1 h v (List.mem_of_getElem? e)
    simpa using this
theorem pt_one : sm 1 1 = 0 := by decide +kernel
theorem sm_am {y : Nat} (hy : y < pP) : am (sm y 1) 1 = y := by
  apply ph_inj (am_lt _ _) hy
  rw [ph_am, ph_sm _ _ one_lt]
  generalize ph y = a
  generalize ph 1 = b
  grind
end Go.Proofs.YtbpmakegimgbpaaGreatDoor

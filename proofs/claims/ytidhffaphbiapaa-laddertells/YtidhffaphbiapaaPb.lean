/- The contracts of the field's functions, and of the reference's, over whole rows. -/
import Derived.Test.YtidhffaphbiapaaPa
import Derived.Test.YtidhffaphbiapaaEe
namespace Go.Proofs.Ytidhffaphbiapaa
open F Go.RowKit

abbrev Ret (f : FuncId) (args : Array Value) (w : World) (v : Value) : Prop := Calls Try.prog f args w fun e w' => e = .returned v ∧ Below w.heap.size w w'
theorem lt256 {x : Nat} (h : x < pP) : x < 2 ^ 256 := Nat.lt_trans h pP_lt
theorem add_c (x y : Nat) (w : World) (hx : x < pP) (hy : y < pP) : Ret 24 #[.agg (arr 4 (limb x)), .agg (arr 4 (limb y))] w (.agg (arr 4 (limb (am x y)))) := add_at' x y _ w rfl hx hy
theorem sub_c (x y : Nat) (w : World) (hx : x < pP) (hy : y < pP) : Ret 26 #[.agg (arr 4 (limb x)), .agg (arr 4 (limb y))] w (.agg (arr 4 (limb (sm x y)))) := sub_at' x y _ w rfl hx hy
theorem mul_c (x y : Nat) (w : World) (hx : x < pP) (hy : y < pP) : Ret 25 #[.agg (arr 4 (limb x)), .agg (arr 4 (limb y))] w (.agg (arr 4 (limb (mm x y)))) := mul_mm x y _ w rfl hx hy
theorem sq_c (x : Nat) (w : World) (hx : x < pP) : Ret 23 #[.agg (arr 4 (limb x))] w (.agg (arr 4 (limb (mm x x)))) := square_mm x _ w rfl hx
theorem load_c (f : Nat → Nat) (w : World) (hf : ∀ i, f i < 256) : Ret 13 #[.agg (vals .u8 32 f)] w (.agg (arr 4 (limb (nb f 32 % pP)))) := load_at f _ w rfl hf
theorem inv_c (x : Nat) (w : World) (hx : x < pP) : Ret 27 #[.agg (arr 4 (limb x))] w (.agg (arr 4 (limb (iN x)))) := by
  rw [← iN_inv x hx]; exact inv_any x w hx
theorem bytes_c (x : Nat) (w : World) : Ret 14 #[.agg (arr 4 (limb x))] w (.agg (vals .u8 32 (byt x))) := bytes_at x _ w rfl
theorem neg_c (x : Nat) (w : World) (hx : x < pP) : Ret 15 #[.agg (arr 4 (limb x))] w (.agg (arr 4 (limb (ng x)))) := neg_at x _ w rfl hx
theorem pick_c (x y : Nat) (b : Bool) (w : World) : Ret 19 #[.agg (arr 4 (limb x)), .agg (arr 4 (limb y)), .bool b] w (.agg (arr 4 (limb (cond b x y)))) := by
  have h := pick_at x y b _ w rfl
  cases b
  · exact h
  · exact h
theorem radd_c (x y : Nat) (w : World) (hx : x < pP) (hy : y < pP) : Ret 30 #[.agg (vals .u64 16 (dg x)), .agg (vals .u64 16 (dg y))] w (.agg (vals .u64 16 (dg (am x y)))) := refAdd_at x y _ w rfl (lt256 hx) (lt256 hy)
theorem rsub_c (x y : Nat) (w : World) (hx : x < pP) (hy : y < pP) : Ret 31 #[.agg (vals .u64 16 (dg x)), .agg (vals .u64 16 (dg y))] w (.agg (vals .u64 16 (dg (sm x y)))) := by
  have h := refSub_at x y _ w rfl (lt256 hx) (Nat.le_of_lt hy)
  rw [← Nat.add_sub_assoc (Nat.le_of_lt hy)] at h
  exact h
theorem rmul_c (x y : Nat) (w : World) (hx : x < pP) (hy : y < pP) : Ret 32 #[.agg (vals .u64 16 (dg x)), .agg (vals .u64 16 (dg y))] w (.agg (vals .u64 16 (dg (mm x y)))) := refMul_at x y _ w rfl (lt256 hx) (lt256 hy)
theorem rload_c (f : Nat → Nat) (w : World) (hf : ∀ i, f i < 256) : Ret 28 #[.agg (vals .u8 32 f)] w (.agg (vals .u64 16 (dg (nb f 32 % pP)))) := refLoad_at f _ w rfl hf
theorem rinv_c (x : Nat) (w : World) (hx : x < pP) : Ret 34 #[.agg (vals .u64 16 (dg x))] w (.agg (vals .u64 16 (dg (iN x)))) := refInv_at x _ w rfl (lt256 hx)
theorem rbytes_c (x : Nat) (w : World) : Ret 33 #[.agg (vals .u64 16 (dg x))] w (.agg (vals .u8 32 (byt x))) := refBytes_at x _ w rfl
theorem rof0_c (w : World) : Ret 29 #[.int .u64 0] w (.agg (vals .u64 16 (dg 0))) := refOf2_at 0 _ w rfl (by omega)
theorem rof1_c (w : World) : Ret 29 #[.int .u64 1] w (.agg (vals .u64 16 (dg 1))) := by
  have h := refOf2_at 1 _ w rfl (by omega)
  rw [one_mod] at h
  exact h
theorem kk_lt : 121665 < pP := by unfold pP; omega
theorem rofk_c (w : World) : Ret 29 #[.int .u64 121665] w (.agg (vals .u64 16 (dg 121665))) := by
  have h := refOf2_at 121665 _ w rfl (by omega)
  rw [Nat.mod_eq_of_lt kk_lt] at h
  exact h
theorem results_two {P : Program} {fn : Func} {p q : Tmp} {ty ty2 : TypeId} (h : fn.results = #[.cell p ty, .cell q ty2]) (tmps : Array Value) (w : World) (g g2 : Nat) (t t2 : TypeId) (cs cs2 : Array Value) (fr fr2 : Nat × Nat) (d d2 : TypeDesc)
    (hp : tmps.getD p undef = .pointer (some ⟨g, 0, none⟩)) (hg : w.heap[g]? = some (.cells cs t fr))
    (hu : P.underlying ty = some d) (hd : (match d with | .struct _ | .array _ _ => true | _ => false) = true) (hi : (P.info? ty).map (·.size) = some cs.size)
    (hp2 : tmps.getD q undef = .pointer (some ⟨g2, 0, none⟩)) (hg2 : w.heap[g2]? = some (.cells cs2 t2 fr2))
    (hu2 : P.underlying ty2 = some d2) (hd2 : (match d2 with | .struct _ | .array _ _ => true | _ => false) = true) (hi2 : (P.info? ty2).map (·.size) = some cs2.size) :
    (results fn tmps).run P w = .ok (.tuple #[.agg cs, .agg cs2]) w := by
  have hp' : tmps[p]?.getD undef = .pointer (some ⟨g, 0, none⟩) := by simpa using hp
  have hq' : tmps[q]?.getD undef = .pointer (some ⟨g2, 0, none⟩) := by simpa using hp2
  simp [results, h, hp', hq', asAddr, run_loadVar_row w g t ty cs fr d hg hu hd hi, run_loadVar_row w g2 t2 ty2 cs2 fr2 d2 hg2 hu2 hd2 hi2]
theorem results_and {P : Program} {fn : Func} {p q : Tmp} {ty : TypeId} (h : fn.results = #[.cell p ty, .tmp q]) (tmps : Array Value) (w : World) (g : Nat) (t : TypeId) (cs : Array Value) (fr : Nat × Nat) (d : TypeDesc) (v : Value)
    (hp : tmps.getD p undef = .pointer (some ⟨g, 0, none⟩)) (hg : w.heap[g]? = some (.cells cs t fr))
    (hu : P.underlying ty = some d) (hd : (match d with | .struct _ | .array _ _ => true | _ => false) = true) (hi : (P.info? ty).map (·.size) = some cs.size) (hq : tmps.getD q undef = v) :
    (results fn tmps).run P w = .ok (.tuple #[.agg cs, v]) w := by
  have hp' : tmps[p]?.getD undef = .pointer (some ⟨g, 0, none⟩) := by simpa using hp
  have hq' : tmps[q]?.getD undef = v := by simpa using hq
  simp [results, h, hp', hq', asAddr, run_loadVar_row w g t ty cs fr d hg hu hd hi]
end Go.Proofs.Ytidhffaphbiapaa

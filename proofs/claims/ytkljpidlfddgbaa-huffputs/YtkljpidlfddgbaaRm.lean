/- More of regions where what is laid anew may come up at any time: append, a last operation that lays a variable anew. No conditions but those that each names. -/
import Derived.Test.YtkljpidlfddgbaaOf
import Derived.Test.YtkljpidlfddgbaaRl
import Derived.Test.YtkljpidlfddgbaaBm
namespace Go.Proofs.Ytkljpidlfddgbaa
set_option maxRecDepth 100000
open Go.RowKit Rg B


namespace Rf
section
variable {P : Program} {ops : Array Oper} {I : Dn → Nu → World → Prop} {Q : Exit → Act → World → Prop}
/-- A region that draws its order, where what is laid anew may come up at any time, and lays a variable anew at its end. -/
theorem plf {id : Nat} {a0 : Act} {w : World} (l : Nat) {ol : Oper} {d : Tmp} {x : Operand} (ds : Nu → List (Nat × Value)) (I : Dn → Nu → World → Prop) (ν : Nu) (h0 : I (fun _ => false) ν w.drew) (hob : Rg.All (Ob (Rg.mute ops l) P (fun ν => Rg.putL a0 (ds ν)) I) 0 (Rg.muteL l 0 ops.toList)) (v : Nu → Value) (H : ∀ D ν w', (∀ i, i < ops.size → D i = true) → I D ν w' → Q .normal ((Rg.putL a0 (ds ν)).put (some d) (v ν)) w') (hv : ∀ ν, (Rg.putL a0 (ds ν)).eval x = v ν := by intro ν; kernel_rfl)
    (hol : ops[l]? = some ol := by rfl) (hop : ol.op = .assign x := by rfl) (hdl : ol.dst = some d := by rfl) (hg : ol.guard = none := by rfl) (hlast : Rg.lastB ops l = true := by kernel_rfl)
    (hm : P.follows .mixedOrders = true := by kernel_rfl) (hc : Rg.chk true (Rg.mute ops l) = true := by kernel_rfl) (hd : a0.defers = [] := by kernel_rfl)
    (hks : ∀ ν, ((ds ν).all fun p => (Rg.dsts (Rg.mute ops l)).contains p.1) = true := by intro ν; kernel_rfl) : (Code.region id ops true).wp P Q a0 w := by
  have hll : l < ops.size := (Array.getElem?_eq_some_iff.1 hol).1
  unfold Rg.lastB at hlast
  rw [Bool.and_eq_true] at hlast
  obtain ⟨hl1, hl2⟩ := hlast
  refine wp_region_any hm (Rg.last_go (d := d) (x := x) ?_ hol hop hdl hg ?_ ?_ _ _ _ _ (by simp) (by simp [hll]) ?_)
  · intro i o ho e he hb
    by_cases hil : i = l
    · subst hil
      exact (Rg.chk_at hc (Rg.mute_at ho)).2.2 rfl e he hb
    · exact (Rg.chk_at hc ((Rg.mute_ne hil).trans ho)).2.2 rfl e he hb
  · intro j hj hne
    have h1 := List.all_eq_true.1 hl1 j (List.mem_range.2 (by rw [Array.length_toList]; exact hj))
    rw [Bool.or_eq_true] at h1
    rcases h1 with h1 | h1
    · exact (hne (Nat.eq_of_beq_eq_true h1)).elim
    · unfold Rg.aft at h1
      rw [if_pos rfl, Array.getElem?_toList, hol] at h1
      simp only [Option.map_some, Option.getD_some, List.any_eq_true, Bool.and_eq_true, beq_iff_eq] at h1
      obtain ⟨e, he, hb, hj⟩ := h1
      exact ⟨e, by simpa using he, hb, hj⟩
  · intro i o g b ho hgo hgl
    have h1 := List.all_eq_true.1 hl2 o (by simpa using Array.mem_of_getElem? ho)
    rw [hgo] at h1
    subst hgl
    simp at h1
  · have hsz : (Rg.mute ops l).size = ops.size := Rg.mute_size l
    have hz : ∀ j, (Array.replicate ops.size false).getD j false = false := Rg.reps _
    refine any (Q := Rg.QL Q d x) hc (fun ν => (Rg.putL_defers _ _).trans hd) (show Rg.All _ 0 (Rg.mute ops l).toList from hob) (fun D ν w' hall hI => (by show Q .normal _ _; rw [hv ν]; exact H D ν w' (fun i hi => hall i (by rw [hsz]; exact hi)) hI)) ops.size (Array.replicate ops.size false) a0 _ (by unfold Rg.left; simp [List.countP_replicate]) ⟨by simp [hsz], fun i j hi => (by rw [hz i] at hi; cases hi), ν, hd, (Rg.putL_size _ _).symm, fun k hk => ?_, ?_⟩
    · refine (Rg.putL_get a0 k (ds ν) fun p hp e => ?_).symm
      have h1 := List.all_eq_true.1 (hks ν) p hp
      simp only [List.contains_iff_mem, Rg.dsts, List.mem_filterMap] at h1
      obtain ⟨j, _, hj⟩ := h1
      have := hk j (hj.trans (congrArg some e))
      rw [hz j] at this; cases this
    · rw [show (fun j => (Array.replicate ops.size false).getD j false) = fun _ => false from funext hz]
      exact h0
end
section
open Rg
variable {ops : Array Oper} {F : Nu → Act} {u : World} {L : Dn → Nu → List Row} {i : Nat} {o : Oper}
/-- A cell of the base world. -/
theorem fca (v : Value) {ty : TypeId} {x : Operand} {ad : Addr} (hc : ∀ w, Below u.heap.size u w → w.cell? ad = some v) (hu : ∀ w, (isAgg ty).run Try.prog w = .ok false w) (ho : o.op = .load ty x := by rfl) (hx : ∀ ν, (F ν).eval x = .pointer (some ad) := by intro ν; kernel_rfl)
    (hI : ∀ D ν, L (ins D i) ν = L D ν := by intro D ν; kernel_rfl) (hv : ∀ ν, vof (F ν) o = v := by intro ν; kernel_rfl) (hw : ∀ ν, Region.wanted o (yielded ops (F ν).tmps) = true := by intro ν; kernel_rfl) : Ob ops Try.prog F (OD u L) i o :=
  fw (fun _ => v) (fun _ ν w _ hO => ld_addr ty hu ho (hx ν) (hc w (Own.low hO))) hI hv hw
/-- An older row is loaded. -/
theorem flr {ty t : TypeId} {x : Operand} {bk : Nat} {d : TypeDesc} (c : Array Value) (hB : Blk u bk c t) (hs : (Try.prog.info? ty).map (·.size) = some c.toList.length) (hu : Try.prog.underlying ty = some d) (ho : o.op = .load ty x := by rfl) (hx : ∀ ν, (F ν).eval x = D bk := by intro ν; kernel_rfl) (hd : d.isRow = true := by rfl)
    (hI : ∀ D ν, L (ins D i) ν = L D ν := by intro D ν; kernel_rfl) (hv : ∀ ν, vof (F ν) o = .agg c := by intro ν; kernel_rfl) (hw : ∀ ν, Region.wanted o (yielded ops (F ν).tmps) = true := by intro ν; kernel_rfl) : Ob ops Try.prog F (OD u L) i o :=
  fw (fun _ => .agg c) (fun _ ν _ _ hO => run_ldm ty x ho bk 0 (hx ν) d ((hB.call (Own.low hO)).range) hu hd hs) hI hv hw
/-- An operation that tells nothing. -/
theorem fmu (v : Nu → Value) (hrun : ∀ ν w, (execOp (F ν).eval o).run Try.prog w = .ok (.value (v ν)) w := by intro ν w; kernel_rfl) (hd : o.dst = none := by rfl) (hI : ∀ D ν, L (ins D i) ν = L D ν := by intro D ν; kernel_rfl) (hw : ∀ ν, Region.wanted o (yielded ops (F ν).tmps) = true := by intro ν; kernel_rfl) : Ob ops Try.prog F (OD u L) i o :=
  .inl ⟨fun D ν w h => by show Own u w (L (ins D i) ν); rw [hI]; exact h, fun ν => .inl ⟨hw ν, v ν, by rw [hd]; rfl, fun D w m h => hrun ν w⟩⟩
/-- A whole row is stored, of a type whose rows may have any length. -/
theorem fst2 (j : Nat) {ty : TypeId} {x y : Operand} (b : Nu → Nat) (c e : Nu → Array Value) (hf : ∀ ν, Fit ty (e ν) ∧ (Try.prog.info? ty).map (·.size) = some (e ν).size ∧ (c ν).size = (e ν).size) (hj : ∀ D ν, May ops D i → (L D ν)[j]? = some (b ν, c ν, ty)) (hL : ∀ D ν, May ops D i → L (ins D i) ν = (L D ν).set j (b ν, e ν, ty)) (ho : o.op = .store ty x y := by rfl) (hx : ∀ ν, (F ν).eval x = D (b ν) := by intro ν; kernel_rfl) (hy : ∀ ν, (F ν).eval y = .agg (e ν) := by intro ν; kernel_rfl) (hd : o.dst = none := by rfl)
    (hw : ∀ ν, Region.wanted o (yielded ops (F ν).tmps) = true := by intro ν; kernel_rfl) (hF : ∀ ν, (F ν).defers = [] := by intro ν; kernel_rfl) : Ob ops Try.prog F (OD u L) i o := by
  refine .inr fun ν => ⟨hw ν, fun D w m hO => ?_⟩
  have hj' := hj D ν m
  have hB := Own.row hO j hj'
  refine wp_store_row ty x y ho _ (e ν) (hx ν) (hy ν) ty _ hB (hf ν).2.1 (hf ν).2.2 (hf ν).1.one ?_
  refine ⟨ν, by rw [put_defers]; exact hF ν, by rw [hd]; rfl, ?_⟩
  show Own u _ (L (ins D i) ν)
  rw [hL D ν m]
  exact Own.put hO j hj' (hB.row (e ν)) (st1_row w _ _) (hf ν).1
/-- append: to a row of one's own, of what is read. -/
theorem fap {t e : TypeId} {s n m : Nat} {zv : Value} {g : Nat → Value} (v x : Nu → Value) (L0 : Dn → Nu → List Row) (hE : B.El t e s zv) (hG : ∀ D ν w, May ops D i → Own u w (L D ν) → B.Gr u w (L0 D ν) e s zv n g (v ν)) (h0 : ∀ ν, v ν ≠ .slice none 0 0) (hS : ∀ D ν w, May ops D i → Own u w (L D ν) → Src Try.prog s t (x ν) m ((List.range (m * s)).map fun i => g (n * s + i)) w) (hone : ∀ i, i < (n + m) * s → (g i).oneCell' = true) (hb : n + m ≤ 2 ^ 30) (hL : ∀ D ν q d, May ops D i → (L0 D ν ++ [(q, B.cl (B.zc s zv) ((n + m + d) * s) ((n + m) * s) g, e)]).Perm (L (ins D i) (up (up ν i q) (100 + i) d))) {a b : Operand}
    (hm : ∀ ν q d, msk ops ((F ν).put o.dst (.slice (some ⟨q, 0, none⟩) (n + m) (n + m + d))).tmps (deps true ops i) = msk ops (F (up (up ν i q) (100 + i) d)).tmps (deps true ops i) := by intro ν q d; kernel_rfl) (ho : o.op = .call { callee := .builtin .append, args := #[a, b], argTypes := #[t, t] } := by rfl) (hx : ∀ ν, (F ν).eval a = v ν := by intro ν; kernel_rfl) (hy : ∀ ν, (F ν).eval b = x ν := by intro ν; kernel_rfl)
    (hw : ∀ ν, Region.wanted o (yielded ops (F ν).tmps) = true := by intro ν; kernel_rfl) (hF : ∀ ν, (F ν).defers = [] := by intro ν; kernel_rfl) : Ob ops Try.prog F (OD u L) i o := by
  refine .inr fun ν => ⟨hw ν, fun D w my hO => ?_⟩
  obtain ⟨q, d, w', hr, hO'⟩ := B.gr_app hE (hG D ν w my hO) (.inr (h0 ν)) hone (hS D ν w my hO) hb
  have hx' := hx ν
  have hy' := hy ν
  have hk := hm ν q d
  have hP : ∃ ν', ((F ν).put o.dst (.slice (some ⟨q, 0, none⟩) (n + m) (n + m + d))).defers = [] ∧ msk ops ((F ν).put o.dst (.slice (some ⟨q, 0, none⟩) (n + m) (n + m + d))).tmps (deps true ops i) = msk ops (F ν').tmps (deps true ops i) ∧ Own u w' (L (ins D i) ν') := ⟨up (up ν i q) (100 + i) d, by rw [put_defers]; exact hF ν, hk, hO'.perm (hL D ν q d my)⟩
  have e : (execOp (F ν).eval o).run Try.prog w = .ok (.value (.slice (some ⟨q, 0, none⟩) (n + m) (n + m + d))) w' := by simp [execOp, ho, resolve, invoke, builtin, hx', hy', hr, Result.andThen]
  unfold Oper.wp
  rw [e, Oper.upon_value]
  exact hP
end
end Rf
end Go.Proofs.Ytkljpidlfddgbaa

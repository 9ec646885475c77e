/- Texts in one: Rg2 Go. -/
import Derived.Test.YtbpmakegimgbpaaGreatDoorRg
import Derived.Test.YtbpmakegimgbpaaGreatDoorGw
namespace Go.Proofs.YtbpmakegimgbpaaGreatDoor
open Go.RowKit

namespace Rf
open Rg
/-- Which operations are done. -/
abbrev Dn := Nat → Bool
def ins (D : Dn) (i : Nat) : Dn := fun k => bif k == i then true else D k
section
variable (ops : Array Oper)
/-- Operation i may come up. -/
structure May (D : Dn) (i : Nat) : Prop where
  pre : ∀ j, aft true ops i j = true → D j = true
  not : D i = false
  cl : ∀ k j, D k = true → aft true ops k j = true → D j = true
variable (P : Program) (F : Nu → Act) (I : Dn → Nu → World → Prop)
/-- An operation that leaves the world as it is. -/
def NS (i : Nat) (o : Oper) : Prop := (∀ D ν w, I D ν w → I (ins D i) ν w) ∧ ∀ ν,
  (Region.wanted o (yielded ops (F ν).tmps) = true ∧ ∃ v, (F ν).put o.dst v = F ν ∧ ∀ D w, May ops D i → I D ν w → (execOp (F ν).eval o).run P w = .ok (.value v) w) ∨
  (Region.wanted o (yielded ops (F ν).tmps) = false ∧ (F ν).put o.dst undef = F ν)
/-- A step: an operation that changes the world. -/
def SS (i : Nat) (o : Oper) : Prop := ∀ ν, Region.wanted o (yielded ops (F ν).tmps) = true ∧ ∀ D w, May ops D i → I D ν w →
  o.wp P (F ν) w (fun a' w' => ∃ ν', a'.defers = [] ∧ msk ops a'.tmps (deps true ops i) = msk ops (F ν').tmps (deps true ops i) ∧ I (ins D i) ν' w') (fun _ _ _ => False)
def Ob (i : Nat) (o : Oper) : Prop := NS ops P F I i o ∨ SS ops P F I i o
structure St (listed : Array Bool) (a : Act) (w : World) : Prop where
  sz : listed.size = ops.size
  cl : ∀ i j, listed.getD i false = true → aft true ops i j = true → listed.getD j false = true
  ag : ∃ ν, a.defers = [] ∧ a.tmps.size = (F ν).tmps.size ∧ (∀ k, Settled ops listed k → a.tmps[k]? = (F ν).tmps[k]?) ∧ I (fun j => listed.getD j false) ν w
end
section
variable {P : Program} {ops : Array Oper} {F : Nu → Act} {I : Dn → Nu → World → Prop} {Q : Exit → Act → World → Prop} {K : Act → World → Prop}
theorem ins_list {listed : Array Bool} {i : Nat} (h : i < listed.size) : (fun j => (listed.setIfInBounds i true).getD j false) = ins (fun j => listed.getD j false) i := funext fun j => by
  unfold ins
  have := set_getD (listed := listed) h j
  by_cases hj : j = i
  · subst hj
    rw [this.2 (.inl rfl)]
    simp
  · have e : (j == i) = false := by simpa using hj
    rw [e]
    show _ = listed.getD j false
    cases hl : listed.getD j false with
    | true => exact this.2 (.inr hl)
    | false =>
      cases hs : (listed.setIfInBounds i true).getD j false with
      | false => rfl
      | true =>
        rcases this.1 hs with h | h
        · exact (hj h).elim
        · rw [hl] at h; cases h
theorem step {listed : Array Bool} {a : Act} {w : World} {i : Nat} {o : Oper} (hc : chk true ops = true) (hob : Ob ops P F I i o) (ho : ops[i]? = some o) (hi : listed.getD i true = false) (hr : ∀ j, aft true ops i j = true → listed.getD j false = true)
    (S : St ops F I listed a w) (hK : ∀ a' w', St ops F I (listed.setIfInBounds i true) a' w' → K a' w') : if Region.wanted o (yielded ops a.tmps) = true then o.wp P a w K Q else K (a.put o.dst undef) w := by
  have hlt : i < listed.size := by rw [S.sz]; exact (Array.getElem?_eq_some_iff.1 ho).1
  have hi' := getD_of hi
  have hcl : ∀ x j, (listed.setIfInBounds i true).getD x false = true → aft true ops x j = true → (listed.setIfInBounds i true).getD j false = true := by
    intro x j hx ha
    rw [set_getD hlt] at hx ⊢
    rcases hx with rfl | hx
    · exact .inr (hr j ha)
    · exact .inr (S.cl x j hx ha)
  obtain ⟨ν, hdf, hsz, hag, hI⟩ := S.ag
  obtain ⟨he, hw⟩ := same_ops hc ho hr hag
  have hmay : May ops (fun j => listed.getD j false) i := ⟨hr, hi', S.cl⟩
  have hset : ∀ k, Settled ops (listed.setIfInBounds i true) k → o.dst ≠ some k → Settled ops listed k := by
    intro k hk hne j hj
    rcases (set_getD hlt j).1 (hk j hj) with rfl | h
    · unfold dstOf at hj
      rw [Array.getElem?_toList, ho] at hj
      exact (hne hj).elim
    · exact h
  rw [hw]
  rcases hob with ⟨hins, hob⟩ | hob
  · have hfin : ∀ v, (F ν).put o.dst v = F ν → K (a.put o.dst v) w := by
      intro v hv
      refine hK _ _ ⟨by rw [Array.size_setIfInBounds]; exact S.sz, hcl, ν, by rw [put_defers]; exact hdf, by rw [put_size]; exact hsz, fun k hk => ?_, by rw [ins_list hlt]; exact hins _ _ _ hI⟩
      by_cases hd : o.dst = some k
      · rw [hd, put_at a (F ν) k v hsz, ← hd, hv]
      · rw [put_tmps _ _ _ _ hd]; exact hag k (hset k hk hd)
    rcases hob ν with ⟨hwt, v, hv, hrun⟩ | ⟨hwt, hv⟩
    · rw [if_pos hwt]
      unfold Oper.wp
      rw [he, hrun _ w hmay hI, Oper.upon_value]
      exact hfin v hv
    · rw [if_neg (by rw [hwt]; exact Bool.false_ne_true)]
      exact hfin undef hv
  · obtain ⟨hwt, hob⟩ := hob ν
    rw [if_pos hwt]
    refine wp_to he (hob _ w hmay hI) ?_ ?_
    · rintro v w' ⟨ν', hd, hm, hI'⟩
      have hD := depsL_not (b := true) (ops := ops) S.cl hi' (List.range ops.toList.length) [] (fun _ h => nomatch h)
      have hsz2 : (F ν).tmps.size = (F ν').tmps.size := by
        have := congrArg Array.size hm
        rwa [msk_size, msk_size, put_size] at this
      refine hK _ _ ⟨by rw [Array.size_setIfInBounds]; exact S.sz, hcl, ν', by rw [put_defers]; exact hdf, by rw [put_size, hsz, hsz2], fun k hk => ?_, by rw [ins_list hlt]; exact hI'⟩
      have hk' : ∀ j ∈ deps true ops i, dstOf ops j ≠ some k := by
        intro j hj e
        obtain ⟨h1, h2⟩ := hD j hj
        rcases (set_getD hlt j).1 (hk j e) with h | h
        · exact h2 h
        · rw [h] at h1; cases h1
      have hm' := congrArg (·[k]?) hm
      simp only [msk_get ops _ k _ hk'] at hm'
      rw [← hm']
      by_cases hd2 : o.dst = some k
      · rw [hd2]; exact put_at a (F ν) k v hsz
      · rw [put_tmps _ _ _ _ hd2, put_tmps _ _ _ _ hd2]; exact hag k (hset k hk hd2)
    · rintro d w' ⟨ν', hd, _⟩
      rw [put_defers] at hd
      cases hd
theorem done {listed : Array Bool} {a : Act} {w : World} (hF : ∀ ν, (F ν).defers = []) (S : St ops F I listed a w) (hall : ∀ i, i < ops.size → listed.getD i false = true) (H : ∀ D ν w', (∀ i, i < ops.size → D i = true) → I D ν w' → Q .normal (F ν) w') : Q .normal a w := by
  obtain ⟨ν, hdf, hsz, hag, hI⟩ := S.ag
  have ha : a = F ν := by
    have ht : a.tmps = (F ν).tmps := by
      apply Array.ext_getElem?
      intro k
      refine hag k fun j hj => hall j ?_
      unfold dstOf at hj
      rw [Array.getElem?_toList] at hj
      cases hn : ops[j]? with
      | none => rw [hn] at hj; cases hj
      | some y => exact (Array.getElem?_eq_some_iff.1 hn).1
    have hd := hF ν
    generalize F ν = f at *
    obtain ⟨t1, d1⟩ := a
    obtain ⟨t2, d2⟩ := f
    simp_all
  rw [ha]; exact H _ ν w hall hI
theorem any (hc : chk true ops = true) (hF : ∀ ν, (F ν).defers = []) (hob : All (Ob ops P F I) 0 ops.toList) (H : ∀ D ν w', (∀ i, i < ops.size → D i = true) → I D ν w' → Q .normal (F ν) w') :
    ∀ fuel listed a w, left listed = fuel → St ops F I listed a w → wpAny P .any ops Q fuel listed a w
  | 0, listed, a, w, hl, S => by
    have hall : ∀ i, i < ops.size → listed.getD i false = true := fun i hi => left_zero hl i (by rw [S.sz]; exact hi)
    refine ⟨?_, done hF S hall H⟩
    apply List.eq_nil_iff_forall_not_mem.2
    intro j hj
    obtain ⟨h1, o, ho, _⟩ := mem_ready.1 hj
    have := hall j (Array.getElem?_eq_some_iff.1 ho).1
    rw [getD_of h1] at this; cases this
  | fuel + 1, listed, a, w, hl, S => by
    refine ⟨fun hr => ?_, fun i hi => ?_⟩
    · exfalso
      have hex : ∃ i, i < ops.size ∧ listed.getD i true = false := by
        have hp : 0 < listed.toList.countP (! ·) := by unfold left at hl; omega
        obtain ⟨x, hx, hxv⟩ := List.countP_pos_iff.1 hp
        obtain ⟨i, hil, hi⟩ := List.getElem_of_mem hx
        refine ⟨i, by rw [← S.sz]; simpa using hil, ?_⟩
        have : listed[i]? = some x := by rw [← Array.getElem?_toList, List.getElem?_eq_getElem hil, hi]
        simp [Array.getD_eq_getD_getElem?, this]; simpa using hxv
      obtain ⟨i, hi, hm⟩ : ∃ i, (i < ops.size ∧ listed.getD i true = false) ∧ ∀ j, j < i → ¬ (j < ops.size ∧ listed.getD j true = false) := by
        obtain ⟨i, hi⟩ := hex
        induction i using Nat.strongRecOn with
        | _ i ih =>
          by_cases h : ∃ j, j < i ∧ (j < ops.size ∧ listed.getD j true = false)
          · obtain ⟨j, hj, hj2⟩ := h
            exact ih j hj hj2
          · exact ⟨i, hi, fun j hj hj2 => h ⟨j, hj, hj2⟩⟩
      have : i ∈ Region.ready .any ops listed := by
        have ho := Array.getElem?_eq_getElem hi.1
        refine mem_ready.2 ⟨hi.2, ops[i], ho, fun e he hb => ?_⟩
        have hlt := (chk_at hc ho).2.2 rfl e he hb
        have hn := hm e.on hlt
        have hsz : e.on < listed.size := by rw [S.sz]; omega
        cases hx : listed.getD e.on false with
        | true => rfl
        | false =>
          refine (hn ⟨by omega, ?_⟩).elim
          simp only [Array.getD_eq_getD_getElem?, Array.getElem?_eq_getElem hsz] at hx ⊢
          exact hx
      rw [hr] at this; cases this
    · obtain ⟨h1, o, ho, hall⟩ := mem_ready.1 hi
      refine wpOp_step ho fun K hK => ?_
      have h2 := All.get _ hob (i := i) (by rw [Array.getElem?_toList]; exact ho)
      rw [Nat.zero_add] at h2
      refine step hc h2 ho h1 (fun j hj => ?_) S fun a' w' hS => hK _ _ (any hc hF hob H fuel _ a' w' (by have := left_set h1; omega) hS)
      unfold aft at hj
      rw [if_pos rfl, Array.getElem?_toList, ho] at hj
      simp only [Option.map_some, Option.getD_some, List.any_eq_true, Bool.and_eq_true, beq_iff_eq] at hj
      obtain ⟨e, he, hb, rfl⟩ := hj
      exact hall e (by simpa using he) hb
/-- A region that draws its order. -/
theorem pf {id : Nat} {a0 : Act} {w : World} (ds : Nu → List (Nat × Value)) (I : Dn → Nu → World → Prop) (ν : Nu) (h0 : I (fun _ => false) ν w.drew) (hob : All (Ob ops P (fun ν => putL a0 (ds ν)) I) 0 ops.toList) (H : ∀ D ν w', (∀ i, i < ops.size → D i = true) → I D ν w' → Q .normal (putL a0 (ds ν)) w')
    (hm : P.follows .mixedOrders = true := by kernel_rfl) (hc : chk true ops = true := by kernel_rfl) (hd : a0.defers = [] := by kernel_rfl)
    (hks : ∀ ν, ((ds ν).all fun p => (dsts ops).contains p.1) = true := by intro ν; kernel_rfl) : (Code.region id ops true).wp P Q a0 w := by
  have hz : ∀ j, (Array.replicate ops.size false).getD j false = false := reps _
  refine wp_region_any hm (any hc (fun ν => (putL_defers _ _).trans hd) hob H _ _ _ _ ?_ ⟨by simp, fun i j hi => (by rw [hz i] at hi; cases hi), ν, hd, (putL_size _ _).symm, fun k hk => ?_, ?_⟩)
  · unfold left
    simp [List.countP_replicate]
  · refine (putL_get a0 k (ds ν) fun p hp e => ?_).symm
    have h1 := List.all_eq_true.1 (hks ν) p hp
    simp only [List.contains_iff_mem, dsts, List.mem_filterMap] at h1
    obtain ⟨j, _, hj⟩ := h1
    have := hk j (hj.trans (congrArg some e))
    rw [hz j] at this; cases this
  · rw [show (fun j => (Array.replicate ops.size false).getD j false) = fun _ => false from funext hz]
    exact h0
end
end Rf
end Go.Proofs.YtbpmakegimgbpaaGreatDoor
namespace Go.Proofs.YtbpmakegimgbpaaGreatDoor
open Go.RowKit

theorem agg_u8 (w : World) : (isAgg 5).run Tryz.prog w = .ok false w := by kernel_rfl
theorem agg_u64 (w : World) : (isAgg 44).run Tryz.prog w = .ok false w := by kernel_rfl
theorem sz_u8 (w : World) : (sizeOf 5).run Tryz.prog w = .ok 1 w := by kernel_rfl
namespace Rf
open Rg
abbrev OD (u : World) (L : Dn → Nu → List Row) : Dn → Nu → World → Prop := fun D ν w => Wn u w (L D ν)
theorem May.nf {ops : Array Oper} {D : Dn} {i k j : Nat} (m : May ops D i) (hj : D j = false) (ha : aft true ops k j = true) : D k = false := by
  cases h : D k with
  | false => rfl
  | true =>
    have := m.cl k j h ha
    rw [hj] at this; cases this
section
variable {ops : Array Oper} {F : Nu → Act} {u : World} {L : Dn → Nu → List Row} {i : Nat} {o : Oper}
/-- What the world tells. -/
theorem fw (v : Nu → Value) (hrun : ∀ D ν w, May ops D i → Wn u w (L D ν) → (execOp (F ν).eval o).run Tryz.prog w = .ok (.value (v ν)) w) (hI : ∀ D ν, L (ins D i) ν = L D ν := by intro D ν; kernel_rfl) (hv : ∀ ν, vof (F ν) o = v ν := by intro ν; kernel_rfl) (hw : ∀ ν, Region.wanted o (yielded ops (F ν).tmps) = true := by intro ν; kernel_rfl) : Ob ops Tryz.prog F (OD u L) i o :=
  .inl ⟨fun D ν w h => by show Wn u w (L (ins D i) ν); rw [hI]; exact h, fun ν => .inl ⟨hw ν, v ν, by rw [← hv ν]; exact put_vof _ _, fun D w m h => hrun D ν w m h⟩⟩
theorem fx (v : Nu → Value) (hrun : ∀ ν w, (execOp (F ν).eval o).run Tryz.prog w = .ok (.value (v ν)) w) (hI : ∀ D ν, L (ins D i) ν = L D ν := by intro D ν; kernel_rfl) (hv : ∀ ν, vof (F ν) o = v ν := by intro ν; kernel_rfl) (hw : ∀ ν, Region.wanted o (yielded ops (F ν).tmps) = true := by intro ν; kernel_rfl) : Ob ops Tryz.prog F (OD u L) i o :=
  fw v (fun _ ν w _ _ => hrun ν w) hI hv hw
theorem fv (hrun : ∀ ν w, (execOp (F ν).eval o).run Tryz.prog w = .ok (.value (vof (F ν) o)) w := by intro ν w; kernel_rfl) (hI : ∀ D ν, L (ins D i) ν = L D ν := by intro D ν; kernel_rfl) (hw : ∀ ν, Region.wanted o (yielded ops (F ν).tmps) = true := by intro ν; kernel_rfl) : Ob ops Tryz.prog F (OD u L) i o :=
  fx (fun ν => vof (F ν) o) hrun hI (fun _ => rfl) hw
/-- A whole row is loaded. -/
theorem fld (j : Nat) {ty : TypeId} {x : Operand} {d : TypeDesc} (b : Nu → Nat) (c : Nu → Array Value) (hL : ∀ D ν, May ops D i → (L D ν)[j]? = some (b ν, c ν, ty)) (hu : Tryz.prog.underlying ty = some d) (ho : o.op = .load ty x := by rfl) (hx : ∀ ν, (F ν).eval x = D (b ν) := by intro ν; kernel_rfl) (hd : d.isRow = true := by rfl) (h5 : anyLen ty = false := by rfl)
    (hI : ∀ D ν, L (ins D i) ν = L D ν := by intro D ν; kernel_rfl) (hv : ∀ ν, vof (F ν) o = .agg (c ν) := by intro ν; kernel_rfl) (hw : ∀ ν, Region.wanted o (yielded ops (F ν).tmps) = true := by intro ν; kernel_rfl) : Ob ops Tryz.prog F (OD u L) i o := by
  refine fw (fun ν => .agg (c ν)) (fun D ν w m hO => ?_) hI hv hw
  have hj := hL D ν m
  have hB := Wn.row hO j hj
  have hf := Wn.fits hO j hj
  exact run_ldm ty x ho _ 0 (hx ν) d hB.range hu hd (by rw [hf.size h5]; simp)
/-- A part of a row is loaded. -/
theorem fpt (j off : Nat) (b : Nu → Nat) (t : TypeId) {ty : TypeId} {x : Operand} {d : TypeDesc} {c e : Nu → Array Value} (hp : ∀ ν, Part (c ν) off ty (e ν)) (hL : ∀ D ν, May ops D i → (L D ν)[j]? = some (b ν, c ν, t)) (hu : Tryz.prog.underlying ty = some d) (ho : o.op = .load ty x := by rfl) (hx : ∀ ν, (F ν).eval x = E (b ν) off := by intro ν; kernel_rfl) (hd : d.isRow = true := by rfl)
    (hI : ∀ D ν, L (ins D i) ν = L D ν := by intro D ν; kernel_rfl) (hv : ∀ ν, vof (F ν) o = .agg (e ν) := by intro ν; kernel_rfl) (hw : ∀ ν, Region.wanted o (yielded ops (F ν).tmps) = true := by intro ν; kernel_rfl) : Ob ops Tryz.prog F (OD u L) i o :=
  fw (fun ν => .agg (e ν)) (fun D ν _ m hO => run_ldm ty x ho _ off (hx ν) d ((hp ν).range (Wn.row hO j (hL D ν m))) hu hd (by rw [(hp ν).size]; simp)) hI hv hw
/-- A call. -/
theorem fq (f : FuncId) (args : Nu → Array Value) (v : Nu → Value) (hc : ∀ D ν w, May ops D i → Wn u w (L D ν) → Ret f (args ν) w (v ν)) (hI : ∀ D ν, L (ins D i) ν = L D ν := by intro D ν; kernel_rfl) (hv : ∀ ν, vof (F ν) o = v ν := by intro ν; kernel_rfl) (hrun : ∀ ν w, (execOp (F ν).eval o).run Tryz.prog w = .ok (.enter f (args ν)) w := by intro ν w; kernel_rfl)
    (hw : ∀ ν, Region.wanted o (yielded ops (F ν).tmps) = true := by intro ν; kernel_rfl) (hF : ∀ ν, (F ν).defers = [] := by intro ν; kernel_rfl) : Ob ops Tryz.prog F (OD u L) i o := by
  refine .inr fun ν => ⟨hw ν, fun D w m hO => ?_⟩
  unfold Oper.wp
  rw [hrun ν w, Oper.upon_enter]
  refine (hc D ν w m hO).mono fun e w' hh => ?_
  obtain ⟨rfl, hb⟩ := hh
  refine ⟨ν, by rw [put_defers]; exact hF ν, by rw [← hv ν, put_vof], ?_⟩
  show Wn u w' (L (ins D i) ν)
  rw [hI]
  exact Wn.call hO hb
/-- A new row, of which the operation tells more than its place. -/
theorem fnw (v : Nu → Nat → Value) (c : Nu → Array Value) (ty : TypeId) (hrun : ∀ ν w, (execOp (F ν).eval o).run Tryz.prog w = .ok (.value (v ν w.heap.size)) (w.alloc (.cells (c ν) ty))) (hf : ∀ ν, Fw ty (c ν)) (hL : ∀ D ν n, May ops D i → (L D ν ++ [(n, c ν, ty)]).Perm (L (ins D i) (up ν i n))) (hm : ∀ ν n, msk ops ((F ν).put o.dst (v ν n)).tmps (deps true ops i) = msk ops (F (up ν i n)).tmps (deps true ops i) := by intro ν n; exact hm_of _ rfl (by kernel_rfl) (by kernel_rfl))
    (hw : ∀ ν, Region.wanted o (yielded ops (F ν).tmps) = true := by intro ν; kernel_rfl) (hF : ∀ ν, (F ν).defers = [] := by intro ν; kernel_rfl) : Ob ops Tryz.prog F (OD u L) i o := by
  refine .inr fun ν => ⟨hw ν, fun D w m hO => ?_⟩
  unfold Oper.wp
  rw [hrun ν w, Oper.upon_value]
  refine ⟨up ν i w.heap.size, by rw [put_defers]; exact hF ν, hm ν _, ?_⟩
  show Wn u _ (L (ins D i) (up ν i w.heap.size))
  exact (Wn.snoc hO (Nat.le_refl _) (Blk.new w _ _) ((Below.refl _ w).alloc (Nat.le_refl _) _) (hf ν)).perm (hL D ν _ m)
/-- A new row. -/
theorem fal (c : Nu → Array Value) (ty : TypeId) (hrun : ∀ ν w, (execOp (F ν).eval o).run Tryz.prog w = .ok (.value (D w.heap.size)) (w.alloc (.cells (c ν) ty))) (hf : ∀ ν, Fw ty (c ν)) (hL : ∀ D ν n, May ops D i → (L D ν ++ [(n, c ν, ty)]).Perm (L (ins D i) (up ν i n))) (hm : ∀ ν n, msk ops ((F ν).put o.dst (D n)).tmps (deps true ops i) = msk ops (F (up ν i n)).tmps (deps true ops i) := by intro ν n; exact hm_of _ rfl (by kernel_rfl) (by kernel_rfl))
    (hw : ∀ ν, Region.wanted o (yielded ops (F ν).tmps) = true := by intro ν; kernel_rfl) (hF : ∀ ν, (F ν).defers = [] := by intro ν; kernel_rfl) : Ob ops Tryz.prog F (OD u L) i o := fnw (fun _ n => D n) c ty hrun hf hL hm hw hF
/-- A whole row is stored. -/
theorem fst (j : Nat) {ty : TypeId} {x y : Operand} (b : Nu → Nat) (c e : Nu → Array Value) (hf : ∀ ν, Fw ty (e ν)) (hj : ∀ D ν, May ops D i → (L D ν)[j]? = some (b ν, c ν, ty)) (hL : ∀ D ν, May ops D i → L (ins D i) ν = (L D ν).set j (b ν, e ν, ty)) (ho : o.op = .store ty x y := by rfl) (hx : ∀ ν, (F ν).eval x = D (b ν) := by intro ν; kernel_rfl) (hy : ∀ ν, (F ν).eval y = .agg (e ν) := by intro ν; kernel_rfl) (hd : o.dst = none := by rfl) (h5 : anyLen ty = false := by rfl)
    (hw : ∀ ν, Region.wanted o (yielded ops (F ν).tmps) = true := by intro ν; kernel_rfl) (hF : ∀ ν, (F ν).defers = [] := by intro ν; kernel_rfl) : Ob ops Tryz.prog F (OD u L) i o := by
  refine .inr fun ν => ⟨hw ν, fun D w m hO => ?_⟩
  have hj' := hj D ν m
  have hB := Wn.row hO j hj'
  refine wp_store_row ty x y ho _ (e ν) (hx ν) (hy ν) ty _ hB ((hf ν).size h5) ?_ (hf ν).one ?_
  · have h1 := (Wn.fits hO j hj').size h5
    rw [(hf ν).size h5] at h1
    exact (Option.some.inj h1).symm
  · refine ⟨ν, by rw [put_defers]; exact hF ν, by rw [hd]; rfl, ?_⟩
    show Wn u _ (L (ins D i) ν)
    rw [hL D ν m]
    exact Wn.put hO j hj' (hB.row (e ν)) (st1_row w _ _) (hf ν)
end
/-! ### Rows by flags -/
/-- A row: its place (or the operation that lays it), its cells, its type, and which operation stores what into it. -/
abbrev Ent := Nat × Array Value × TypeId × Option (Nat × Array Value)
def cur (D : Dn) (c : Array Value) : Option (Nat × Array Value) → Array Value
  | none => c
  | some q => bif D q.1 then q.2 else c
def old (D : Dn) : List Ent → List Row
  | [] => []
  | e :: r => (e.1, cur D e.2.1 e.2.2.2, e.2.2.1) :: old D r
def nws (D : Dn) (ν : Nu) : List Ent → List Row
  | [] => []
  | e :: r => (bif D e.1 then [(ν e.1, cur D e.2.1 e.2.2.2, e.2.2.1)] else []) ++ nws D ν r
def rws (l : List Ent) (m : Nu → List Ent) : Dn → Nu → List Row := fun D ν => old D l ++ nws D ν (m ν)
/-- No store of operation i. -/
def ns (i : Nat) (l : List Ent) : Bool := l.all fun e => match e.2.2.2 with | none => true | some q => q.1 != i
def nk_ (i : Nat) (l : List Ent) : Bool := l.all fun e => e.1 != i
theorem ins_ne (D : Dn) {i k : Nat} (h : (k != i) = true) : ins D i k = D k := by
  unfold ins
  rw [show (k == i) = false by simpa using h]
  rfl
theorem ins_self (D : Dn) (i : Nat) : ins D i i = true := by unfold ins; simp
theorem cur_ins (D : Dn) (i : Nat) (c : Array Value) : ∀ q : Option (Nat × Array Value), (match q with | none => true | some q => q.1 != i) = true → cur (ins D i) c q = cur D c q
  | none, _ => rfl
  | some q, h => by
    show (bif ins D i q.1 then q.2 else c) = (bif D q.1 then q.2 else c)
    rw [ins_ne D h]
theorem old_ins (D : Dn) (i : Nat) : ∀ l, ns i l = true → old (ins D i) l = old D l
  | [], _ => rfl
  | e :: r, h => by
    unfold ns at h
    rw [List.all_cons, Bool.and_eq_true] at h
    unfold old
    rw [cur_ins D i _ _ h.1, old_ins D i r h.2]
theorem nws_ins (D : Dn) (ν : Nu) (i n : Nat) : ∀ l, ns i l = true → nk_ i l = true → nws (ins D i) (up ν i n) l = nws D ν l ∧ nws (ins D i) ν l = nws D ν l
  | [], _, _ => ⟨rfl, rfl⟩
  | e :: r, h, h2 => by
    unfold ns at h
    unfold nk_ at h2
    rw [List.all_cons, Bool.and_eq_true] at h h2
    have hr := nws_ins D ν i n r h.2 h2.2
    have hu : up ν i n e.1 = ν e.1 := by unfold up; rw [if_neg (by simpa using h2.1)]
    unfold nws
    rw [cur_ins D i _ _ h.1, ins_ne D h2.1, hu, hr.1, hr.2]
    exact ⟨rfl, rfl⟩
theorem old_app (D : Dn) : ∀ l l', old D (l ++ l') = old D l ++ old D l'
  | [], _ => rfl
  | e :: r, l' => by
    show _ :: old D (r ++ l') = (_ :: old D r) ++ old D l'
    rw [old_app D r l', List.cons_append]
theorem nws_app (D : Dn) (ν : Nu) : ∀ l l', nws D ν (l ++ l') = nws D ν l ++ nws D ν l'
  | [], _ => rfl
  | e :: r, l' => by
    show _ ++ nws D ν (r ++ l') = (_ ++ nws D ν r) ++ nws D ν l'
    rw [nws_app D ν r l', List.append_assoc]
theorem split {α : Type} {l : List α} {p : Nat} {e : α} (h : l[p]? = some e) : l = l.take p ++ e :: l.drop (p + 1) := by
  have hp := (List.getElem?_eq_some_iff.1 h)
  obtain ⟨hp, he⟩ := hp
  rw [← he, ← List.drop_eq_getElem_cons hp, List.take_append_drop]
section
variable {ops : Array Oper} {F : Nu → Act} {u : World} {l : List Ent} {m : Nu → List Ent} {i : Nat} {o : Oper}
/-- A new row. -/
theorem ga (p : Nat) {c : Nu → Array Value} {ty : TypeId} {q : Nu → Option (Nat × Array Value)} (hp : ∀ ν n, (m (up ν i n))[p]? = some (i, c ν, ty, q ν)) (hm0 : ∀ ν n, m (up ν i n) = m ν) (hrun : ∀ ν w, (execOp (F ν).eval o).run Tryz.prog w = .ok (.value (D w.heap.size)) (w.alloc (.cells (c ν) ty))) (hf : ∀ ν, Fw ty (c ν))
    (hq : ∀ ν, (match q ν with | none => true | some q => q.1 != i && aft true ops q.1 i) = true := by intro ν; kernel_rfl)
    (hs : ∀ ν, (ns i l && ns i ((m ν).take p) && ns i ((m ν).drop (p + 1)) && nk_ i ((m ν).take p) && nk_ i ((m ν).drop (p + 1))) = true := by intro ν; kernel_rfl)
    (hm : ∀ ν n, msk ops ((F ν).put o.dst (D n)).tmps (deps true ops i) = msk ops (F (up ν i n)).tmps (deps true ops i) := by intro ν n; exact hm_of _ rfl (by kernel_rfl) (by kernel_rfl))
    (hw : ∀ ν, Region.wanted o (yielded ops (F ν).tmps) = true := by intro ν; kernel_rfl) (hF : ∀ ν, (F ν).defers = [] := by intro ν; kernel_rfl) : Ob ops Tryz.prog F (OD u (rws l m)) i o := by
  refine fal c ty hrun hf (fun D ν n my => ?_) hm hw hF
  have hp' := hp ν n
  rw [hm0] at hp'
  obtain ⟨mm, hmm⟩ : ∃ mm, m ν = mm := ⟨_, rfl⟩
  have h := hs ν
  unfold rws
  rw [hm0]
  rw [hmm] at h hp' ⊢
  simp only [Bool.and_eq_true] at h
  obtain ⟨⟨⟨⟨h1, h2⟩, h3⟩, h4⟩, h5⟩ := h
  have hsp := split hp'
  rw [old_ins D i l h1]
  have hcur : ∀ D' : Dn, (∀ k, D' k = D k ∨ k = i) → cur D' (c ν) (q ν) = c ν := by
    intro D' hD
    have hq' := hq ν
    cases hqq : q ν with
    | none => rfl
    | some z =>
      rw [hqq] at hq'
      simp only [Bool.and_eq_true, bne_iff_ne, ne_eq] at hq'
      have hz := my.nf my.not hq'.2
      show (bif D' z.1 then z.2 else c ν) = c ν
      rcases hD z.1 with h | h
      · rw [h, hz]; rfl
      · exact (hq'.1 h).elim
  have e1 : nws D ν mm = nws D ν (mm.take p) ++ nws D ν (mm.drop (p + 1)) := by
    conv => lhs; rw [hsp, nws_app]
    congr 1
    show (bif D i then _ else []) ++ _ = _
    rw [my.not]; rfl
  have e2 : nws (ins D i) (up ν i n) mm = nws D ν (mm.take p) ++ (n, c ν, ty) :: nws D ν (mm.drop (p + 1)) := by
    conv => lhs; rw [hsp, nws_app]
    rw [(nws_ins D ν i n _ h2 h4).1]
    congr 1
    show (bif ins D i i then [(up ν i n i, cur (ins D i) (c ν) (q ν), ty)] else []) ++ nws (ins D i) (up ν i n) (mm.drop (p + 1)) = _
    rw [ins_self, (nws_ins D ν i n _ h3 h5).1, hcur (ins D i) (fun k => by by_cases hk : k = i; exact .inr hk; exact .inl (ins_ne D (by simpa using hk)))]
    rw [show up ν i n i = n by unfold up; rw [if_pos rfl]]
    rfl
  rw [e1, e2, List.append_assoc, List.append_assoc]
  refine List.Perm.append_left _ (List.Perm.append_left _ ?_)
  exact List.perm_append_singleton _ _
/-- A store into a row that lay there. -/
theorem gl (p : Nat) {b : Nat} {c e : Array Value} {ty : TypeId} {x y : Operand} (hp : l[p]? = some (b, c, ty, some (i, e))) (hf : Fw ty e) (hs : ∀ ν, (ns i (l.take p) && ns i (l.drop (p + 1)) && ns i (m ν) && nk_ i (m ν)) = true := by intro ν; kernel_rfl) (ho : o.op = .store ty x y := by rfl) (hx : ∀ ν, (F ν).eval x = D b := by intro ν; kernel_rfl) (hy : ∀ ν, (F ν).eval y = .agg e := by intro ν; kernel_rfl) (hd : o.dst = none := by rfl) (h5 : anyLen ty = false := by rfl)
    (hw : ∀ ν, Region.wanted o (yielded ops (F ν).tmps) = true := by intro ν; kernel_rfl) (hF : ∀ ν, (F ν).defers = [] := by intro ν; kernel_rfl) : Ob ops Tryz.prog F (OD u (rws l m)) i o := by
  have hsp := split hp
  have hlen : ∀ D, (old D (l.take p)).length = p := by
    intro D
    have hpl := (List.getElem?_eq_some_iff.1 hp).1
    have : ∀ (D : Dn) (l : List Ent), (old D l).length = l.length := by
      intro D l
      induction l with
      | nil => rfl
      | cons e r ih => unfold old; rw [List.length_cons, List.length_cons, ih]
    rw [this, List.length_take]; omega
  have hL : ∀ (D : Dn) (ν : Nu) (c' : Array Value), cur D c (some (i, e)) = c' → rws l m D ν = old D (l.take p) ++ (b, c', ty) :: (old D (l.drop (p + 1)) ++ nws D ν (m ν)) := by
    intro D ν c' hc
    unfold rws
    conv => lhs; rw [hsp, old_app]
    rw [List.append_assoc]
    congr 1
    show (b, cur D c (some (i, e)), ty) :: (_ ++ _) = _
    rw [hc]
  refine fst p (fun _ => b) (fun _ => c) (fun _ => e) (fun _ => hf) (fun D ν my => ?_) (fun D ν my => ?_) ho hx hy hd h5 hw hF
  · rw [hL D ν c (by show (bif _ then _ else _) = _; rw [my.not]; rfl), List.getElem?_append_right (by rw [hlen]; exact Nat.le_refl _), hlen, Nat.sub_self]; rfl
  · have h := hs ν
    simp only [Bool.and_eq_true] at h
    obtain ⟨⟨⟨h1, h2⟩, h3⟩, h4⟩ := h
    rw [hL (ins D i) ν e (by show (bif _ then _ else _) = _; rw [ins_self]; rfl), hL D ν c (by show (bif _ then _ else _) = _; rw [my.not]; rfl), old_ins D i _ h1, old_ins D i _ h2, (nws_ins D ν i 0 _ h3 h4).2, List.set_append_right _ _ (by rw [hlen]; exact Nat.le_refl _), hlen, Nat.sub_self]
    rfl
/-- A store into a row laid in the region. -/
theorem gm (p k : Nat) {c e : Array Value} {ty : TypeId} {x y : Operand} (hp : ∀ ν, (m ν)[p]? = some (k, c, ty, some (i, e))) (hf : Fw ty e) (hk : aft true ops i k = true := by kernel_rfl) (hs : ∀ ν, (ns i l && ns i ((m ν).take p) && ns i ((m ν).drop (p + 1)) && nk_ i (m ν)) = true := by intro ν; kernel_rfl) (ho : o.op = .store ty x y := by rfl) (hx : ∀ ν, (F ν).eval x = D (ν k) := by intro ν; kernel_rfl) (hy : ∀ ν, (F ν).eval y = .agg e := by intro ν; kernel_rfl) (hd : o.dst = none := by rfl) (h5 : anyLen ty = false := by rfl)
    (hw : ∀ ν, Region.wanted o (yielded ops (F ν).tmps) = true := by intro ν; kernel_rfl) (hF : ∀ ν, (F ν).defers = [] := by intro ν; kernel_rfl) : Ob ops Tryz.prog F (OD u (rws l m)) i o := by
  have hki : (k != i) = true := by
    cases hh : (k != i) with
    | true => rfl
    | false =>
      have hki : k = i := by simpa using hh
      have h := hs (fun _ => 0)
      simp only [Bool.and_eq_true] at h
      have := List.all_eq_true.1 h.2 _ (List.mem_of_getElem? (hp (fun _ => 0)))
      simp [hki] at this
  refine .inr fun ν => ⟨hw ν, fun Dd w my hO => ?_⟩
  have hDk := my.pre k hk
  have h := hs ν
  simp only [Bool.and_eq_true] at h
  obtain ⟨⟨⟨h1, h2⟩, h3⟩, h4⟩ := h
  have hsp := split (hp ν)
  have hn : nk_ i ((m ν).take p) = true ∧ nk_ i ((m ν).drop (p + 1)) = true := by
    constructor
    · exact List.all_eq_true.2 fun z hz => List.all_eq_true.1 h4 z (List.mem_of_mem_take hz)
    · exact List.all_eq_true.2 fun z hz => List.all_eq_true.1 h4 z (List.mem_of_mem_drop hz)
  have hL : ∀ (D' : Dn) (c' : Array Value), D' k = true → cur D' c (some (i, e)) = c' → rws l m D' ν = (old D' l ++ nws D' ν ((m ν).take p)) ++ (ν k, c', ty) :: nws D' ν ((m ν).drop (p + 1)) := by
    intro D' c' hk' hc
    unfold rws
    conv => lhs; rw [hsp, nws_app]
    rw [List.append_assoc]
    congr 2
    show (bif D' k then [(ν k, cur D' c (some (i, e)), ty)] else []) ++ _ = _
    rw [hk', hc]; rfl
  have e1 := hL Dd c hDk (by show (bif _ then _ else _) = _; rw [my.not]; rfl)
  have e2 := hL (ins Dd i) e (by rw [ins_ne _ hki]; exact hDk) (by show (bif _ then _ else _) = _; rw [ins_self]; rfl)
  rw [old_ins Dd i _ h1, (nws_ins Dd ν i 0 _ h2 hn.1).2, (nws_ins Dd ν i 0 _ h3 hn.2).2] at e2
  have hj : (rws l m Dd ν)[(old Dd l ++ nws Dd ν ((m ν).take p)).length]? = some (ν k, c, ty) := by
    rw [e1, List.getElem?_append_right (Nat.le_refl _), Nat.sub_self]; rfl
  have hB := Wn.row hO _ hj
  refine wp_store_row ty x y ho _ e (hx ν) (hy ν) ty _ hB (hf.size h5) ?_ hf.one ?_
  · have h1 := (Wn.fits hO _ hj).size h5
    rw [hf.size h5] at h1
    exact (Option.some.inj h1).symm
  · refine ⟨ν, by rw [put_defers]; exact hF ν, by rw [hd]; rfl, ?_⟩
    show Wn u _ (rws l m (ins Dd i) ν)
    have e3 : rws l m (ins Dd i) ν = (rws l m Dd ν).set (old Dd l ++ nws Dd ν ((m ν).take p)).length (ν k, e, ty) := by
      rw [e2, e1, List.set_append_right _ _ (Nat.le_refl _), Nat.sub_self]; rfl
    rw [e3]
    exact Wn.put hO _ hj (hB.row e) (st1_row w _ _) hf
end
def allin (n : Nat) (l m : List Ent) : Bool := (l.all fun e => match e.2.2.2 with | none => true | some q => decide (q.1 < n)) && (m.all fun e => decide (e.1 < n) && match e.2.2.2 with | none => true | some q => decide (q.1 < n))
theorem cur_all (D : Dn) (n : Nat) (hD : ∀ i, i < n → D i = true) (c : Array Value) : ∀ q : Option (Nat × Array Value), (match q with | none => true | some q => decide (q.1 < n)) = true → cur D c q = cur (fun _ => true) c q
  | none, _ => rfl
  | some q, h => by
    show (bif D q.1 then q.2 else c) = (bif true then q.2 else c)
    rw [hD q.1 (of_decide_eq_true h)]
theorem rws_all (D : Dn) (ν : Nu) (n : Nat) (hD : ∀ i, i < n → D i = true) (l : List Ent) (m : Nu → List Ent) (h : allin n l (m ν) = true) : rws l m D ν = rws l m (fun _ => true) ν := by
  unfold allin at h
  rw [Bool.and_eq_true] at h
  unfold rws
  congr 1
  · have h1 := h.1
    clear h
    induction l with
    | nil => rfl
    | cons e r ih =>
      rw [List.all_cons, Bool.and_eq_true] at h1
      unfold old
      rw [cur_all D n hD _ _ h1.1, ih h1.2]
  · have h2 := h.2
    clear h
    generalize m ν = mm at h2
    induction mm with
    | nil => rfl
    | cons e r ih =>
      rw [List.all_cons, Bool.and_eq_true, Bool.and_eq_true] at h2
      unfold nws
      rw [cur_all D n hD _ _ h2.1.2, hD e.1 (of_decide_eq_true h2.1.1), ih h2.2]
/-- A region that draws its order, over rows by flags. -/
theorem pg {ops : Array Oper} {Q : Exit → Act → World → Prop} {id : Nat} {a0 : Act} {u w : World} (ds : Nu → List (Nat × Value)) (l : List Ent) (m : Nu → List Ent) (ν : Nu) (h0 : Wn u w.drew (rws l m (fun _ => false) ν)) (hob : All (Ob ops Tryz.prog (fun ν => putL a0 (ds ν)) (OD u (rws l m))) 0 ops.toList) (H : ∀ ν w', Wn u w' (rws l m (fun _ => true) ν) → Q .normal (putL a0 (ds ν)) w')
    (hm : Tryz.prog.follows .mixedOrders = true := by kernel_rfl) (hc : chk true ops = true := by kernel_rfl) (hd : a0.defers = [] := by kernel_rfl)
    (hks : ∀ ν, ((ds ν).all fun p => (dsts ops).contains p.1) = true := by intro ν; kernel_rfl) (ha : ∀ ν, allin ops.size l (m ν) = true := by intro ν; kernel_rfl) : (Code.region id ops true).wp Tryz.prog Q a0 w :=
  pf ds (OD u (rws l m)) ν h0 hob (fun D ν w' hD hI => H ν w' (rws_all D ν ops.size hD l m (ha ν) ▸ hI)) hm hc hd hks
end Rf
end Go.Proofs.YtbpmakegimgbpaaGreatDoor

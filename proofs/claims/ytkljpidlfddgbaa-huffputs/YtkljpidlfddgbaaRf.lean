/- Regions that draw their order, over one frame, where what is laid anew may come up at any time: what holds is told by which operations are done. No program; no conditions but those that each law names. -/
import Derived.Test.YtkljpidlfddgbaaRg
namespace Go.Proofs.Ytkljpidlfddgbaa
open Go.RowKit

namespace Rf
open Rg
/-- Which operations are done. -/
abbrev Dn := Nat → Bool
def ins (D : Dn) (i : Nat) : Dn := fun k => bif k == i then true else D k
section
variable (ops : Array Oper)
/-- Operation i may come up. -/
structure May (D : Dn) (i : Nat) : Prop where
  pre : ∀ j, aft true ops i j = true → D j = true
  not : D i = false
  cl : ∀ k j, D k = true → aft true ops k j = true → D j = true
variable (P : Program) (F : Nu → Act) (I : Dn → Nu → World → Prop)
/-- An operation that leaves the world as it is. -/
def NS (i : Nat) (o : Oper) : Prop := (∀ D ν w, I D ν w → I (ins D i) ν w) ∧ ∀ ν,
  (Region.wanted o (yielded ops (F ν).tmps) = true ∧ ∃ v, (F ν).put o.dst v = F ν ∧ ∀ D w, May ops D i → I D ν w → (execOp (F ν).eval o).run P w = .ok (.value v) w) ∨
  (Region.wanted o (yielded ops (F ν).tmps) = false ∧ (F ν).put o.dst undef = F ν)
/-- A step: an operation that changes the world. -/
def SS (i : Nat) (o : Oper) : Prop := ∀ ν, Region.wanted o (yielded ops (F ν).tmps) = true ∧ ∀ D w, May ops D i → I D ν w →
  o.wp P (F ν) w (fun a' w' => ∃ ν', a'.defers = [] ∧ msk ops a'.tmps (deps true ops i) = msk ops (F ν').tmps (deps true ops i) ∧ I (ins D i) ν' w') (fun _ _ _ => False)
def Ob (i : Nat) (o : Oper) : Prop := NS ops P F I i o ∨ SS ops P F I i o
structure St (listed : Array Bool) (a : Act) (w : World) : Prop where
  sz : listed.size = ops.size
  cl : ∀ i j, listed.getD i false = true → aft true ops i j = true → listed.getD j false = true
  ag : ∃ ν, a.defers = [] ∧ a.tmps.size = (F ν).tmps.size ∧ (∀ k, Settled ops listed k → a.tmps[k]? = (F ν).tmps[k]?) ∧ I (fun j => listed.getD j false) ν w
end
section
variable {P : Program} {ops : Array Oper} {F : Nu → Act} {I : Dn → Nu → World → Prop} {Q : Exit → Act → World → Prop} {K : Act → World → Prop}
theorem ins_list {listed : Array Bool} {i : Nat} (h : i < listed.size) : (fun j => (listed.setIfInBounds i true).getD j false) = ins (fun j => listed.getD j false) i := funext fun j => by
  unfold ins
  have := set_getD (listed := listed) h j
  by_cases hj : j = i
  · subst hj
    rw [this.2 (.inl rfl)]
    simp
  · have e : (j == i) = false := by simpa using hj
    rw [e]
    show _ = listed.getD j false
    cases hl : listed.getD j false with
    | true => exact this.2 (.inr hl)
    | false =>
      cases hs : (listed.setIfInBounds i true).getD j false with
      | false => rfl
      | true =>
        rcases this.1 hs with h | h
        · exact (hj h).elim
        · rw [hl] at h; cases h
theorem step {listed : Array Bool} {a : Act} {w : World} {i : Nat} {o : Oper} (hc : chk true ops = true) (hob : Ob ops P F I i o) (ho : ops[i]? = some o) (hi : listed.getD i true = false) (hr : ∀ j, aft true ops i j = true → listed.getD j false = true)
    (S : St ops F I listed a w) (hK : ∀ a' w', St ops F I (listed.setIfInBounds i true) a' w' → K a' w') : if Region.wanted o (yielded ops a.tmps) = true then o.wp P a w K Q else K (a.put o.dst undef) w := by
  have hlt : i < listed.size := by rw [S.sz]; exact (Array.getElem?_eq_some_iff.1 ho).1
  have hi' := getD_of hi
  have hcl : ∀ x j, (listed.setIfInBounds i true).getD x false = true → aft true ops x j = true → (listed.setIfInBounds i true).getD j false = true := by
    intro x j hx ha
    rw [set_getD hlt] at hx ⊢
    rcases hx with rfl | hx
    · exact .inr (hr j ha)
    · exact .inr (S.cl x j hx ha)
  obtain ⟨ν, hdf, hsz, hag, hI⟩ := S.ag
  obtain ⟨he, hw⟩ := same_ops hc ho hr hag
  have hmay : May ops (fun j => listed.getD j false) i := ⟨hr, hi', S.cl⟩
  have hset : ∀ k, Settled ops (listed.setIfInBounds i true) k → o.dst ≠ some k → Settled ops listed k := by
    intro k hk hne j hj
    rcases (set_getD hlt j).1 (hk j hj) with rfl | h
    · unfold dstOf at hj
      rw [Array.getElem?_toList, ho] at hj
      exact (hne hj).elim
    · exact h
  rw [hw]
  rcases hob with ⟨hins, hob⟩ | hob
  · have hfin : ∀ v, (F ν).put o.dst v = F ν → K (a.put o.dst v) w := by
      intro v hv
      refine hK _ _ ⟨by rw [Array.size_setIfInBounds]; exact S.sz, hcl, ν, by rw [put_defers]; exact hdf, by rw [put_size]; exact hsz, fun k hk => ?_, by rw [ins_list hlt]; exact hins _ _ _ hI⟩
      by_cases hd : o.dst = some k
      · rw [hd, put_at a (F ν) k v hsz, ← hd, hv]
      · rw [put_tmps _ _ _ _ hd]; exact hag k (hset k hk hd)
    rcases hob ν with ⟨hwt, v, hv, hrun⟩ | ⟨hwt, hv⟩
    · rw [if_pos hwt]
      unfold Oper.wp
      rw [he, hrun _ w hmay hI, Oper.upon_value]
      exact hfin v hv
    · rw [if_neg (by rw [hwt]; exact Bool.false_ne_true)]
      exact hfin undef hv
  · obtain ⟨hwt, hob⟩ := hob ν
    rw [if_pos hwt]
    refine wp_to he (hob _ w hmay hI) ?_ ?_
    · rintro v w' ⟨ν', hd, hm, hI'⟩
      have hD := depsL_not (b := true) (ops := ops) S.cl hi' (List.range ops.toList.length) [] (fun _ h => nomatch h)
      have hsz2 : (F ν).tmps.size = (F ν').tmps.size := by
        have := congrArg Array.size hm
        rwa [msk_size, msk_size, put_size] at this
      refine hK _ _ ⟨by rw [Array.size_setIfInBounds]; exact S.sz, hcl, ν', by rw [put_defers]; exact hdf, by rw [put_size, hsz, hsz2], fun k hk => ?_, by rw [ins_list hlt]; exact hI'⟩
      have hk' : ∀ j ∈ deps true ops i, dstOf ops j ≠ some k := by
        intro j hj e
        obtain ⟨h1, h2⟩ := hD j hj
        rcases (set_getD hlt j).1 (hk j e) with h | h
        · exact h2 h
        · rw [h] at h1; cases h1
      have hm' := congrArg (·[k]?) hm
      simp only [msk_get ops _ k _ hk'] at hm'
      rw [← hm']
      by_cases hd2 : o.dst = some k
      · rw [hd2]; exact put_at a (F ν) k v hsz
      · rw [put_tmps _ _ _ _ hd2, put_tmps _ _ _ _ hd2]; exact hag k (hset k hk hd2)
    · rintro d w' ⟨ν', hd, _⟩
      rw [put_defers] at hd
      cases hd
theorem done {listed : Array Bool} {a : Act} {w : World} (hF : ∀ ν, (F ν).defers = []) (S : St ops F I listed a w) (hall : ∀ i, i < ops.size → listed.getD i false = true) (H : ∀ D ν w', (∀ i, i < ops.size → D i = true) → I D ν w' → Q .normal (F ν) w') : Q .normal a w := by
  obtain ⟨ν, hdf, hsz, hag, hI⟩ := S.ag
  have ha : a = F ν := by
    have ht : a.tmps = (F ν).tmps := by
      apply Array.ext_getElem?
      intro k
      refine hag k fun j hj => hall j ?_
      unfold dstOf at hj
      rw [Array.getElem?_toList] at hj
      cases hn : ops[j]? with
      | none => rw [hn] at hj; cases hj
      | some y => exact (Array.getElem?_eq_some_iff.1 hn).1
    have hd := hF ν
    generalize F ν = f at *
    obtain ⟨t1, d1⟩ := a
    obtain ⟨t2, d2⟩ := f
    simp_all
  rw [ha]; exact H _ ν w hall hI
theorem any (hc : chk true ops = true) (hF : ∀ ν, (F ν).defers = []) (hob : All (Ob ops P F I) 0 ops.toList) (H : ∀ D ν w', (∀ i, i < ops.size → D i = true) → I D ν w' → Q .normal (F ν) w') :
    ∀ fuel listed a w, left listed = fuel → St ops F I listed a w → wpAny P .any ops Q fuel listed a w
  | 0, listed, a, w, hl, S => by
    have hall : ∀ i, i < ops.size → listed.getD i false = true := fun i hi => left_zero hl i (by rw [S.sz]; exact hi)
    refine ⟨?_, done hF S hall H⟩
    apply List.eq_nil_iff_forall_not_mem.2
    intro j hj
    obtain ⟨h1, o, ho, _⟩ := mem_ready.1 hj
    have := hall j (Array.getElem?_eq_some_iff.1 ho).1
    rw [getD_of h1] at this; cases this
  | fuel + 1, listed, a, w, hl, S => by
    refine ⟨fun hr => ?_, fun i hi => ?_⟩
    · exfalso
      have hex : ∃ i, i < ops.size ∧ listed.getD i true = false := by
        have hp : 0 < listed.toList.countP (! ·) := by unfold left at hl; omega
        obtain ⟨x, hx, hxv⟩ := List.countP_pos_iff.1 hp
        obtain ⟨i, hil, hi⟩ := List.getElem_of_mem hx
        refine ⟨i, by rw [← S.sz]; simpa using hil, ?_⟩
        have : listed[i]? = some x := by rw [← Array.getElem?_toList, List.getElem?_eq_getElem hil, hi]
        simp [Array.getD_eq_getD_getElem?, this]; simpa using hxv
      obtain ⟨i, hi, hm⟩ : ∃ i, (i < ops.size ∧ listed.getD i true = false) ∧ ∀ j, j < i → ¬ (j < ops.size ∧ listed.getD j true = false) := by
        obtain ⟨i, hi⟩ := hex
        induction i using Nat.strongRecOn with
        | _ i ih =>
          by_cases h : ∃ j, j < i ∧ (j < ops.size ∧ listed.getD j true = false)
          · obtain ⟨j, hj, hj2⟩ := h
            exact ih j hj hj2
          · exact ⟨i, hi, fun j hj hj2 => h ⟨j, hj, hj2⟩⟩
      have : i ∈ Region.ready .any ops listed := by
        have ho := Array.getElem?_eq_getElem hi.1
        refine mem_ready.2 ⟨hi.2, ops[i], ho, fun e he hb => ?_⟩
        have hlt := (chk_at hc ho).2.2 rfl e he hb
        have hn := hm e.on hlt
        have hsz : e.on < listed.size := by rw [S.sz]; omega
        cases hx : listed.getD e.on false with
        | true => rfl
        | false =>
          refine (hn ⟨by omega, ?_⟩).elim
          simp only [Array.getD_eq_getD_getElem?, Array.getElem?_eq_getElem hsz] at hx ⊢
          exact hx
      rw [hr] at this; cases this
    · obtain ⟨h1, o, ho, hall⟩ := mem_ready.1 hi
      refine wpOp_step ho fun K hK => ?_
      have h2 := All.get _ hob (i := i) (by rw [Array.getElem?_toList]; exact ho)
      rw [Nat.zero_add] at h2
      refine step hc h2 ho h1 (fun j hj => ?_) S fun a' w' hS => hK _ _ (any hc hF hob H fuel _ a' w' (by have := left_set h1; omega) hS)
      unfold aft at hj
      rw [if_pos rfl, Array.getElem?_toList, ho] at hj
      simp only [Option.map_some, Option.getD_some, List.any_eq_true, Bool.and_eq_true, beq_iff_eq] at hj
      obtain ⟨e, he, hb, rfl⟩ := hj
      exact hall e (by simpa using he) hb
/-- A region that draws its order. -/
theorem pf {id : Nat} {a0 : Act} {w : World} (ds : Nu → List (Nat × Value)) (I : Dn → Nu → World → Prop) (ν : Nu) (h0 : I (fun _ => false) ν w.drew) (hob : All (Ob ops P (fun ν => putL a0 (ds ν)) I) 0 ops.toList) (H : ∀ D ν w', (∀ i, i < ops.size → D i = true) → I D ν w' → Q .normal (putL a0 (ds ν)) w')
    (hm : P.follows .mixedOrders = true := by kernel_rfl) (hc : chk true ops = true := by kernel_rfl) (hd : a0.defers = [] := by kernel_rfl)
    (hks : ∀ ν, ((ds ν).all fun p => (dsts ops).contains p.1) = true := by intro ν; kernel_rfl) : (Code.region id ops true).wp P Q a0 w := by
  have hz : ∀ j, (Array.replicate ops.size false).getD j false = false := reps _
  refine wp_region_any hm (any hc (fun ν => (putL_defers _ _).trans hd) hob H _ _ _ _ ?_ ⟨by simp, fun i j hi => (by rw [hz i] at hi; cases hi), ν, hd, (putL_size _ _).symm, fun k hk => ?_, ?_⟩)
  · unfold left
    simp [List.countP_replicate]
  · refine (putL_get a0 k (ds ν) fun p hp e => ?_).symm
    have h1 := List.all_eq_true.1 (hks ν) p hp
    simp only [List.contains_iff_mem, dsts, List.mem_filterMap] at h1
    obtain ⟨j, _, hj⟩ := h1
    have := hk j (hj.trans (congrArg some e))
    rw [hz j] at this; cases this
  · rw [show (fun j => (Array.replicate ops.size false).getD j false) = fun _ => false from funext hz]
    exact h0
end
end Rf
end Go.Proofs.Ytkljpidlfddgbaa

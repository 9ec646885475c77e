/- Regions whose last operation lays a variable anew that others have looked at. No program; no conditions but those that each law names. -/
import Derived.Test.YtkljpidlfddgbaaRg
namespace Go.Proofs.Ytkljpidlfddgbaa
open Go.RowKit

namespace Rg
section
variable {P : Program} {ops : Array Oper} {Q : Exit → Act → World → Prop}
/-- The last operation tells nothing. -/
def muteL (l : Nat) : Nat → List Oper → List Oper
  | _, [] => []
  | k, o :: r => (cond (Nat.beq k l) { o with dst := none } o) :: muteL l (k + 1) r
def mute (ops : Array Oper) (l : Nat) : Array Oper := (muteL l 0 ops.toList).toArray
theorem muteL_len (l : Nat) : ∀ (L : List Oper) k, (muteL l k L).length = L.length
  | [], _ => rfl
  | _ :: r, k => by rw [muteL, List.length_cons, List.length_cons, muteL_len l r]
theorem muteL_get (l : Nat) : ∀ (L : List Oper) k i, (muteL l k L)[i]? = (L[i]?).map fun o => cond (Nat.beq (k + i) l) { o with dst := none } o
  | [], _, _ => by simp [muteL]
  | o :: r, k, 0 => by simp [muteL]
  | o :: r, k, i + 1 => by
    rw [muteL, List.getElem?_cons_succ, List.getElem?_cons_succ, muteL_get l r, show k + 1 + i = k + (i + 1) by omega]
/-- What is wanted ahead of the last operation's telling. -/
def QL (Q : Exit → Act → World → Prop) (d : Tmp) (x : Operand) : Exit → Act → World → Prop
  | .normal, a, w => Q .normal (a.put (some d) (a.eval x)) w
  | e, a, w => Q e a w
theorem mute_get (l i : Nat) : (mute ops l)[i]? = (ops[i]?).map fun o => cond (Nat.beq i l) { o with dst := none } o := by
  unfold mute
  rw [List.getElem?_toArray, muteL_get, Array.getElem?_toList, Nat.zero_add]
theorem mute_ne {l i : Nat} (h : i ≠ l) : (mute ops l)[i]? = ops[i]? := by
  have hb : Nat.beq i l = false := by
    cases hx : Nat.beq i l with
    | false => rfl
    | true => exact (h (Nat.eq_of_beq_eq_true hx)).elim
  rw [mute_get, hb]; simp
theorem mute_at {l : Nat} {o : Oper} (h : ops[l]? = some o) : (mute ops l)[l]? = some { o with dst := none } := by
  rw [mute_get, h, Nat.beq_refl]; rfl
theorem mute_size (l : Nat) : (mute ops l).size = ops.size := by unfold mute; rw [List.size_toArray, muteL_len, Array.length_toList]
theorem mute_ready (l : Nat) (listed : Array Bool) : Region.ready .any (mute ops l) listed = Region.ready .any ops listed := by
  unfold Region.ready
  rw [mute_size]
  apply List.filter_congr
  intro i _
  by_cases h : i = l
  · subst h
    cases ho : ops[i]? with
    | none =>
      have : (mute ops i)[i]? = none := by
        rw [Array.getElem?_eq_none_iff, mute_size]; exact Array.getElem?_eq_none_iff.1 ho
      rw [this]
    | some o => rw [mute_at ho]; rfl
  · rw [mute_ne h]
theorem ready_ne {listed : Array Bool} (hb : ∀ (i : Nat) (o : Oper), ops[i]? = some o → ∀ e ∈ o.after, Region.binds .any e = true → e.on < i) (hs : listed.size = ops.size) (hex : ∃ i, i < ops.size ∧ listed.getD i true = false) : Region.ready .any ops listed ≠ [] := by
  intro hr
  obtain ⟨i, hi, hm⟩ : ∃ i, (i < ops.size ∧ listed.getD i true = false) ∧ ∀ j, j < i → ¬ (j < ops.size ∧ listed.getD j true = false) := by
    obtain ⟨i, hi⟩ := hex
    induction i using Nat.strongRecOn with
    | _ i ih =>
      by_cases h : ∃ j, j < i ∧ (j < ops.size ∧ listed.getD j true = false)
      · obtain ⟨j, hj, hj2⟩ := h
        exact ih j hj hj2
      · exact ⟨i, hi, fun j hj hj2 => h ⟨j, hj, hj2⟩⟩
  have : i ∈ Region.ready .any ops listed := by
    have ho := Array.getElem?_eq_getElem hi.1
    refine mem_ready.2 ⟨hi.2, ops[i], ho, fun e he hbi => ?_⟩
    have hlt := hb i _ ho e he hbi
    have hn := hm e.on hlt
    have hsz : e.on < listed.size := by rw [hs]; omega
    cases hx : listed.getD e.on false with
    | true => rfl
    | false =>
      refine (hn ⟨by omega, ?_⟩).elim
      simp only [Array.getD_eq_getD_getElem?, Array.getElem?_eq_getElem hsz] at hx ⊢
      exact hx
  rw [hr] at this; cases this
theorem wp_QL {o : Oper} {a : Act} {w : World} {K : Act → World → Prop} {d : Tmp} {x : Operand} (h : o.wp P a w K (QL Q d x)) : o.wp P a w K Q := by
  unfold Oper.wp at *
  generalize (execOp a.eval o).run P w = r at *
  cases r with
  | ok n w' =>
    cases n <;> simp only [Oper.upon] at h ⊢ <;>
      first
        | exact h
        | exact Calls.mono h (fun e w'' he => by cases e <;> exact he)
  | halt x w' => cases x <;> simp only [Oper.upon] at h ⊢ <;> exact h
/-- All others come ahead of the last one, which lays a variable. -/
theorem last_go {l : Nat} {ol : Oper} {d : Tmp} {x : Operand} (hb : ∀ (i : Nat) (o : Oper), ops[i]? = some o → ∀ e ∈ o.after, Region.binds .any e = true → e.on < i) (hol : ops[l]? = some ol) (hop : ol.op = .assign x) (hd : ol.dst = some d) (hg : ol.guard = none) (haf : ∀ j, j < ops.size → j ≠ l → ∃ e ∈ ol.after, Region.binds .any e = true ∧ e.on = j) (hgu : ∀ (i : Nat) (o : Oper) (g : Nat) (b : Bool), ops[i]? = some o → o.guard = some (g, b) → g ≠ l) :
    ∀ fuel listed a w, listed.size = ops.size → listed.getD l true = false → wpAny P .any (mute ops l) (QL Q d x) fuel listed a w → wpAny P .any ops Q fuel listed a w := by
  have hll : l < ops.size := (Array.getElem?_eq_some_iff.1 hol).1
  intro fuel
  induction fuel with
  | zero =>
    intro listed a w hs hn h
    have := h.1
    rw [mute_ready] at this
    exact (ready_ne hb hs ⟨l, hll, hn⟩ this).elim
  | succ fuel ih =>
    intro listed a w hs hn h
    refine ⟨fun hr => (ready_ne hb hs ⟨l, hll, hn⟩ hr).elim, fun i hi => ?_⟩
    have h1 := h.2 i (by rw [mute_ready]; exact hi)
    obtain ⟨hui, o, ho, hall⟩ := mem_ready.1 hi
    by_cases hil : i = l
    · subst hil
      obtain rfl := Option.some.inj (hol.symm.trans ho)
      unfold wpOp at h1 ⊢
      rw [mute_at hol] at h1
      rw [hol]
      have hw : ∀ (ops' : Array Oper) (t : Array Value), Region.wanted ol (yielded ops' t) = true := fun _ _ => by unfold Region.wanted; rw [hg]
      have hw' : ∀ (ops' : Array Oper) (t : Array Value), Region.wanted { ol with dst := none } (yielded ops' t) = true := fun _ _ => by unfold Region.wanted; simp only [hg]
      simp only [hw, hw', if_true] at h1 ⊢
      have hrun : (execOp a.eval ol).run P w = .ok (.value (a.eval x)) w := by unfold execOp; simp only [hop]; rfl
      have hrun' : (execOp a.eval { ol with dst := none }).run P w = .ok (.value (a.eval x)) w := by unfold execOp; simp only [hop]; rfl
      have hlist : ∀ j, j < ops.size → (listed.setIfInBounds i true).getD j false = true := by
        intro j hj
        rw [set_getD (by rw [hs]; exact hll)]
        by_cases hji : j = i
        · exact .inl hji
        · obtain ⟨e, he, hbi, rfl⟩ := haf j hj hji
          exact .inr (hall e he hbi)
      have hnil : Region.ready .any ops (listed.setIfInBounds i true) = [] := by
        apply List.eq_nil_iff_forall_not_mem.2
        intro j hj
        obtain ⟨h3, o3, ho3, _⟩ := mem_ready.1 hj
        have := hlist j (Array.getElem?_eq_some_iff.1 ho3).1
        rw [getD_of h3] at this; cases this
      left
      unfold Oper.wp
      rw [hrun, Oper.upon_value, hd]
      have hq : Q .normal (a.put (some d) (a.eval x)) w := by
        rcases h1 with h1 | ⟨h1, _⟩
        · unfold Oper.wp at h1
          rw [hrun', Oper.upon_value] at h1
          cases fuel with
          | zero => exact h1.2
          | succ f => exact h1.1 (by rw [mute_ready]; exact hnil)
        · exfalso
          have := h1.1
          unfold execOp at this
          simp only [hop] at this
          have e : ((Sem.pure (Next.value (a.eval x)) : Sem Next).runT P w #[]).2 = #[] := rfl
          exact absurd this (by
            intro hm
            have hm' : noRoomEvent ∈ ((Sem.pure (Next.value (a.eval x)) : Sem Next).runT P w #[]).2 := hm
            rw [e] at hm'
            simp at hm')
      cases fuel with
      | zero => exact ⟨hnil, hq⟩
      | succ f => exact ⟨fun _ => hq, fun j hj => by rw [hnil] at hj; cases hj⟩
    · have hwant : Region.wanted o (yielded (mute ops l) a.tmps) = Region.wanted o (yielded ops a.tmps) := by
        unfold Region.wanted
        cases hgo : o.guard with
        | none => rfl
        | some gb =>
          obtain ⟨g, bb⟩ := gb
          have : yielded (mute ops l) a.tmps g = yielded ops a.tmps g := by
            unfold yielded; rw [mute_ne (hgu i o g bb ho hgo)]
          simp only [this]
      have hK : ∀ a' w', wpAny P .any (mute ops l) (QL Q d x) fuel (listed.setIfInBounds i true) a' w' → wpAny P .any ops Q fuel (listed.setIfInBounds i true) a' w' := fun a' w' h' => ih _ a' w' (by rw [Array.size_setIfInBounds]; exact hs) (by rw [getD_set_ne true hil]; exact hn) h'
      unfold wpOp at h1 ⊢
      rw [mute_ne hil, ho] at h1
      rw [ho]
      dsimp only at h1 ⊢
      rw [hwant] at h1
      split at h1
      · rename_i hw
        rw [if_pos hw]
        rcases h1 with h1 | ⟨h1, a2, w2, h2⟩
        · exact .inl (wp_QL (Oper.wp_mono hK h1))
        · exact .inr ⟨h1, a2, w2, h2⟩
      · rename_i hw
        rw [if_neg hw]
        exact hK _ _ h1
/-- All others come ahead of operation l, and none is guarded by it. -/
def lastB (ops : Array Oper) (l : Nat) : Bool := ((List.range ops.toList.length).all fun j => Nat.beq j l || aft true ops l j) && ops.toList.all fun o => match o.guard with | some (g, _) => !Nat.beq g l | none => true
variable {sts : List Nat} {I : Nat → Nu → World → Prop}
/-- A region that draws its order, and lays a variable anew at its end. -/
theorem pl {id : Nat} {a0 : Act} {w : World} (l : Nat) {ol : Oper} {d : Tmp} {x : Operand} (sts : List Nat) (ds : Nu → List (Nat × Value)) (I : Nat → Nu → World → Prop) (ν : Nu) (h0 : I 0 ν w.drew) (hob : All (Ob true P (mute ops l) sts (fun ν => putL a0 (ds ν)) I) 0 (muteL l 0 ops.toList)) (v : Nu → Value) (H : ∀ ν w', I sts.length ν w' → Q .normal ((putL a0 (ds ν)).put (some d) (v ν)) w') (hv : ∀ ν, (putL a0 (ds ν)).eval x = v ν := by intro ν; kernel_rfl)
    (hol : ops[l]? = some ol := by rfl) (hop : ol.op = .assign x := by rfl) (hdl : ol.dst = some d := by rfl) (hg : ol.guard = none := by rfl) (hlast : lastB ops l = true := by kernel_rfl)
    (hm : P.follows .mixedOrders = true := by kernel_rfl) (hc : chk true (mute ops l) = true := by kernel_rfl) (hnd : sts.Nodup := by decide) (hs : ∀ j ∈ sts, j < ops.size := by decide) (hd : a0.defers = [] := by kernel_rfl)
    (hks : ∀ ν, ((ds ν).all fun p => (dsts (mute ops l)).contains p.1) = true := by intro ν; kernel_rfl) : (Code.region id ops true).wp P Q a0 w := by
  have hll : l < ops.size := (Array.getElem?_eq_some_iff.1 hol).1
  unfold lastB at hlast
  rw [Bool.and_eq_true] at hlast
  obtain ⟨hl1, hl2⟩ := hlast
  refine wp_region_any hm (last_go (d := d) (x := x) ?_ hol hop hdl hg ?_ ?_ _ _ _ _ (by simp) (by simp [hll]) ?_)
  · intro i o ho e he hb
    by_cases hil : i = l
    · subst hil
      exact (chk_at hc (mute_at ho)).2.2 rfl e he hb
    · exact (chk_at hc ((mute_ne hil).trans ho)).2.2 rfl e he hb
  · intro j hj hne
    have h1 := List.all_eq_true.1 hl1 j (List.mem_range.2 (by rw [Array.length_toList]; exact hj))
    rw [Bool.or_eq_true] at h1
    rcases h1 with h1 | h1
    · exact (hne (Nat.eq_of_beq_eq_true h1)).elim
    · unfold aft at h1
      rw [if_pos rfl, Array.getElem?_toList, hol] at h1
      simp only [Option.map_some, Option.getD_some, List.any_eq_true, Bool.and_eq_true, beq_iff_eq] at h1
      obtain ⟨e, he, hb, hj⟩ := h1
      exact ⟨e, by simpa using he, hb, hj⟩
  · intro i o g b ho hgo hgl
    have h1 := List.all_eq_true.1 hl2 o (by simpa using Array.mem_of_getElem? ho)
    rw [hgo] at h1
    subst hgl
    simp at h1
  · have hsz : (mute ops l).size = ops.size := mute_size l
    have := any (Q := QL Q d x) hc hnd (fun j hj => by rw [hsz]; exact hs j hj) (fun ν => (putL_defers _ _).trans hd) (show All _ 0 (mute ops l).toList from hob) (fun ν w' hI => (by show Q .normal _ _; rw [hv ν]; exact H ν w' hI)) ops.size (Array.replicate ops.size false) a0 _ (by unfold left; simp [List.countP_replicate]) (putL_start (by simp [hsz]) (reps _) hd ν hks h0)
    exact this
end
end Rg
end Go.Proofs.Ytkljpidlfddgbaa

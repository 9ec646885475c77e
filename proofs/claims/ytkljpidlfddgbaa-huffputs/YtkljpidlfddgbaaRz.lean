/- Regions that draw their order where a variable is looked at by some operations and laid anew by others. No conditions but those that each names. -/
import Derived.Test.YtkljpidlfddgbaaRm
namespace Go.Proofs.Ytkljpidlfddgbaa
set_option maxRecDepth 100000
open Go.RowKit Rg B


namespace Rz
open Rg
section
variable {P : Program} {ops : Array Oper} {Q : Exit → Act → World → Prop}
/-- Operation l tells what is known. -/
def frzL (l : Nat) (c : Value) : Nat → List Oper → List Oper
  | _, [] => []
  | k, o :: r => (cond (Nat.beq k l) { o with op := .move (.const c) } o) :: frzL l c (k + 1) r
def frz (ops : Array Oper) (l : Nat) (c : Value) : Array Oper := (frzL l c 0 ops.toList).toArray
theorem frzL_len (l : Nat) (c : Value) : ∀ (L : List Oper) k, (frzL l c k L).length = L.length
  | [], _ => rfl
  | _ :: r, k => by rw [frzL, List.length_cons, List.length_cons, frzL_len l c r]
theorem frzL_get (l : Nat) (c : Value) : ∀ (L : List Oper) k i, (frzL l c k L)[i]? = (L[i]?).map fun o => cond (Nat.beq (k + i) l) { o with op := .move (.const c) } o
  | [], _, _ => by simp [frzL]
  | o :: r, k, 0 => by simp [frzL]
  | o :: r, k, i + 1 => by
    rw [frzL, List.getElem?_cons_succ, List.getElem?_cons_succ, frzL_get l c r, show k + 1 + i = k + (i + 1) by omega]
theorem frz_get (l i : Nat) (c : Value) : (frz ops l c)[i]? = (ops[i]?).map fun o => cond (Nat.beq i l) { o with op := .move (.const c) } o := by
  unfold frz
  rw [List.getElem?_toArray, frzL_get, Array.getElem?_toList, Nat.zero_add]
theorem frz_size (l : Nat) (c : Value) : (frz ops l c).size = ops.size := by unfold frz; rw [List.size_toArray, frzL_len, Array.length_toList]
theorem frz_ready (l : Nat) (c : Value) (listed : Array Bool) : Region.ready .any (frz ops l c) listed = Region.ready .any ops listed := by
  unfold Region.ready
  rw [frz_size]
  apply List.filter_congr
  intro i _
  rw [frz_get]
  cases ops[i]? with
  | none => rfl
  | some o =>
    show _ = _
    simp only [Option.map_some]
    cases Nat.beq i l <;> rfl
theorem frz_yield (l : Nat) (c : Value) (t : Array Value) : yielded (frz ops l c) t = yielded ops t := by
  funext g
  unfold yielded
  rw [frz_get]
  cases ops[g]? with
  | none => rfl
  | some o =>
    simp only [Option.map_some, Option.bind_some]
    cases Nat.beq g l <;> rfl
theorem wp_keep {o : Oper} {a : Act} {w : World} {K : Act → World → Prop} (h : o.wp P a w K Q) : o.wp P a w (fun a' w' => K a' w' ∧ ∀ s, o.dst ≠ some s → a'.tmps[s]? = a.tmps[s]?) Q := by
  unfold Oper.wp at *
  generalize (execOp a.eval o).run P w = r at *
  cases r with
  | ok n w' =>
    cases n <;> simp only [Oper.upon] at h ⊢ <;>
      first
        | exact ⟨h, fun s hs => put_tmps _ _ _ _ hs⟩
        | exact Calls.mono h (fun e w'' he => by
            cases e with
            | returned v => exact ⟨he, fun s hs => put_tmps _ _ _ _ hs⟩
            | panicked c => exact he
            | outgrown => exact he)
        | exact Rows.mono h (fun _ _ he => ⟨he, fun s hs => put_tmps _ _ _ _ hs⟩)
  | halt x w' => cases x <;> simp only [Oper.upon] at h ⊢ <;> exact h
/-- Operation l looks at a variable that others lay behind it: it may as well tell what is known. -/
theorem frz_go {l s : Nat} {c : Value} {ol : Oper} (hol : ops[l]? = some ol) (hop : ol.op = .move (.tmp s)) (haf : ∀ (i : Nat) (o : Oper), ops[i]? = some o → o.dst = some s → ∃ e ∈ o.after, Region.binds .any e = true ∧ e.on = l) :
    ∀ fuel listed a w, listed.size = ops.size → (listed.getD l true = false → a.eval (.tmp s) = c) → wpAny P .any (frz ops l c) Q fuel listed a w → wpAny P .any ops Q fuel listed a w := by
  have hll : l < ops.size := (Array.getElem?_eq_some_iff.1 hol).1
  intro fuel
  induction fuel with
  | zero =>
    intro listed a w _ _ h
    exact ⟨by have := h.1; rwa [frz_ready] at this, h.2⟩
  | succ fuel ih =>
    intro listed a w hs hn h
    refine ⟨fun hr => h.1 (by rw [frz_ready]; exact hr), fun i hi => ?_⟩
    have h1 := h.2 i (by rw [frz_ready]; exact hi)
    obtain ⟨hui, o, ho, hall⟩ := mem_ready.1 hi
    have hil : i < listed.size := by rw [hs]; exact (Array.getElem?_eq_some_iff.1 ho).1
    have hsz : (listed.setIfInBounds i true).size = ops.size := by rw [Array.size_setIfInBounds]; exact hs
    unfold wpOp at h1 ⊢
    rw [frz_yield, frz_get, ho] at h1
    rw [ho]
    simp only [Option.map_some] at h1
    dsimp only at h1 ⊢
    by_cases hl : i = l
    · subst hl
      obtain rfl := Option.some.inj (hol.symm.trans ho)
      rw [Nat.beq_refl] at h1
      simp only [cond_true] at h1
      have he : execOp a.eval { ol with op := .move (.const c) } = execOp a.eval ol := by
        have hc := hn hui
        unfold execOp
        simp only [hop, hc]
        rfl
      have hx : (listed.setIfInBounds i true).getD i true = true := by simp [Array.getD_eq_getD_getElem?, hil]
      have hK : ∀ a' w', wpAny P .any (frz ops i c) Q fuel (listed.setIfInBounds i true) a' w' → wpAny P .any ops Q fuel (listed.setIfInBounds i true) a' w' := fun a' w' h' => ih _ a' w' hsz (fun e => by rw [hx] at e; cases e) h'
      have ew : ∀ K, ({ ol with op := .move (.const c) } : Oper).wp P a w K Q = ol.wp P a w K Q := fun K => by
        unfold Oper.wp
        rw [he]
        generalize (execOp a.eval ol).run P w = r
        cases r with
        | ok n w' => cases n <;> rfl
        | halt x w' => cases x <;> rfl
      have ea : ({ ol with op := .move (.const c) } : Oper).asks P a w = ol.asks P a w := by unfold Oper.asks; simp only [he]
      rw [ew, ea] at h1
      have eg : Region.wanted ({ ol with op := .move (.const c) } : Oper) (yielded ops a.tmps) = Region.wanted ol (yielded ops a.tmps) := rfl
      rw [eg] at h1
      split at h1
      · rename_i hw
        rw [if_pos hw]
        rcases h1 with h1 | h1
        · exact .inl (Oper.wp_mono hK h1)
        · exact .inr h1
      · rename_i hw
        rw [if_neg hw]
        exact hK _ _ h1
    · have hb : Nat.beq i l = false := by
        cases hx : Nat.beq i l with
        | false => rfl
        | true => exact (hl (Nat.eq_of_beq_eq_true hx)).elim
      rw [hb] at h1
      simp only [cond_false] at h1
      have hset : (listed.setIfInBounds i true).getD l true = listed.getD l true := getD_set_ne true hl
      have hK : ∀ a' w', (wpAny P .any (frz ops l c) Q fuel (listed.setIfInBounds i true) a' w' ∧ ∀ s, o.dst ≠ some s → a'.tmps[s]? = a.tmps[s]?) → wpAny P .any ops Q fuel (listed.setIfInBounds i true) a' w' := fun a' w' h' => ih _ a' w' hsz (fun e => by
        rw [hset] at e
        have hc := hn e
        have hd : o.dst ≠ some s := fun hd => by
          obtain ⟨x, hx, hbi, hxl⟩ := haf i o ho hd
          have := hall x hx hbi
          rw [hxl, getD_of e] at this
          cases this
        have ht := h'.2 s hd
        rw [← hc]
        simp only [Act.eval, Array.getD_eq_getD_getElem?, ht]) h'.1
      split at h1
      · rename_i hw
        rw [if_pos hw]
        rcases h1 with h1 | h1
        · exact .inl (Oper.wp_mono hK (wp_keep h1))
        · exact .inr h1
      · rename_i hw
        rw [if_neg hw]
        exact hK _ _ ⟨h1, fun s hs => put_tmps _ _ _ _ hs⟩
/-- Operation l moves slot s, and all that lay s come behind it. -/
def one (ops : Array Oper) (l s : Nat) : Bool := (match ((ops.toList[l]?).map (·.op) : Option Op) with | some (.move (.tmp t)) => Nat.beq t s | _ => false) && (List.range ops.toList.length).all fun i => dstOf ops i != some s || aft true ops i l
theorem one_op {l s : Nat} (h : one ops l s = true) : ∃ ol, ops[l]? = some ol ∧ ol.op = .move (.tmp s) := by
  unfold one at h
  rw [Bool.and_eq_true] at h
  have h1 := h.1
  rw [Array.getElem?_toList] at h1
  cases ho : ops[l]? with
  | none => rw [ho] at h1; simp at h1
  | some o =>
    rw [ho] at h1
    refine ⟨o, rfl, ?_⟩
    simp only [Option.map_some] at h1
    split at h1
    · rename_i t e
      rw [← Nat.eq_of_beq_eq_true h1]
      exact Option.some.inj e
    · cases h1
theorem one_af {l s : Nat} (h : one ops l s = true) (i : Nat) (o : Oper) (ho : ops[i]? = some o) (hd : o.dst = some s) : ∃ e ∈ o.after, Region.binds .any e = true ∧ e.on = l := by
  unfold one at h
  rw [Bool.and_eq_true] at h
  have h1 := List.all_eq_true.1 h.2 i (List.mem_range.2 (by rw [Array.length_toList]; exact (Array.getElem?_eq_some_iff.1 ho).1))
  rw [Bool.or_eq_true] at h1
  rcases h1 with h1 | h1
  · unfold dstOf at h1
    rw [Array.getElem?_toList, ho] at h1
    simp [hd] at h1
  · unfold aft at h1
    rw [if_pos rfl, Array.getElem?_toList, ho] at h1
    simp only [Option.map_some, Option.getD_some, List.any_eq_true, Bool.and_eq_true, beq_iff_eq] at h1
    obtain ⟨e, he, hb, hj⟩ := h1
    exact ⟨e, by simpa using he, hb, hj⟩
/-- Several of them. -/
def frzs (ops : Array Oper) : List (Nat × Nat × Value) → Array Oper
  | [] => ops
  | p :: r => frzs (frz ops p.1 p.2.2) r
def ones (ops : Array Oper) : List (Nat × Nat × Value) → Bool
  | [] => true
  | p :: r => one ops p.1 p.2.1 && ones (frz ops p.1 p.2.2) r
theorem frzs_size : ∀ (fz : List (Nat × Nat × Value)) (ops : Array Oper), (frzs ops fz).size = ops.size
  | [], _ => rfl
  | p :: r, ops => by rw [frzs, frzs_size r, frz_size]
theorem frzs_go : ∀ (fz : List (Nat × Nat × Value)) (ops : Array Oper), ones ops fz = true → ∀ fuel listed a w, listed.size = ops.size → (∀ p ∈ fz, a.eval (.tmp p.2.1) = p.2.2) → wpAny P .any (frzs ops fz) Q fuel listed a w → wpAny P .any ops Q fuel listed a w
  | [], _, _, _, _, _, _, _, _, h => h
  | p :: r, ops, h1, fuel, listed, a, w, hs, hv, h => by
    unfold ones at h1
    rw [Bool.and_eq_true] at h1
    obtain ⟨ol, hol, hop⟩ := one_op h1.1
    refine frz_go hol hop (one_af h1.1) fuel listed a w hs (fun _ => hv p List.mem_cons_self) ?_
    exact frzs_go r _ h1.2 fuel listed a w (by rw [frz_size]; exact hs) (fun q hq => hv q (List.mem_cons_of_mem _ hq)) h
end
section
variable {P : Program} {ops : Array Oper} {I : Rf.Dn → Nu → World → Prop} {Q : Exit → Act → World → Prop}
/-- A region that draws its order, where variables that some operations look at are laid anew by others behind them. -/
theorem pz {id : Nat} {a0 : Act} {w : World} (fz : List (Nat × Nat × Value)) (ds : Nu → List (Nat × Value)) (I : Rf.Dn → Nu → World → Prop) (ν : Nu) (h0 : I (fun _ => false) ν w.drew) (hob : All (Rf.Ob (frzs ops fz) P (fun ν => putL a0 (ds ν)) I) 0 (frzs ops fz).toList) (H : ∀ D ν w', (∀ i, i < ops.size → D i = true) → I D ν w' → Q .normal (putL a0 (ds ν)) w')
    (h1 : ones ops fz = true := by kernel_rfl) (hz : fz.map (fun p => a0.eval (.tmp p.2.1)) = fz.map (·.2.2) := by kernel_rfl)
    (hm : P.follows .mixedOrders = true := by kernel_rfl) (hc : chk true (frzs ops fz) = true := by kernel_rfl) (hd : a0.defers = [] := by kernel_rfl)
    (hks : ∀ ν, ((ds ν).all fun p => (dsts (frzs ops fz)).contains p.1) = true := by intro ν; kernel_rfl) : (Code.region id ops true).wp P Q a0 w := by
  have hsz : (frzs ops fz).size = ops.size := frzs_size fz ops
  have hr : ∀ j, (Array.replicate ops.size false).getD j false = false := reps _
  refine wp_region_any hm (frzs_go fz ops h1 _ _ _ _ (by simp) (fun p hp => ?_) ?_)
  · have := List.map_inj_left.1 hz p hp
    exact this
  · refine Rf.any hc (fun ν => (putL_defers _ _).trans hd) hob (fun D ν w' hall hI => H D ν w' (fun i hi => hall i (by rw [hsz]; exact hi)) hI) _ _ _ _ ?_ ⟨by simp [hsz], fun i j hi => (by rw [hr i] at hi; cases hi), ν, hd, (putL_size _ _).symm, fun k hk => ?_, ?_⟩
    · unfold left
      simp [List.countP_replicate]
    · refine (putL_get a0 k (ds ν) fun p hp e => ?_).symm
      have h1 := List.all_eq_true.1 (hks ν) p hp
      simp only [List.contains_iff_mem, dsts, List.mem_filterMap] at h1
      obtain ⟨j, _, hj⟩ := h1
      have := hk j (hj.trans (congrArg some e))
      rw [hr j] at this; cases this
    · rw [show (fun j => (Array.replicate ops.size false).getD j false) = fun _ => false from funext hr]
      exact h0
end
end Rz
namespace Rf
section
open Rg
variable {ops : Array Oper} {F : Nu → Act} {u : World} {L : Dn → Nu → List Row} {i : Nat} {o : Oper}
/-- Cells one behind the other, of the base world, as one value. -/
theorem fla {ty : TypeId} {x : Operand} {ad : Addr} {d : TypeDesc} (c : Array Value) (hc : ∀ w, Below u.heap.size u w → ∀ j v, c.toList[j]? = some v → w.cell? (ad.add j) = some v) (hu : Try.prog.underlying ty = some d) (hi : (Try.prog.info? ty).map (·.size) = some c.toList.length) (ho : o.op = .load ty x := by rfl) (hx : ∀ ν, (F ν).eval x = .pointer (some ad) := by intro ν; kernel_rfl) (hd : d.isRow = true := by rfl)
    (hI : ∀ D ν, L (ins D i) ν = L D ν := by intro D ν; kernel_rfl) (hv : ∀ ν, vof (F ν) o = .agg c := by intro ν; kernel_rfl) (hw : ∀ ν, Region.wanted o (yielded ops (F ν).tmps) = true := by intro ν; kernel_rfl) : Ob ops Try.prog F (OD u L) i o :=
  fw (fun _ => .agg c) (fun _ ν w _ hO => by
    have := run_lda (P := Try.prog) w ad ty c.toList d (hc w (Own.low hO)) hu hd hi
    have hx' := hx ν
    unfold execOp
    simp only [ho, hx', Instr.loadAt, Instr.sureAddr, Sem.run_bind, Sem.run_pure, Result.andThen_ok, this]) hI hv hw
end
end Rf
end Go.Proofs.Ytkljpidlfddgbaa

/- A range over a function: its rounds walked with the laws of regions. No conditions but those that each names. -/
import Derived.Test.YtkljpidlfddgbaaBm
import Derived.RangeFuncFrom
import Derived.RangeFuncLeaves
import Derived.RangeFuncCalls
import Derived.TacticsIn
import Derived.OrdersIn
namespace Go.Proofs.Ytkljpidlfddgbaa
set_option maxRecDepth 100000
open Go.RowKit Rg B


namespace Z
open Rg
abbrev FR (l : Nat) : Fence := Fence.wide.inRound l
section
variable {ops : Array Oper} {Q : Exit → Act → World → Prop} {n l : Nat}
def nd (o : Oper) : Bool := match o.op with | .defer _ => false | _ => true
theorem nd_ne {o : Oper} (h : nd o = true) (c : Call) : o.op ≠ .defer c := fun e => by
  unfold nd at h
  rw [e] at h
  cases h
theorem opIn {o : Oper} {a : Act} {w : World} {K : Act → World → Prop} (hd : nd o = true) (h : o.wp Try.prog a w K Q) : o.wpIn (FR l) n Try.prog a w K Q := by
  unfold Oper.wpIn
  refine ⟨fun _ _ => trivial, ?_⟩
  rw [Oper.semAt_eq _ _ _ (nd_ne hd)]
  unfold Oper.wp at h
  generalize (execOp a.eval o).run Try.prog w = r at *
  cases r with
  | ok x w' =>
    cases x <;> simp only [Oper.upon, Oper.uponIn] at h ⊢ <;>
      first
        | exact h
        | exact ⟨fun hd => (by simp [Fence.wide] at hd), fun c cs _ => let ⟨v, w'', r, s⟩ := h c cs; ⟨v, w'', r, stepsIn_wide.2 s⟩⟩
        | exact ⟨fun hd => (by simp [Fence.wide] at hd), CallsIn.inRound l ((callsIn_wide (n := n - 1)).2 (Calls.mono h fun e w'' he => by cases e <;> exact he))⟩
        | exact h.elim
  | halt x w' => cases x <;> simp only [Oper.upon, Oper.uponIn] at h ⊢ <;> exact h
theorem listIn (hQ : ¬ LetsOut Q) : ∀ (L : List Oper) (a : Act) (w : World), L.all nd = true → wpList Try.prog ops Q L a w → wpListIn (FR l) n Try.prog ops Q L a w
  | [], _, _, _, h => h
  | o :: r, a, w, hn, h => by
    rw [List.all_cons, Bool.and_eq_true] at hn
    unfold wpList at h
    unfold wpListIn
    split at h
    · rename_i hw
      rw [if_pos hw]
      rcases h with h | h
      · exact opIn hn.1 (Oper.wp_mono (fun a w => listIn hQ r a w hn.2) h)
      · exact absurd h.2 hQ
    · rename_i hw
      rw [if_neg hw]
      exact ⟨fun _ _ => trivial, listIn hQ r _ _ hn.2 h⟩
theorem anyIn (hQ : ¬ LetsOut Q) (hn : ops.toList.all nd = true) : ∀ (fuel : Nat) (listed : Array Bool) (a : Act) (w : World), wpAny Try.prog .any ops Q fuel listed a w → wpAnyIn (FR l) n Try.prog .any ops Q fuel listed a w
  | 0, _, _, _, h => h
  | fuel + 1, listed, a, w, h => ⟨h.1, fun i hi => by
    have h1 := h.2 i hi
    unfold wpOp at h1
    unfold wpOpIn
    cases ho : ops[i]? with
    | none =>
      rw [ho] at h1
      exact anyIn hQ hn fuel _ _ _ h1
    | some o =>
      rw [ho] at h1
      have hno : nd o = true := List.all_eq_true.1 hn o (by rw [← Array.mem_def]; exact Array.mem_of_getElem? ho)
      dsimp only at h1 ⊢
      split at h1
      · rename_i hw
        rw [if_pos hw]
        rcases h1 with h1 | h1
        · exact opIn hno (Oper.wp_mono (fun a w => anyIn hQ hn fuel _ a w) h1)
        · exact absurd h1.2 hQ
      · rename_i hw
        rw [if_neg hw]
        exact ⟨fun _ _ => trivial, anyIn hQ hn fuel _ _ _ h1⟩⟩
/-- A straight region in a round. -/
theorem in_reg {id : Nat} {a : Act} {w : World} (hQ : ¬ LetsOut Q) (hn : ops.toList.all nd = true) (h : WL ops Q ops.toList a w) : (Code.region id ops false).wpIn (FR l) n Try.prog Q a w := wpIn_region_list (listIn hQ _ _ _ hn h.out)
variable {sts : List Nat}
/-- A drawn region in a round. -/
theorem pdI {id : Nat} {a0 : Act} {w : World} (hQ : ¬ LetsOut Q) (hn : ops.toList.all nd = true) (sts : List Nat) (ds : Nu → List (Nat × Value)) (I : Nat → Nu → World → Prop) (ν : Nu) (h0 : I 0 ν w.drew) (hob : All (Rg.Ob true Try.prog ops sts (fun ν => putL a0 (ds ν)) I) 0 ops.toList) (H : ∀ ν w', I sts.length ν w' → Q .normal (putL a0 (ds ν)) w')
    (hm : Try.prog.follows .mixedOrders = true := by kernel_rfl) (hc : chk true ops = true := by kernel_rfl) (hnd : sts.Nodup := by decide) (hs : ∀ j ∈ sts, j < ops.size := by decide) (hd : a0.defers = [] := by kernel_rfl)
    (hks : ∀ ν, ((ds ν).all fun p => (dsts ops).contains p.1) = true := by intro ν; kernel_rfl) : (Code.region id ops true).wpIn (FR l) n Try.prog Q a0 w := by
  refine wpIn_region_any hm (anyIn hQ hn _ _ _ _ (Rg.any hc hnd hs (fun ν => (putL_defers _ _).trans hd) hob H _ _ _ _ ?_ (putL_start (by simp) (reps _) hd ν hks h0)))
  unfold left
  simp [List.countP_replicate]
end
section
variable {u v w : World} {L : List Row}
theorem own_put {r : Nat} {ob ob' : Obj} (h : Own u w L) (hr : u.heap.size ≤ r) (ho : w.heap[r]? = some ob) (hc : ob.isCells = false) : Own u (w.putObj r ob') L := by
  have hlt : r < w.heap.size := (Array.getElem?_eq_some_iff.1 ho).1
  refine ⟨h.low.grown (grownBy_putObj' w r ob') h.low.size (fun k e => by cases e; exact hr), fun x hx => ?_, h.new, h.fit, h.dist⟩
  have hB := h.blk x hx
  unfold Blk at hB ⊢
  by_cases e : x.1 = r
  · rw [e, ho] at hB
    cases hB
    cases hc
  · rw [World.putObj_heap_other e]
    exact hB
theorem own_obj (h : Own u w L) (ob : Obj) : Own u (w.alloc ob) L := h.call ((Below.refl _ w).alloc (Nat.le_refl _) ob)
theorem ko_cells (b : Nat) : ∀ (vs : List Value) (w : World) (k : Nat), KeepsOthers w (w.setCells b k vs)
  | [], w, _ => KeepsOthers.refl w
  | x :: r, w, _ => (KeepsOthers.setCell w _ x).trans (ko_cells b r _ _)
end
section
variable {u v : World} {b : Bool} {ops : Array Oper} {sts : List Nat} {F : Nu → Act} {L : Nat → Nu → List Row} {i : Nat} {o : Oper}
/-- Rows, and whatever is no cells lies as it lay. -/
def OKI (u v : World) (L : Nat → Nu → List Row) : Nat → Nu → World → Prop := fun s ν w => Own u w (L s ν) ∧ KeepsOthers v w
theorem lift (h : Ob b Try.prog ops sts F (OI u L) i o) (hn : sts.contains i = false := by kernel_rfl) : Ob b Try.prog ops sts F (OKI u v L) i o := by
  rcases h with h | h
  · refine .inl ⟨h.1, fun ν => ?_⟩
    rcases h.2 ν with ⟨hw, x, hv, lo, hi, hwin, hrun⟩ | h2
    · exact .inl ⟨hw, x, hv, lo, hi, hwin, fun s w h1 h2 hI => hrun s w h1 h2 hI.1⟩
    · exact .inr h2
  · obtain ⟨t, ht, _⟩ := h
    have := List.mem_of_getElem? ht
    simp [this] at hn
/-- One cell of a row is stored. -/
theorem slK (t j : Nat) {ty : TypeId} {x y : Operand} (k : Nu → Nat) (v0 : Nu → Value) {kd : IntKind} (n : Nu → Int) (hs : ∀ w, (sizeOf ty).run Try.prog w = .ok 1 w) (hg : ∀ ν, (rowAt (L t ν) j).2.1[k ν]? = some (v0 ν)) (he : ∀ ν, (rowAt (L t ν) j).2.1.setIfInBounds (k ν) (.int kd (n ν)) = (rowAt (L (t + 1) ν) j).2.1) (hf : ∀ ν, Fit (rowAt (L t ν) j).2.2 (rowAt (L (t + 1) ν) j).2.1) (ho : o.op = .store ty x y := by rfl) (hj : ∀ ν, (L t ν)[j]? = some (rowAt (L t ν) j) := by intro ν; kernel_rfl) (hL : ∀ ν, L (t + 1) ν = (L t ν).set j ((rowAt (L t ν) j).1, (rowAt (L (t + 1) ν) j).2.1, (rowAt (L t ν) j).2.2) := by intro ν; kernel_rfl) (hx : ∀ ν, (F ν).eval x = E (rowAt (L t ν) j).1 (k ν) := by intro ν; kernel_rfl) (hy : ∀ ν, (F ν).eval y = .int kd (n ν) := by intro ν; kernel_rfl) (hd : o.dst = none := by rfl)
    (hp : plc b ops sts i t = true := by kernel_rfl) (hw : ∀ ν, Region.wanted o (yielded ops (F ν).tmps) = true := by intro ν; kernel_rfl) (hF : ∀ ν, (F ν).defers = [] := by intro ν; kernel_rfl) : Ob b Try.prog ops sts F (OKI u v L) i o := by
  refine .inr ⟨t, (plc_spec hp).1, (plc_spec hp).2, fun ν => ⟨hw ν, fun w hI => ?_⟩⟩
  have hO : Own u w (L t ν) := hI.1
  have hj' : (L t ν)[j]? = some ((rowAt (L t ν) j).1, (rowAt (L t ν) j).2.1, (rowAt (L t ν) j).2.2) := hj ν
  have hB := Own.row hO j hj'
  unfold Oper.wp
  rw [st_cell ty hs ho (hx ν) (hy ν) ((hB.cell _).trans (hg ν)) (hB.frozen _), Oper.upon_skip]
  refine ⟨ν, by rw [put_defers]; exact hF ν, by rw [hd]; rfl, ?_, hI.2.trans (KeepsOthers.setCell _ _ _)⟩
  show Own u _ (L (t + 1) ν)
  rw [hL]
  exact Own.put hO j hj' ((hB.set _ _).cast (he ν)) (st1_cell w _ _ _) (hf ν)
end
section
variable {o : Oper} {a : Act} {u v w : World} {L : List Row} {Q : Exit → Act → World → Prop} {ops : Array Oper} {rest : List Oper}
theorem g_newK (hO : Own u w L) (hK : KeepsOthers v w) (va : Nat → Value) (c : Array Value) (ty : TypeId) (hf : Fit ty c) (hrun : (execOp a.eval o).run Try.prog w = .ok (.value (va w.heap.size)) (w.alloc (.cells c ty))) (h : ∀ q w', KeepsOthers v w' → Own u w' (L ++ [(q, c, ty)]) → WL ops Q rest (a.put o.dst (va q)) w') (hg : Region.wanted o (yielded ops a.tmps) = true := by kernel_rfl) : WL ops Q (o :: rest) a w :=
  g_run _ _ hrun (h _ _ (hK.trans (KeepsOthers.alloc _ _)) (hO.snoc (Nat.le_refl _) (Blk.new w _ _) ((Below.refl _ w).alloc (Nat.le_refl _) _) hf)) hg
theorem g_scK (hO : Own u w L) (hK : KeepsOthers v w) (j k : Nat) {b : Nat} {c e : Array Value} {t : TypeId} (va v0 : Value) (hj : L[j]? = some (b, c, t)) (hv : c[k]? = some v0) (hrun : w.cell? ⟨b, k, none⟩ = some v0 → w.frozen? ⟨b, k, none⟩ = false → (execOp a.eval o).run Try.prog w = .ok .skip (w.setCell ⟨b, k, none⟩ va)) (he : c.setIfInBounds k va = e) (hf : Fit t e) (h : ∀ w', KeepsOthers v w' → Own u w' (L.set j (b, e, t)) → WL ops Q rest a w') (hd : o.dst = none := by rfl) (hg : Region.wanted o (yielded ops a.tmps) = true := by kernel_rfl) : WL ops Q (o :: rest) a w :=
  ⟨wpList_step fun K hK' => by
    rw [if_pos hg]
    have hB := hO.row j hj
    unfold Oper.wp
    rw [hrun ((hB.cell _).trans hv) (hB.frozen _), Oper.upon_skip]
    have hk := hK' a _ (h _ (hK.trans (KeepsOthers.setCell _ _ _)) (hO.put j hj ((hB.set _ _).cast he) (st1_cell w _ _ _) hf)).out
    rw [hd]
    exact hk⟩
theorem g_smK {ty : TypeId} {x y : Operand} {b k : Nat} {c e c' : Array Value} {t : TypeId} (hO : Own u w L) (hK : KeepsOthers v w) (j : Nat) (hj : L[j]? = some (b, c, t)) (hk : k + e.size ≤ c.size) (hi : (Try.prog.info? ty).map (·.size) = some e.size) (h1 : e.all (·.oneCell') = true) (he : setL c k e.toList = c') (hf : Fit t c') (h : ∀ w', KeepsOthers v w' → Own u w' (L.set j (b, c', t)) → WL ops Q rest a w') (ho : o.op = .store ty x y := by rfl) (hx : a.eval x = E b k := by kernel_rfl) (hy : a.eval y = .agg e := by kernel_rfl) (hd : o.dst = none := by rfl) (hg : Region.wanted o (yielded ops a.tmps) = true := by kernel_rfl) : WL ops Q (o :: rest) a w :=
  ⟨wpList_step fun K hK' => by
    rw [if_pos hg]
    have hB := hO.row j hj
    refine wp_store_mid ty x y ho b k e hx hy (fun i hi => ⟨?_, hB.frozen _⟩) hi h1 ?_
    · rw [hB.cell, Array.getElem?_eq_getElem (by omega)]; rfl
    · have hk := hK' a _ (h _ (hK.trans (ko_cells b _ w k)) (hO.put j hj ((blk_setCells _ k hB).cast he) (st1_cells b _ w k) hf)).out
      rw [hd]
      exact hk⟩
end
/-- The books of a loop: its record, the block for what is deferred. -/
structure Bks (d : Nat) (r : Loop) (W : World) : Prop where
  lp : W.heap[d + 1]? = some (.loop r)
  df : W.heap[d]? = some (.deferred (some []))
theorem Bks.put {d : Nat} {r : Loop} {W : World} (h : Bks d r W) (r' : Loop) : Bks d r' (W.putObj (d + 1) (.loop r')) := ⟨World.putObj_heap_same (Array.getElem?_eq_some_iff.1 h.lp).1, (World.putObj_heap_other (by omega)).trans h.df⟩
theorem Bks.keep {d : Nat} {r : Loop} {W W' : World} (h : Bks d r W) (k : KeepsOthers W W') : Bks d r W' := ⟨k.same _ _ h.lp rfl, k.same _ _ h.df rfl⟩
theorem Bks.new (w : World) (r : Loop) : Bks w.heap.size r ((w.alloc (.deferred (some []))).alloc (.loop r)) :=
  ⟨by have := World.alloc_heap_new (w.alloc (.deferred (some []))) (.loop r); rwa [World.size_alloc] at this, (Below.heap_alloc _ _ _ (by simp)).trans (World.alloc_heap_new w _)⟩
/-- A loop over an iterator whose rounds are known beforehand, none left early. -/
theorem rangeF {g : Operand} {ps : Array Tmp} {assign body : Code} {Q : Exit → Act → World → Prop} {a : Act} {w : World} {gf : Nat} {lb : Array Value} (encs : Nat → Array Value) (N : Nat) (I : Nat → World → Prop) (a1 : Nat → Act) (hg : a.eval g = .func (.func gf) #[] lb) (eg : ∀ args w, (callFunc gf args).run Try.prog w = .ok (.enter gf args) w) (hps : ∀ k, (encs k).size = ps.size)
    (hI : ∀ k W r o o', I k W → w.heap.size ≤ r → W.heap[r]? = some o → o.isCells = false → I k (W.putObj r o')) (h0 : ∀ o, I 0 ((w.alloc (.deferred (some []))).alloc o))
    (hit : ∀ (l : Nat) (J : Nat → World → Prop) (W : World), (∀ k W, J k W → I k W) → (∀ k W1, k < N → J k W1 → YieldAt Fence.wide (2 - 1) Try.prog l (encs k) W1 fun e W' => e = .returned (.bool true) ∧ J (k + 1) W') → J 0 W → CallsIn Fence.wide (3 - 1) Try.prog gf (#[.func (.yield l) #[] #[]] ++ lb) W fun e W' => (∃ v, e = .returned v) ∧ J N W')
    (hassign : ∀ (l k : Nat) (W : World) (K : Act → World → Prop), K (a1 k) W → assign.wpIn (FR l) (2 - 1) Try.prog (Exit.then K (fun _ _ _ => False)) { tmps := (ps.zip (encs k)).foldl (fun t (p, v) => t.setIfInBounds p v) a.tmps, defers := [] } W)
    (hbody : ∀ (l k : Nat) (W : World), k < N → I k W → body.wpIn (FR l) (2 - 1) Try.prog (fun e _ W' => e = .normal ∧ KeepsOthers W W' ∧ I (k + 1) W') (a1 k) W)
    (hdone : ∀ (D : Nat) (W : World), I N W → w.heap.size ≤ D → W.heap[D]? = some (.deferred (some [])) → Q .normal { a with defers := { target := .collected D, args := #[] } :: a.defers } W) : (Code.rangeFunc g ps assign body).wp Try.prog Q a w := by
  refine (wpIn_wide (n := 3)).1 (wpIn_rangeFunc fun fn _ => ?_)
  obtain ⟨mk, hmk⟩ : ∃ mk : LoopState → Loop, mk = fun st => { state := st, pending := none, fn, tmps := a.tmps, params := ps, assign, body, defers := w.heap.size } := ⟨_, rfl⟩
  refine ⟨w.heap.size + 1, [{ target := .collected w.heap.size, args := #[] }], (w.alloc (.deferred (some []))).alloc (.loop (mk .ready)), { target := .fn (.func gf) lb, args := #[.func (.yield (w.heap.size + 1)) #[] #[]] }, (w.alloc (.deferred (some []))).alloc (.loop (mk .ready)), gf, #[.func (.yield (w.heap.size + 1)) #[] #[]] ++ lb, (w.alloc (.deferred (some []))).alloc (.loop (mk .ready)), ?_, ?_, fun _ _ => trivial, ?_, fun h => (by simp [Fence.wide] at h), ?_⟩
  · rw [hmk]; exact run_enterLoop_outer _ _ _ _ _
  · simp only [resolve, hg]
    simp [go_sem]
  · simp [invoke, go_sem, eg]
  · refine (hit (w.heap.size + 1) (fun k W => I k W ∧ Bks w.heap.size (mk .ready) W) _ (fun _ _ h => h.1) (fun k W hk h => ?_) ⟨h0 _, Bks.new w _⟩).mono fun e W2 h => ?_
    · obtain ⟨hi, hb⟩ := h
      have hy := run_yield (P := Try.prog) (args := encs k) hb.lp (by rw [hmk]; exact hps k)
      rw [hmk] at hy
      refine ⟨fn, _, assign, body, hy, roundIn_of_wpIn trivial (hassign _ k W _ ⟨_, run_beginRound hb.lp (by rw [hmk]), ?_⟩)⟩
      refine wpIn_mono (hbody _ k _ hk (hI _ _ _ _ _ hi (Nat.le_succ _) hb.lp rfl)) fun e a3 W3 h3 => ?_
      obtain ⟨rfl, hk3, hi3⟩ := h3
      have hb3 := (hb.put { mk .ready with state := .busy }).keep hk3
      refine ⟨_, _, run_endRound none hb3.lp, rfl, hI _ _ _ _ _ hi3 (Nat.le_succ _) hb3.lp rfl, ?_⟩
      have := hb3.put (mk .ready)
      rw [hmk] at this ⊢
      exact this
    · obtain ⟨⟨v, rfl⟩, hi, hb⟩ := h
      have he := run_endLoop (P := Try.prog) hb.lp (by rw [hmk]; simp)
      have hd := hdone _ _ (hI _ _ _ _ (.loop { mk .ready with state := .exhausted }) hi (Nat.le_succ _) hb.lp rfl) (Nat.le_refl _) ((World.putObj_heap_other (by omega)).trans hb.df)
      rw [hmk] at he hd
      exact ⟨none, _, he, hd⟩
end Z
end Go.Proofs.Ytkljpidlfddgbaa

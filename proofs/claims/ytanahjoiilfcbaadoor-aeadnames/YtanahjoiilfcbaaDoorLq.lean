/- append to a list of slices of bytes; a text cut into parts. No conditions but those that each names. -/
import Derived.Test.YtanahjoiilfcbaaDoorKg
import Derived.Deep.AppendSrc
import Derived.Laws.AppendOwn
namespace Go.Proofs.YtanahjoiilfcbaaDoor
set_option maxRecDepth 100000
open Go.RowKit Rg

theorem Sto.refl (b : Nat) (w : World) : Sto b w w := ⟨fun _ _ _ _ h => h, fun _ _ h _ => h⟩
theorem Sto.trans {b : Nat} {w x y : World} (h : Sto b w x) (k : Sto b x y) : Sto b w y := ⟨fun b' c t hne hB => k.other b' c t hne (h.other b' c t hne hB), fun B a hb hle => k.low B a (h.low B a hb hle) hle⟩
theorem Sto.set {b : Nat} {w x : World} (h : Sto b w x) (i : Nat) (v : Value) : Sto b w (x.setCell ⟨b, i, none⟩ v) :=
  h.trans ⟨fun _ _ _ hne hB => hB.setOther i v hne, fun _ _ hb hle => hb.setCell hle v⟩
def setL (c : Array Value) : Nat → List Value → Array Value
  | _, [] => c
  | o, v :: r => setL (c.setIfInBounds o v) (o + 1) r
theorem setL_size (c : Array Value) : ∀ o vs, (setL c o vs).size = c.size
  | _, [] => rfl
  | o, v :: r => by rw [setL, setL_size]; simp
theorem setL_get : ∀ (vs : List Value) (c : Array Value) (o i : Nat), o + vs.length ≤ c.size → (setL c o vs)[i]? = if o ≤ i ∧ i < o + vs.length then vs[i - o]? else c[i]?
  | [], c, o, i, _ => by rw [setL, if_neg (by simp)]
  | v :: r, c, o, i, h => by
    simp only [List.length_cons] at h ⊢
    rw [setL, setL_get r _ (o + 1) i (by simp; omega)]
    by_cases h1 : o + 1 ≤ i ∧ i < o + 1 + r.length
    · rw [if_pos h1, if_pos (by omega), show i - o = (i - (o + 1)) + 1 by omega, List.getElem?_cons_succ]
    · rw [if_neg h1, Array.getElem?_setIfInBounds]
      by_cases h2 : o = i
      · subst h2
        rw [if_pos rfl, if_pos (by omega), if_pos (by omega), Nat.sub_self]; rfl
      · rw [if_neg h2, if_neg (by omega)]
theorem Blk.setCells {b : Nat} {t : TypeId} : ∀ (vs : List Value) {w : World} {c : Array Value} (o : Nat), Blk w b c t → Blk (w.setCells b o vs) b (setL c o vs) t
  | [], _, _, _, h => h
  | v :: r, _, _, o, h => Blk.setCells r (o + 1) (h.set o v)
theorem sto_cells (b : Nat) : ∀ (vs : List Value) (w : World) (o : Nat), Sto b w (w.setCells b o vs)
  | [], w, _ => Sto.refl b w
  | v :: r, w, o => ((Sto.refl b w).set o v).trans (sto_cells b r _ (o + 1))
theorem Own.swap {u w : World} {L : List Row} {j : Nat} {r r' : Row} (h : Own u w (L ++ [r'])) (hj : L[j]? = some r) : Own u w (L.set j r') := by
  have h1 := (h.perm (List.perm_append_comm (l₁ := L) (l₂ := [r']))).perm ((perm_at hj).cons r')
  have h2 : Own u w (r' :: L.eraseIdx j) := h1.sub (List.Sublist.cons_cons r' (List.sublist_cons_self r _))
  exact h2.perm (perm_set hj)
/-- N places for slices, the first k of them filled. -/
def pcs (N k : Nat) (pt : Nat → Value) : Array Value := ((List.range N).map fun i => if i < k then pt i else .slice none 0 0).toArray
theorem pcs_size (N k : Nat) (pt : Nat → Value) : (pcs N k pt).size = N := by simp [pcs]
theorem pcs_get (N k : Nat) (pt : Nat → Value) (i : Nat) (h : i < N) : (pcs N k pt)[i]? = some (if i < k then pt i else .slice none 0 0) := by simp [pcs, h]
theorem pcs_one (N k : Nat) (pt : Nat → Value) (h : ∀ i, i < k → (pt i).oneCell' = true) : (pcs N k pt).all (·.oneCell') = true := by
  unfold pcs
  simp only [List.all_toArray, List.all_map, List.all_eq_true, List.mem_range, Function.comp]
  intro i _
  by_cases hi : i < k
  · rw [if_pos hi]; exact h i hi
  · rw [if_neg hi]; rfl
def upv (pt : Nat → Value) (k : Nat) (v : Value) : Nat → Value := fun i => if i = k then v else pt i
theorem upv_one {pt : Nat → Value} {k : Nat} {v : Value} (h : ∀ i, i < k → (pt i).oneCell' = true) (hv : v.oneCell' = true) : ∀ i, i < k + 1 → (upv pt k v i).oneCell' = true := fun i hi => by
  unfold upv
  by_cases e : i = k
  · rw [if_pos e]; exact hv
  · rw [if_neg e]; exact h i (by omega)
theorem src_pt {w : World} {b : Nat} {v : Value} {t : TypeId} (hB : Blk w b #[v] t) (hv : v.oneCell' = true) : Src Tryd.prog 1 42 (.slice (some ⟨b, 0, none⟩) 1 1) [v].length [v] w :=
  Src.ofSlice w Tryd.underlying42 ⟨b, 0, none⟩ 1 1 [v] rfl (fun j u hu => by
    have hj : j = 0 := by
      have := (List.getElem?_eq_some_iff.1 hu).1
      simp at this; exact this
    subst hj
    rw [Addr.add_mid, hB.cell]
    simpa using hu) (fun u hu => by
    have : u = v := by simpa using hu
    subst this; exact hv)
theorem room_pcs (cap k : Nat) (pt : Nat → Value) (v : Value) (hk : k + 1 ≤ cap) : setL (pcs cap k pt) k [v] = pcs cap (k + 1) (upv pt k v) := by
  apply Array.ext_getElem?
  intro i
  rw [setL_get _ _ _ _ (by rw [pcs_size]; simpa using hk)]
  simp only [List.length_singleton]
  by_cases h1 : k ≤ i ∧ i < k + 1
  · have e : i = k := by omega
    subst e
    rw [if_pos h1, pcs_get _ _ _ _ (by omega), if_pos (by omega), Nat.sub_self]
    show some v = some (upv pt i v i)
    unfold upv; rw [if_pos rfl]
  · rw [if_neg h1]
    by_cases h2 : i < cap
    · rw [pcs_get _ _ _ _ h2, pcs_get _ _ _ _ h2]
      by_cases h3 : i < k
      · rw [if_pos h3, if_pos (by omega)]
        unfold upv; rw [if_neg (by omega)]
      · rw [if_neg h3, if_neg (by omega)]
    · rw [Array.getElem?_eq_none (by rw [pcs_size]; omega), Array.getElem?_eq_none (by rw [pcs_size]; omega)]
theorem grown_pcs (cap k : Nat) (pt : Nat → Value) (v : Value) (hk : k + 1 ≤ cap) : (((List.range k).map pt) ++ [v]).toArray ++ Builtin.zeroCells (Value.slice none 0 0).cells (cap - (k + 1)) = pcs cap (k + 1) (upv pt k v) := by
  have hzs : (Builtin.zeroCells (Value.slice none 0 0).cells (cap - (k + 1))).size = cap - (k + 1) := by rw [size_zeroCells]; simp [Value.cells]
  have hz : ∀ j, j < cap - (k + 1) → (Builtin.zeroCells (Value.slice none 0 0).cells (cap - (k + 1)))[j]? = some (.slice none 0 0) := by
    intro j hj
    simp [Builtin.zeroCells, Value.cells, hj, Nat.mod_one]
  apply Array.ext_getElem?
  intro i
  by_cases h2 : i < cap
  · rw [pcs_get _ _ _ _ h2]
    by_cases h3 : i < k + 1
    · rw [Array.getElem?_append_left (by simp; omega), List.getElem?_toArray, if_pos h3]
      unfold upv
      by_cases h4 : i < k
      · rw [List.getElem?_append_left (by simpa using h4), if_neg (by omega)]; simp [h4]
      · have e : i = k := by omega
        subst e
        rw [List.getElem?_append_right (by simp), if_pos rfl]
        simp
    · rw [Array.getElem?_append_right (by simp; omega)]
      have : (((List.range k).map pt) ++ [v]).toArray.size = k + 1 := by simp
      rw [this, hz _ (by omega), if_neg h3]
  · rw [Array.getElem?_eq_none (by simp [hzs]; omega), Array.getElem?_eq_none (by rw [pcs_size]; omega)]
theorem app_pt {u w : World} {L : List Row} {j g cap k : Nat} {pt : Nat → Value} {x v : Value} (hO : Own u w L) (hj : L[j]? = some (g, pcs cap k pt, 25)) (hs : Src Tryd.prog 1 42 x [v].length [v] w) (hpt : ∀ i, i < k → (pt i).oneCell' = true) (hv : v.oneCell' = true) (hc : k ≤ cap) (hb : k ≤ 1000) :
    ∃ g' d w', (∀ ty, (Builtin.append_ #[42, 42] ty #[.slice (some ⟨g, 0, none⟩) k cap, x]).run Tryd.prog w = .ok (.slice (some ⟨g', 0, none⟩) (k + 1) (k + 1 + d)) w') ∧ Own u w' (L.set j (g', pcs (k + 1 + d) (k + 1) (upv pt k v), 25)) := by
  have h : ((Tryd.prog.info? 25).map fun i => (decide (i.size = 1), decide (i.bytes = 24))) = some (true, true) := by kernel_rfl
  have hz : ((Tryd.prog.info? 25).bind (·.zero)) = some (.slice none 0 0) := by kernel_rfl
  have hf : ∀ N, Fit 25 (pcs N (k + 1) (upv pt k v)) := fun N => fit_ss (pcs_one _ _ _ (upv_one hpt hv))
  cases hi : Tryd.prog.info? 25 with
  | none => rw [hi] at h; cases h
  | some i =>
    rw [hi] at h hz
    simp at h
    have hB := hO.row j hj
    by_cases hroom : k + 1 ≤ cap
    · have hr := fun ty => run_append_room_src (P := Tryd.prog) w 42 42 ty 25 i Tryd.underlying42 hi g 0 k cap x 1 [v] (by rw [h.1]; exact hs) hroom (fun m hm => by
        rw [h.1, hB.cell, pcs_get _ _ _ _ (by simp at hm; omega)]; rfl) (fun m hm => hB.frozen _)
      rw [h.1, Nat.mul_one, Nat.zero_add] at hr
      refine ⟨g, cap - (k + 1), _, fun ty => by rw [Nat.add_sub_cancel' hroom]; exact hr ty, ?_⟩
      rw [Nat.add_sub_cancel' hroom]
      have hst := sto_cells g [v] w k
      exact hO.put j hj ((Blk.setCells [v] k hB).cast (room_pcs cap k pt v hroom)) ⟨fun b' c t hne hb' => hst.other b' c t (fun e => hne e.symm) hb', fun B w0 hle hbl => hst.low B w0 hbl hle⟩ (hf _)
    · have hold : (Builtin.firstCells i.size k (.slice (some ⟨g, 0, none⟩) k cap)).run Tryd.prog w.drew = .ok ((List.range k).map pt).toArray w.drew :=
        run_firstCells_some w.drew i.size k ⟨g, 0, none⟩ k cap _ (by rw [h.1]; simp) (fun m y hy => by
          rw [Addr.add_mid, Nat.zero_add, hB.drew.cell]
          have hk : m < k := by simpa using (List.getElem?_eq_some_iff.1 hy).1
          rw [pcs_get _ _ _ _ (by omega), if_pos hk]
          simp [hk] at hy
          rw [← hy])
      have hr := fun ty => run_append_grow_src (P := Tryd.prog) w 42 42 ty 25 i (.slice none 0 0) Tryd.underlying42 hi hz (some ⟨g, 0, none⟩) k cap _ hold x 1 [v] (by rw [h.1]; exact hs) (by omega) (by omega) (growslice_fits (by omega) (by rw [h.2]; omega))
      have hge := grownCap_ge w (k + 1) cap 25
      refine ⟨_, grownCap w (k + 1) cap 25 - (k + 1), _, fun ty => by rw [Nat.add_sub_cancel' hge]; exact hr ty, ?_⟩
      rw [Nat.add_sub_cancel' hge]
      refine Own.swap (Own.snoc hO.drew (Nat.le_refl _) ?_ ((Below.refl _ w.drew).alloc (Nat.le_refl _) _) (hf _)) hj
      exact (Blk.new w.drew _ 25).cast (grown_pcs _ k pt v hge)
theorem app_pn {u w : World} {L : List Row} {x v : Value} (pt : Nat → Value) (hO : Own u w L) (hs : Src Tryd.prog 1 42 x [v].length [v] w) (hv : v.oneCell' = true) :
    ∃ g' d w', (∀ ty, (Builtin.append_ #[42, 42] ty #[.slice none 0 0, x]).run Tryd.prog w = .ok (.slice (some ⟨g', 0, none⟩) (0 + 1) (0 + 1 + d)) w') ∧ Own u w' (L ++ [(g', pcs (0 + 1 + d) (0 + 1) (upv pt 0 v), 25)]) := by
  have h : ((Tryd.prog.info? 25).map fun i => (decide (i.size = 1), decide (i.bytes = 24))) = some (true, true) := by kernel_rfl
  have hz : ((Tryd.prog.info? 25).bind (·.zero)) = some (.slice none 0 0) := by kernel_rfl
  cases hi : Tryd.prog.info? 25 with
  | none => rw [hi] at h; cases h
  | some i =>
    rw [hi] at h hz
    simp at h
    have hold : (Builtin.firstCells i.size 0 (.slice none 0 0)).run Tryd.prog w.drew = .ok ((List.range 0).map pt).toArray w.drew := run_firstCells_none w.drew i.size 0 0 0
    have hr := fun ty => run_append_grow_src (P := Tryd.prog) w 42 42 ty 25 i (.slice none 0 0) Tryd.underlying42 hi hz none 0 0 _ hold x 1 [v] (by rw [h.1]; exact hs) (by omega) (by omega) (growslice_fits (by omega) (by rw [h.2]; omega))
    have hge := grownCap_ge w (0 + 1) 0 25
    refine ⟨_, grownCap w (0 + 1) 0 25 - (0 + 1), _, fun ty => by rw [Nat.add_sub_cancel' hge]; exact hr ty, ?_⟩
    rw [Nat.add_sub_cancel' hge]
    exact Own.snoc hO.drew (Nat.le_refl _) ((Blk.new w.drew _ 25).cast (grown_pcs _ 0 pt v hge)) ((Below.refl _ w.drew).alloc (Nat.le_refl _) _) (fit_ss (pcs_one _ _ _ (upv_one (fun i h => absurd h (Nat.not_lt_zero i)) hv)))
section
variable {o : Oper} {a : Act} {u w : World} {L : List Row} {Q : Exit → Act → World → Prop} {ops : Array Oper} {rest : List Oper} {x y : Operand}
/-- One more slice behind those of a row; the row of the one is left out. -/
theorem g_app {g cap k b : Nat} {pt : Nat → Value} (v : Value) {r : Row} (hO : Own u w [r, (g, pcs cap k pt, 25), (b, #[v], 25)]) (hpt : ∀ i, i < k → (pt i).oneCell' = true) (hv : v.oneCell' = true) (hc : k ≤ cap) (hb : k ≤ 1000) (h : ∀ g' d w', Own u w' [r, (g', pcs (k + 1 + d) (k + 1) (upv pt k v), 25)] → WL ops Q rest (a.put o.dst (.slice (some ⟨g', 0, none⟩) (k + 1) (k + 1 + d))) w')
    (ho : o.op = .call { callee := .builtin .append, args := #[x, y], argTypes := #[42, 42] } := by rfl) (hx : a.eval x = .slice (some ⟨g, 0, none⟩) k cap := by kernel_rfl) (hy : a.eval y = .slice (some ⟨b, 0, none⟩) 1 1 := by kernel_rfl) (hg : Region.wanted o (yielded ops a.tmps) = true := by kernel_rfl) : WL ops Q (o :: rest) a w := by
  obtain ⟨g', d, w', hr, hO'⟩ := app_pt hO (j := 1) rfl (src_pt (hO.row 2 rfl) hv) hpt hv hc hb
  refine g_run (.slice (some ⟨g', 0, none⟩) (k + 1) (k + 1 + d)) w' ?_ (h g' d w' (hO'.take 2)) hg
  simp [execOp, ho, resolve, invoke, builtin, hx, hy, hr, Result.andThen]
theorem g_apn {b : Nat} (k : Nat) (hk : k = 0) (pt : Nat → Value) (v : Value) {r : Row} (hO : Own u w [r, (b, #[v], 25)]) (hv : v.oneCell' = true) (h : ∀ g' d w', Own u w' [r, (g', pcs (k + 1 + d) (k + 1) (upv pt k v), 25)] → WL ops Q rest (a.put o.dst (.slice (some ⟨g', 0, none⟩) (k + 1) (k + 1 + d))) w')
    (ho : o.op = .call { callee := .builtin .append, args := #[x, y], argTypes := #[42, 42] } := by rfl) (hx : a.eval x = .slice none 0 0 := by kernel_rfl) (hy : a.eval y = .slice (some ⟨b, 0, none⟩) 1 1 := by kernel_rfl) (hg : Region.wanted o (yielded ops a.tmps) = true := by kernel_rfl) : WL ops Q (o :: rest) a w := by
  subst hk
  obtain ⟨g', d, w', hr, hO'⟩ := app_pn pt hO (src_pt (hO.row 1 rfl) hv) hv
  refine g_run (.slice (some ⟨g', 0, none⟩) (0 + 1) (0 + 1 + d)) w' ?_ (h g' d w' (hO'.swap (j := 1) rfl)) hg
  simp [execOp, ho, resolve, invoke, builtin, hx, hy, hr, Result.andThen]
end
section
variable {ρ : Operand → Value} {o : Oper} {x y : Operand}
theorem b_lo {A : Option Addr} {len cap c : Nat} (hc : c ≤ len) (w : World) (ho : o.op = .slice 25 x (some y) none none := by rfl) (hx : ρ x = .slice A len cap := by kernel_rfl) (hy : ρ y = Nv .i64 c := by kernel_rfl) : (execOp ρ o).run Tryd.prog w = .ok (.value (.slice (cutA A c cap) (len - c) (cap - c))) w := by
  have e := run_cut A len cap c hc w
  have e' : (Instr.sliceAt 25 (.slice A len cap) (some (Nv .i64 c)) none none).run Tryd.prog w = .ok (.slice (cutA A c cap) (len - c) (cap - c)) w := by
    unfold Instr.sliceAt
    go_simp
  unfold execOp
  rw [ho]
  dsimp only [Option.map]
  rw [hx, hy, Sem.run_bind, e']
  rfl
theorem b_hi {A : Option Addr} {len cap c : Nat} (hc : c ≤ len) (hl : len ≤ cap) (w : World) (ho : o.op = .slice 25 x none (some y) none := by rfl) (hx : ρ x = .slice A len cap := by kernel_rfl) (hy : ρ y = Nv .i64 c := by kernel_rfl) : (execOp ρ o).run Tryd.prog w = .ok (.value (.slice A c cap)) w := by
  have e : (Instr.slice 25 (.slice A len cap) none (some (Nv .i64 c)) none).run Tryd.prog w = .ok (.slice A c cap) w := by
    rw [run_slice_h w 25 A len cap (by kernel_rfl) .i64 (c : Int) (by omega) (by omega), show (sizeOf (Tryd.prog.elem 25)).run Tryd.prog w = .ok 1 w by rfl]
    cases A <;> simp [Result.andThen, sliced, Addr.add]
  have e' : (Instr.sliceAt 25 (.slice A len cap) none (some (Nv .i64 c)) none).run Tryd.prog w = .ok (.slice A c cap) w := by
    unfold Instr.sliceAt
    go_simp
  unfold execOp
  rw [ho]
  dsimp only [Option.map]
  rw [hx, hy, Sem.run_bind, e']
  rfl
end
theorem b_min {ρ : Operand → Value} {o : Oper} {x y : Operand} {a c : Nat} (w : World) (ho : o.op = .call { callee := .builtin .min, args := #[x, y], argTypes := #[3, 3] } := by rfl) (hx : ρ x = Nv .i64 a := by kernel_rfl) (hy : ρ y = Nv .i64 c := by kernel_rfl) : (execOp ρ o).run Tryd.prog w = .ok (.value (Nv .i64 (min a c))) w := by
  have h0 : (min a c = a ∧ a ≤ c) ∨ (min a c = c ∧ ¬ a ≤ c) := by omega
  unfold execOp
  simp only [ho]
  rcases h0 with ⟨e, h⟩ | ⟨e, h⟩
  · have h1 : (a : Int) ≤ (c : Int) := by omega
    have h2 : ¬ (c : Int) < (a : Int) := by omega
    rw [e]
    go_simp
  · have h1 : ¬ (a : Int) ≤ (c : Int) := by omega
    have h2 : (c : Int) < (a : Int) := by omega
    rw [e]
    go_simp
theorem b_minE {ρ : Operand → Value} {o : Oper} {x y : Operand} {a c d : Nat} (h : min a c = d) (w : World) (ho : o.op = .call { callee := .builtin .min, args := #[x, y], argTypes := #[3, 3] } := by rfl) (hx : ρ x = Nv .i64 a := by kernel_rfl) (hy : ρ y = Nv .i64 c := by kernel_rfl) : (execOp ρ o).run Tryd.prog w = .ok (.value (Nv .i64 d)) w := by
  subst h; exact b_min w ho hx hy
/-- A text of n bytes of which k parts are taken, the rest left. -/
structure PV (u : World) (g : Nat → Nat) (n k : Nat) (pt : Nat → Value) (o : Nat → Nat) (R : Option Addr) (rc : Nat) : Prop where
  zero : o 0 = 0
  mono : ∀ i, i < k → o i ≤ o (i + 1)
  le : o k ≤ n
  part : ∀ i, i < k → ∃ (A : Option Addr) (c : Nat), pt i = .slice A (o (i + 1) - o i) c ∧ o (i + 1) - o i ≤ c ∧ Rd u A (o (i + 1) - o i) (fun j => g (o i + j))
  room : n - o k ≤ rc
  rest : Rd u R (n - o k) (fun j => g (o k + j))
theorem PV.start {u : World} {g : Nat → Nat} {n : Nat} {R : Option Addr} {rc : Nat} (pt : Nat → Value) (hc : n ≤ rc) (hR : Rd u R n g) : PV u g n 0 pt (fun _ => 0) R rc :=
  ⟨rfl, fun i h => absurd h (Nat.not_lt_zero i), Nat.zero_le _, fun i h => absurd h (Nat.not_lt_zero i), hc, hR.congr fun j _ => by rw [Nat.zero_add]⟩
def upn (o : Nat → Nat) (k x : Nat) : Nat → Nat := fun i => if i = k then x else o i
theorem PV.next {u : World} {g : Nat → Nat} {n k : Nat} {pt : Nat → Value} {o : Nat → Nat} {R : Option Addr} {rc : Nat} (h : PV u g n k pt o R rc) (q : Nat) (hq : q ≤ n - o k) : PV u g n (k + 1) (upv pt k (.slice R q rc)) (upn o (k + 1) (o k + q)) (cutA R q rc) (rc - q) := by
  have hk : upn o (k + 1) (o k + q) (k + 1) = o k + q := if_pos rfl
  have hlo : ∀ i, i ≤ k → upn o (k + 1) (o k + q) i = o i := fun i hi => if_neg (by omega)
  have hle := h.le
  refine ⟨(hlo 0 (Nat.zero_le _)).trans h.zero, fun i hi => ?_, by rw [hk]; omega, fun i hi => ?_, ?_, ?_⟩
  · by_cases e : i = k
    · subst e; rw [hk, hlo i (Nat.le_refl _)]; omega
    · rw [hlo i (by omega), hlo (i + 1) (by omega)]; exact h.mono i (by omega)
  · by_cases e : i = k
    · subst e
      refine ⟨R, rc, ?_, ?_, ?_⟩
      · rw [hk, hlo i (Nat.le_refl _), Nat.add_sub_cancel_left]; exact if_pos rfl
      · rw [hk, hlo i (Nat.le_refl _), Nat.add_sub_cancel_left]; have := h.room; omega
      · rw [hk, hlo i (Nat.le_refl _), Nat.add_sub_cancel_left]; exact h.rest.take q hq
    · obtain ⟨A, c, h1, h2, h3⟩ := h.part i (by omega)
      refine ⟨A, c, ?_, ?_, ?_⟩
      · rw [hlo i (by omega), hlo (i + 1) (by omega), ← h1]; exact if_neg e
      · rw [hlo i (by omega), hlo (i + 1) (by omega)]; exact h2
      · rw [hlo i (by omega), hlo (i + 1) (by omega)]; exact h3
  · rw [hk]; have := h.room; omega
  · rw [hk]
    have := (h.rest.cut q rc h.room)
    rw [show n - o k - q = n - (o k + q) by omega] at this
    exact this.congr fun j _ => by rw [Nat.add_assoc]
theorem PV.one {u : World} {g : Nat → Nat} {n k : Nat} {pt : Nat → Value} {o : Nat → Nat} {R : Option Addr} {rc : Nat} (h : PV u g n k pt o R rc) (i : Nat) (hi : i < k) : (pt i).oneCell' = true := by
  obtain ⟨A, c, h1, _⟩ := h.part i hi
  rw [h1]; rfl
theorem PV.pts {u w : World} {g : Nat → Nat} {n k : Nat} {pt : Nat → Value} {o : Nat → Nat} {R : Option Addr} {rc Q N : Nat} {t : TypeId} (h : PV u g n k pt o R rc) (hb : Below u.heap.size u w) (hB : Blk w Q (pcs N k pt) t) (hN : k ≤ N) : Pts w (some ⟨Q, 0, none⟩) k g o := by
  refine ⟨h.zero, h.mono, Or.inr ⟨⟨Q, 0, none⟩, rfl, hB.lt, fun i hi => ?_⟩⟩
  obtain ⟨A, c, h1, h2, h3⟩ := h.part i hi
  refine ⟨A, c, ?_, h2, h3.low hb⟩
  rw [Addr.add_mid, hB.cell, Nat.zero_add, pcs_get _ _ _ _ (by omega), if_pos hi, h1]
end Go.Proofs.YtanahjoiilfcbaaDoor

/- Walks: missing, appendNumber; lists of slices that grow. At most two thousand bytes; no other condition. -/
import Derived.Test.YtanahjoiilfcbaaDoorZa
namespace Go.Proofs.YtanahjoiilfcbaaDoor.E
set_option maxRecDepth 100000
open Go.RowKit Rg

theorem g_skip {o : Oper} {a : Act} {w : World} {Q : Exit → Act → World → Prop} {ops : Array Oper} {rest : List Oper} (h : WL ops Q rest (a.put o.dst undef) w) (hg : Region.wanted o (yielded ops a.tmps) = false := by kernel_rfl) : WL ops Q (o :: rest) a w :=
  ⟨wpList_step fun K hK => by rw [if_neg (by rw [hg]; decide)]; exact hK _ _ h.out⟩
/-- Slices by a list of them. -/
def ptL (l : List Value) (i : Nat) : Value := l.getD i (.slice none 0 0)
theorem ptL_pre (N : Nat) (l r : List Value) : pcs N l.length (ptL (l ++ r)) = pcs N l.length (ptL l) := by
  unfold pcs
  congr 1
  refine List.map_congr_left fun i _ => ?_
  by_cases h : i < l.length
  · rw [if_pos h, if_pos h]
    unfold ptL
    rw [List.getD_eq_getElem?_getD, List.getD_eq_getElem?_getD, List.getElem?_append_left h]
  · rw [if_neg h, if_neg h]
theorem ptL_get {l : List Value} {i : Nat} (h : i < l.length) : l[i]? = some (ptL l i) := by
  unfold ptL
  rw [List.getD_eq_getElem?_getD, List.getElem?_eq_getElem h]; rfl
theorem ptL_map (l : List Value) : (List.range l.length).map (ptL l) = l := by
  apply List.ext_getElem?
  intro i
  by_cases h : i < l.length
  · rw [ptL_get h]; simp [h]
  · rw [List.getElem?_eq_none (by simp; omega), List.getElem?_eq_none (by omega)]
theorem room_ptl (cap : Nat) (l r : List Value) (hk : l.length + r.length ≤ cap) : setL (pcs cap l.length (ptL l)) l.length r = pcs cap (l ++ r).length (ptL (l ++ r)) := by
  apply Array.ext_getElem?
  intro i
  rw [setL_get _ _ _ _ (by rw [pcs_size]; exact hk), List.length_append]
  by_cases h1 : l.length ≤ i ∧ i < l.length + r.length
  · rw [if_pos h1, pcs_get _ _ _ _ (by omega), if_pos h1.2, ← ptL_get (by rw [List.length_append]; exact h1.2), List.getElem?_append_right h1.1]
  · rw [if_neg h1]
    by_cases h2 : i < cap
    · rw [pcs_get _ _ _ _ h2, pcs_get _ _ _ _ h2]
      by_cases h3 : i < l.length
      · rw [if_pos h3, if_pos (by omega), ← ptL_get h3, ← ptL_get (by rw [List.length_append]; omega), List.getElem?_append_left h3]
      · rw [if_neg h3, if_neg (by omega)]
    · rw [Array.getElem?_eq_none (by rw [pcs_size]; omega), Array.getElem?_eq_none (by rw [pcs_size]; omega)]
theorem grown_ptl (cap : Nat) (l r : List Value) (hk : l.length + r.length ≤ cap) : (l ++ r).toArray ++ Builtin.zeroCells (Value.slice none 0 0).cells (cap - (l.length + r.length)) = pcs cap (l ++ r).length (ptL (l ++ r)) := by
  have hzs : (Builtin.zeroCells (Value.slice none 0 0).cells (cap - (l.length + r.length))).size = cap - (l.length + r.length) := by rw [size_zeroCells]; simp [Value.cells]
  have hz : ∀ j, j < cap - (l.length + r.length) → (Builtin.zeroCells (Value.slice none 0 0).cells (cap - (l.length + r.length)))[j]? = some (.slice none 0 0) := by
    intro j hj
    simp [Builtin.zeroCells, Value.cells, hj, Nat.mod_one]
  have hl : (l ++ r).toArray.size = l.length + r.length := by simp
  apply Array.ext_getElem?
  intro i
  by_cases h2 : i < cap
  · rw [pcs_get _ _ _ _ h2, List.length_append]
    by_cases h3 : i < l.length + r.length
    · rw [Array.getElem?_append_left (by rw [hl]; exact h3), List.getElem?_toArray, if_pos h3, ptL_get (by rw [List.length_append]; exact h3)]
    · rw [Array.getElem?_append_right (by rw [hl]; omega), hl, hz _ (by omega), if_neg h3]
  · rw [Array.getElem?_eq_none (by simp [hzs]; omega), Array.getElem?_eq_none (by rw [pcs_size]; omega)]
theorem fit_ptl {l : List Value} (h : l.all (·.oneCell') = true) (N k : Nat) (hk : k ≤ l.length) : Fit 25 (pcs N k (ptL l)) := fit_ss (pcs_one _ _ _ fun i hi => List.all_eq_true.1 h _ (List.mem_of_getElem? (ptL_get (by omega : i < l.length))))
theorem app_ptl {u w : World} {L : List Row} {j g cap : Nat} {l r : List Value} {x : Value} (hO : Own u w L) (hj : L[j]? = some (g, pcs cap l.length (ptL l), 25)) (hs : Src Tryd.prog 1 42 x r.length r w) (h1 : (l ++ r).all (·.oneCell') = true) (hc : l.length ≤ cap) (hb : l.length + r.length ≤ 1000) :
    ∃ g' d w', (∀ ty, (Builtin.append_ #[42, 42] ty #[.slice (some ⟨g, 0, none⟩) l.length cap, x]).run Tryd.prog w = .ok (.slice (some ⟨g', 0, none⟩) (l.length + r.length) (l.length + r.length + d)) w') ∧ Own u w' (L.set j (g', pcs (l.length + r.length + d) (l ++ r).length (ptL (l ++ r)), 25)) := by
  have h : ((Tryd.prog.info? 25).map fun i => (decide (i.size = 1), decide (i.bytes = 24))) = some (true, true) := by kernel_rfl
  have hz : ((Tryd.prog.info? 25).bind (·.zero)) = some (.slice none 0 0) := by kernel_rfl
  have hf : ∀ N, Fit 25 (pcs N (l ++ r).length (ptL (l ++ r))) := fun N => fit_ptl h1 N _ (Nat.le_refl _)
  have hl1 : ∀ i, i < l.length → ptL l i = ptL (l ++ r) i := fun i hi => by
    have a := ptL_get hi
    have b := ptL_get (show i < (l ++ r).length by rw [List.length_append]; omega)
    rw [List.getElem?_append_left hi, a] at b
    exact Option.some.inj b
  cases hi : Tryd.prog.info? 25 with
  | none => rw [hi] at h; cases h
  | some i =>
    rw [hi] at h hz
    simp at h
    have hB := hO.row j hj
    by_cases hroom : l.length + r.length ≤ cap
    · have hr := fun ty => run_append_room_src (P := Tryd.prog) w 42 42 ty 25 i Tryd.underlying42 hi g 0 l.length cap x r.length r (by rw [h.1]; exact hs) hroom (fun m hm => by
        rw [h.1, hB.cell, pcs_get _ _ _ _ (by omega)]; rfl) (fun m hm => hB.frozen _)
      rw [h.1, Nat.mul_one, Nat.zero_add] at hr
      refine ⟨g, cap - (l.length + r.length), _, fun ty => by rw [Nat.add_sub_cancel' hroom]; exact hr ty, ?_⟩
      rw [Nat.add_sub_cancel' hroom]
      have hst := sto_cells g r w l.length
      exact hO.put j hj ((Blk.setCells r l.length hB).cast (room_ptl cap l r hroom)) ⟨fun b' c t hne hb' => hst.other b' c t (fun e => hne e.symm) hb', fun B w0 hle hbl => hst.low B w0 hbl hle⟩ (hf _)
    · have hold : (Builtin.firstCells i.size l.length (.slice (some ⟨g, 0, none⟩) l.length cap)).run Tryd.prog w.drew = .ok l.toArray w.drew :=
        run_firstCells_some w.drew i.size l.length ⟨g, 0, none⟩ l.length cap _ (by rw [h.1]; simp) (fun m y hy => by
          rw [Addr.add_mid, Nat.zero_add, hB.drew.cell]
          have hk : m < l.length := (List.getElem?_eq_some_iff.1 hy).1
          rw [pcs_get _ _ _ _ (by omega), if_pos hk, ← ptL_get hk]
          exact hy)
      have hr := fun ty => run_append_grow_src (P := Tryd.prog) w 42 42 ty 25 i (.slice none 0 0) Tryd.underlying42 hi hz (some ⟨g, 0, none⟩) l.length cap _ hold x r.length r (by rw [h.1]; exact hs) (by omega) (by omega) (growslice_fits (by omega) (by rw [h.2]; omega))
      have hge := grownCap_ge w (l.length + r.length) cap 25
      refine ⟨_, grownCap w (l.length + r.length) cap 25 - (l.length + r.length), _, fun ty => by rw [Nat.add_sub_cancel' hge]; exact hr ty, ?_⟩
      rw [Nat.add_sub_cancel' hge]
      refine Own.swap (Own.snoc hO.drew (Nat.le_refl _) ?_ ((Below.refl _ w.drew).alloc (Nat.le_refl _) _) (hf _)) hj
      exact (Blk.new w.drew _ 25).cast (grown_ptl _ l r hge)
theorem app_pnl {u w : World} {L : List Row} {r : List Value} {x : Value} (hO : Own u w L) (hs : Src Tryd.prog 1 42 x r.length r w) (h1 : r.all (·.oneCell') = true) (h0 : 0 < r.length) (hb : r.length ≤ 1000) :
    ∃ g' d w', (∀ ty, (Builtin.append_ #[42, 42] ty #[.slice none 0 0, x]).run Tryd.prog w = .ok (.slice (some ⟨g', 0, none⟩) r.length (r.length + d)) w') ∧ Own u w' (L ++ [(g', pcs (r.length + d) r.length (ptL r), 25)]) := by
  have h : ((Tryd.prog.info? 25).map fun i => (decide (i.size = 1), decide (i.bytes = 24))) = some (true, true) := by kernel_rfl
  have hz : ((Tryd.prog.info? 25).bind (·.zero)) = some (.slice none 0 0) := by kernel_rfl
  cases hi : Tryd.prog.info? 25 with
  | none => rw [hi] at h; cases h
  | some i =>
    rw [hi] at h hz
    simp at h
    have hold : (Builtin.firstCells i.size 0 (.slice none 0 0)).run Tryd.prog w.drew = .ok ([] : List Value).toArray w.drew := run_firstCells_none w.drew i.size 0 0 0
    have hr := fun ty => run_append_grow_src (P := Tryd.prog) w 42 42 ty 25 i (.slice none 0 0) Tryd.underlying42 hi hz none 0 0 _ hold x r.length r (by rw [h.1]; exact hs) (by omega) (by omega) (growslice_fits (by omega) (by rw [h.2]; omega))
    simp only [Nat.zero_add] at hr
    have hge := grownCap_ge w r.length 0 25
    refine ⟨_, grownCap w r.length 0 25 - r.length, _, fun ty => by rw [Nat.add_sub_cancel' hge]; exact hr ty, ?_⟩
    rw [Nat.add_sub_cancel' hge]
    have hg := grown_ptl (grownCap w r.length 0 25) [] r (by simpa using hge)
    simp only [List.nil_append, List.length_nil, Nat.zero_add] at hg
    exact Own.snoc hO.drew (Nat.le_refl _) ((Blk.new w.drew _ 25).cast hg) ((Below.refl _ w.drew).alloc (Nat.le_refl _) _) (fit_ptl h1 _ _ (Nat.le_refl _))
theorem src_ptl {w : World} {q c : Nat} {r : List Value} {t : TypeId} (hB : Blk w q r.toArray t) (h1 : r.all (·.oneCell') = true) : Src Tryd.prog 1 42 (.slice (some ⟨q, 0, none⟩) r.length c) r.length r w :=
  Src.ofSlice w Tryd.underlying42 ⟨q, 0, none⟩ r.length c r (by simp) (fun j u hu => by
    rw [Addr.add_mid, Nat.zero_add, hB.cell, List.getElem?_toArray]; exact hu) (fun u hu => List.all_eq_true.1 h1 u hu)
section
variable {o : Oper} {a : Act} {u w : World} {L : List Row} {Q : Exit → Act → World → Prop} {ops : Array Oper} {rest : List Oper} {x y : Operand}
/-- Slices appended to a list of them, which lies in row j; the last row holds what is appended, and is left out. -/
theorem g_apl (j g cap b N K c : Nat) (l r : List Value) {A : Array Value} (hO : Own u w (L ++ [(b, r.toArray, 25)])) (hj : L[j]? = some (g, A, 25)) (hA : A = pcs cap l.length (ptL l)) (h1 : (l ++ r).all (·.oneCell') = true) (hc : l.length ≤ cap) (hN : l.length + r.length = N) (hk : l.length = K) (hr0 : r.length = c) (hb : N ≤ 1000) (h : ∀ g' d w', Own u w' (L.set j (g', pcs (N + d) N (ptL (l ++ r)), 25)) → WL ops Q rest (a.put o.dst (.slice (some ⟨g', 0, none⟩) N (N + d))) w')
    (ho : o.op = .call { callee := .builtin .append, args := #[x, y], argTypes := #[42, 42] } := by rfl) (hx : a.eval x = .slice (some ⟨g, 0, none⟩) K cap := by kernel_rfl) (hy : a.eval y = .slice (some ⟨b, 0, none⟩) c c := by kernel_rfl) (hg : Region.wanted o (yielded ops a.tmps) = true := by kernel_rfl) : WL ops Q (o :: rest) a w := by
  subst hk hr0 hA hN
  have hjl : j < L.length := (List.getElem?_eq_some_iff.1 hj).1
  obtain ⟨g', d, w', hr, hO'⟩ := app_ptl hO (j := j) (by rw [List.getElem?_append_left hjl]; exact hj) (src_ptl (c := r.length) (hO.row L.length (at_end L _)) (by rw [List.all_append, Bool.and_eq_true] at h1; exact h1.2)) h1 hc hb
  rw [List.set_append_left _ _ hjl] at hO'
  refine g_run (.slice (some ⟨g', 0, none⟩) (l.length + r.length) (l.length + r.length + d)) w' ?_ (h g' d w' (by have := hO'.sub (List.sublist_append_left _ _); rw [List.length_append] at this; exact this)) hg
  simp [execOp, ho, resolve, invoke, builtin, hx, hy, hr, Result.andThen]
theorem g_apnl (b N : Nat) (r : List Value) (hO : Own u w (L ++ [(b, r.toArray, 25)])) (h1 : r.all (·.oneCell') = true) (hN : r.length = N) (h0 : 0 < N) (hb : N ≤ 1000) (h : ∀ g' d w', Own u w' (L ++ [(g', pcs (N + d) N (ptL r), 25)]) → WL ops Q rest (a.put o.dst (.slice (some ⟨g', 0, none⟩) N (N + d))) w')
    (ho : o.op = .call { callee := .builtin .append, args := #[x, y], argTypes := #[42, 42] } := by rfl) (hx : a.eval x = .slice none 0 0 := by kernel_rfl) (hy : a.eval y = .slice (some ⟨b, 0, none⟩) N N := by kernel_rfl) (hg : Region.wanted o (yielded ops a.tmps) = true := by kernel_rfl) : WL ops Q (o :: rest) a w := by
  subst hN
  obtain ⟨g', d, w', hr, hO'⟩ := app_pnl hO (src_ptl (c := r.length) (hO.row L.length (at_end L _)) h1) h1 h0 hb
  refine g_run (.slice (some ⟨g', 0, none⟩) r.length (r.length + d)) w' ?_ (h g' d w' (by have := hO'.swap (j := L.length) (at_end L _); rw [set_end] at this; exact this)) hg
  simp [execOp, ho, resolve, invoke, builtin, hx, hy, hr, Result.andThen]
end
theorem b_shr8 {ρ : Operand → Value} {o : Oper} {x y : Operand} {a : Nat} (w : World) (ho : o.op = .binOp .shr 38 x y 65 := by rfl) (hx : ρ x = Nv .u64 a := by kernel_rfl) (hy : ρ y = .int .u64 8 := by kernel_rfl) : (execOp ρ o).run Tryd.prog w = .ok (.value (Nv .u64 (a / 256))) w := by
  unfold execOp
  simp only [ho, hx, hy]
  go_simp
/-- How many bytes go from n up to a block's end. -/
def pad (n : Nat) : Nat := (16 - n % 16) % 16
set_option maxHeartbeats 400000 in
theorem missing_c (n : Nat) (w : World) : Ret 34 #[Nv .i64 n] w (Nv .i64 (pad n)) := by
  go_enter Tryd.func34, Tryd.ntmps34
  have hO := Own.start w
  go_upto_region 0 with (fail)
  refine wp_region_list (WL.out ?_)
  refine g_val (Nv .i64 0) ?_
  refine g_nil ?_
  simp only [Act.put, List.setIfInBounds_toArray, List.set_cons_succ, List.set_cons_zero]
  go_upto_region 1 with (fail)
  refine wp_region_list (WL.out ?_)
  refine g_val (Nv .i64 n) ?_
  refine g_val (Nv .i64 (n % 16)) ?_ (b_rem16 w)
  refine g_val (Nv .i64 (16 - n % 16)) ?_ (b_sub (k := 16) (m := n % 16) (by decide) (by omega) w)
  refine g_val (Nv .i64 (pad n)) ?_ (b_rem16 w)
  refine g_val (Nv .i64 (pad n)) ?_
  refine g_nil ?_
  simp only [Act.put, List.setIfInBounds_toArray, List.set_cons_succ, List.set_cons_zero]
  go_wp2_with (fail)
  go_ret
  exact ⟨rfl, hO.low⟩
/-- Eight bytes of a number behind n bytes. -/
def nu (f : Nat → Nat) (n x i : Nat) : Nat := if i < n then f i else x / 2 ^ (8 * (i - n)) % 256
theorem div_next (x k : Nat) : x / 2 ^ (8 * k) / 256 = x / 2 ^ (8 * (k + 1)) := by
  rw [Nat.div_div_eq_div_mul, show 8 * (k + 1) = 8 * k + 8 by omega, Nat.pow_add]
set_option maxHeartbeats 4000000 in
theorem appnum_c (x : Nat) {u w : World} {L : List Row} (n : Nat) (f : Nat → Nat) (v : Value) (hG : Gr u w L n f v) (hn : n ≤ 1000) : Calls Tryd.prog 35 #[v, Nv .u64 x] w fun e w' => ∃ g d, e = .returned (.slice (some ⟨g, 0, none⟩) (n + 8) (n + 8 + d)) ∧ Own u w' (L ++ [(g, vals .u8 (n + 8 + d) (C.mx (nu f n x) (n + 8)), 5)]) := by
  have HG : Hid (Gr u w L n (nu f n x) v) := hide (hG.congr fun i hi => by unfold nu; rw [if_pos hi])
  clear hG
  have hx0 : x = x / 2 ^ (8 * 0) := by rw [Nat.mul_zero, Nat.pow_zero, Nat.div_one]
  have Hx0 := hide hx0
  clear hx0
  go_enter Tryd.func35, Tryd.ntmps35
  go_wp2_with (fail)
  go_loopw [0, 1, 5] (fun x0 x1 x5 wr => ∃ k : Nat, k ≤ 8 ∧ x5 = .int .i64 k ∧ x1 = Nv .u64 (x / 2 ^ (8 * k)) ∧ Gr u wr L (n + k) (nu f n x) x0) (fun _ _ x5 _ => 8 - (intOf x5).toNat)
  case atStart => exact ⟨0, Nat.zero_le _, rfl, congrArg (fun q : Nat => Value.int .u64 (q : Int)) Hx0.out, HG.out⟩
  case round =>
    clear HG Hx0
    obtain ⟨k, hk9, rfl, rfl, hGr⟩ := hrel
    by_cases hlt : k < 8
    · have hq0 : (0 : Int) ≤ (k : Int) := Int.natCast_nonneg k
      have hq1 : (k : Int) < 8 := by omega
      have hw1 := wr1 k (by omega)
      have hw0 := wr0 k (by omega)
      obtain ⟨y, hy⟩ : ∃ y, Hid (x / 2 ^ (8 * k) = y) := ⟨_, hide rfl⟩
      rw [hy.out]
      go_upto_region 3 with (fail)
      refine wp_region_list (WL.out ?_)
      refine g_val (u0) ?_
      refine g_val (Nv .u64 y) ?_
      refine g_val (Nv .u8 (y % 256)) ?_ (b_c645 wr)
      refine g_ap1 u0 hGr (y % 256) (by omega) (nu f n x) (fun _ _ => rfl) (by unfold nu; rw [if_neg (by omega), Nat.add_sub_cancel_left, hy.out]) ?_
      intro q r d w1 hO
      refine g_val (.slice (some ⟨q, 0, none⟩) (n + k + 1) (n + k + 1 + d)) ?_
      refine g_nil ?_
      simp only [Act.put, List.setIfInBounds_toArray, List.set_cons_succ, List.set_cons_zero]
      go_upto_region 4 with (fail)
      refine wp_region_list (WL.out ?_)
      refine g_val (Nv .u64 y) ?_
      refine g_val (Nv .u64 (y / 256)) ?_ (b_shr8 w1)
      refine g_val (Nv .u64 (y / 256)) ?_
      refine g_nil ?_
      simp only [Act.put, List.setIfInBounds_toArray, List.set_cons_succ, List.set_cons_zero]
      have HO2 : Hid (Gr u w1 L (n + (k + 1)) (nu f n x) (.slice (some ⟨q, 0, none⟩) (n + k + 1) (n + k + 1 + d))) := hide (.inr ⟨q, d, rfl, hO⟩)
      have HY : Hid (y / 256 = x / 2 ^ (8 * (k + 1))) := hide (by rw [← hy.out, div_next])
      clear hO hGr hy
      go_wp2_with (fail)
      go_roundw
      case rel => exact ⟨k + 1, hlt, in_succ k, congrArg (fun q : Nat => Value.int .u64 (q : Int)) HY.out, HO2.out⟩
      case measure => exact ms_lt hlt
    · have ek : k = 8 := by omega
      subst ek
      clear hlt hk9
      rcases hGr with ⟨h0, _, _⟩ | ⟨g, d, rfl, hO⟩
      · exact absurd h0 (by omega)
      · have HO2 := hide hO
        clear hO
        go_wp2_with (fail)
        go_ret
        exact ⟨g, d, rfl, HO2.out⟩
end Go.Proofs.YtanahjoiilfcbaaDoor.E

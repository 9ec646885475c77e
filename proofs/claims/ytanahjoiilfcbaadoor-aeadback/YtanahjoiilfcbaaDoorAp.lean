/- append to a row of one's own. No conditions but those that each law names. -/
import Derived.Test.YtanahjoiilfcbaaDoorLq
import Derived.Test.YtanahjoiilfcbaaDoorCg
import Derived.Deep.AppendSrc
import Derived.Laws.AppendOwn
namespace Go.Proofs.YtanahjoiilfcbaaDoor.C
set_option maxRecDepth 100000
open Go.RowKit Rg

def bv8 (l : List Nat) : List Value := l.map fun x => Value.int .u8 (x : Nat)
theorem bv8_len (l : List Nat) : (bv8 l).length = l.length := by simp [bv8]
theorem bv8_app (k l : List Nat) : bv8 (k ++ l) = bv8 k ++ bv8 l := by simp [bv8]
theorem bv8_get (l : List Nat) (i : Nat) (v : Value) (h : (bv8 l)[i]? = some v) : ∃ x, l[i]? = some x ∧ v = .int .u8 (x : Nat) := by
  unfold bv8 at h
  rw [List.getElem?_map] at h
  cases hx : l[i]? with
  | none => rw [hx] at h; cases h
  | some x => rw [hx] at h; exact ⟨x, rfl, (Option.some.inj h).symm⟩
theorem src_rds {w : World} {A : Option Addr} {l : List Nat} (cap : Nat) (h : Rds w A l) : Src Tryd.prog 1 25 (.slice A l.length cap) (bv8 l).length (bv8 l) w := by
  rw [bv8_len]
  cases A with
  | none =>
    rcases h with h | ⟨a, ha, _⟩
    · subst h; exact Src.ofNil w Tryd.underlying25 cap
    · cases ha
  | some a =>
    refine Src.ofSlice w Tryd.underlying25 a l.length cap (bv8 l) (by rw [bv8_len, Nat.mul_one]) (fun j u hu => ?_) (fun u hu => ?_)
    · obtain ⟨x, hx, rfl⟩ := bv8_get l j u hu
      rcases h with h | ⟨a', ha, _, hc⟩
      · rw [h] at hx; cases hx
      · obtain rfl := Option.some.inj ha; exact hc j x hx
    · obtain ⟨x, _, rfl⟩ := List.mem_map.1 hu; rfl
theorem nv_mx (f : Nat → Nat) (cap n m : Nat) (news : List Value) (hn : news = (List.range m).map fun i => Value.int .u8 ((f (n + i) : Nat) : Int)) (hc : n + m ≤ cap) : setL (vals .u8 cap (mx f n)) n news = vals .u8 cap (mx f (n + m)) := by
  have hl : news.length = m := by rw [hn]; simp
  apply Array.ext_getElem?
  intro i
  rw [setL_get _ _ _ _ (by rw [hl, vals_size]; exact hc), hl]
  by_cases h1 : n ≤ i ∧ i < n + m
  · rw [if_pos h1, vals_get _ _ _ _ (by omega), hn]
    have h2 : i - n < m := by omega
    simp [h2, mx, show i < n + m by omega, show n + (i - n) = i by omega]
  · rw [if_neg h1]
    by_cases h2 : i < cap
    · rw [vals_get _ _ _ _ h2, vals_get _ _ _ _ h2]
      unfold mx
      by_cases h3 : i < n
      · rw [if_pos h3, if_pos (by omega)]
      · rw [if_neg h3, if_neg (by omega)]
    · rw [Array.getElem?_eq_none (by rw [vals_size]; omega), Array.getElem?_eq_none (by rw [vals_size]; omega)]
theorem grown_mx (f : Nat → Nat) (cap n m : Nat) (news : List Value) (hn : news = (List.range m).map fun i => Value.int .u8 ((f (n + i) : Nat) : Int)) (hc : n + m ≤ cap) : (((List.range n).map fun i => Value.int .u8 ((f i : Nat) : Int)) ++ news).toArray ++ Builtin.zeroCells (Value.int .u8 0).cells (cap - (n + m)) = vals .u8 cap (mx f (n + m)) := by
  have hl : news.length = m := by rw [hn]; simp
  have hzs : (Builtin.zeroCells (Value.int .u8 0).cells (cap - (n + m))).size = cap - (n + m) := by rw [size_zeroCells]; simp [Value.cells]
  have hz : ∀ j, j < cap - (n + m) → (Builtin.zeroCells (Value.int .u8 0).cells (cap - (n + m)))[j]? = some (.int .u8 0) := by
    intro j hj
    simp [Builtin.zeroCells, Value.cells, hj, Nat.mod_one]
  apply Array.ext_getElem?
  intro i
  by_cases h2 : i < cap
  · rw [vals_get _ _ _ _ h2]
    by_cases h3 : i < n + m
    · rw [Array.getElem?_append_left (by simp [hl]; omega), List.getElem?_toArray]
      unfold mx
      rw [if_pos h3]
      by_cases h4 : i < n
      · rw [List.getElem?_append_left (by simpa using h4)]; simp [h4]
      · rw [List.getElem?_append_right (by simp; omega), hn]
        have h5 : i - n < m := by omega
        simp [h5, show n + (i - n) = i by omega]
    · rw [Array.getElem?_append_right (by simp [hl]; omega)]
      have : (((List.range n).map fun i => Value.int .u8 ((f i : Nat) : Int)) ++ news).toArray.size = n + m := by simp [hl]
      rw [this, hz _ (by omega)]
      unfold mx
      rw [if_neg h3]; rfl
  · rw [Array.getElem?_eq_none (by simp [hl, hzs]; omega), Array.getElem?_eq_none (by rw [vals_size]; omega)]
/-- Bytes appended to a row of one's own. -/
theorem app_row {u w : World} {L : List Row} {j g cap n m : Nat} {f : Nat → Nat} {x : Value} {news : List Value} (hO : Own u w L) (hj : L[j]? = some (g, vals .u8 cap (mx f n), 5)) (hs : Src Tryd.prog 1 25 x news.length news w) (hn : news = (List.range m).map fun i => Value.int .u8 ((f (n + i) : Nat) : Int)) (hc : n ≤ cap) (hb : n + m ≤ 2 ^ 30) :
    ∃ g' d w', (∀ ty, (Builtin.append_ #[25, 25] ty #[.slice (some ⟨g, 0, none⟩) n cap, x]).run Tryd.prog w = .ok (.slice (some ⟨g', 0, none⟩) (n + m) (n + m + d)) w') ∧ Own u w' (L.set j (g', vals .u8 (n + m + d) (mx f (n + m)), 5)) := by
  have hl : news.length = m := by rw [hn]; simp
  have h : ((Tryd.prog.info? 5).map fun i => (decide (i.size = 1), decide (i.bytes = 1))) = some (true, true) := by kernel_rfl
  have hz : ((Tryd.prog.info? 5).bind (·.zero)) = some (.int .u8 0) := by kernel_rfl
  cases hi : Tryd.prog.info? 5 with
  | none => rw [hi] at h; cases h
  | some i =>
    rw [hi] at h hz
    simp at h
    have hB := hO.row j hj
    by_cases hroom : n + m ≤ cap
    · have hr := fun ty => run_append_room_src (P := Tryd.prog) w 25 25 ty 5 i Tryd.underlying25 hi g 0 n cap x news.length news (by rw [h.1]; exact hs) (by rw [hl]; exact hroom) (fun k hk => by
        rw [h.1, hB.cell, vals_get _ _ _ _ (by omega)]; rfl) (fun k hk => hB.frozen _)
      rw [hl, h.1, Nat.mul_one, Nat.zero_add] at hr
      refine ⟨g, cap - (n + m), _, fun ty => by rw [Nat.add_sub_cancel' hroom]; exact hr ty, ?_⟩
      rw [Nat.add_sub_cancel' hroom]
      have hst := sto_cells g news w n
      exact hO.put j hj ((Blk.setCells news n hB).cast (nv_mx f cap n m news hn hroom)) ⟨fun b' c t hne hb' => hst.other b' c t (fun e => hne e.symm) hb', fun B w0 hle hbl => hst.low B w0 hbl hle⟩ (fit_sl _ _)
    · have hold : (Builtin.firstCells i.size n (.slice (some ⟨g, 0, none⟩) n cap)).run Tryd.prog w.drew = .ok ((List.range n).map fun i => Value.int .u8 ((f i : Nat) : Int)).toArray w.drew :=
        run_firstCells_some w.drew i.size n ⟨g, 0, none⟩ n cap _ (by rw [h.1]; simp) (fun k y hy => by
          rw [Addr.add_mid, Nat.zero_add, hB.drew.cell]
          have hk : k < n := by simpa using (List.getElem?_eq_some_iff.1 hy).1
          rw [vals_get _ _ _ _ (by omega)]
          simp [hk] at hy
          rw [← hy]
          unfold mx; rw [if_pos hk])
      have hr := fun ty => run_append_grow_src (P := Tryd.prog) w 25 25 ty 5 i (.int .u8 0) Tryd.underlying25 hi hz (some ⟨g, 0, none⟩) n cap _ hold x news.length news (by rw [h.1]; exact hs) (by omega) (by omega) (growslice_fits (by omega) (by rw [h.2]; omega))
      rw [hl] at hr
      have hge := grownCap_ge w (n + m) cap 5
      refine ⟨_, grownCap w (n + m) cap 5 - (n + m), _, fun ty => by rw [Nat.add_sub_cancel' hge]; exact hr ty, ?_⟩
      rw [Nat.add_sub_cancel' hge]
      refine Own.swap (Own.snoc hO.drew (Nat.le_refl _) ?_ ((Below.refl _ w.drew).alloc (Nat.le_refl _) _) (fit_sl _ _)) hj
      exact (Blk.new w.drew _ 5).cast (grown_mx f _ n m news hn hge)
section
variable {b : Bool} {ops : Array Oper} {sts : List Nat} {F : Nu → Act} {u : World} {L : Nat → Nu → List Row} {i : Nat} {o : Oper}
/-- append to a row. -/
theorem sap (t j n m : Nat) (g cap : Nu → Nat) (f : Nat → Nat) {x y : Operand} (hnc : ∀ ν, n ≤ cap ν) (hb : n + m ≤ 2 ^ 30) (hs : ∀ ν w, Own u w (L t ν) → ∃ news : List Value, Src Tryd.prog 1 25 ((F ν).eval y) news.length news w ∧ news = (List.range m).map fun i => Value.int .u8 ((f (n + i) : Nat) : Int)) (hj : ∀ ν, (L t ν)[j]? = some (g ν, vals .u8 (cap ν) (mx f n), 5) := by intro ν; kernel_rfl) (ho : o.op = .call { callee := .builtin .append, args := #[x, y], argTypes := #[25, 25] } := by rfl) (hx : ∀ ν, (F ν).eval x = .slice (some ⟨g ν, 0, none⟩) n (cap ν) := by intro ν; kernel_rfl) (hL : ∀ ν g' d, L (t + 1) (up (up ν i g') (100 + i) d) = (L t ν).set j (g', vals .u8 (n + m + d) (mx f (n + m)), 5) := by intro ν g' d; kernel_rfl) (hm : ∀ ν g' d, msk ops ((F ν).put o.dst (.slice (some ⟨g', 0, none⟩) (n + m) (n + m + d))).tmps (deps b ops i) = msk ops (F (up (up ν i g') (100 + i) d)).tmps (deps b ops i) := by intro ν g' d; kernel_rfl)
    (hp : plc b ops sts i t = true := by kernel_rfl) (hw : ∀ ν, Region.wanted o (yielded ops (F ν).tmps) = true := by intro ν; kernel_rfl) (hF : ∀ ν, (F ν).defers = [] := by intro ν; kernel_rfl) : Ob b Tryd.prog ops sts F (OI u L) i o := by
  refine .inr ⟨t, (plc_spec hp).1, (plc_spec hp).2, fun ν => ⟨hw ν, fun w hO => ?_⟩⟩
  obtain ⟨news, hsrc, hne⟩ := hs ν w hO
  obtain ⟨g', d, w', hr, hO'⟩ := app_row hO (hj ν) hsrc hne (hnc ν) hb
  unfold Oper.wp
  have hx' := hx ν
  generalize hy : (F ν).eval y = yv at *
  simp [execOp, ho, resolve, invoke, builtin, hx', hy, hr, Result.andThen]
  refine ⟨by rw [put_defers]; exact hF ν, up (up ν i g') (100 + i) d, hm ν g' d, ?_⟩
  show Own u w' (L (t + 1) (up (up ν i g') (100 + i) d))
  rw [hL]
  exact hO'
end
end Go.Proofs.YtanahjoiilfcbaaDoor.C

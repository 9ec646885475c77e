/- More laws of operations: made slices, slices cut, copy, a store in the middle of a row. No conditions but those that each names. -/
import Derived.Test.YtkljpidlfddgbaaBk
import Derived.Laws.CopyRow
import Derived.WalkMore
import Derived.ScopeJumps
namespace Go.Proofs.Ytkljpidlfddgbaa
set_option maxRecDepth 100000
open Go.RowKit Rg B


namespace B
theorem scope_jumps {P : Program} {a : Act} {w : World} {Q : Exit → Act → World → Prop} {c rest : Code} (l : Nat) (J : Act → World → Prop) (μ : Act → World → Nat) (hf : findLabel c l = some (Code.skip.seq rest))
    (pass : ∀ a w, J a w → rest.wp P (Exit.jump l (fun a' w' => J a' w' ∧ μ a' w' < μ a w) Q) a w)
    (first : (∀ a w, J a w → rest.wp P (Exit.jump l J Q) a w) → c.wp P (Exit.jump l J Q) a w) : (Code.scope c).wp P Q a w :=
  wp_scope_jumps l J μ hf (first fun a w h => wp_mono (pass a w h) fun e a' w' hq => by
    cases e <;> first | exact hq | exact ⟨hq.1, hq.2.1⟩) fun a w h => wp_seq (wp_skip (pass a w h))
/-- A region that ends in one of several frames. -/
theorem reg_ways {P : Program} {c : Code} {Q : Exit → Act → World → Prop} {a : Act} {w : World} {ι : Type} (G : ι → Act) (hc : (∀ x, Q .normal (G x) w) → c.wp P Q a w) (h : ∀ x, Q .normal (G x) w) : c.wp P Q a w := hc h
theorem agg_u8 (w : World) : (isAgg 5).run Try.prog w = .ok false w := by kernel_rfl
theorem agg_int (w : World) : (isAgg 3).run Try.prog w = .ok false w := by kernel_rfl
theorem agg_bool (w : World) : (isAgg 4).run Try.prog w = .ok false w := by kernel_rfl
theorem agg_u64 (w : World) : (isAgg 30).run Try.prog w = .ok false w := by kernel_rfl
theorem agg_sl (w : World) : (isAgg 44).run Try.prog w = .ok false w := by kernel_rfl
theorem agg_sb (w : World) : (isAgg 51).run Try.prog w = .ok false w := by kernel_rfl
theorem agg_pp (w : World) : (isAgg 46).run Try.prog w = .ok false w := by kernel_rfl
theorem sz_u8 (w : World) : (sizeOf 5).run Try.prog w = .ok 1 w := by kernel_rfl
theorem sz_int (w : World) : (sizeOf 3).run Try.prog w = .ok 1 w := by kernel_rfl
theorem sz_bool (w : World) : (sizeOf 4).run Try.prog w = .ok 1 w := by kernel_rfl
theorem sz_sb (w : World) : (sizeOf 51).run Try.prog w = .ok 1 w := by kernel_rfl
theorem sz_pp (w : World) : (sizeOf 46).run Try.prog w = .ok 1 w := by kernel_rfl
theorem fit_sl (n : Nat) (f : Nat → Nat) : Fit 5 (vals .u8 n f) := ⟨(fun h => by cases h), vals_one _ _ _⟩
theorem part_vals {m off : Nat} {kd : IntKind} {f : Nat → Nat} {c : Array Value} {ty : TypeId} (hs : (Try.prog.info? ty).map (·.size) = some m) (hc : off + m ≤ c.size) (h : ∀ i, i < m → c[off + i]? = some (.int kd ((f i : Nat) : Int))) : Part c off ty (vals kd m f) := by
  refine ⟨?_, by rw [hs, vals_size]⟩
  apply Array.ext_getElem?
  intro i
  rw [vals_size, Array.getElem?_extract]
  by_cases hi : i < m
  · rw [vals_get _ _ _ _ hi, if_pos (by omega), h i hi]
  · rw [if_neg (by omega)]; exact (Array.getElem?_eq_none (by rw [vals_size]; omega)).symm
theorem st_ptr {ρ : Operand → Value} {o : Oper} (ty : TypeId) (hs : ∀ w, (sizeOf ty).run Try.prog w = .ok 1 w) {x y : Operand} (ho : o.op = .store ty x y) {ad : Addr} (hx : ρ x = .pointer (some ad)) {p : Option Addr} (hy : ρ y = .pointer p) {w : World} {v : Value} (hc : w.cell? ad = some v) (hf : w.frozen? ad = false) : (execOp ρ o).run Try.prog w = .ok .skip (w.setCell ad (.pointer p)) := by
  unfold execOp
  simp only [ho, hx, hy]
  go_simp
theorem madeb_vals (n : Nat) : madeCells #[.int .u8 0] n = vals .u8 n (fun _ => 0) := by
  apply Array.ext_getElem?
  intro i
  by_cases h : i < n
  · rw [vals_get _ _ _ _ h]; simp [madeCells, h, Nat.mod_one]
  · rw [Array.getElem?_eq_none (by rw [size_madeCells]; omega), Array.getElem?_eq_none (by rw [vals_size]; omega)]
theorem make_bytes (w : World) (n : Nat) (h : n ≤ 2 ^ 40) : (Instr.makeSlice 44 (.int .i64 (n : Int)) (.int .i64 (n : Int))).run Try.prog w = .ok (.slice (some ⟨w.heap.size, 0, none⟩) n n) (w.alloc (.cells (vals .u8 n (fun _ => 0)) 5)) := by
  rw [← madeb_vals]
  exact run_make_row' (P := Try.prog) 44 5 (.int .u8 0) 1 Try.underlying44 (by kernel_rfl) rfl .i64 .i64 n (by omega) (by omega) w
section
variable {ρ : Operand → Value} {o : Oper} {x y : Operand}
theorem b_mk {n : Nat} (h : n ≤ 2 ^ 40) (w : World) (ho : o.op = .makeSlice 44 x y := by rfl) (hx : ρ x = Nv .i64 n := by kernel_rfl) (hy : ρ y = Nv .i64 n := by kernel_rfl) : (execOp ρ o).run Try.prog w = .ok (.value (.slice (some ⟨w.heap.size, 0, none⟩) n n)) (w.alloc (.cells (vals .u8 n (fun _ => 0)) 5)) := by
  unfold execOp
  simp only [ho, hx, hy, Sem.run_bind, make_bytes w n h, Result.andThen_ok, Sem.run_pure]
/-- Where a slice begins that is cut at c. -/
def cutA (A : Option Addr) (c cap : Nat) : Option Addr := if cap = c then A else A.map (·.add c)
theorem run_cut (A : Option Addr) (len cap c : Nat) (hc : c ≤ len) (w : World) : (Instr.slice 44 (.slice A len cap) (some (.int .i64 c)) none none).run Try.prog w = .ok (.slice (cutA A c cap) (len - c) (cap - c)) w := by
  rw [run_slice_l w 44 A len cap (by kernel_rfl) .i64 c (by omega) (by omega), show (sizeOf (Try.prog.elem 44)).run Try.prog w = .ok 1 w by rfl]
  simp [Result.andThen, sliced, cutA]
theorem b_lo {A : Option Addr} {len cap c : Nat} (hc : c ≤ len) (w : World) (ho : o.op = .slice 44 x (some y) none none := by rfl) (hx : ρ x = .slice A len cap := by kernel_rfl) (hy : ρ y = Nv .i64 c := by kernel_rfl) : (execOp ρ o).run Try.prog w = .ok (.value (.slice (cutA A c cap) (len - c) (cap - c))) w := by
  have e := run_cut A len cap c hc w
  have e' : (Instr.sliceAt 44 (.slice A len cap) (some (Nv .i64 c)) none none).run Try.prog w = .ok (.slice (cutA A c cap) (len - c) (cap - c)) w := by
    unfold Instr.sliceAt
    go_simp
  unfold execOp
  rw [ho]
  dsimp only [Option.map]
  rw [hx, hy, Sem.run_bind, e']
  rfl
theorem lssI_int {a c : Int} {b : Bool} (h : decide (a < c) = b) (w : World) (ho : o.op = .binOp .lss 3 x y 3 := by rfl) (hx : ρ x = .int .i64 a := by kernel_rfl) (hy : ρ y = .int .i64 c := by kernel_rfl) : (execOp ρ o).run Try.prog w = .ok (.value (.bool b)) w := by
  subst h
  unfold execOp
  simp only [ho, hx, hy]
  by_cases h : a < c
  · rw [decide_eq_true h]; go_simp
  · rw [decide_eq_false h]; go_simp
theorem gtrI_int {a c : Int} {b : Bool} (h : decide (c < a) = b) (w : World) (ho : o.op = .binOp .gtr 3 x y 3 := by rfl) (hx : ρ x = .int .i64 a := by kernel_rfl) (hy : ρ y = .int .i64 c := by kernel_rfl) : (execOp ρ o).run Try.prog w = .ok (.value (.bool b)) w := by
  subst h
  unfold execOp
  simp only [ho, hx, hy]
  by_cases h : c < a
  · rw [decide_eq_true h]; go_simp
  · rw [decide_eq_false h]; go_simp
end
theorem splice_get (L cs : List Value) (o i : Nat) (h : o + cs.length ≤ L.length) : (L.take o ++ cs ++ L.drop (o + cs.length))[i]? = if o ≤ i ∧ i < o + cs.length then cs[i - o]? else L[i]? := by
  have hm : min o L.length = o := by omega
  by_cases h1 : i < o
  · rw [if_neg (by omega), List.append_assoc, List.getElem?_append_left (by rw [List.length_take, hm]; exact h1), List.getElem?_take, if_pos h1]
  · by_cases h2 : i < o + cs.length
    · rw [if_pos (by omega), List.getElem?_append_left (by rw [List.length_append, List.length_take, hm]; omega), List.getElem?_append_right (by rw [List.length_take, hm]; omega), List.length_take, hm]
    · rw [if_neg (by omega), List.getElem?_append_right (by rw [List.length_append, List.length_take, hm]; omega), List.length_append, List.length_take, hm, List.getElem?_drop]
      congr 1; omega
/-- q bytes of f laid at d. -/
def laid (h f : Nat → Nat) (d q i : Nat) : Nat := if d ≤ i ∧ i < d + q then f (i - d) else h i
theorem laid_zero (h f : Nat → Nat) (d : Nat) : laid h f d 0 = h := funext fun i => by unfold laid; rw [if_neg (by omega)]
theorem copy_none (w : World) (N d n n' c : Nat) (ty : TypeId) : (Builtin.copy_ #[44, 44] ty #[.slice (some ⟨N, d, none⟩) n n', .slice none 0 c]).run Try.prog w = .ok (Nv .i64 0) w := by
  have hu : Try.prog.underlying 44 = some (.slice 5) := Try.underlying44
  have hm : Nat.min 0 n = 0 := by simp
  simp [Builtin.copy_, run_underlying hu, Builtin.lenOf, Builtin.firstCells, sizeOf, typeInfo, hm]
  have h5 : (Try.prog.info? 5).isSome = true := by kernel_rfl
  cases hi : Try.prog.info? 5 with
  | none => rw [hi] at h5; cases h5
  | some i => rfl
/-- copy into a row of bytes of one's own: from d on there are l places. -/
theorem copy_own {u w : World} {L : List Row} {j N K d l l' m c q : Nat} {h f : Nat → Nat} {A : Option Addr} (hO : Own u w L) (hj : L[j]? = some (N, vals .u8 K h, 5)) (hq : q = min m l) (hd : d + q ≤ K) (hr : Rc w A m (by8 f)) (ty : TypeId) :
    ∃ w', (Builtin.copy_ #[44, 44] ty #[.slice (some ⟨N, d, none⟩) l l', .slice A m c]).run Try.prog w = .ok (Nv .i64 q) w' ∧ Own u w' (L.set j (N, vals .u8 K (laid h f d q), 5)) := by
  have hB := hO.row j hj
  cases A with
  | some a =>
    have hlen : ((List.range q).map (by8 f)).length = q := by simp
    have h1 := run_copy_row (P := Try.prog) w 44 44 ty 5 N d l l' a m c (vals .u8 K h) 5 ((List.range q).map (by8 f)) Try.underlying44 (by kernel_rfl) hB (by rw [hlen, hq]) (fun j v hv => by
      rw [List.getElem?_map] at hv
      by_cases hj : j < q
      · rw [List.getElem?_range hj] at hv
        obtain rfl := Option.some.inj hv
        rcases hr with rfl | ⟨a', ha, _, hc⟩
        · omega
        · obtain rfl := Option.some.inj ha
          exact hc j (by omega)
      · rw [List.getElem?_eq_none (by simp; omega)] at hv; cases hv) (by rw [hlen, vals_size]; omega) (fun v hv => by
      obtain ⟨i, _, rfl⟩ := List.mem_map.1 hv; rfl)
    rw [hlen] at h1
    have e : ((vals .u8 K h).toList.take d ++ (List.range q).map (by8 f) ++ (vals .u8 K h).toList.drop (d + q)).toArray = vals .u8 K (laid h f d q) := by
      apply Array.ext_getElem?
      intro i
      have e1 : (vals .u8 K h).toList.length = K := by rw [Array.length_toList, vals_size]
      have hs := splice_get (vals .u8 K h).toList ((List.range q).map (by8 f)) d i (by rw [hlen, e1]; omega)
      rw [hlen] at hs
      rw [List.getElem?_toArray, hs]
      by_cases h2 : d ≤ i ∧ i < d + q
      · rw [if_pos h2, vals_get _ _ _ _ (by omega), laid, if_pos h2, List.getElem?_map, List.getElem?_range (by omega)]; rfl
      · rw [if_neg h2, Array.getElem?_toList]
        by_cases h3 : i < K
        · rw [vals_get _ _ _ _ h3, vals_get _ _ _ _ h3, laid, if_neg h2]
        · rw [Array.getElem?_eq_none (by rw [vals_size]; omega), Array.getElem?_eq_none (by rw [vals_size]; omega)]
    rw [e] at h1
    exact ⟨_, h1, hO.put j hj (hB.row _) (st1_row w _ _) (fit_sl _ _)⟩
  | none =>
    rcases hr with rfl | ⟨a', ha, _⟩
    · obtain rfl : q = 0 := by omega
      rw [laid_zero]
      refine ⟨w, copy_none w N d _ _ c ty, ?_⟩
      have e : L.set j (N, vals .u8 K h, 5) = L := by
        apply List.ext_getElem?
        intro i
        rw [List.getElem?_set]
        by_cases hij : j = i
        · subst hij; rw [if_pos rfl, hj, if_pos (List.getElem?_eq_some_iff.1 hj).1]
        · rw [if_neg hij]
      rw [e]; exact hO
    · cases ha
section
variable {o o2 : Oper} {a : Act} {u w : World} {L : List Row} {Q : Exit → Act → World → Prop} {ops : Array Oper} {rest : List Oper}
/-- A call that changes nothing. -/
theorem g_ret (f : FuncId) (args : Array Value) (v : Value) (hc : Ret f args w v) (h : ∀ w', Below w.heap.size w w' → WL ops Q rest (a.put o.dst v) w') (hrun : (execOp a.eval o).run Try.prog w = .ok (.enter f args) w := by kernel_rfl) (hg : Region.wanted o (yielded ops a.tmps) = true := by kernel_rfl) : WL ops Q (o :: rest) a w :=
  g_any (P := fun v' w' => v' = v ∧ Below w.heap.size w w') f args (Calls.mono hc fun _ _ hh => ⟨_, hh.1, rfl, hh.2⟩) (fun _ w' hP => by obtain ⟨rfl, hb⟩ := hP; exact h w' hb) hrun hg
/-- copy, in a straight region. -/
theorem g_cp {N K d l l' m c q : Nat} {h f : Nat → Nat} {A : Option Addr} {x y : Operand} (hO : Own u w L) (j : Nat) (hj : L[j]? = some (N, vals .u8 K h, 5)) (hq : q = min m l) (hd : d + q ≤ K) (hr : Rc w A m (by8 f)) (hh : ∀ w', Own u w' (L.set j (N, vals .u8 K (laid h f d q), 5)) → WL ops Q rest (a.put o.dst (Nv .i64 q)) w') (ho : o.op = .call { callee := .builtin .copy, args := #[x, y], argTypes := #[44, 44] } := by rfl) (hx : a.eval x = .slice (some ⟨N, d, none⟩) l l' := by kernel_rfl) (hy : a.eval y = .slice A m c := by kernel_rfl) (hg : Region.wanted o (yielded ops a.tmps) = true := by kernel_rfl) : WL ops Q (o :: rest) a w := by
  obtain ⟨w', hr', hO'⟩ := copy_own (l' := l') (c := c) hO hj hq hd hr o.type
  refine g_run (Nv .i64 q) w' ?_ (hh w' hO') hg
  simp [execOp, ho, resolve, invoke, builtin, hx, hy, hr', Result.andThen]
/-- Cells stored in the middle of a row. -/
theorem g_sm {ty : TypeId} {x y : Operand} {b k : Nat} {c e c' : Array Value} {t : TypeId} (hO : Own u w L) (j : Nat) (hj : L[j]? = some (b, c, t)) (hk : k + e.size ≤ c.size) (hi : (Try.prog.info? ty).map (·.size) = some e.size) (h1 : e.all (·.oneCell') = true) (he : setL c k e.toList = c') (hf : Fit t c') (h : ∀ w', Own u w' (L.set j (b, c', t)) → WL ops Q rest a w') (ho : o.op = .store ty x y := by rfl) (hx : a.eval x = E b k := by kernel_rfl) (hy : a.eval y = .agg e := by kernel_rfl) (hd : o.dst = none := by rfl) (hg : Region.wanted o (yielded ops a.tmps) = true := by kernel_rfl) : WL ops Q (o :: rest) a w :=
  ⟨wpList_step fun K hK => by
    rw [if_pos hg]
    have hB := hO.row j hj
    refine wp_store_mid ty x y ho b k e hx hy (fun i hi => ⟨?_, hB.frozen _⟩) hi h1 ?_
    · rw [hB.cell, Array.getElem?_eq_getElem (by omega)]; rfl
    · have hk := hK a _ (h _ (hO.put j hj ((blk_setCells _ k hB).cast he) (st1_cells b _ w k) hf)).out
      rw [hd]
      exact hk⟩
end
section
variable {b : Bool} {ops : Array Oper} {sts : List Nat} {F : Nu → Act} {u : World} {L : Nat → Nu → List Row} {i : Nat} {o : Oper}
theorem ld_addr {ρ : Operand → Value} {o : Oper} (ty : TypeId) (hu : ∀ w, (isAgg ty).run Try.prog w = .ok false w) {x : Operand} (ho : o.op = .load ty x) {ad : Addr} (hx : ρ x = .pointer (some ad)) {w : World} {v : Value} (hc : w.cell? ad = some v) : (execOp ρ o).run Try.prog w = .ok (.value v) w := by
  unfold execOp
  simp only [ho, hx]
  go_simp
theorem nca (v : Value) {ty : TypeId} {x : Operand} {ad : Addr} (hc : ∀ w, Below u.heap.size u w → w.cell? ad = some v) (hu : ∀ w, (isAgg ty).run Try.prog w = .ok false w) (ho : o.op = .load ty x := by rfl) (hx : ∀ ν, (F ν).eval x = .pointer (some ad) := by intro ν; kernel_rfl)
    (hv : ∀ ν, vof (F ν) o = v := by intro ν; kernel_rfl) (hw : ∀ ν, Region.wanted o (yielded ops (F ν).tmps) = true := by intro ν; kernel_rfl) (hn : sts.contains i = false := by kernel_rfl) : Ob b Try.prog ops sts F (OI u L) i o :=
  nw 0 sts.length (fun _ => v) (fun _ ν w _ _ hO => ld_addr ty hu ho (hx ν) (hc w (Own.low hO))) (by simp [win]) hv hw hn
theorem nco (v : Value) {ty : TypeId} {x : Operand} {bk k : Nat} {c : Array Value} {t : TypeId} (hB : Blk u bk c t) (hg : c[k]? = some v) (hu : ∀ w, (isAgg ty).run Try.prog w = .ok false w) (ho : o.op = .load ty x := by rfl) (hx : ∀ ν, (F ν).eval x = E bk k := by intro ν; kernel_rfl)
    (hv : ∀ ν, vof (F ν) o = v := by intro ν; kernel_rfl) (hw : ∀ ν, Region.wanted o (yielded ops (F ν).tmps) = true := by intro ν; kernel_rfl) (hn : sts.contains i = false := by kernel_rfl) : Ob b Try.prog ops sts F (OI u L) i o :=
  nw 0 sts.length (fun _ => v) (fun _ ν w _ _ hO => ld_cell ty hu ho (hx ν) (((hB.call (Own.low hO)).cell k).trans hg)) (by simp [win]) hv hw hn
/-- An operation that tells nothing. -/
theorem nm (v : Nu → Value) (hrun : ∀ ν w, (execOp (F ν).eval o).run Try.prog w = .ok (.value (v ν)) w := by intro ν w; kernel_rfl) (hd : o.dst = none := by rfl) (hw : ∀ ν, Region.wanted o (yielded ops (F ν).tmps) = true := by intro ν; kernel_rfl) (hn : sts.contains i = false := by kernel_rfl) : Ob b Try.prog ops sts F (OI u L) i o :=
  .inl ⟨hn, fun ν => .inl ⟨hw ν, v ν, by rw [hd]; rfl, 0, sts.length, by simp [win], fun _ w _ _ _ => hrun ν w⟩⟩
/-- One cell of a row is stored, in a region over one frame: a value of whatever kind. -/
theorem slv (t j : Nat) (k : Nu → Nat) (v0 v : Nu → Value) (hs : ∀ ν w, w.cell? ⟨(rowAt (L t ν) j).1, k ν, none⟩ = some (v0 ν) → w.frozen? ⟨(rowAt (L t ν) j).1, k ν, none⟩ = false → (execOp (F ν).eval o).run Try.prog w = .ok .skip (w.setCell ⟨(rowAt (L t ν) j).1, k ν, none⟩ (v ν))) (hg : ∀ ν, (rowAt (L t ν) j).2.1[k ν]? = some (v0 ν)) (he : ∀ ν, (rowAt (L t ν) j).2.1.setIfInBounds (k ν) (v ν) = (rowAt (L (t + 1) ν) j).2.1) (hf : ∀ ν, Fit (rowAt (L t ν) j).2.2 (rowAt (L (t + 1) ν) j).2.1) (hj : ∀ ν, (L t ν)[j]? = some (rowAt (L t ν) j) := by intro ν; kernel_rfl) (hL : ∀ ν, L (t + 1) ν = (L t ν).set j ((rowAt (L t ν) j).1, (rowAt (L (t + 1) ν) j).2.1, (rowAt (L t ν) j).2.2) := by intro ν; kernel_rfl) (hd : o.dst = none := by rfl)
    (hp : plc b ops sts i t = true := by kernel_rfl) (hw : ∀ ν, Region.wanted o (yielded ops (F ν).tmps) = true := by intro ν; kernel_rfl) (hF : ∀ ν, (F ν).defers = [] := by intro ν; kernel_rfl) : Ob b Try.prog ops sts F (OI u L) i o := by
  refine SS_of t (fun ν _ _ => ν) (plc_spec hp).1 (plc_spec hp).2 hw (fun ν w K hO hK => ?_) hF
  have hj' : (L t ν)[j]? = some ((rowAt (L t ν) j).1, (rowAt (L t ν) j).2.1, (rowAt (L t ν) j).2.2) := hj ν
  have hB := Own.row hO j hj'
  unfold Oper.wp
  rw [hs ν w ((hB.cell _).trans (hg ν)) (hB.frozen _), Oper.upon_skip]
  refine hK _ _ (by rw [hd]; rfl) ?_
  show Own u _ (L (t + 1) ν)
  rw [hL]
  exact Own.put hO j hj' ((hB.set _ _).cast (he ν)) (st1_cell w _ _ _) (hf ν)
/-- copy, in a region over one frame. -/
theorem scp (t j N K d l l' m c q : Nat) (h f : Nat → Nat) (A : Option Addr) (hq : q = min m l) (hd : d + q ≤ K) (hr : ∀ ν w, Own u w (L t ν) → Rc w A m (by8 f)) {x y : Operand} (hj : ∀ ν, (L t ν)[j]? = some (N, vals .u8 K h, 5) := by intro ν; kernel_rfl) (ho : o.op = .call { callee := .builtin .copy, args := #[x, y], argTypes := #[44, 44] } := by rfl) (hx : ∀ ν, (F ν).eval x = .slice (some ⟨N, d, none⟩) l l' := by intro ν; kernel_rfl) (hy : ∀ ν, (F ν).eval y = .slice A m c := by intro ν; kernel_rfl) (hv : ∀ ν, vof (F ν) o = Nv .i64 q := by intro ν; kernel_rfl) (hL : ∀ ν, L (t + 1) ν = (L t ν).set j (N, vals .u8 K (laid h f d q), 5) := by intro ν; kernel_rfl)
    (hp : plc b ops sts i t = true := by kernel_rfl) (hw : ∀ ν, Region.wanted o (yielded ops (F ν).tmps) = true := by intro ν; kernel_rfl) (hF : ∀ ν, (F ν).defers = [] := by intro ν; kernel_rfl) : Ob b Try.prog ops sts F (OI u L) i o := by
  refine SS_of t (fun ν _ _ => ν) (plc_spec hp).1 (plc_spec hp).2 hw (fun ν w K' hO hK => ?_) hF
  obtain ⟨w', hr', hO'⟩ := copy_own (l' := l') (c := c) hO (hj ν) hq hd (hr ν w hO) o.type
  have hx' := hx ν
  have hy' := hy ν
  have hk := hK (Nv .i64 q) w' (by rw [← hv ν, put_vof]) (by show Own u w' (L (t + 1) ν); rw [hL]; exact hO')
  unfold Oper.wp
  simp [execOp, ho, resolve, invoke, builtin, hx', hy', hr', Result.andThen]
  exact hk
end
end B
namespace B
theorem run_lda {P : Program} (w : World) (a : Addr) (ty : TypeId) (cs : List Value) (d : TypeDesc) (hc : ∀ j v, cs[j]? = some v → w.cell? (a.add j) = some v) (hu : P.underlying ty = some d) (hd : d.isRow = true) (hi : (P.info? ty).map (·.size) = some cs.length) : (loadVar ty a).run P w = .ok (.agg cs.toArray) w := by
  have hl : (loadCells a cs.length).run P w = .ok cs.toArray w := run_loadCells_list (P := P) w a cs hc
  cases hq : P.info? ty with
  | none => simp [hq] at hi
  | some i =>
    have hs : i.size = cs.length := by simpa [hq] using hi
    have hagg : (isAgg ty).run P w = .ok true w := by
      unfold isAgg
      rw [Sem.run_bind, run_underlying hu w]
      cases d <;> simp_all
    simp [loadVar, Sem.run_bind, hagg, sizeOf, typeInfo, hq, hs, hl]
section
variable {o o2 : Oper} {a : Act} {u w : World} {L : List Row} {Q : Exit → Act → World → Prop} {ops : Array Oper} {rest : List Oper}
/-- Cells loaded together from anywhere. -/
theorem g_lr {ty : TypeId} {x : Operand} {ad : Addr} (c : Array Value) (hc : ∀ j v, c.toList[j]? = some v → w.cell? (ad.add j) = some v) {d : TypeDesc} (hu : Try.prog.underlying ty = some d) (hi : (Try.prog.info? ty).map (·.size) = some c.toList.length) (h : WL ops Q rest (a.put o.dst (.agg c)) w) (ho : o.op = .load ty x := by rfl) (hx : a.eval x = .pointer (some ad) := by kernel_rfl) (hd : d.isRow = true := by rfl) (hg : Region.wanted o (yielded ops a.tmps) = true := by kernel_rfl) : WL ops Q (o :: rest) a w :=
  g_run _ w (by
    have := run_lda (P := Try.prog) w ad ty c.toList d hc hu hd hi
    unfold execOp
    simp only [ho, hx, Instr.loadAt, Instr.sureAddr, Sem.run_bind, Sem.run_pure, Result.andThen_ok, this]) h hg
end
end B
end Go.Proofs.Ytkljpidlfddgbaa

/- The reference: appends byte by byte. No conditions but those that each law names. -/
import Derived.Test.YtanahjoiilfcbaaDoorCrc
import Derived.Test.YtanahjoiilfcbaaDoorRl
namespace Go.Proofs.YtanahjoiilfcbaaDoor.C
set_option maxRecDepth 100000
open Go.RowKit Rg

/-- Bytes appended to none. -/
theorem app_nil {u w : World} {L : List Row} {m : Nat} {f : Nat → Nat} {x : Value} {news : List Value} (hO : Own u w L) (hs : Src Tryd.prog 1 25 x news.length news w) (hn : news = (List.range m).map fun i => Value.int .u8 ((f (0 + i) : Nat) : Int)) (h0 : 0 < m) (hb : m ≤ 2 ^ 30) :
    ∃ g' d w', (∀ ty, (Builtin.append_ #[25, 25] ty #[.slice none 0 0, x]).run Tryd.prog w = .ok (.slice (some ⟨g', 0, none⟩) (0 + m) (0 + m + d)) w') ∧ Own u w' (L ++ [(g', vals .u8 (0 + m + d) (mx f (0 + m)), 5)]) := by
  have hl : news.length = m := by rw [hn]; simp
  have h : ((Tryd.prog.info? 5).map fun i => (decide (i.size = 1), decide (i.bytes = 1))) = some (true, true) := by kernel_rfl
  have hz : ((Tryd.prog.info? 5).bind (·.zero)) = some (.int .u8 0) := by kernel_rfl
  cases hi : Tryd.prog.info? 5 with
  | none => rw [hi] at h; cases h
  | some i =>
    rw [hi] at h hz
    simp at h
    have hold : (Builtin.firstCells i.size 0 (.slice none 0 0)).run Tryd.prog w.drew = .ok ((List.range 0).map fun i => Value.int .u8 ((f i : Nat) : Int)).toArray w.drew := run_firstCells_none w.drew i.size 0 0 0
    have hr := fun ty => run_append_grow_src (P := Tryd.prog) w 25 25 ty 5 i (.int .u8 0) Tryd.underlying25 hi hz none 0 0 _ hold x news.length news (by rw [h.1]; exact hs) (by omega) (by omega) (growslice_fits (by omega) (by rw [h.2]; omega))
    rw [hl] at hr
    have hge := grownCap_ge w (0 + m) 0 5
    refine ⟨_, grownCap w (0 + m) 0 5 - (0 + m), _, fun ty => by rw [Nat.add_sub_cancel' hge]; exact hr ty, ?_⟩
    rw [Nat.add_sub_cancel' hge]
    exact Own.snoc hO.drew (Nat.le_refl _) ((Blk.new w.drew _ 5).cast (grown_mx f _ 0 m news hn hge)) ((Below.refl _ w.drew).alloc (Nat.le_refl _) _) (fit_sl _ _)
theorem ld_addr {ρ : Operand → Value} {o : Oper} (ty : TypeId) (hu : ∀ w, (isAgg ty).run Tryd.prog w = .ok false w) {x : Operand} (ho : o.op = .load ty x) {ad : Addr} (hx : ρ x = .pointer (some ad)) {w : World} {v : Value} (hc : w.cell? ad = some v) : (execOp ρ o).run Tryd.prog w = .ok (.value v) w := by
  unfold execOp
  simp only [ho, hx]
  go_simp
section
variable {b : Bool} {ops : Array Oper} {sts : List Nat} {F : Nu → Act} {u : World} {L : Nat → Nu → List Row} {i : Nat} {o : Oper}
theorem nca (v : Value) {ty : TypeId} {x : Operand} {ad : Addr} (hc : ∀ w, Below u.heap.size u w → w.cell? ad = some v) (hu : ∀ w, (isAgg ty).run Tryd.prog w = .ok false w) (ho : o.op = .load ty x := by rfl) (hx : ∀ ν, (F ν).eval x = .pointer (some ad) := by intro ν; kernel_rfl)
    (hv : ∀ ν, vof (F ν) o = v := by intro ν; kernel_rfl) (hw : ∀ ν, Region.wanted o (yielded ops (F ν).tmps) = true := by intro ν; kernel_rfl) (hn : sts.contains i = false := by kernel_rfl) : Ob b Tryd.prog ops sts F (OI u L) i o :=
  nw 0 sts.length (fun _ => v) (fun _ ν w _ _ hO => ld_addr ty hu ho (hx ν) (hc w (Own.low hO))) (by simp [win]) hv hw hn
/-- An operation that tells nothing. -/
theorem nm (v : Nu → Value) (hrun : ∀ ν w, (execOp (F ν).eval o).run Tryd.prog w = .ok (.value (v ν)) w := by intro ν w; kernel_rfl) (hd : o.dst = none := by rfl) (hw : ∀ ν, Region.wanted o (yielded ops (F ν).tmps) = true := by intro ν; kernel_rfl) (hn : sts.contains i = false := by kernel_rfl) : Ob b Tryd.prog ops sts F (OI u L) i o :=
  .inl ⟨hn, fun ν => .inl ⟨hw ν, v ν, by rw [hd]; rfl, 0, sts.length, by simp [win], fun _ w _ _ _ => hrun ν w⟩⟩
/-- append to none, a row left out. -/
theorem san (t j n m : Nat) (f : Nat → Nat) {x y : Operand} (yv : Nu → Value) (hn0 : n = 0) (h0 : 0 < m) (hb : m ≤ 2 ^ 30) (hs : ∀ ν w, Own u w (L t ν) → ∃ news : List Value, Src Tryd.prog 1 25 (yv ν) news.length news w ∧ news = (List.range m).map fun i => Value.int .u8 ((f (n + i) : Nat) : Int)) (hj : ∀ ν, (L t ν)[j]? = some (rowAt (L t ν) j) := by intro ν; kernel_rfl) (ho : o.op = .call { callee := .builtin .append, args := #[x, y], argTypes := #[25, 25] } := by rfl) (hx : ∀ ν, (F ν).eval x = .slice none 0 0 := by intro ν; kernel_rfl) (hyv : ∀ ν, (F ν).eval y = yv ν := by intro ν; kernel_rfl) (hL : ∀ ν g' d, L (t + 1) (up (up ν i g') (100 + i) d) = (L t ν).set j (g', vals .u8 (n + m + d) (mx f (n + m)), 5) := by intro ν g' d; kernel_rfl) (hm : ∀ ν g' d, msk ops ((F ν).put o.dst (.slice (some ⟨g', 0, none⟩) (n + m) (n + m + d))).tmps (deps b ops i) = msk ops (F (up (up ν i g') (100 + i) d)).tmps (deps b ops i) := by intro ν g' d; kernel_rfl)
    (hp : plc b ops sts i t = true := by kernel_rfl) (hw : ∀ ν, Region.wanted o (yielded ops (F ν).tmps) = true := by intro ν; kernel_rfl) (hF : ∀ ν, (F ν).defers = [] := by intro ν; kernel_rfl) : Ob b Tryd.prog ops sts F (OI u L) i o := by
  subst hn0
  refine .inr ⟨t, (plc_spec hp).1, (plc_spec hp).2, fun ν => ⟨hw ν, fun w hO => ?_⟩⟩
  obtain ⟨news, hsrc, hne⟩ := hs ν w hO
  rw [← hyv ν] at hsrc
  obtain ⟨g', d, w', hr, hO'⟩ := app_nil hO hsrc hne h0 hb
  unfold Oper.wp
  have hx' := hx ν
  generalize hy : (F ν).eval y = yv at *
  simp [execOp, ho, resolve, invoke, builtin, hx', hy, hr, Result.andThen]
  have hm' := hm ν g' d
  rw [Nat.zero_add] at hm'
  refine ⟨by rw [put_defers]; exact hF ν, up (up ν i g') (100 + i) d, hm', ?_⟩
  show Own u w' (L (t + 1) (up (up ν i g') (100 + i) d))
  rw [hL]
  exact hO'.swap (hj ν)
theorem sap2 (t j n m : Nat) (g cap : Nu → Nat) (f : Nat → Nat) {x y : Operand} (yv : Nu → Value) (hnc : ∀ ν, n ≤ cap ν) (hb : n + m ≤ 2 ^ 30) (hs : ∀ ν w, Own u w (L t ν) → ∃ news : List Value, Src Tryd.prog 1 25 (yv ν) news.length news w ∧ news = (List.range m).map fun i => Value.int .u8 ((f (n + i) : Nat) : Int)) (hj : ∀ ν, (L t ν)[j]? = some (g ν, vals .u8 (cap ν) (mx f n), 5) := by intro ν; kernel_rfl) (ho : o.op = .call { callee := .builtin .append, args := #[x, y], argTypes := #[25, 25] } := by rfl) (hx : ∀ ν, (F ν).eval x = .slice (some ⟨g ν, 0, none⟩) n (cap ν) := by intro ν; kernel_rfl) (hyv : ∀ ν, (F ν).eval y = yv ν := by intro ν; kernel_rfl) (hL : ∀ ν g' d, L (t + 1) (up (up ν i g') (100 + i) d) = (L t ν).set j (g', vals .u8 (n + m + d) (mx f (n + m)), 5) := by intro ν g' d; kernel_rfl) (hm : ∀ ν g' d, msk ops ((F ν).put o.dst (.slice (some ⟨g', 0, none⟩) (n + m) (n + m + d))).tmps (deps b ops i) = msk ops (F (up (up ν i g') (100 + i) d)).tmps (deps b ops i) := by intro ν g' d; kernel_rfl)
    (hp : plc b ops sts i t = true := by kernel_rfl) (hw : ∀ ν, Region.wanted o (yielded ops (F ν).tmps) = true := by intro ν; kernel_rfl) (hF : ∀ ν, (F ν).defers = [] := by intro ν; kernel_rfl) : Ob b Tryd.prog ops sts F (OI u L) i o :=
  sap t j n m g cap f hnc hb (fun ν w hO => by rw [hyv ν]; exact hs ν w hO) hj ho hx hL hm hp hw hF
/-- A call that answers with a slice of its own, whose room is not told. -/
def RetM (f : FuncId) (args : Array Value) (w : World) (v : Nat → Nat → Value) (c : Nat → Array Value) : Prop := Calls Tryd.prog f args w fun e w' => ∃ q d, e = .returned (v q d) ∧ Below w.heap.size w w' ∧ w.heap.size ≤ q ∧ Blk w' q (c d) 5
theorem sf2 (t : Nat) (f : FuncId) (args : Nu → Array Value) (v : Nat → Nat → Value) (c : Nat → Array Value) (hc : ∀ ν w, Own u w (L t ν) → RetM f (args ν) w v c) (hf : ∀ d, Fit 5 (c d)) (hL : ∀ ν q d, L (t + 1) (up (up ν i q) (100 + i) d) = L t ν ++ [(q, c d, 5)] := by intro ν q d; kernel_rfl) (hm : ∀ ν q d, msk ops ((F ν).put o.dst (v q d)).tmps (deps b ops i) = msk ops (F (up (up ν i q) (100 + i) d)).tmps (deps b ops i) := by intro ν q d; kernel_rfl) (hrun : ∀ ν w, (execOp (F ν).eval o).run Tryd.prog w = .ok (.enter f (args ν)) w := by intro ν w; kernel_rfl)
    (hp : plc b ops sts i t = true := by kernel_rfl) (hw : ∀ ν, Region.wanted o (yielded ops (F ν).tmps) = true := by intro ν; kernel_rfl) (hF : ∀ ν, (F ν).defers = [] := by intro ν; kernel_rfl) : Ob b Tryd.prog ops sts F (OI u L) i o := by
  refine .inr ⟨t, (plc_spec hp).1, (plc_spec hp).2, fun ν => ⟨hw ν, fun w hO => ?_⟩⟩
  unfold Oper.wp
  rw [hrun ν w, Oper.upon_enter]
  refine (hc ν w hO).mono fun e w' hh => ?_
  obtain ⟨q, d, rfl, hb, hq, hB⟩ := hh
  refine ⟨up (up ν i q) (100 + i) d, by rw [put_defers]; exact hF ν, hm ν q d, ?_⟩
  show Own u w' (L (t + 1) (up (up ν i q) (100 + i) d))
  rw [hL]
  exact Own.snoc hO hq hB hb (hf d)
end
section
variable {ρ : Operand → Value} {o : Oper} {x y : Operand}
theorem b_iaA {a : Addr} {k n c : Nat} (hk : k < n) (w : World) (ho : o.op = .indexAddr 25 x y := by rfl) (hx : ρ x = .slice (some a) n c := by kernel_rfl) (hy : ρ y = Nv .i64 k := by kernel_rfl) : (execOp ρ o).run Tryd.prog w = .ok (.value (.pointer (some (a.add k)))) w := by
  have h1 : (0 : Int) ≤ (k : Int) := by omega
  have h2 : (k : Int) < (n : Int) := by omega
  unfold execOp
  simp only [ho, hx, hy]
  go_simp
theorem b_bs1 {a : Act} {p : Operand} (v : Nat) (ho : o.op = .buildSlice 25 1 #[(0, p)]) (hp : a.eval p = Nv .u8 v) (w : World) : (execOp a.eval o).run Tryd.prog w = .ok (.value (.slice (some ⟨w.heap.size, 0, none⟩) 1 1)) (w.alloc (.cells (vals .u8 1 (fun _ => v)) 5)) := by
  have e : (Instr.buildSlice 25 1 #[(0, Nv .u8 v)]).run Tryd.prog w = .ok (.slice (some ⟨w.heap.size, 0, none⟩) 1 1) (w.alloc (.cells (vals .u8 1 (fun _ => v)) 5)) := by kernel_rfl
  have hm : (#[(0, p)].map fun (q : Nat × Operand) => (q.1, a.eval q.2)) = #[((0 : Nat), Nv .u8 v)] := by simp [hp]
  unfold execOp
  simp only [ho]
  rw [hm, Sem.run_bind, e]
  rfl
theorem src_one {w : World} {u : World} {L : List Row} {q j v : Nat} {f : Nat → Nat} {k : Nat} (hO : Own u w L) (hj : L[j]? = some (q, vals .u8 1 (fun _ => v), 5)) (hf : f k = v) : ∃ news : List Value, Src Tryd.prog 1 25 (.slice (some ⟨q, 0, none⟩) 1 1) news.length news w ∧ news = (List.range 1).map fun i => Value.int .u8 ((f (k + i) : Nat) : Int) := by
  refine ⟨bv8 (li 1 fun _ => v), src_rds 1 (rds_row (hO.row j hj)), ?_⟩
  subst hf
  rfl
end
end Go.Proofs.YtanahjoiilfcbaaDoor.C

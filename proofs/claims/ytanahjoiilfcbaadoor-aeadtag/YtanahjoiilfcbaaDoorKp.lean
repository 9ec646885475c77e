/- copy into a row of sixteen bytes; slices of such rows. No conditions but those that each names. -/
import Derived.Test.YtanahjoiilfcbaaDoorKd
import Derived.Laws.CopyRow
import Derived.ScopeJumps
import Derived.WalkMore
namespace Go.Proofs.YtanahjoiilfcbaaDoor
set_option maxRecDepth 100000
open Go.RowKit Rg

theorem scope_jumps {P : Program} {a : Act} {w : World} {Q : Exit → Act → World → Prop} {c rest : Code} (l : Nat) (J : Act → World → Prop) (μ : Act → World → Nat) (hf : findLabel c l = some (Code.skip.seq rest))
    (pass : ∀ a w, J a w → rest.wp P (Exit.jump l (fun a' w' => J a' w' ∧ μ a' w' < μ a w) Q) a w)
    (first : (∀ a w, J a w → rest.wp P (Exit.jump l J Q) a w) → c.wp P (Exit.jump l J Q) a w) : (Code.scope c).wp P Q a w :=
  wp_scope_jumps l J μ hf (first fun a w h => wp_mono (pass a w h) fun e a' w' hq => by
    cases e <;> first | exact hq | exact ⟨hq.1, hq.2.1⟩) fun a w h => wp_seq (wp_skip (pass a w h))
/-- Bytes laid over others, from place d on. -/
def laid (h f : Nat → Nat) (d q j : Nat) : Nat := if d ≤ j ∧ j < d + q then f (j - d) else h j
theorem laid_zero (h f : Nat → Nat) (d : Nat) : laid h f d 0 = h := funext fun j => by unfold laid; rw [if_neg (by omega)]
theorem laid_lt {h f : Nat → Nat} (hh : ∀ i, h i < 256) (hf : ∀ i, f i < 256) (d q i : Nat) : laid h f d q i < 256 := by
  unfold laid
  split
  · exact hf _
  · exact hh _
theorem splice_get (L cs : List Value) (o i : Nat) (h : o + cs.length ≤ L.length) : (L.take o ++ cs ++ L.drop (o + cs.length))[i]? = if o ≤ i ∧ i < o + cs.length then cs[i - o]? else L[i]? := by
  have hm : min o L.length = o := by omega
  by_cases h1 : i < o
  · rw [if_neg (by omega), List.append_assoc, List.getElem?_append_left (by rw [List.length_take, hm]; exact h1), List.getElem?_take, if_pos h1]
  · by_cases h2 : i < o + cs.length
    · rw [if_pos (by omega), List.getElem?_append_left (by rw [List.length_append, List.length_take, hm]; omega), List.getElem?_append_right (by rw [List.length_take, hm]; omega), List.length_take, hm]
    · rw [if_neg (by omega), List.getElem?_append_right (by rw [List.length_append, List.length_take, hm]; omega), List.length_append, List.length_take, hm, List.getElem?_drop]
      congr 1; omega
theorem copy_some (w : World) (N d m c q : Nat) (h f : Nat → Nat) (a : Addr) (t : TypeId) (B : Blk w N (vals .u8 16 h) t) (hd : d ≤ 16) (hq : q = min m (16 - d)) (hr : ∀ i, i < m → w.cell? (a.add i) = some (.int .u8 ((f i : Nat) : Int))) (ty : TypeId) :
    (Builtin.copy_ #[25, 25] ty #[.slice (some ⟨N, d, none⟩) (16 - d) (16 - d), .slice (some a) m c]).run Tryd.prog w = .ok (Nv .i64 q) (w.setRow N (vals .u8 16 (laid h f d q))) := by
  have hlen : ((List.range q).map fun i => Value.int .u8 ((f i : Nat) : Int)).length = q := by simp
  have h1 := run_copy_row (P := Tryd.prog) w 25 25 ty 5 N d (16 - d) (16 - d) a m c (vals .u8 16 h) t ((List.range q).map fun i => Value.int .u8 ((f i : Nat) : Int)) Tryd.underlying25 (by kernel_rfl) B (by rw [hlen, hq]) (fun j v hv => by
    rw [List.getElem?_map] at hv
    by_cases hj : j < q
    · rw [List.getElem?_range hj] at hv
      obtain rfl := Option.some.inj hv
      exact hr j (by omega)
    · rw [List.getElem?_eq_none (by simp; omega)] at hv; cases hv) (by rw [hlen, vals_size]; omega) (fun v hv => by
    obtain ⟨i, _, rfl⟩ := List.mem_map.1 hv; rfl)
  rw [h1, hlen]
  have e : ((vals .u8 16 h).toList.take d ++ (List.range q).map (fun i => Value.int .u8 ((f i : Nat) : Int)) ++ (vals .u8 16 h).toList.drop (d + q)).toArray = vals .u8 16 (laid h f d q) := by
    apply Array.ext_getElem?
    intro i
    have e1 : (vals .u8 16 h).toList.length = 16 := by rw [Array.length_toList, vals_size]
    have hs := splice_get (vals .u8 16 h).toList ((List.range q).map fun i => Value.int .u8 ((f i : Nat) : Int)) d i (by rw [hlen, e1]; omega)
    rw [hlen] at hs
    rw [List.getElem?_toArray, hs]
    by_cases h2 : d ≤ i ∧ i < d + q
    · rw [if_pos h2, vals_get _ _ _ _ (by omega), laid, if_pos h2, List.getElem?_map, List.getElem?_range (by omega)]; rfl
    · rw [if_neg h2, Array.getElem?_toList]
      by_cases h3 : i < 16
      · rw [vals_get _ _ _ _ h3, vals_get _ _ _ _ h3, laid, if_neg h2]
      · rw [Array.getElem?_eq_none (by rw [vals_size]; omega), Array.getElem?_eq_none (by rw [vals_size]; omega)]
  rw [e]
  rfl
theorem copy_none (w : World) (N d n c : Nat) (ty : TypeId) : (Builtin.copy_ #[25, 25] ty #[.slice (some ⟨N, d, none⟩) n n, .slice none 0 c]).run Tryd.prog w = .ok (Nv .i64 0) w := by
  have hu : Tryd.prog.underlying 25 = some (.slice 5) := Tryd.underlying25
  have hm : Nat.min 0 n = 0 := by simp
  simp [Builtin.copy_, run_underlying hu, Builtin.lenOf, Builtin.firstCells, sizeOf, typeInfo, hm]
  have h5 : (Tryd.prog.info? 5).isSome = true := by kernel_rfl
  cases hi : Tryd.prog.info? 5 with
  | none => rw [hi] at h5; cases h5
  | some i => rfl
theorem copy_own {u w : World} {L : List Row} {j N d m c q : Nat} {h f : Nat → Nat} {A : Option Addr} (hO : Own u w L) (hj : L[j]? = some (N, vals .u8 16 h, 35)) (hd : d ≤ 16) (hq : q = min m (16 - d)) (hr : Rd w A m f) (ty : TypeId) :
    ∃ w', (Builtin.copy_ #[25, 25] ty #[.slice (some ⟨N, d, none⟩) (16 - d) (16 - d), .slice A m c]).run Tryd.prog w = .ok (Nv .i64 q) w' ∧ Own u w' (L.set j (N, vals .u8 16 (laid h f d q), 35)) := by
  have hB := hO.row j hj
  cases A with
  | some a =>
    refine ⟨_, copy_some w N d m c q h f a 35 hB hd hq (fun i hi => ?_) ty, hO.put j hj (hB.row _) (st1_row w _ _) (fit_b16 _)⟩
    rcases hr with rfl | ⟨a', ha, _, hc⟩
    · omega
    · obtain rfl := Option.some.inj ha
      exact hc i hi
  | none =>
    rcases hr with rfl | ⟨a', ha, _⟩
    · obtain rfl : q = 0 := by omega
      rw [laid_zero]
      refine ⟨w, copy_none w N d _ c ty, ?_⟩
      have e : L.set j (N, vals .u8 16 h, 35) = L := by
        apply List.ext_getElem?
        intro i
        rw [List.getElem?_set]
        by_cases hij : j = i
        · subst hij; rw [if_pos rfl, hj, if_pos (List.getElem?_eq_some_iff.1 hj).1]
        · rw [if_neg hij]
      rw [e]; exact hO
    · cases ha
section
variable {b : Bool} {ops : Array Oper} {sts : List Nat} {F : Nu → Act} {u : World} {L : Nat → Nu → List Row} {i : Nat} {o : Oper}
/-- copy into a row of sixteen bytes. -/
theorem scp (t j N d m c q : Nat) (h f : Nat → Nat) (A : Option Addr) (hd : d ≤ 16) (hq : q = min m (16 - d)) (hr : ∀ ν w, Own u w (L t ν) → Rd w A m f) {x y : Operand} (hj : ∀ ν, (L t ν)[j]? = some (N, vals .u8 16 h, 35) := by intro ν; kernel_rfl) (ho : o.op = .call { callee := .builtin .copy, args := #[x, y], argTypes := #[25, 25] } := by rfl) (hx : ∀ ν, (F ν).eval x = .slice (some ⟨N, d, none⟩) (16 - d) (16 - d) := by intro ν; kernel_rfl) (hy : ∀ ν, (F ν).eval y = .slice A m c := by intro ν; kernel_rfl) (hv : ∀ ν, vof (F ν) o = Nv .i64 q := by intro ν; kernel_rfl) (hL : ∀ ν, L (t + 1) ν = (L t ν).set j (N, vals .u8 16 (laid h f d q), 35) := by intro ν; kernel_rfl)
    (hp : plc b ops sts i t = true := by kernel_rfl) (hw : ∀ ν, Region.wanted o (yielded ops (F ν).tmps) = true := by intro ν; kernel_rfl) (hF : ∀ ν, (F ν).defers = [] := by intro ν; kernel_rfl) : Ob b Tryd.prog ops sts F (OI u L) i o := by
  refine SS_of t (fun ν _ _ => ν) (plc_spec hp).1 (plc_spec hp).2 hw (fun ν w K hO hK => ?_) hF
  obtain ⟨w', hr', hO'⟩ := copy_own (c := c) hO (hj ν) hd hq (hr ν w hO) o.type
  have hx' := hx ν
  have hy' := hy ν
  have hk := hK (Nv .i64 q) w' (by rw [← hv ν, put_vof]) (by show Own u w' (L (t + 1) ν); rw [hL]; exact hO')
  unfold Oper.wp
  simp [execOp, ho, resolve, invoke, builtin, hx', hy', hr', Result.andThen]
  exact hk
end
section
variable {ρ : Operand → Value} {o : Oper} {x y : Operand}
theorem b_sl16 {n k : Nat} (hk : k < 16) (w : World) (ho : o.op = .slice 35 x (some y) none none := by rfl) (hx : ρ x = D n := by kernel_rfl) (hy : ρ y = Nv .i64 k := by kernel_rfl) : (execOp ρ o).run Tryd.prog w = .ok (.value (.slice (some ⟨n, k, none⟩) (16 - k) (16 - k))) w := by
  have h1 : (0 : Int) ≤ (k : Int) := by omega
  have h2 : (k : Int) ≤ 16 := by omega
  have h3 : ¬ 16 = k := by omega
  unfold execOp
  simp only [ho, hx]
  go_simp
theorem b_sh16 {n k : Nat} (hk : k < 16) (w : World) (ho : o.op = .slice 35 x none (some y) none := by rfl) (hx : ρ x = D n := by kernel_rfl) (hy : ρ y = Nv .i64 k := by kernel_rfl) : (execOp ρ o).run Tryd.prog w = .ok (.value (.slice (some ⟨n, 0, none⟩) k 16)) w := by
  have h1 : (0 : Int) ≤ (k : Int) := by omega
  have h2 : (k : Int) ≤ 16 := by omega
  unfold execOp
  simp only [ho, hx]
  go_simp
end
end Go.Proofs.YtanahjoiilfcbaaDoor

/- Lengths of huff. At most 1000 counts of 32 bits; most 1 to 15. -/
import Derived.Test.YtkljpidlfddgbaaSx
import Derived.Shelf.Abstract
import Derived.LoopIn
import Derived.Deep.CutBlock
namespace Go.Proofs.Ytkljpidlfddgbaa
set_option maxRecDepth 100000
open Go.RowKit Rg B

namespace B
theorem b_hiT {ρ : Operand → Value} {o : Oper} {x y : Operand} {S : Option Addr} {len cap c : Nat} (hc : c ≤ len) (hl : len ≤ cap) (w : World) (ho : o.op = .slice 76 x none (some y) none := by rfl) (hx : ρ x = .slice S len cap := by kernel_rfl) (hy : ρ y = Nv .i64 c := by kernel_rfl) : (execOp ρ o).run Try.prog w = .ok (.value (.slice S c cap)) w := by
  have e : (Instr.slice 76 (.slice S len cap) none (some (Nv .i64 c)) none).run Try.prog w = .ok (.slice S c cap) w := by
    rw [run_slice_h w 76 S len cap (by kernel_rfl) .i64 (c : Int) (by omega) (by omega), show (sizeOf (Try.prog.elem 76)).run Try.prog w = .ok 2 w by rfl]
    cases S <;> simp [Result.andThen, sliced, Addr.add]
  have e' : (Instr.sliceAt 76 (.slice S len cap) none (some (Nv .i64 c)) none).run Try.prog w = .ok (.slice S c cap) w := by
    unfold Instr.sliceAt
    go_simp
  unfold execOp
  rw [ho]
  dsimp only [Option.map]
  rw [hx, hy, Sem.run_bind, e']
  rfl

theorem shl_ii {ρ : Operand → Value} {o : Oper} {x y : Operand} {a s d : Nat} (h : a * 2 ^ s = d) (hd : d < 9223372036854775808) (hs : s < 64) (w : World) (ho : o.op = .binOp .shl 3 x y 3 := by rfl) (hx : ρ x = Nv .i64 a := by kernel_rfl) (hy : ρ y = Nv .i64 s := by kernel_rfl) : (execOp ρ o).run Try.prog w = .ok (.value (Nv .i64 d)) w := by
  have h0 : (0 : Int) ≤ (s : Int) := by omega
  have h3 : (s : Int) < 64 := by omega
  have h4 : min s 64 = s := by omega
  have h1 : IntKind.i64.wrap ((a : Int) * 2 ^ s) = (d : Int) := by rw [show (a : Int) * 2 ^ s = ((a * 2 ^ s : Nat) : Int) by simp, h]; exact w_i64 _ hd
  clear h
  unfold execOp
  simp only [ho, hx, hy]
  go_simp
theorem b_sub2 {ρ : Operand → Value} {o : Oper} {x y : Operand} {a : Nat} (ha : a < 2 ^ 40) (w : World) (ho : o.op = .binOp .sub 3 x y 3 := by rfl) (hx : ρ x = Nv .i64 a := by kernel_rfl) (hy : ρ y = Nv .i64 2 := by kernel_rfl) : (execOp ρ o).run Try.prog w = .ok (.value (.int .i64 (((a : Nat) : Int) - 2))) w := by
  have h1 : IntKind.i64.wrap (((a : Nat) : Int) - 2) = ((a : Nat) : Int) - 2 := by simp [IntKind.wrap, IntKind.bits, IntKind.signed]; omega
  unfold execOp
  simp only [ho, hx, hy]
  go_simp
theorem b_max0 {ρ : Operand → Value} {o : Oper} {x y : Operand} {ts : Array TypeId} {a : Nat} (w : World) (ho : o.op = .call { callee := .builtin .max, args := #[x, y], argTypes := ts } := by rfl) (hx : ρ x = Nv .i64 0 := by kernel_rfl) (hy : ρ y = .int .i64 (((a : Nat) : Int) - 2) := by kernel_rfl) : (execOp ρ o).run Try.prog w = .ok (.value (Nv .i64 (a - 2))) w := by
  unfold execOp
  simp only [ho]
  by_cases h : 2 < a
  · have e : (((a - 2 : Nat) : Nat) : Int) = ((a : Nat) : Int) - 2 := by omega
    have h1 : (0 : Int) < ((a : Nat) : Int) - 2 := by omega
    have h2 : (2 : Int) < (a : Int) := by omega
    go_simp
  · have e : a - 2 = 0 := by omega
    have h1 : ¬ (2 : Int) < (a : Int) := by omega
    go_simp
section
open Rg
variable {u : World} {b : Bool} {ops : Array Oper} {sts : List Nat} {F : Nu → Act} {L : Nat → Nu → List Row} {i : Nat} {o : Oper}
/-- A cell of one of the first rows is loaded, ahead of all steps. -/
theorem nmem (v : Value) {ty : TypeId} {x : Operand} {bk k : Nat} {c : Array Value} {t : TypeId} (hm : ∀ ν, (bk, c, t) ∈ L 0 ν) (hg : c[k]? = some v) (hu : ∀ w, (isAgg ty).run Try.prog w = .ok false w) (ho : o.op = .load ty x := by rfl) (hx : ∀ ν, (F ν).eval x = E bk k := by intro ν; kernel_rfl)
    (hwin : win b ops sts i 0 0 = true := by kernel_rfl) (hv : ∀ ν, vof (F ν) o = v := by intro ν; kernel_rfl) (hw : ∀ ν, Region.wanted o (yielded ops (F ν).tmps) = true := by intro ν; kernel_rfl) (hn : sts.contains i = false := by kernel_rfl) : Ob b Try.prog ops sts F (OI u L) i o :=
  nw 0 0 (fun _ => v) (fun s ν w _ h2 hO => by
    obtain rfl : s = 0 := Nat.le_zero.1 h2
    exact ld_cell ty hu ho (hx ν) (((Own.blk hO _ (hm ν)).cell k).trans hg)) hwin hv hw hn
end
end B
namespace Z
/-- What is asked where a function that ranges over a function ends. -/
def PostM (fn : Func) (R : Ending → World → Prop) : Exit → Act → World → Prop := fun e a w => bodyPost Try.prog fn R e a w ∨ (e = .ret ∧ ∃ d v, a.defers = [{ target := .collected d, args := #[] }] ∧ w.heap[d]? = some (.deferred (some [])) ∧ (results fn a.tmps).run Try.prog (w.putObj d (.deferred none)) = .ok v (w.putObj d (.deferred none)) ∧ R (.returned v) (w.putObj d (.deferred none)))
theorem calls_marks {f : FuncId} {fn : Func} {c : Code} {args : Array Value} {w : World} {R : Ending → World → Prop} (hf : Try.prog.funcs[f]? = some fn) (hb : fn.body = some c) (h : c.wp Try.prog (PostM fn R) { tmps := args ++ Array.replicate (fn.ntmps - args.size) undef, defers := [] } w) : Calls Try.prog f args w R := by
  refine (callsIn_wide (n := 3)).1 (callsIn_of_wp_marks hf hb trivial (wpIn_wide.2 (wp_mono h fun e a w h => ?_)))
  rcases h with h | ⟨rfl, d, v, hd, hh, hr, hR⟩
  · cases e with
    | normal => obtain ⟨h1, h2⟩ := h; show LeavesInM _ _ _ _ _ _ a.defers _ _; rw [h1]; exact h2
    | ret => obtain ⟨h1, h2⟩ := h; show LeavesInM _ _ _ _ _ _ a.defers _ _; rw [h1]; exact h2
    | panic ch => obtain ⟨h1, h2⟩ := h; show LeavesInM _ _ _ _ _ _ a.defers _ _; rw [h1]; exact h2
    | outgrown => exact h
    | exit id => exact h.elim
    | goto t => exact h.elim
  · show LeavesInM _ _ _ _ _ _ a.defers _ _
    rw [hd]
    exact ⟨by simp, .inl ⟨d, _, rfl, run_takeDeferred hh, v, hr, hR⟩⟩
end Z
namespace Q
open H Z
theorem Use_c {S : Option Addr} {n c m : Nat} {k : Nat → Nat} (hn : n ≤ 1000) (hm : many k n = m) (w : World) (hS : Rc w S n (H.nw k)) :
    RetP 32 #[.slice S n c] w fun v w' => ∃ R rc M, v = .slice R m rc ∧ Own w w' M ∧ (0 < m → ∃ q dd, R = some ⟨q, 0, none⟩ ∧ (q, cI (m + dd) m (og k n), 3) ∈ M) := by
  refine (InUse_c hn w hS).mono fun e w' h => ?_
  obtain ⟨v, rfl, b, hG⟩ := h
  have hlen := rsg_len k n
  refine ⟨v, rfl, ?_⟩
  rcases hG with ⟨h1, hv, hO⟩ | ⟨q, dd, hv, hO⟩
  · rw [hlen, hm] at h1
    exact ⟨none, 0, _, by rw [hv, h1], hO, fun h => by omega⟩
  · rw [hlen, hm] at hv
    refine ⟨_, _, _, hv, hO, fun _ => ⟨q, dd, rfl, ?_⟩⟩
    rw [Nat.mul_one, Nat.mul_one, hlen, hm]
    exact List.mem_append_right _ (List.mem_singleton.2 rfl)
/-- What Lengths tells. -/
def LensP (cn : Nat → Nat) (n L : Nat) (w : World) (x : Value) (w' : World) : Prop := (many cn n ≤ 2 ^ L ∧ ∃ q, x = .tuple #[.slice (some ⟨q, 0, none⟩) n n, Nv .i64 0] ∧ Own w w' [(q, ints n (fun i => ((tl cn n L i : Nat) : Int)), 3)]) ∨ (2 ^ L < many cn n ∧ x = .tuple #[.slice none 0 0, Nv .i64 1] ∧ Below w.heap.size w w')
theorem ints_congr {n : Nat} {f g : Nat → Int} (h : ∀ i, i < n → f i = g i) : ints n f = ints n g := by
  apply Array.ext_getElem?
  intro i
  by_cases hi : i < n
  · rw [ints_get _ hi, ints_get _ hi, h i hi]
  · rw [Array.getElem?_eq_none (by rw [ints_size]; omega), Array.getElem?_eq_none (by rw [ints_size]; omega)]
theorem tl_one {cn : Nat → Nat} {n L : Nat} (h : (rsg cn n).length = 1) : ints n (fun i => if i = og cn n 0 then ((1 : Nat) : Int) else ((0 : Nat) : Int)) = ints n (fun i => ((tl cn n L i : Nat) : Int)) := ints_congr fun i _ => by
  unfold tl
  rw [if_pos h]
  obtain ⟨x, hx⟩ := List.length_eq_one_iff.1 h
  have e : og cn n 0 = x := by unfold og; rw [hx]; rfl
  rw [e, hx]
  by_cases hi : i = x
  · rw [if_pos hi, if_pos (List.mem_singleton.2 hi)]
  · rw [if_neg hi, if_neg fun h => hi (List.mem_singleton.1 h)]
theorem it_at {w : World} {q N nc i : Nat} {C : List Pl} (hB : Blk w q (cl (zc 2 zvI) (N * 2) (nc * 2) (ic C)) 79) (hN : nc ≤ N) (hn : C.length = nc) (h : i < C.length) : ∀ j v, (#[Value.int .u64 ((C[i].1 : Nat) : Int), .bool C[i].2.1] : Array Value).toList[j]? = some v → w.cell? ((⟨q, i * 2, none⟩ : Addr).add j) = some v := fun j v hj => by
  rw [Addr.add_mid, hB.cell]
  match j, hj with
  | 0, hj => rw [← Option.some.inj hj, cl_at _ _ _ _ _ (by omega) (by omega), Nat.add_zero, ic_0 h]
  | 1, hj => rw [← Option.some.inj hj, cl_at _ _ _ _ _ (by omega) (by omega), ic_1 h]
  | j + 2, hj => cases hj
theorem ch_mono {c : Nat → Nat} {p : List Nat} {k : Nat} {v : Nat → Value} {M M' : List Row} (h : ChAt c p k v M) (hM : ∀ r ∈ M, r ∈ M') : ChAt c p k v M' := fun j hj => by
  obtain ⟨q, cc, h1, h2, h3⟩ := h j hj
  exact ⟨q, cc, h1, h2, hM _ h3⟩
theorem oc_set {n : Nat} {l : Nat → Nat} {p : List Nat} {f x : Nat} (h : f < p.length) (hx : p[f] = x) : (ints n (fun i => ((l i + oc p f i : Nat) : Int))).setIfInBounds x (.int .i64 ((l x + oc p f x + 1 : Nat) : Int)) = ints n (fun i => ((l i + oc p (f + 1) i : Nat) : Int)) := by
  rw [ints_set]
  refine ints_congr fun i _ => ?_
  rw [oc_next h, hx]
  by_cases hi : i = x
  · subst hi
    rw [if_pos rfl, if_pos rfl]
    rfl
  · rw [if_neg hi, if_neg hi]
    rfl
theorem fit_n (x : Nat) : Fit 3 #[Nv .i64 x] := ⟨(fun h => by cases h), by simp; rfl⟩
theorem fl_0 (C : List Pl) : fl (C.take 0) = 0 := rfl
theorem oc_0 (p : List Nat) (i : Nat) : oc p 0 i = 0 := rfl
set_option maxHeartbeats 16000000 in
theorem PLens_c {S : Option Addr} {n c L : Nat} {cn : Nat → Nat} (hcn : ∀ i, cn i < 4294967296) (hn : n ≤ 1000) (hL1 : 1 ≤ L) (hL : L ≤ 15) (w : World) (hS : Rc w S n (H.nw cn)) : RetP 14 #[.slice S n c, Nv .i64 L] w (LensP cn n L w) := by
  obtain ⟨m, hm⟩ : ∃ m, many cn n = m := ⟨_, rfl⟩
  have hlen : (rsg cn n).length = m := by rw [rsg_len, hm]
  have hmn : m ≤ n := by rw [← hm]; exact many_le
  obtain ⟨P2, hP2⟩ : ∃ P2, 2 ^ L = P2 := ⟨_, rfl⟩
  have hP15 : P2 ≤ 32768 := by rw [← hP2]; exact Nat.pow_le_pow_right (by decide) hL
  have Hm := hide hm
  have HP := hide hP2
  clear hP2
  refine Z.calls_marks Try.func14 rfl ?_
  simp only [Try.ntmps14, List.size_toArray, List.length_cons, List.length_nil, Nat.reduceAdd, Nat.reduceSub, Array.replicate_succ, Array.replicate_zero, List.push_toArray, List.append_toArray, List.nil_append, List.cons_append]
  have hO := Own.start w
  go_upto_region 0 with (fail)
  refine wp_region_list (WL.out ?_)
  refine g_val (.slice none 0 0) ?_
  refine g_val (Nv .i64 0) ?_
  refine g_nil ?_
  simp only [Act.put, List.setIfInBounds_toArray, List.set_cons_succ, List.set_cons_zero]
  go_upto_region 1 with (fail)
  refine wp_region_list (WL.out ?_)
  refine g_val (Nv .i64 L) ?_
  refine g_val (.bool false) ?_ (B.lss_int (a := L) (c := 1) (b := false) (decide_eq_false (by omega)) w)
  refine g_val (.bool false) ?_
  refine g_val (Nv .i64 L) ?_
  refine g_val (.bool false) ?_ (B.gtr_int (a := L) (c := 15) (b := false) (decide_eq_false (by omega)) w)
  refine g_val (.bool false) ?_
  refine g_val (.bool false) ?_
  refine g_val (.slice S n c) ?_
  refine g_val (Nv .i64 n) ?_
  refine g_val (.bool false) ?_ (B.gtr_int (a := n) (c := 1000) (b := false) (decide_eq_false (by omega)) w)
  refine g_val (.bool false) ?_
  refine g_nil ?_
  simp only [Act.put, List.setIfInBounds_toArray, List.set_cons_succ, List.set_cons_zero]
  go_upto_region 3 with (fail)
  refine wp_region_list (WL.out ?_)
  refine g_val (.slice S n c) ?_
  refine g_any 32 #[.slice S n c] (Use_c hn Hm.out w hS) ?_
  rintro _ w1 ⟨R, rc, M1, rfl, hO2, hRm⟩
  clear hO
  have hO := hO2
  clear hO2
  refine g_new hO (fun q => D q) (#[.slice none 0 0]) 25 (fit_bi _ _ _) ((by kernel_rfl)) ?_
  intro n6 w1 _ hO
  replace hO : Own w w1 ((n6, #[.slice none 0 0], 25) :: M1) := hO.perm (List.perm_append_comm (l₂ := [_]))
  refine g_sc hO 0 0 (.slice R m rc) (.slice none 0 0) rfl (rfl) (fun hc hf => st_slice 25 sz_si rfl (by kernel_rfl) (by kernel_rfl) hc hf) (rfl) (fit_bi _ _ _) ?_
  intro w2 hO
  replace hO : Own w w2 ((n6, #[Value.slice R m rc], 25) :: M1) := hO
  refine g_nil ?_
  simp only [Act.put, List.setIfInBounds_toArray, List.set_cons_succ, List.set_cons_zero]
  by_cases hmany : m ≤ P2
  · have Hmany := hide hmany
    go_upto_region 4 with (fail)
    refine Rg.pd [] (fun _ => [(27, .slice R m rc), (28, Nv .i64 m), (29, Nv .i64 L), (30, Nv .i64 P2), (31, .bool false)]) (OI w (fun _ _ => ((n6, #[Value.slice R m rc], 25) :: M1))) (fun _ => 0) hO.drew (Rg.ac (nmem (bk := n6) (k := 0) (.slice R m rc) (fun _ => List.mem_cons_self) rfl agg_si) (Rg.ac nv (Rg.ac nv (Rg.ac (nx (fun _ => Nv .i64 P2) (fun _ w => shl_ii (a := 1) (s := L) (by rw [Nat.one_mul]; exact HP.out) (by omega) (by omega) w)) (Rg.ac (nx (fun _ => .bool false) (fun _ w => B.gtr_int (a := m) (c := P2) (b := false) (decide_eq_false (by omega)) w)) Rg.an))))) ?_
    intro ν w3 hO
    replace hO : Own w w3 ((n6, #[Value.slice R m rc], 25) :: M1) := hO
    simp only [Rg.putL, Act.put, List.setIfInBounds_toArray, List.set_cons_succ, List.set_cons_zero]
    clear ν
    go_upto_region 6 with (fail)
    refine wp_region_list (WL.out ?_)
    refine g_val (.slice S n c) ?_
    refine g_val (Nv .i64 n) ?_
    refine g_new hO (fun q => .slice (some (⟨q, 0, none⟩ : Addr)) n n) (ints n (fun _ => ((0 : Nat) : Int))) 3 (fit_ints _ _) ((b_mkI (by omega) w3)) ?_
    intro n34 w4 _ hO
    replace hO : Own w w4 ((n34, ints n (fun _ => ((0 : Nat) : Int)), 3) :: (n6, #[Value.slice R m rc], 25) :: M1) := hO.perm (List.perm_append_comm (l₂ := [_]))
    refine g_new hO (fun q => D q) (#[.slice none 0 0]) 25 (fit_bi _ _ _) ((by kernel_rfl)) ?_
    intro n7 w5 _ hO
    replace hO : Own w w5 ((n7, #[.slice none 0 0], 25) :: (n34, ints n (fun _ => ((0 : Nat) : Int)), 3) :: (n6, #[Value.slice R m rc], 25) :: M1) := hO.perm (List.perm_append_comm (l₂ := [_]))
    refine g_sc hO 0 0 (.slice (some (⟨n34, 0, none⟩ : Addr)) n n) (.slice none 0 0) rfl (rfl) (fun hc hf => st_slice 25 sz_si rfl (by kernel_rfl) (by kernel_rfl) hc hf) (rfl) (fit_bi _ _ _) ?_
    intro w6 hO
    replace hO : Own w w6 ((n7, #[Value.slice (some (⟨n34, 0, none⟩ : Addr)) n n], 25) :: (n34, ints n (fun _ => ((0 : Nat) : Int)), 3) :: (n6, #[Value.slice R m rc], 25) :: M1) := hO
    refine g_nil ?_
    simp only [Act.put, List.setIfInBounds_toArray, List.set_cons_succ, List.set_cons_zero]
    go_upto_region 7 with (fail)
    refine wp_region_list (WL.out ?_)
    refine g_lc hO 2 0 (.slice R m rc) rfl (rfl) agg_si ?_
    refine g_val (Nv .i64 m) ?_
    refine g_val (.bool (decide (m = 1))) ?_ (eql_int rfl w6)
    refine g_nil ?_
    simp only [Act.put, List.setIfInBounds_toArray, List.set_cons_succ, List.set_cons_zero]
    by_cases h1 : m = 1
    · have h1d : decide (m = 1) = true := decide_eq_true h1
      rw [h1d]
      obtain ⟨qr, dr, rfl, hqr⟩ := hRm (by omega)
      obtain ⟨x, hx⟩ : ∃ x, og cn n 0 = x := ⟨_, rfl⟩
      have hxn : x < n := by rw [← hx]; exact (og_mem (by rw [Hm.out]; omega)).1
      have Hx := hide hx
      clear hx
      go_upto_region 8 with (fail)
      refine Rg.pd [5] (fun _ => [(38, .slice (some (⟨n34, 0, none⟩ : Addr)) n n), (39, .slice (some (⟨qr, 0, none⟩ : Addr)) m rc), (40, D qr), (41, Nv .i64 x), (42, E n34 x)]) (OI w (fun s ν => [((n7, #[Value.slice (some (⟨n34, 0, none⟩ : Addr)) n n], 25) :: (n34, ints n (fun _ => ((0 : Nat) : Int)), 3) :: (n6, #[Value.slice (some (⟨qr, 0, none⟩ : Addr)) m rc], 25) :: M1), ((n7, #[Value.slice (some (⟨n34, 0, none⟩ : Addr)) n n], 25) :: (n34, ints n (fun i => if i = x then ((1 : Nat) : Int) else ((0 : Nat) : Int)), 3) :: (n6, #[Value.slice (some (⟨qr, 0, none⟩ : Addr)) m rc], 25) :: M1)].getD s [])) (fun _ => 0) hO.drew (Rg.ac (nmem (bk := n7) (k := 0) (.slice (some (⟨n34, 0, none⟩ : Addr)) n n) (fun _ => List.mem_cons_self) rfl agg_si) (Rg.ac (nmem (bk := n6) (k := 0) (.slice (some (⟨qr, 0, none⟩ : Addr)) m rc) (fun _ => List.mem_cons_of_mem _ (List.mem_cons_of_mem _ List.mem_cons_self)) rfl agg_si) (Rg.ac (nx (fun _ => D qr) (fun _ w => b_isq (n := m) (c := rc) (k := 0) (by omega) Try.underlying25 sz_int w)) (Rg.ac (nmem (bk := qr) (k := 0) (Nv .i64 x) (fun _ => List.mem_cons_of_mem _ (List.mem_cons_of_mem _ (List.mem_cons_of_mem _ hqr))) (by rw [cI_get (by omega) _ (by omega), Hx.out]) agg_int) (Rg.ac (nx (fun _ => E n34 x) (fun _ w => b_isq (n := n) (c := n) hxn Try.underlying25 sz_int w)) (Rg.ac (sl 0 1 (fun _ => x) (fun _ => Nv .i64 0) (fun _ => ((1 : Nat) : Int)) B.sz_int (fun _ => ints_get _ hxn) (fun _ => ints_set _ _ _ _) (fun _ => fit_ints _ _)) Rg.an)))))) ?_
      intro ν w7 hO
      replace hO : Own w w7 ((n7, #[Value.slice (some (⟨n34, 0, none⟩ : Addr)) n n], 25) :: (n34, ints n (fun i => if i = x then ((1 : Nat) : Int) else ((0 : Nat) : Int)), 3) :: (n6, #[Value.slice (some (⟨qr, 0, none⟩ : Addr)) m rc], 25) :: M1) := hO
      simp only [Rg.putL, Act.put, List.setIfInBounds_toArray, List.set_cons_succ, List.set_cons_zero]
      clear ν
      go_upto_region 9 with (fail)
      refine wp_region_list (WL.out ?_)
      refine g_lc hO 0 0 (.slice (some (⟨n34, 0, none⟩ : Addr)) n n) rfl (rfl) agg_si ?_
      refine g_val (.slice (some (⟨n34, 0, none⟩ : Addr)) n n) ?_
      refine g_val (Nv .i64 0) ?_
      refine g_nil ?_
      simp only [Act.put, List.setIfInBounds_toArray, List.set_cons_succ, List.set_cons_zero]
      have HO := hide (hO.sub (List.singleton_sublist.2 (List.mem_cons_of_mem _ List.mem_cons_self)))
      clear hO
      go_wp2_with (fail)
      refine Or.inl ?_
      go_ret2
      exact ⟨_, rfl, Or.inl ⟨by rw [Hm.out, HP.out]; exact Hmany.out, _, rfl, by rw [← tl_one (by rw [hlen]; exact h1), Hx.out]; exact HO.out⟩⟩
    · have h1d : decide (m = 1) = false := decide_eq_false h1
      rw [h1d]
      go_upto_region 10 with (fail)
      refine wp_region_list (WL.out ?_)
      refine g_lc hO 2 0 (.slice R m rc) rfl (rfl) agg_si ?_
      refine g_val (Nv .i64 m) ?_
      refine g_val (Nv .i64 (2 * m)) ?_ (B.mul_int (a := 2) (c := m) (d := 2 * m) rfl (by omega) w6)
      refine g_val (.int .i64 (((2 * m : Nat) : Int) - 2)) ?_ (b_sub2 (a := 2 * m) (by omega) w6)
      refine g_val (Nv .i64 (2 * m - 2)) ?_ (b_max0 (a := 2 * m) w6)
      refine g_new hO (fun q => D q) (#[Nv .i64 0]) 3 (fit_n _) ((by kernel_rfl)) ?_
      intro n8 w7 _ hO
      replace hO : Own w w7 ((n8, #[Nv .i64 0], 3) :: (n7, #[Value.slice (some (⟨n34, 0, none⟩ : Addr)) n n], 25) :: (n34, ints n (fun _ => ((0 : Nat) : Int)), 3) :: (n6, #[Value.slice R m rc], 25) :: M1) := hO.perm (List.perm_append_comm (l₂ := [_]))
      refine g_sc hO 0 0 (Nv .i64 (2 * m - 2)) (Nv .i64 0) rfl (rfl) (fun hc hf => st_int 3 sz_int rfl (by kernel_rfl) (by kernel_rfl) hc hf) (rfl) (fit_n _) ?_
      intro w8 hO
      replace hO : Own w w8 ((n8, #[Nv .i64 (2 * m - 2)], 3) :: (n7, #[Value.slice (some (⟨n34, 0, none⟩ : Addr)) n n], 25) :: (n34, ints n (fun _ => ((0 : Nat) : Int)), 3) :: (n6, #[Value.slice R m rc], 25) :: M1) := hO
      refine g_nil ?_
      simp only [Act.put, List.setIfInBounds_toArray, List.set_cons_succ, List.set_cons_zero]
      have HRc : Hid (∀ w', Own w w' ((n8, #[Nv .i64 (2 * m - 2)], 3) :: (n7, #[Value.slice (some (⟨n34, 0, none⟩ : Addr)) n n], 25) :: (n34, ints n (fun _ => ((0 : Nat) : Int)), 3) :: (n6, #[Value.slice R m rc], 25) :: M1) → Rc w' R m (H.ni (og cn n))) := hide (fun w' h9 => by
        by_cases h0 : m = 0
        · exact .inl h0
        · obtain ⟨qr, dr, rfl, hqr⟩ := hRm (by omega)
          exact rc_cl (h9.blk _ (List.mem_cons_of_mem _ (List.mem_cons_of_mem _ (List.mem_cons_of_mem _ (List.mem_cons_of_mem _ hqr))))) (Nat.le_add_right _ _))
      go_upto_region 11 with (fail)
      refine wp_region_list (WL.out ?_)
      refine g_val (.slice S n c) ?_
      refine g_lc hO 3 0 (.slice R m rc) rfl (rfl) agg_si ?_
      refine g_val (Nv .i64 L) ?_
      refine g_any 34 #[.slice S n c, .slice R m rc, Nv .i64 L] (Chains_c hcn hn Hm.out hL1 hL w8 (hS.low hO.low) (HRc.out _ hO)) ?_
      rintro _ wc ⟨g, dg, v, M2, rfl, hO2, hC⟩
      have hO3 := own_join hO hO2
      clear hO hO2 HRc
      refine g_any 33 #[.slice (some ⟨g, 0, none⟩) L (L + dg)] (Back_c wc) ?_
      rintro _ wb ⟨bx, rfl, hO4⟩
      have hO5 := own_join hO3 hO4
      clear hO3 hO4
      refine g_nil ?_
      simp only [Act.put, List.setIfInBounds_toArray, List.set_cons_succ, List.set_cons_zero]
      obtain ⟨M, hM⟩ : ∃ M, (M1 ++ (M2 ++ [(g, cl (zc 1 zvS) ((L + dg) * 1) (L * 1) v, 76)])) ++ [(bx, #[.slice (some ⟨g, 0, none⟩) L (L + dg)], 75)] = M := ⟨_, rfl⟩
      have hO : Own w wb ((n8, #[Nv .i64 (2 * m - 2)], 3) :: (n7, #[Value.slice (some (⟨n34, 0, none⟩ : Addr)) n n], 25) :: (n34, ints n (fun _ => ((0 : Nat) : Int)), 3) :: (n6, #[Value.slice R m rc], 25) :: M) := by rw [← hM]; exact hO5
      have hgM : (g, cl (zc 1 zvS) ((L + dg) * 1) (L * 1) v, 76) ∈ M := by rw [← hM]; exact List.mem_append_left _ (List.mem_append_right _ (List.mem_append_right _ (List.mem_singleton.2 rfl)))
      have hbM : (bx, #[.slice (some ⟨g, 0, none⟩) L (L + dg)], 75) ∈ M := by rw [← hM]; exact List.mem_append_right _ (List.mem_singleton.2 rfl)
      have hCM : ChAt cn (rsg cn n) L v M := ch_mono hC (fun r hr => by rw [← hM]; exact List.mem_append_left _ (List.mem_append_right _ (List.mem_append_left _ hr)))
      have hRM : 0 < m → ∃ q dd, R = some ⟨q, 0, none⟩ ∧ (q, cI (m + dd) m (og cn n), 3) ∈ M := fun h => by
        obtain ⟨q, dd, h3, h4⟩ := hRm h
        exact ⟨q, dd, h3, by rw [← hM]; exact List.mem_append_left _ (List.mem_append_left _ h4)⟩
      clear hO5 hC hRm hM
      obtain ⟨p, hp⟩ : ∃ p, rsg cn n = p := ⟨_, rfl⟩
      rw [hp] at hCM
      have hpU : Up cn p := by rw [← hp]; exact rsg_up cn n
      have hpL : p.length = m := by rw [← hp]; exact hlen
      have hT0 : Sum cn p (tL cn n L) (fun _ => 0) L (2 * m - 2) := by have := tL_start cn n L; rwa [hp, hpL] at this
      have hTl : 2 * m - 2 ≤ (cl2 cn p L).length := by have := tL_len (c := cn) (n := n) (L := L) (by rw [hlen]; exact h1) (by rw [hlen, HP.out]; exact Hmany.out); rwa [hp, hpL] at this
      have hT15 : ∀ i, i < n → tL cn n L i ≤ 15 := fun i hi => tL_le (by rw [hlen]; exact h1) hL (by rw [hlen, HP.out]; exact Hmany.out) i hi
      have hpog : ∀ f, (h : f < p.length) → p[f] = og cn n f ∧ og cn n f < n := fun f hf => by
        have h9 : f < many cn n := by rw [Hm.out, ← hpL]; exact hf
        have h8 := og_get h9
        exact ⟨by rw [h8]; simp only [hp], (og_mem h9).1⟩
      have Hsz := hide hO.low.size
      have Hp := hide hp
      clear hp
      have HO : Hid (Own w wb ((n8, #[Nv .i64 (2 * m - 2)], 3) :: (n7, #[Value.slice (some (⟨n34, 0, none⟩ : Addr)) n n], 25) :: (n34, ints n (fun i => (((fun _ => 0 : Nat → Nat) i : Nat) : Int)), 3) :: (n6, #[Value.slice R m rc], 25) :: M)) := hide hO
      clear hO
      go_upto_block 0 with (fail)
      refine wp_block ?_
      refine Z.rangeF (gf := 47) (lb := #[D bx]) (fun k => #[Nv .i64 (L - 1 - k), v (L - 1 - k)]) L (fun k W => ∃ (l : Nat → Nat) (t : Nat), Own w W ((n8, #[Nv .i64 (t)], 3) :: (n7, #[Value.slice (some (⟨n34, 0, none⟩ : Addr)) n n], 25) :: (n34, ints n (fun i => ((l i : Nat) : Int)), 3) :: (n6, #[Value.slice R m rc], 25) :: M) ∧ Sum cn p (tL cn n L) l (L - k) t ∧ t ≤ (cl2 cn p (L - k)).length) (fun k => Fr [.slice S n c, Nv .i64 L, U, U, .slice none 0 0, Nv .i64 0, D n6, D n7, D n8, U, (v (L - 1 - k)), U, U, U, Nv .i64 L, .bool false, .bool false, Nv .i64 L, .bool false, .bool false, .bool false, .slice S n c, Nv .i64 n, .bool false, .bool false, .slice S n c, .slice R m rc, .slice R m rc, Nv .i64 m, Nv .i64 L, Nv .i64 P2, .bool false, .slice S n c, Nv .i64 n, .slice (some (⟨n34, 0, none⟩ : Addr)) n n, .slice R m rc, Nv .i64 m, .bool false, U, U, U, U, U, U, .slice R m rc, Nv .i64 m, Nv .i64 (2 * m), .int .i64 (((2 * m : Nat) : Int) - 2), Nv .i64 (2 * m - 2), .slice S n c, .slice R m rc, Nv .i64 L, .slice (some ⟨g, 0, none⟩) L (L + dg), .func (.func 47) #[] #[D bx], Nv .i64 (L - 1 - k), (v (L - 1 - k)), U, U, U, U, U, U, U, U, U, U, U, U, U, U, U, U, U, U, U, U, U, U, U, U, U, U, U]) (by kernel_rfl) (enters_of Try.func47 (by kernel_rfl) rfl) (fun _ => rfl) ?hI ?h0 ?hit ?assign ?body ?done
      case hI =>
        rintro k W r o9 o8 ⟨l, t, hO, h2, h3⟩ hr ho hc
        exact ⟨l, t, Z.own_put hO (Nat.le_trans Hsz.out hr) ho hc, h2, h3⟩
      case h0 => exact fun o9 => ⟨fun _ => 0, 2 * m - 2, Z.own_obj (Z.own_obj HO.out _) _, by rw [Nat.sub_zero]; exact hT0, by rw [Nat.sub_zero]; exact hTl⟩
      case hit =>
        intro rl J W hJI hY hJ0
        refine Back1_c (g := g) (d := dg) hL1 (by omega) (fun k W hJ => ?_) hY W hJ0
        obtain ⟨l, t, hO, _, _⟩ := hJI k W hJ
        exact ⟨hO.blk _ (List.mem_cons_of_mem _ (List.mem_cons_of_mem _ (List.mem_cons_of_mem _ (List.mem_cons_of_mem _ hbM)))), hO.blk _ (List.mem_cons_of_mem _ (List.mem_cons_of_mem _ (List.mem_cons_of_mem _ (List.mem_cons_of_mem _ hgM))))⟩
      case assign =>
        intro rl k W K hK
        refine Z.in_reg (by rintro ⟨_, _, h⟩; exact h) (by kernel_rfl) ?_
        refine g_val (v (L - 1 - k)) ?_
        exact g_fr _ (g_nil hK)
      case body =>
        rintro rl k W hk ⟨l, t, hO, hsum, ht⟩
        clear HO
        obtain ⟨j, hj⟩ : ∃ j, L - 1 - k = j := ⟨_, rfl⟩
        have e1 : L - k = j + 1 := by omega
        have e2 : L - (k + 1) = j := by omega
        rw [e1] at hsum ht
        obtain ⟨qc, cc, hv, hcc, hmem⟩ := hCM j (by omega)
        obtain ⟨C, hCe⟩ : ∃ C, cl2 cn p (j + 1) = C := ⟨_, rfl⟩
        obtain ⟨nC, hnc⟩ : ∃ nC, C.length = nC := ⟨_, rfl⟩
        have hsp := fl_split hpU j t ht
        have HN : Hid (∀ l', (∀ i, l' i = l i + oc p (fl (C.take t)) i) → Sum cn p (tL cn n L) l' j (2 * (t - fl (C.take t)))) := hide (fun l' hl' => by rw [← hCe]; exact sum_next hpU ht hsum (by rw [hCe]; exact hl'))
        have Hnc : Hid (nC ≤ 2 ^ 20) := hide (by have h9 := cl2_len cn p (j + 1); rw [hCe, hnc, hpL] at h9; omega)
        have HLe : Hid (∀ f, f ≤ fl (C.take t) → ∀ i, l i + oc p f i ≤ tL cn n L i) := hide (fun f hf i => sum_le hpU ht hsum (by rw [hCe]; exact hf) i)
        rw [hCe] at hsp ht hv hcc hmem
        rw [hnc] at ht hv hcc hmem
        have Hlt : Hid (2 * (t - fl (C.take t)) ≤ (cl2 cn p j).length) := hide hsp.2.2.1
        have hflm : fl (C.take t) ≤ m := by rw [← hpL]; exact hsp.1
        have hflt : fl (C.take t) ≤ t := hsp.2.1
        clear hsp hsum hCe
        have hnC20 := Hnc.out
        have hK := KeepsOthers.refl W
        show Code.wpIn _ _ _ _ _ (Fr [.slice S n c, Nv .i64 L, U, U, .slice none 0 0, Nv .i64 0, D n6, D n7, D n8, U, (v (L - 1 - k)), U, U, U, Nv .i64 L, .bool false, .bool false, Nv .i64 L, .bool false, .bool false, .bool false, .slice S n c, Nv .i64 n, .bool false, .bool false, .slice S n c, .slice R m rc, .slice R m rc, Nv .i64 m, Nv .i64 L, Nv .i64 P2, .bool false, .slice S n c, Nv .i64 n, .slice (some (⟨n34, 0, none⟩ : Addr)) n n, .slice R m rc, Nv .i64 m, .bool false, U, U, U, U, U, U, .slice R m rc, Nv .i64 m, Nv .i64 (2 * m), .int .i64 (((2 * m : Nat) : Int) - 2), Nv .i64 (2 * m - 2), .slice S n c, .slice R m rc, Nv .i64 L, .slice (some ⟨g, 0, none⟩) L (L + dg), .func (.func 47) #[] #[D bx], Nv .i64 (L - 1 - k), (v (L - 1 - k)), U, U, U, U, U, U, U, U, U, U, U, U, U, U, U, U, U, U, U, U, U, U, U, U, U, U, U]) W
        rw [hj, hv]
        clear hv hj
        refine wpIn_block ?_
        refine wpIn_seq ?_
        refine Z.in_reg (by rintro ⟨_, _, h⟩; exact absurd (And.left h) (by intro e; cases e)) (by kernel_rfl) ?_
        refine g_val (Nv .i64 0) ?_
        refine g_nil ?_
        simp only [Act.put, List.setIfInBounds_toArray, List.set_cons_succ, List.set_cons_zero]
        change Code.wpIn _ _ _ _ _ _ _
        refine wpIn_seq ?_
        refine wpIn_seq ?_
        refine Z.in_reg (by rintro ⟨_, _, h⟩; exact absurd (And.left h) (by intro e; cases e)) (by kernel_rfl) ?_
        refine g_val (.slice (some ⟨qc, 0, none⟩) nC cc) ?_
        refine g_lc hO 0 0 (Nv .i64 t) rfl (rfl) agg_int ?_
        refine g_val (.slice (some ⟨qc, 0, none⟩) t cc) ?_ (b_hiT ht hcc W)
        refine g_val (Nv .i64 t) ?_
        refine g_val (Nv .i64 0) ?_
        refine g_nil ?_
        simp only [Act.put, List.setIfInBounds_toArray, List.set_cons_succ, List.set_cons_zero]
        change Code.wpIn _ _ _ _ _ _ _
        refine wpIn_block ?_
        have HO : Hid (Own w W ((n8, #[Nv .i64 (t)], 3) :: (n7, #[Value.slice (some (⟨n34, 0, none⟩ : Addr)) n n], 25) :: (n34, ints n (fun i => ((l i + oc p (fl (C.take 0)) i : Nat) : Int)), 3) :: (n6, #[Value.slice R m rc], 25) :: M)) := hide (by have e9 : ints n (fun i => ((l i : Nat) : Int)) = ints n (fun i => ((l i + oc p (fl (C.take 0)) i : Nat) : Int)) := rfl; rw [← e9]; exact hO)
        have HK := hide hK
        clear hO hK
        gi_loopw [11, 60] (fun x11 x60 wr => ∃ i, i ≤ t ∧ x60 = .int .i64 (i : Int) ∧ x11 = Nv .i64 (fl (C.take i)) ∧ KeepsOthers W wr ∧ Own w wr ((n8, #[Nv .i64 (t)], 3) :: (n7, #[Value.slice (some (⟨n34, 0, none⟩ : Addr)) n n], 25) :: (n34, ints n (fun y => ((l y + oc p (fl (C.take i)) y : Nat) : Int)), 3) :: (n6, #[Value.slice R m rc], 25) :: M)) (fun _ x60 _ => t - (intOf x60).toNat)
        case atStart => exact ⟨0, Nat.zero_le _, rfl, rfl, HK.out, HO.out⟩
        case round =>
          clear HO HK
          obtain ⟨i, hit, rfl, rfl, hK, hO⟩ := hrel
          obtain ⟨f, hf⟩ : ∃ f, fl (C.take i) = f := ⟨_, rfl⟩
          rw [hf] at hO ⊢
          have hfm : f ≤ fl (C.take t) := by rw [← hf]; exact fl_mono C hit
          by_cases hz : i < t
          · have hiC : i < C.length := by omega
            refine wpIn_seq ?_
            refine Z.in_reg (by rintro ⟨_, _, h⟩; exact absurd (And.left h) (by intro e; cases e)) (by kernel_rfl) ?_
            refine g_val (.bool true) ?_ (B.lss_int (a := i) (c := t) (b := true) (decide_eq_true hz) wr)
            refine g_nil ?_
            simp only [Act.put, List.setIfInBounds_toArray, List.set_cons_succ, List.set_cons_zero]
            change Code.wpIn _ _ _ _ _ _ _
            refine wpIn_seq ?_
            refine wpIn_cond_true (by kernel_rfl) ?_
            refine wpIn_skip ?_
            change Code.wpIn _ _ _ _ _ _ _
            refine wpIn_seq ?_
            refine wpIn_block ?_
            refine wpIn_seq ?_
            have hfn := fl_next hiC
            rw [hf] at hfn
            have Hit : Hid (∀ w', Own w w' ((n8, #[Nv .i64 t], 3) :: (n7, #[Value.slice (some (⟨n34, 0, none⟩ : Addr)) n n], 25) :: (n34, ints n (fun y => ((l y + oc p f y : Nat) : Int)), 3) :: (n6, #[Value.slice R m rc], 25) :: M) → ∀ a v, (#[Value.int .u64 ((C[i].1 : Nat) : Int), .bool C[i].2.1] : Array Value).toList[a]? = some v → w'.cell? ((⟨qc, i * 2, none⟩ : Addr).add a) = some v) := hide (fun w' h9 => it_at (h9.blk _ (List.mem_cons_of_mem _ (List.mem_cons_of_mem _ (List.mem_cons_of_mem _ (List.mem_cons_of_mem _ hmem))))) hcc hnc hiC)
            obtain ⟨wt, hwt⟩ : ∃ wt, C[i].1 = wt := ⟨_, rfl⟩
            obtain ⟨sf, hsf⟩ : ∃ sf, C[i].2.1 = sf := ⟨_, rfl⟩
            rw [hwt, hsf] at Hit
            rw [hsf] at hfn
            clear hwt hsf
            refine Z.in_reg (by rintro ⟨_, _, h⟩; exact absurd (And.left h) (by intro e; cases e)) (by kernel_rfl) ?_
            refine g_val (E qc (i * 2)) ?_ (b_ixr (n := t) (c := cc) hz Try.underlying76 sz_it wr)
            refine g_lr (ad := ⟨qc, i * 2, none⟩) (#[.int .u64 ((wt : Nat) : Int), .bool sf]) (Hit.out _ hO) Try.underlying79 (by kernel_rfl) ?_
            refine Z.g_newK hO hK D (#[.int .u64 0, .bool false]) 79 (fit_it (by simp [Value.oneCell'])) (by kernel_rfl) ?_
            clear hO hK
            intro n13 w9 hK hO
            replace hO : Own w w9 ((n13, #[.int .u64 0, .bool false], 79) :: (n8, #[Nv .i64 t], 3) :: (n7, #[Value.slice (some (⟨n34, 0, none⟩ : Addr)) n n], 25) :: (n34, ints n (fun y => ((l y + oc p f y : Nat) : Int)), 3) :: (n6, #[Value.slice R m rc], 25) :: M) := hO.perm (List.perm_append_comm (l₂ := [_]))
            refine Z.g_smK (k := 0) (e := #[.int .u64 ((wt : Nat) : Int), .bool sf]) hO hK 0 rfl (Nat.le_refl _) (by kernel_rfl) (by simp [Value.oneCell']) (c' := #[.int .u64 ((wt : Nat) : Int), .bool sf]) rfl (fit_it (by simp [Value.oneCell'])) ?_
            clear hO hK
            intro w10 hK hO
            replace hO : Own w w10 ((n13, #[.int .u64 ((wt : Nat) : Int), .bool sf], 79) :: (n8, #[Nv .i64 t], 3) :: (n7, #[Value.slice (some (⟨n34, 0, none⟩ : Addr)) n n], 25) :: (n34, ints n (fun y => ((l y + oc p f y : Nat) : Int)), 3) :: (n6, #[Value.slice R m rc], 25) :: M) := hO
            refine g_nil ?_
            simp only [Act.put, List.setIfInBounds_toArray, List.set_cons_succ, List.set_cons_zero]
            change Code.wpIn _ _ _ _ _ _ _
            refine wpIn_seq ?_
            refine Z.in_reg (by rintro ⟨_, _, h⟩; exact absurd (And.left h) (by intro e; cases e)) (by kernel_rfl) ?_
            refine g_val (E n13 1) ?_
            refine g_lc hO 0 1 (.bool sf) rfl (rfl) agg_bool ?_
            refine g_nil ?_
            simp only [Act.put, List.setIfInBounds_toArray, List.set_cons_succ, List.set_cons_zero]
            replace hO := hO.sub (List.sublist_cons_self _ _)
            replace hO : Own w w10 ((n8, #[Nv .i64 t], 3) :: (n7, #[Value.slice (some (⟨n34, 0, none⟩ : Addr)) n n], 25) :: (n34, ints n (fun y => ((l y + oc p f y : Nat) : Int)), 3) :: (n6, #[Value.slice R m rc], 25) :: M) := hO
            clear Hit
            change Code.wpIn _ _ _ _ _ _ _
            cases sf with
            | false =>
              refine wpIn_cond_false (by kernel_rfl) ?_
              refine wpIn_skip ?_
              change Code.wpIn _ _ _ _ _ _ _
              refine Z.in_reg (by rintro ⟨_, _, h⟩; exact absurd (And.left h) (by intro e; cases e)) (by kernel_rfl) ?_
              refine g_val (Nv .i64 (i + 1)) ?_ (B.add_int (a := i) (c := 1) (d := i + 1) rfl (by omega) w10)
              refine g_val (Nv .i64 (i + 1)) ?_
              refine g_nil ?_
              simp only [Act.put, List.setIfInBounds_toArray, List.set_cons_succ, List.set_cons_zero]
              refine ⟨⟨_, _, _, _, _, _, _, _, _, _, _, _, _, _, _, _, _, _, _, _, ?relA, rfl⟩, ?measureA⟩
              case relA => exact ⟨i + 1, hz, rfl, by rw [hfn]; rfl, hK, by rw [hfn]; exact hO⟩
              case measureA => show t - ((i + 1 : Nat) : Int).toNat < t - ((i : Nat) : Int).toNat; omega
            | true =>
              refine wpIn_cond_true (by kernel_rfl) ?_
              refine wpIn_seq ?_
              have hfn9 : fl (C.take (i + 1)) = f + 1 := hfn
              have hf1 : f + 1 ≤ fl (C.take t) := by rw [← hfn9]; exact fl_mono C hz
              obtain ⟨qr, dr, rfl, hqr⟩ := hRM (by omega)
              have hfp : f < p.length := by omega
              have hpo := hpog f hfp
              obtain ⟨x, hx⟩ : ∃ x, og cn n f = x := ⟨_, rfl⟩
              rw [hx] at hpo
              have hxn := hpo.2
              have hle15 : l x + oc p f x ≤ 15 := Nat.le_trans (HLe.out f (by omega) x) (hT15 x hxn)
              have Hst := hide (oc_set (n := n) (l := l) hfp hpo.1)
              have Hx := hide hx
              clear hx hpo
              refine Z.pdI (by rintro ⟨_, _, h⟩; exact absurd (And.left h) (by intro e; cases e)) (by kernel_rfl) [9] (fun _ => [(66, .slice (some (⟨n34, 0, none⟩ : Addr)) n n), (67, .slice (some (⟨qr, 0, none⟩ : Addr)) m rc), (68, Nv .i64 f), (69, E qr f), (70, Nv .i64 x), (71, E n34 x), (72, Nv .i64 (l x + oc p f x)), (73, Nv .i64 (l x + oc p f x + 1)), (74, E n34 x)]) (Z.OKI w W (fun s ν => [((n8, #[Nv .i64 t], 3) :: (n7, #[Value.slice (some (⟨n34, 0, none⟩ : Addr)) n n], 25) :: (n34, ints n (fun y => ((l y + oc p f y : Nat) : Int)), 3) :: (n6, #[Value.slice (some (⟨qr, 0, none⟩ : Addr)) m rc], 25) :: M), ((n8, #[Nv .i64 t], 3) :: (n7, #[Value.slice (some (⟨n34, 0, none⟩ : Addr)) n n], 25) :: (n34, ints n (fun y => ((l y + oc p (f + 1) y : Nat) : Int)), 3) :: (n6, #[Value.slice (some (⟨qr, 0, none⟩ : Addr)) m rc], 25) :: M)].getD s [])) (fun _ => 0) ⟨hO.drew, hK.trans (KeepsOthers.drew _)⟩ (Rg.ac (Z.lift (nmem (bk := n7) (k := 0) (.slice (some (⟨n34, 0, none⟩ : Addr)) n n) (fun _ => List.mem_cons_of_mem _ List.mem_cons_self) rfl agg_si)) (Rg.ac (Z.lift (nmem (bk := n6) (k := 0) (.slice (some (⟨qr, 0, none⟩ : Addr)) m rc) (fun _ => List.mem_cons_of_mem _ (List.mem_cons_of_mem _ (List.mem_cons_of_mem _ List.mem_cons_self))) rfl agg_si)) (Rg.ac (Z.lift (nv)) (Rg.ac (Z.lift (nx (fun _ => E qr f) (fun _ w => b_isq (n := m) (c := rc) (by omega) Try.underlying25 sz_int w))) (Rg.ac (Z.lift (nmem (bk := qr) (k := f) (Nv .i64 x) (fun _ => List.mem_cons_of_mem _ (List.mem_cons_of_mem _ (List.mem_cons_of_mem _ (List.mem_cons_of_mem _ hqr)))) (by rw [cI_get (by omega) _ (by omega), Hx.out]) agg_int)) (Rg.ac (Z.lift (nx (fun _ => E n34 x) (fun _ w => b_isq (n := n) (c := n) hxn Try.underlying25 sz_int w))) (Rg.ac (Z.lift (nc 0 0 2 (fun _ => x) (fun _ => Nv .i64 (l x + oc p f x)) B.agg_int (fun _ => ints_get _ hxn) (at1 0 fun _ => by kernel_rfl))) (Rg.ac (Z.lift (nx (fun _ => Nv .i64 (l x + oc p f x + 1)) (fun _ w => B.add_int (a := l x + oc p f x) (c := 1) (d := l x + oc p f x + 1) rfl (by omega) w))) (Rg.ac (Z.lift (nx (fun _ => E n34 x) (fun _ w => b_isq (n := n) (c := n) hxn Try.underlying25 sz_int w))) (Rg.ac (Z.slK 0 2 (fun _ => x) (fun _ => Nv .i64 (l x + oc p f x)) (fun _ => ((l x + oc p f x + 1 : Nat) : Int)) sz_int (fun _ => ints_get _ hxn) (fun _ => Hst.out) (fun _ => fit_ints _ _)) Rg.an)))))))))) ?_
              intro ν w11 hOK
              replace hK := hOK.2
              replace hO := hOK.1
              clear hOK
              replace hO : Own w w11 ((n8, #[Nv .i64 t], 3) :: (n7, #[Value.slice (some (⟨n34, 0, none⟩ : Addr)) n n], 25) :: (n34, ints n (fun y => ((l y + oc p (f + 1) y : Nat) : Int)), 3) :: (n6, #[Value.slice (some (⟨qr, 0, none⟩ : Addr)) m rc], 25) :: M) := hO
              simp only [Rg.putL, Act.put, List.setIfInBounds_toArray, List.set_cons_succ, List.set_cons_zero]
              clear ν
              change Code.wpIn _ _ _ _ _ _ _
              refine Z.in_reg (by rintro ⟨_, _, h⟩; exact absurd (And.left h) (by intro e; cases e)) (by kernel_rfl) ?_
              refine g_val (Nv .i64 f) ?_
              refine g_val (Nv .i64 (f + 1)) ?_ (B.add_int (a := f) (c := 1) (d := f + 1) rfl (by omega) w11)
              refine g_val (Nv .i64 (f + 1)) ?_
              refine g_nil ?_
              simp only [Act.put, List.setIfInBounds_toArray, List.set_cons_succ, List.set_cons_zero]
              change Code.wpIn _ _ _ _ _ _ _
              refine Z.in_reg (by rintro ⟨_, _, h⟩; exact absurd (And.left h) (by intro e; cases e)) (by kernel_rfl) ?_
              refine g_val (Nv .i64 (i + 1)) ?_ (B.add_int (a := i) (c := 1) (d := i + 1) rfl (by omega) w11)
              refine g_val (Nv .i64 (i + 1)) ?_
              refine g_nil ?_
              simp only [Act.put, List.setIfInBounds_toArray, List.set_cons_succ, List.set_cons_zero]
              refine ⟨⟨_, _, _, _, _, _, _, _, _, _, _, _, _, _, _, _, _, _, _, _, ?relB, rfl⟩, ?measureB⟩
              case relB => exact ⟨i + 1, hz, rfl, by rw [hfn9], hK, by rw [hfn9]; exact hO⟩
              case measureB => show t - ((i + 1 : Nat) : Int).toNat < t - ((i : Nat) : Int).toNat; omega
          · obtain rfl : i = t := by omega
            rw [hf] at HN HLe Hlt hflm hflt hfm
            refine wpIn_seq ?_
            refine Z.in_reg (by rintro ⟨_, _, h⟩; exact absurd (And.left h) (by intro e; cases e)) (by kernel_rfl) ?_
            refine g_val (.bool false) ?_ (B.lss_int (a := i) (c := i) (b := false) (decide_eq_false hz) wr)
            refine g_nil ?_
            simp only [Act.put, List.setIfInBounds_toArray, List.set_cons_succ, List.set_cons_zero]
            change Code.wpIn _ _ _ _ _ _ _
            refine wpIn_seq ?_
            refine wpIn_cond_false (by kernel_rfl) ?_
            refine wpIn_exit ?_
            simp only [Exit.then, Exit.inBlock, ↓reduceIte]
            refine Z.in_reg (by rintro ⟨_, _, h⟩; exact absurd (And.left h) (by intro e; cases e)) (by kernel_rfl) ?_
            refine g_lc hO 0 0 (Nv .i64 i) rfl (rfl) agg_int ?_
            refine g_val (Nv .i64 f) ?_
            refine g_val (Nv .i64 (i - f)) ?_ (B.sub_int (a := i) (c := f) (d := i - f) (by omega) (by omega) wr)
            refine g_val (Nv .i64 (2 * (i - f))) ?_ (B.mul_int (a := 2) (c := i - f) (d := 2 * (i - f)) rfl (by omega) wr)
            refine Z.g_scK hO hK 0 0 (Nv .i64 (2 * (i - f))) (Nv .i64 i) rfl rfl (fun hc hf => st_int 3 sz_int rfl (by kernel_rfl) (by kernel_rfl) hc hf) (e := #[Nv .i64 (2 * (i - f))]) rfl (fit_n _) ?_
            clear hO hK
            intro w9 hK hO
            refine g_nil ?_
            simp only [Act.put, List.setIfInBounds_toArray, List.set_cons_succ, List.set_cons_zero]
            exact ⟨rfl, hK, _, 2 * (i - f), hO, by rw [e2]; exact HN.out _ (fun _ => rfl), by rw [e2]; exact Hlt.out⟩
      case done =>
        rintro dl W ⟨l, t, hO, hsum, ht⟩ hD hdef
        clear HO
        rw [Nat.sub_self] at hsum
        have hfin : ints n (fun i => ((l i : Nat) : Int)) = ints n (fun i => ((tl cn n L i : Nat) : Int)) := ints_congr fun i _ => by rw [sum_end hsum i]; unfold tl; rw [if_neg (by rw [hlen]; exact h1)]
        rw [hfin] at hO
        clear hsum ht hfin
        show Exit.inBlock 0 _ .normal { tmps := #[.slice S n c, Nv .i64 L, U, U, .slice none 0 0, Nv .i64 0, D n6, D n7, D n8, U, U, U, U, U, Nv .i64 L, .bool false, .bool false, Nv .i64 L, .bool false, .bool false, .bool false, .slice S n c, Nv .i64 n, .bool false, .bool false, .slice S n c, .slice R m rc, .slice R m rc, Nv .i64 m, Nv .i64 L, Nv .i64 P2, .bool false, .slice S n c, Nv .i64 n, .slice (some (⟨n34, 0, none⟩ : Addr)) n n, .slice R m rc, Nv .i64 m, .bool false, U, U, U, U, U, U, .slice R m rc, Nv .i64 m, Nv .i64 (2 * m), .int .i64 (((2 * m : Nat) : Int) - 2), Nv .i64 (2 * m - 2), .slice S n c, .slice R m rc, Nv .i64 L, .slice (some ⟨g, 0, none⟩) L (L + dg), .func (.func 47) #[] #[D bx], U, U, U, U, U, U, U, U, U, U, U, U, U, U, U, U, U, U, U, U, U, U, U, U, U, U, U, U, U], defers := [{ target := .collected dl, args := #[] }] } W
        go_upto_region 22 with (fail)
        refine wp_region_list (WL.out ?_)
        refine g_lc hO 1 0 (.slice (some (⟨n34, 0, none⟩ : Addr)) n n) rfl (rfl) agg_si ?_
        refine g_val (.slice (some (⟨n34, 0, none⟩ : Addr)) n n) ?_
        refine g_val (Nv .i64 0) ?_
        refine g_nil ?_
        simp only [Act.put, List.setIfInBounds_toArray, List.set_cons_succ, List.set_cons_zero]
        have HF := hide (Z.own_put (ob' := .deferred none) (hO.sub (List.singleton_sublist.2 (List.mem_cons_of_mem _ (List.mem_cons_of_mem _ List.mem_cons_self)))) (Nat.le_trans Hsz.out hD) hdef rfl)
        have Hdef := hide hdef
        clear hO hdef
        go_wp2_with (fail)
        exact Or.inr ⟨rfl, dl, _, rfl, Hdef.out, results_tmp2 rfl _ _ _, ⟨_, rfl, Or.inl ⟨by rw [Hm.out, HP.out]; exact Hmany.out, _, rfl, HF.out⟩⟩⟩
  · have Hmany := hide hmany
    go_upto_region 4 with (fail)
    refine Rg.pd [] (fun _ => [(27, .slice R m rc), (28, Nv .i64 m), (29, Nv .i64 L), (30, Nv .i64 P2), (31, .bool true)]) (OI w (fun _ _ => ((n6, #[Value.slice R m rc], 25) :: M1))) (fun _ => 0) hO.drew (Rg.ac (nmem (bk := n6) (k := 0) (.slice R m rc) (fun _ => List.mem_cons_self) rfl agg_si) (Rg.ac nv (Rg.ac nv (Rg.ac (nx (fun _ => Nv .i64 P2) (fun _ w => shl_ii (a := 1) (s := L) (by rw [Nat.one_mul]; exact HP.out) (by omega) (by omega) w)) (Rg.ac (nx (fun _ => .bool true) (fun _ w => B.gtr_int (a := m) (c := P2) (b := true) (decide_eq_true (by omega)) w)) Rg.an))))) ?_
    intro ν w3 hO
    replace hO : Own w w3 ((n6, #[Value.slice R m rc], 25) :: M1) := hO
    simp only [Rg.putL, Act.put, List.setIfInBounds_toArray, List.set_cons_succ, List.set_cons_zero]
    clear ν
    have HF := hide hO.low
    clear hO
    go_upto_region 5 with (fail)
    refine wp_region_list (WL.out ?_)
    refine g_val (.slice none 0 0) ?_
    refine g_val (Nv .i64 1) ?_
    refine g_nil ?_
    simp only [Act.put, List.setIfInBounds_toArray, List.set_cons_succ, List.set_cons_zero]
    go_wp2_with (fail)
    refine Or.inl ?_
    go_ret2
    exact ⟨_, rfl, Or.inr ⟨by rw [Hm.out, HP.out]; have := Hmany.out; omega, rfl, HF.out⟩⟩
end Q
end Go.Proofs.Ytkljpidlfddgbaa

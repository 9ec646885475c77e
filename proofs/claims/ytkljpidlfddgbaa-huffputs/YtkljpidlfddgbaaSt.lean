/- Items of huff: their cells; weight; pairs. At most 2^20 items, each below 2^62; no other condition. -/
import Derived.Test.YtkljpidlfddgbaaSp
import Derived.Test.YtkljpidlfddgbaaSh
import Derived.Test.YtkljpidlfddgbaaRb
import Derived.Test.YtkljpidlfddgbaaRh
import Derived.Laws.MakeOwn
namespace Go.Proofs.Ytkljpidlfddgbaa
set_option maxRecDepth 100000
open Go.RowKit Rg B

namespace B
section
variable {u w : World} {ρ : Operand → Value} {o : Oper}
theorem run_mkN (t e : TypeId) (s bytes : Nat) (z : Value) (ht : Try.prog.underlying t = some (.slice e)) (hi : (Try.prog.info? e).map (fun i => (i.zero, i.size, i.bytes)) = some (some z, s, bytes)) {l c : Nat} (hlc : l ≤ c) (hb : bytes * c ≤ 281474976710656) (hc : c ≤ 2 ^ 40) (w : World) : (Instr.makeSlice t (Nv .i64 l) (Nv .i64 c)).run Try.prog w = .ok (.slice (some ⟨w.heap.size, 0, none⟩) l c) (w.alloc (.cells (madeCells z.cells (c * s)) e)) := by
  obtain ⟨i, hi, hzz⟩ := Option.map_eq_some_iff.1 hi
  simp only [Prod.mk.injEq] at hzz
  obtain ⟨hz, hs, hbs⟩ := hzz
  have hb' : (i.bytes : Int) * (c : Int) ≤ 281474976710656 := by
    have h : ((i.bytes * c : Nat) : Int) ≤ 281474976710656 := by rw [hbs]; omega
    rwa [Int.natCast_mul] at h
  have hr := run_make (P := Try.prog) w t e i z ht hi hz .i64 .i64 (l : Int) (c : Int) (by omega) (by omega) hb' (by omega)
  simpa only [Int.toNat_natCast, hs] using hr
theorem made_cl (z : Value) (s N : Nat) (f : Nat → Value) (hs : z.cells.size = s) (hp : 0 < s) : madeCells z.cells N = cl (zc s z) N 0 f := by
  refine cl_ext (by simp [madeCells]) (cl_size ..) fun i hi => ?_
  rw [cl_get _ _ _ _ _ hi, if_neg (by omega)]
  subst hs
  simp [madeCells, hi, zc, Array.getD_eq_getD_getElem?, Nat.mod_lt _ hp]
theorem b_mkN (t e : TypeId) (s bytes : Nat) (z : Value) (f : Nat → Value) {x y : Operand} {l c : Nat} (ht : Try.prog.underlying t = some (.slice e)) (hi : (Try.prog.info? e).map (fun i => (i.zero, i.size, i.bytes)) = some (some z, s, bytes)) (hs : z.cells.size = s) (hp : 0 < s) (hlc : l ≤ c) (hb : bytes * c ≤ 281474976710656) (hc : c ≤ 2 ^ 40) (w : World) (ho : o.op = .makeSlice t x y := by rfl) (hx : ρ x = Nv .i64 l := by kernel_rfl) (hy : ρ y = Nv .i64 c := by kernel_rfl) : (execOp ρ o).run Try.prog w = .ok (.value (.slice (some ⟨w.heap.size, 0, none⟩) l c)) (w.alloc (.cells (cl (zc s z) (c * s) 0 f) e)) := by
  unfold execOp
  rw [← made_cl z s (c * s) f hs hp]
  simp only [ho, hx, hy, Sem.run_bind, run_mkN t e s bytes z ht hi hlc hb hc w, Result.andThen_ok, Sem.run_pure]
/-- The address of an element of a row of one's own. -/
theorem b_ixr {x y : Operand} {q n c k s : Nat} {st el : TypeId} (hk : k < n) (hu : Try.prog.underlying st = some (.slice el)) (hz : ∀ w, (sizeOf el).run Try.prog w = .ok s w) (w : World) (ho : o.op = .indexAddr st x y := by rfl) (hx : ρ x = .slice (some ⟨q, 0, none⟩) n c := by kernel_rfl) (hy : ρ y = Nv .i64 k := by kernel_rfl) : (execOp ρ o).run Try.prog w = .ok (.value (E q (k * s))) w := by
  have := b_ix (ρ := ρ) (o := o) (a := ⟨q, 0, none⟩) (n := n) (c := c) (k := k) (s := s) hk hu hz w ho hx hy
  rwa [Addr.add_mid, Nat.zero_add] at this
section
open Rg
variable {b : Bool} {ops : Array Oper} {sts : List Nat} {F : Nu → Act} {L : Nat → Nu → List Row} {i : Nat}
/-- Cells one behind the other of a row are stored. -/
theorem smv (t j : Nat) {ty : TypeId} {x y : Operand} (k : Nu → Nat) (e : Nu → Array Value) (hk : ∀ ν, k ν + (e ν).size ≤ (rowAt (L t ν) j).2.1.size) (hi : ∀ ν, (Try.prog.info? ty).map (·.size) = some (e ν).size) (h1 : ∀ ν, (e ν).all (·.oneCell') = true) (he : ∀ ν, setL (rowAt (L t ν) j).2.1 (k ν) (e ν).toList = (rowAt (L (t + 1) ν) j).2.1) (hf : ∀ ν, Fit (rowAt (L t ν) j).2.2 (rowAt (L (t + 1) ν) j).2.1) (ho : o.op = .store ty x y := by rfl) (hj : ∀ ν, (L t ν)[j]? = some (rowAt (L t ν) j) := by intro ν; kernel_rfl) (hL : ∀ ν, L (t + 1) ν = (L t ν).set j ((rowAt (L t ν) j).1, (rowAt (L (t + 1) ν) j).2.1, (rowAt (L t ν) j).2.2) := by intro ν; kernel_rfl) (hx : ∀ ν, (F ν).eval x = E (rowAt (L t ν) j).1 (k ν) := by intro ν; kernel_rfl) (hy : ∀ ν, (F ν).eval y = .agg (e ν) := by intro ν; kernel_rfl) (hd : o.dst = none := by rfl)
    (hp : plc b ops sts i t = true := by kernel_rfl) (hw : ∀ ν, Region.wanted o (yielded ops (F ν).tmps) = true := by intro ν; kernel_rfl) (hF : ∀ ν, (F ν).defers = [] := by intro ν; kernel_rfl) : Ob b Try.prog ops sts F (OI u L) i o := by
  refine SS_of t (fun ν _ _ => ν) (plc_spec hp).1 (plc_spec hp).2 hw (fun ν w K hO hK => ?_) hF
  have hj' : (L t ν)[j]? = some ((rowAt (L t ν) j).1, (rowAt (L t ν) j).2.1, (rowAt (L t ν) j).2.2) := hj ν
  have hB := Own.row hO j hj'
  refine wp_store_mid ty x y ho _ _ (e ν) (hx ν) (hy ν) (fun m hm => ⟨?_, hB.frozen _⟩) (hi ν) (h1 ν) ?_
  · have := hk ν
    rw [hB.cell, Array.getElem?_eq_getElem (by omega)]; rfl
  · refine hK _ _ (by rw [hd]; rfl) ?_
    show Own u _ (L (t + 1) ν)
    rw [hL]
    exact Own.put hO j hj' ((blk_setCells _ _ hB).cast (he ν)) (st1_cells _ _ w _) (hf ν)
end
end
end B
namespace Q
open H
/-- The cells of items: their weights, whether they are symbols. -/
def ic (l : List Pl) (j : Nat) : Value := match l[j / 2]? with
  | some p => if j % 2 = 0 then .int .u64 ((p.1 : Nat) : Int) else .bool p.2.1
  | none => .bool false
abbrev zvI : Value := .agg #[.int .u64 0, .bool false]
theorem el_i : El 76 79 2 zvI := ⟨Try.underlying76, by kernel_rfl, by kernel_rfl, rfl, by decide, rfl, by simp [Value.cells]; exact ⟨rfl, rfl⟩⟩
theorem sz_it (w : World) : (sizeOf 79).run Try.prog w = .ok 2 w := by kernel_rfl
theorem it_info : (Try.prog.info? 79).map (fun i => (i.zero, i.size, i.bytes)) = some (some zvI, 2, 16) := by kernel_rfl
theorem ic_one (l : List Pl) (j : Nat) : (ic l j).oneCell' = true := by
  unfold ic
  split
  · split <;> rfl
  · rfl
theorem ic_append {l m : List Pl} {j : Nat} (h : j < l.length * 2) : ic (l ++ m) j = ic l j := by
  unfold ic
  rw [List.getElem?_append_left (by omega)]
theorem ic_tail (p : Pl) (l : List Pl) (j : Nat) : ic (p :: l) (2 + j) = ic l j := by
  unfold ic
  rw [show (2 + j) / 2 = j / 2 + 1 by omega, List.getElem?_cons_succ, show (2 + j) % 2 = j % 2 by omega]
theorem ic_0 {l : List Pl} {i : Nat} (h : i < l.length) : ic l (i * 2) = .int .u64 ((l[i].1 : Nat) : Int) := by
  unfold ic
  rw [show i * 2 / 2 = i by omega, List.getElem?_eq_getElem h, show i * 2 % 2 = 0 by omega]
  rfl
theorem ic_1 {l : List Pl} {i : Nat} (h : i < l.length) : ic l (i * 2 + 1) = .bool l[i].2.1 := by
  unfold ic
  rw [show (i * 2 + 1) / 2 = i by omega, List.getElem?_eq_getElem h, show (i * 2 + 1) % 2 = 1 by omega]
  rfl
theorem ic_h0 (p : Pl) (l : List Pl) : ic (p :: l) 0 = .int .u64 ((p.1 : Nat) : Int) := rfl
theorem ic_h1 (p : Pl) (l : List Pl) : ic (p :: l) 1 = .bool p.2.1 := rfl
theorem ic_new {l : List Pl} (p : Pl) {i : Nat} (hi : i < 2) : #[Value.int .u64 ((p.1 : Nat) : Int), .bool p.2.1][i]? = some (ic (l ++ [p]) (l.length * 2 + i)) := by
  unfold ic
  rw [show (l.length * 2 + i) / 2 = l.length by omega, List.getElem?_append_right (Nat.le_refl _), Nat.sub_self]
  obtain rfl | rfl : i = 0 ∨ i = 1 := by omega
  · show _ = some (if (l.length * 2 + 0) % 2 = 0 then _ else _)
    rw [if_pos (by omega)]; rfl
  · show _ = some (if (l.length * 2 + 1) % 2 = 0 then _ else _)
    rw [if_neg (by omega)]; rfl
theorem cl_cong2 {z : Nat → Value} {N k : Nat} {f g : Nat → Value} (h : ∀ i, i < N → i < k → f i = g i) : cl z N k f = cl z N k g := cl_ext (cl_size ..) (cl_size ..) fun i hi => by
  rw [cl_get _ _ _ _ _ hi, cl_get _ _ _ _ _ hi]
  by_cases hk : i < k
  · rw [if_pos hk, if_pos hk, h i hi hk]
  · rw [if_neg hk, if_neg hk]
theorem fit_it {c : Array Value} (h : c.all (·.oneCell') = true) : Fit 79 c := ⟨(fun h => by cases h), h⟩
theorem fit_ic (N k : Nat) (l : List Pl) : Fit 79 (cl (zc 2 zvI) N k (ic l)) := fit_it (cl_one (fun i => by
  show ((#[Value.int .u64 0, .bool false] : Array Value).getD (i % 2) undef).oneCell' = true
  have : i % 2 = 0 ∨ i % 2 = 1 := by omega
  rcases this with h | h <;> rw [h] <;> rfl) (fun i _ => ic_one l i))
/-- An item more. -/
theorem ic_set {l : List Pl} {N k : Nat} (hk : k < N) (hl : k < l.length) : setL (cl (zc 2 zvI) (N * 2) (k * 2) (ic l)) (k * 2) (#[Value.int .u64 ((l[k].1 : Nat) : Int), .bool l[k].2.1] : Array Value).toList = cl (zc 2 zvI) (N * 2) ((k + 1) * 2) (ic l) := by
  rw [show (k + 1) * 2 = k * 2 + 2 by omega, ← room_cl (ic l) (N * 2) (k * 2) 2 (by omega)]
  congr 1
  show [_, _] = [ic l (k * 2 + 0), ic l (k * 2 + 1)]
  rw [Nat.add_zero, ic_0 hl, ic_1 hl]
set_option maxHeartbeats 4000000 in
theorem Weight_c (x : Nat) (s : Bool) (w : World) : Ret 48 #[.agg #[.int .u64 ((x : Nat) : Int), .bool s]] w (Nv .u64 x) := by
  go_enter Try.func48, Try.ntmps48
  have hO := Own.start w
  go_upto_region 0 with (fail)
  refine wp_region_list (WL.out ?_)
  refine g_new hO D (#[.int .u64 ((x : Nat) : Int), .bool s]) 79 (fit_it (by simp [Value.oneCell'])) (run_box 79 _ rfl _ (by kernel_rfl) w) ?_
  intro n1 w1 _ hO
  replace hO : Own w w1 [(n1, #[.int .u64 ((x : Nat) : Int), .bool s], 79)] := hO
  refine g_val (Nv .u64 0) ?_
  refine g_nil ?_
  simp only [Act.put, List.setIfInBounds_toArray, List.set_cons_succ, List.set_cons_zero]
  go_upto_region 1 with (fail)
  refine wp_region_list (WL.out ?_)
  refine g_val (D n1) ?_
  refine g_lc hO 0 0 (Nv .u64 x) rfl (rfl) agg_u64 ?_
  refine g_val (Nv .u64 x) ?_
  refine g_nil ?_
  simp only [Act.put, List.setIfInBounds_toArray, List.set_cons_succ, List.set_cons_zero]
  have HF := hide hO.low
  clear hO
  go_wp2_with (fail)
  go_ret
  exact ⟨rfl, HF.out⟩
set_option maxHeartbeats 8000000 in
theorem Pairs_c {S : Option Addr} {n c : Nat} {l : List Pl} (hn : n = l.length) (hb : n ≤ 2 ^ 20) (hl : ∀ p ∈ l, p.1 < 2 ^ 62) (w : World) (hS : Rc w S (n * 2) (ic l)) :
    RetP 50 #[.slice S n c] w fun x w' => ∃ q, x = .slice (some ⟨q, 0, none⟩) (n / 2) (n / 2) ∧ Own w w' [(q, cl (zc 2 zvI) (n / 2 * 2) (n / 2 * 2) (ic (pr pj l)), 79)] := by
  obtain ⟨h, hh⟩ : ∃ h, n / 2 = h := ⟨_, rfl⟩
  rw [hh]
  have hT : (pr pj l).length = h := by rw [pr_length, ← hn, hh]
  have Hh := hide hh
  go_enter Try.func50, Try.ntmps50
  have hO := Own.start w
  go_upto_region 0 with (fail)
  refine wp_region_list (WL.out ?_)
  refine g_val (.slice none 0 0) ?_
  refine g_nil ?_
  simp only [Act.put, List.setIfInBounds_toArray, List.set_cons_succ, List.set_cons_zero]
  go_upto_region 1 with (fail)
  refine wp_region_list (WL.out ?_)
  refine g_val (.slice S n c) ?_
  refine g_val (Nv .i64 n) ?_
  refine g_val (Nv .i64 h) ?_ (B.quo_int (a := n) (c := 2) (d := h) hh (by omega) (by omega) w)
  refine g_new hO (fun q => .slice (some ⟨q, 0, none⟩) h h) (cl (zc 2 zvI) (h * 2) (0 * 2) (ic (pr pj l))) 79 (fit_ic _ _ _) ((by rw [Nat.zero_mul]; exact b_mkN 76 79 2 16 zvI (ic (pr pj l)) Try.underlying76 it_info rfl (by decide) (Nat.le_refl _) (by omega) (by omega) w)) ?_
  intro n8 w1 hb8 hO
  replace hO : Own w w1 [(n8, cl (zc 2 zvI) (h * 2) (0 * 2) (ic (pr pj l)), 79)] := hO
  refine g_val (.slice (some ⟨n8, 0, none⟩) h h) ?_
  refine g_nil ?_
  simp only [Act.put, List.setIfInBounds_toArray, List.set_cons_succ, List.set_cons_zero]
  clear hh
  go_upto_region 2 with (fail)
  refine wp_region_list (WL.out ?_)
  refine g_val (.slice (some ⟨n8, 0, none⟩) h h) ?_
  refine g_val (Nv .i64 h) ?_
  refine g_val (Nv .i64 0) ?_
  refine g_nil ?_
  simp only [Act.put, List.setIfInBounds_toArray, List.set_cons_succ, List.set_cons_zero]
  have HO := hide hO
  clear hO
  go_wp2_with (fail)
  go_loopw [11] (fun x11 wr => ∃ k : Nat, k ≤ h ∧ x11 = .int .i64 (k : Int) ∧ Own w wr [(n8, cl (zc 2 zvI) (h * 2) (k * 2) (ic (pr pj l)), 79)]) (fun x11 _ => h - (intOf x11).toNat)
  case atStart => exact ⟨0, Nat.zero_le _, rfl, HO.out⟩
  case round =>
    clear HO
    obtain ⟨k, hk9, rfl, hO⟩ := hrel
    by_cases hz : k < h
    · have hk0 : 0 ≤ k := Nat.zero_le _
      go_upto_region 3 with (fail)
      refine wp_region_list (WL.out ?_)
      refine g_val (.bool true) ?_ (B.lss_int (a := k) (c := h) (b := true) (decide_eq_true hz) wr)
      refine g_nil ?_
      simp only [Act.put, List.setIfInBounds_toArray, List.set_cons_succ, List.set_cons_zero]
      have hkT : k < (pr pj l).length := by omega
      have h2k : 2 * k + 1 < l.length := by have := Hh.out; omega
      have hg := pr_get l k hkT
      have hlA := hl _ (List.getElem_mem (show 2 * k < l.length by omega))
      have hlB := hl _ (List.getElem_mem h2k)
      obtain ⟨x, hx⟩ : ∃ x, l[2 * k].1 = x := ⟨_, rfl⟩
      obtain ⟨y, hy⟩ : ∃ y, l[2 * k + 1].1 = y := ⟨_, rfl⟩
      obtain ⟨a, rfl, hcA⟩ := hS.cell (i := 2 * k * 2) (by omega)
      obtain ⟨a', ha', hcB⟩ := hS.cell (i := (2 * k + 1) * 2) (by omega)
      obtain rfl : a = a' := Option.some.inj ha'
      clear ha'
      rw [ic_0 (show 2 * k < l.length by omega), hx] at hcA
      rw [ic_0 h2k, hy] at hcB
      rw [hx] at hlA
      rw [hy] at hlB
      obtain ⟨pa, hA⟩ : ∃ z, Hid (a.add (2 * k * 2) = z) := ⟨_, hide rfl⟩
      obtain ⟨pb, hB⟩ : ∃ z, Hid (a.add ((2 * k + 1) * 2) = z) := ⟨_, hide rfl⟩
      have hcA9 : ∀ w', Below w.heap.size w w' → w'.cell? pa = some (Nv .u64 x) := fun w' h => by rw [← hA.out]; exact hcA w' h
      have hcB9 : ∀ w', Below w.heap.size w w' → w'.cell? pb = some (Nv .u64 y) := fun w' h => by rw [← hB.out]; exact hcB w' h
      have Hset : Hid (setL (cl (zc 2 zvI) (h * 2) (k * 2) (ic (pr pj l))) (k * 2) (#[Value.int .u64 ((x + y : Nat) : Int), .bool false] : Array Value).toList = cl (zc 2 zvI) (h * 2) ((k + 1) * 2) (ic (pr pj l))) := hide (by
        have h9 := ic_set (N := h) (l := pr pj l) hz hkT
        rw [hg] at h9
        rw [← hx, ← hy]
        exact h9)
      clear hcA hcB hx hy hg
      go_upto_region 4 with (fail)
      refine wp_region_list (WL.out ?_)
      refine g_val (Nv .i64 k) ?_
      refine g_val (Nv .i64 k) ?_
      refine g_nil ?_
      simp only [Act.put, List.setIfInBounds_toArray, List.set_cons_succ, List.set_cons_zero]
      go_upto_region 5 with (fail)
      refine Rg.pd [18] (fun _ => [(14, .slice (some ⟨n8, 0, none⟩) h h), (15, Nv .i64 k), (16, .slice (some a) n c), (17, Nv .i64 k), (18, Nv .i64 (2 * k)), (19, .pointer (some pa)), (20, .pointer (some pa)), (21, Nv .u64 x), (22, .slice (some a) n c), (23, Nv .i64 k), (24, Nv .i64 (2 * k)), (25, Nv .i64 (2 * k + 1)), (26, .pointer (some pb)), (27, .pointer (some pb)), (28, Nv .u64 y), (29, Nv .u64 (x + y)), (30, A (#[.int .u64 ((x + y : Nat) : Int), .bool false])), (31, E n8 (k * 2))]) (OI w (fun s ν => [[(n8, cl (zc 2 zvI) (h * 2) (k * 2) (ic (pr pj l)), 79)], [(n8, cl (zc 2 zvI) (h * 2) ((k + 1) * 2) (ic (pr pj l)), 79)]].getD s [])) (fun _ => 0) hO.drew (Rg.ac nv (Rg.ac nv (Rg.ac nv (Rg.ac nv (Rg.ac (nx (fun _ => Nv .i64 (2 * k)) (fun _ w => B.mul_int (a := 2) (c := k) (d := 2 * k) rfl (by omega) w)) (Rg.ac (nx (fun _ => .pointer (some pa)) (fun _ w => hA.out ▸ b_ix (n := n) (c := c) (k := 2 * k) (s := 2) (by omega) Try.underlying76 sz_it w)) (Rg.ac nv (Rg.ac (nca (Nv .u64 x) hcA9 agg_u64) (Rg.ac nv (Rg.ac nv (Rg.ac (nx (fun _ => Nv .i64 (2 * k)) (fun _ w => B.mul_int (a := 2) (c := k) (d := 2 * k) rfl (by omega) w)) (Rg.ac (nx (fun _ => Nv .i64 (2 * k + 1)) (fun _ w => B.add_int (a := 2 * k) (c := 1) (d := 2 * k + 1) rfl (by omega) w)) (Rg.ac (nx (fun _ => .pointer (some pb)) (fun _ w => hB.out ▸ b_ix (n := n) (c := c) (k := 2 * k + 1) (s := 2) (by omega) Try.underlying76 sz_it w)) (Rg.ac nv (Rg.ac (nca (Nv .u64 y) hcB9 agg_u64) (Rg.ac (nx (fun _ => Nv .u64 (x + y)) (fun _ w => B.add_u64 (a := x) (c := y) (d := x + y) rfl (by omega) w)) (Rg.ac (nx (fun _ => A (#[.int .u64 ((x + y : Nat) : Int), .bool false])) (fun _ w => run_bd 79 _ rfl [(0, Nv .u64 (x + y))] (by kernel_rfl) _ (by kernel_rfl) w)) (Rg.ac (nx (fun _ => E n8 (k * 2)) (fun _ w => b_ixr (n := h) (c := h) hz Try.underlying76 sz_it w)) (Rg.ac (smv 0 0 (fun _ => k * 2) (fun _ => #[.int .u64 ((x + y : Nat) : Int), .bool false]) (fun _ => by show k * 2 + 2 ≤ (cl (zc 2 zvI) (h * 2) (k * 2) (ic (pr pj l))).size; rw [cl_size]; omega) (fun _ => by kernel_rfl) (fun _ => by simp [Value.oneCell']) (fun _ => Hset.out) (fun _ => fit_ic _ _ _)) Rg.an))))))))))))))))))) ?_
      intro ν w2 hO
      replace hO : Own w w2 [(n8, cl (zc 2 zvI) (h * 2) ((k + 1) * 2) (ic (pr pj l)), 79)] := hO
      simp only [Rg.putL, Act.put, List.setIfInBounds_toArray, List.set_cons_succ, List.set_cons_zero]
      clear ν
      have HO := hide hO
      clear hO
      go_upto_region 6 with (fail)
      refine wp_region_list (WL.out ?_)
      refine g_val (Nv .i64 (k + 1)) ?_ (B.add_int (a := k) (c := 1) (d := k + 1) rfl (by omega) w2)
      refine g_val (Nv .i64 (k + 1)) ?_
      refine g_nil ?_
      simp only [Act.put, List.setIfInBounds_toArray, List.set_cons_succ, List.set_cons_zero]
      go_wp2_with (fail)
      go_roundw
      case rel => exact ⟨k + 1, hz, rfl, HO.out⟩
      case measure => show h - ((k + 1 : Nat) : Int).toNat < h - ((k : Nat) : Int).toNat; omega
    · obtain rfl : k = h := by omega
      clear hk9
      go_upto_region 3 with (fail)
      refine wp_region_list (WL.out ?_)
      refine g_val (.bool false) ?_ (B.lss_int (a := k) (c := k) (b := false) (decide_eq_false hz) wr)
      refine g_nil ?_
      simp only [Act.put, List.setIfInBounds_toArray, List.set_cons_succ, List.set_cons_zero]
      have HO := hide hO
      clear hO
      go_upto_region 7 with (fail)
      refine wp_region_list (WL.out ?_)
      refine g_val (.slice (some ⟨n8, 0, none⟩) k k) ?_
      refine g_val (.slice (some ⟨n8, 0, none⟩) k k) ?_
      refine g_nil ?_
      simp only [Act.put, List.setIfInBounds_toArray, List.set_cons_succ, List.set_cons_zero]
      go_wp2_with (fail)
      go_ret
      exact ⟨_, rfl, _, rfl, HO.out⟩
end Q
end Go.Proofs.Ytkljpidlfddgbaa

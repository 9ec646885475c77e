/- The law's cost: what lengths weigh, and whether they may be. At most a thousand counts; no other condition. -/
import Derived.Test.YtkljpidlfddgbaaRb
import Derived.Test.YtkljpidlfddgbaaHx
import Derived.Test.YtkljpidlfddgbaaRl
namespace Go.Proofs.Ytkljpidlfddgbaa
set_option maxRecDepth 100000
open Go.RowKit Rg B

namespace H
/-- These lengths may be. -/
def okC (cn : Nat → Nat) (z : Nat → Int) (L n : Nat) : Prop := ∀ i, i < n → 0 ≤ z i ∧ z i ≤ (L : Int) ∧ (z i = 0 ↔ cn i = 0)
/-- What they weigh. -/
def cst (cn : Nat → Nat) (z : Nat → Int) (n : Nat) : Nat := sg n fun i => cn i * (z i).toNat
theorem cst_next {cn : Nat → Nat} {z : Nat → Int} {k v : Nat} (h : z k = (v : Int)) : cst cn z k + cn k * v = cst cn z (k + 1) := by
  show _ = cst cn z k + cn k * (z k).toNat
  rw [h, Int.toNat_natCast]
theorem cst_le {cn : Nat → Nat} {z : Nat → Int} {L k : Nat} (hL : L ≤ 15) (hcn : ∀ i, cn i < 4294967296) (h : okC cn z L k) : cst cn z k ≤ k * 64424509440 := by
  rw [← sg_const]
  refine sg_le fun i hi => ?_
  have h1 := h i hi
  have h2 := hcn i
  exact Nat.le_trans (Nat.mul_le_mul (Nat.le_of_lt h2) (show (z i).toNat ≤ 15 by omega)) (by decide)
/-- What cost answers. -/
def CostP (cn : Nat → Nat) (z : Nat → Int) (L n : Nat) (w : World) (x : Value) (w' : World) : Prop := ((okC cn z L n ∧ x = .tuple #[Nv .u64 (cst cn z n), .bool true]) ∨ (¬ okC cn z L n ∧ x = .tuple #[Nv .u64 0, .bool false])) ∧ Below w.heap.size w w'
set_option maxHeartbeats 8000000 in
theorem Cost_c {S T : Option Addr} {n c d L : Nat} {cn : Nat → Nat} {z : Nat → Int} (hn : n ≤ 1000) (hL : L ≤ 15) (hcn : ∀ i, cn i < 4294967296) (w : World) (hS : Rc w S n (nw cn)) (hT : Rc w T n (zi z)) :
    RetP 15 #[.slice S n c, .slice T n d, Nv .i64 L] w (CostP cn z L n w) := by
  go_enter Try.func15, Try.ntmps15
  have hO := Own.start w
  go_upto_region 0 with (fail)
  refine wp_region_list (WL.out ?_)
  refine g_val (Nv .u64 0) ?_
  refine g_val (.bool false) ?_
  refine g_nil ?_
  simp only [Act.put, List.setIfInBounds_toArray, List.set_cons_succ, List.set_cons_zero]
  go_upto_region 1 with (fail)
  refine wp_region_list (WL.out ?_)
  refine g_val (Nv .u64 0) ?_
  refine g_nil ?_
  simp only [Act.put, List.setIfInBounds_toArray, List.set_cons_succ, List.set_cons_zero]
  go_upto_region 2 with (fail)
  refine wp_region_list (WL.out ?_)
  refine g_val (Nv .i64 0) ?_
  refine g_nil ?_
  simp only [Act.put, List.setIfInBounds_toArray, List.set_cons_succ, List.set_cons_zero]
  have HO := hide hO
  clear hO
  go_wp2_with (fail)
  go_loopw [8, 9] (fun x8 x9 wr => ∃ k : Nat, k ≤ n ∧ x9 = .int .i64 (k : Int) ∧ x8 = Nv .u64 (cst cn z k) ∧ (∀ i, i < k → 0 ≤ z i ∧ z i ≤ (L : Int) ∧ (z i = 0 ↔ cn i = 0)) ∧ Own w wr []) (fun _ x9 _ => n - (intOf x9).toNat)
  case atStart => exact ⟨0, Nat.zero_le _, rfl, rfl, (fun i hi => absurd hi (Nat.not_lt_zero i)), HO.out⟩
  case round =>
    clear HO
    obtain ⟨k, hk9, rfl, rfl, hcnd, hO⟩ := hrel
    by_cases hz : k < n
    · have hk0 : 0 ≤ k := Nat.zero_le _
      go_upto_region 3 with (fail)
      refine wp_region_list (WL.out ?_)
      refine g_val (Nv .i64 k) ?_
      refine g_val (.slice S n c) ?_
      refine g_val (Nv .i64 n) ?_
      refine g_val (.bool true) ?_ (B.lss_int (a := k) (c := n) (b := true) (decide_eq_true hz) wr)
      refine g_nil ?_
      simp only [Act.put, List.setIfInBounds_toArray, List.set_cons_succ, List.set_cons_zero]
      obtain ⟨a, rfl, hc0⟩ := hS.cell hz
      obtain ⟨b, rfl, hd0⟩ := hT.cell hz
      have hlow := hO.low
      have hck := hcn k
      have HO9 := hide hO
      clear hO
      have hO := Own.start wr
      have hc : ∀ w', Below wr.heap.size wr w' → w'.cell? (a.add k) = some (Nv .u32 (cn k)) := fun w' h => hc0 w' (hlow.trans (h.mono hlow.size))
      have hd : ∀ w', Below wr.heap.size wr w' → w'.cell? (b.add k) = some (.int .i64 (z k)) := fun w' h => hd0 w' (hlow.trans (h.mono hlow.size))
      clear hc0 hd0
      by_cases hneg : z k < 0
      · have hno : ¬ okC cn z L n := fun h => by have := (h k hz).1; omega
        go_upto_region 5 with (fail)
        refine Rg.pd [] (fun _ => [(16, .slice (some b) n d), (17, Nv .i64 k), (18, .pointer (some (b.add k))), (19, .int .i64 (z k)), (20, .bool true), (21, .bool true), (22, U), (23, U), (24, U), (25, U), (26, U), (27, U), (28, .bool true), (29, .bool true), (30, U), (31, U), (32, U), (33, U), (34, U), (35, U), (36, U), (37, U), (38, U), (39, U), (40, U), (41, .bool true)]) (OI wr (fun _ _ => [])) (fun _ => 0) hO.drew (Rg.ac nv (Rg.ac nv (Rg.ac (nx (fun _ => .pointer (some (b.add k))) (fun _ w => b_ixs (n := n) (c := d) hz Try.underlying25 sz_int w)) (Rg.ac (nca (.int .i64 (z k)) hd agg_int) (Rg.ac (nx (fun _ => .bool true) (fun _ w => lssI_int (a := z k) (c := 0) (decide_eq_true hneg) w)) (Rg.ac nv (Rg.ac nk (Rg.ac nk (Rg.ac nk (Rg.ac nk (Rg.ac nk (Rg.ac nk (Rg.ac nv (Rg.ac nv (Rg.ac nk (Rg.ac nk (Rg.ac nk (Rg.ac nk (Rg.ac nk (Rg.ac nk (Rg.ac nk (Rg.ac nk (Rg.ac nk (Rg.ac nk (Rg.ac nk (Rg.ac nv Rg.an)))))))))))))))))))))))))) ?_
        intro ν w1 hO
        replace hO : Own wr w1 [] := hO
        simp only [Rg.putL, Act.put, List.setIfInBounds_toArray, List.set_cons_succ, List.set_cons_zero]
        clear ν
        have hO9 := HO9.out.call hO.low
        clear hO
        have hO := hO9
        clear hO9 HO9
        go_upto_region 6 with (fail)
        refine wp_region_list (WL.out ?_)
        refine g_val (Nv .u64 0) ?_
        refine g_val (.bool false) ?_
        refine g_nil ?_
        simp only [Act.put, List.setIfInBounds_toArray, List.set_cons_succ, List.set_cons_zero]
        have HF := hide hO.low
        clear hO
        go_wp2_with (fail)
        go_ret2
        exact ⟨_, rfl, Or.inr ⟨hno, rfl⟩, HF.out⟩
      by_cases hgt : (L : Int) < z k
      · have hno : ¬ okC cn z L n := fun h => by have := (h k hz).2.1; omega
        go_upto_region 5 with (fail)
        refine Rg.pd [] (fun _ => [(16, .slice (some b) n d), (17, Nv .i64 k), (18, .pointer (some (b.add k))), (19, .int .i64 (z k)), (20, .bool false), (21, .bool false), (22, .slice (some b) n d), (23, Nv .i64 k), (24, .pointer (some (b.add k))), (25, .int .i64 (z k)), (26, Nv .i64 L), (27, .bool true), (28, .bool true), (29, .bool true), (30, U), (31, U), (32, U), (33, U), (34, U), (35, U), (36, U), (37, U), (38, U), (39, U), (40, U), (41, .bool true)]) (OI wr (fun _ _ => [])) (fun _ => 0) hO.drew (Rg.ac nv (Rg.ac nv (Rg.ac (nx (fun _ => .pointer (some (b.add k))) (fun _ w => b_ixs (n := n) (c := d) hz Try.underlying25 sz_int w)) (Rg.ac (nca (.int .i64 (z k)) hd agg_int) (Rg.ac (nx (fun _ => .bool false) (fun _ w => lssI_int (a := z k) (c := 0) (decide_eq_false hneg) w)) (Rg.ac nv (Rg.ac nv (Rg.ac nv (Rg.ac (nx (fun _ => .pointer (some (b.add k))) (fun _ w => b_ixs (n := n) (c := d) hz Try.underlying25 sz_int w)) (Rg.ac (nca (.int .i64 (z k)) hd agg_int) (Rg.ac nv (Rg.ac (nx (fun _ => .bool true) (fun _ w => gtrI_int (a := z k) (c := (L : Int)) (decide_eq_true hgt) w)) (Rg.ac nv (Rg.ac nv (Rg.ac nk (Rg.ac nk (Rg.ac nk (Rg.ac nk (Rg.ac nk (Rg.ac nk (Rg.ac nk (Rg.ac nk (Rg.ac nk (Rg.ac nk (Rg.ac nk (Rg.ac nv Rg.an)))))))))))))))))))))))))) ?_
        intro ν w1 hO
        replace hO : Own wr w1 [] := hO
        simp only [Rg.putL, Act.put, List.setIfInBounds_toArray, List.set_cons_succ, List.set_cons_zero]
        clear ν
        have hO9 := HO9.out.call hO.low
        clear hO
        have hO := hO9
        clear hO9 HO9
        go_upto_region 6 with (fail)
        refine wp_region_list (WL.out ?_)
        refine g_val (Nv .u64 0) ?_
        refine g_val (.bool false) ?_
        refine g_nil ?_
        simp only [Act.put, List.setIfInBounds_toArray, List.set_cons_succ, List.set_cons_zero]
        have HF := hide hO.low
        clear hO
        go_wp2_with (fail)
        go_ret2
        exact ⟨_, rfl, Or.inr ⟨hno, rfl⟩, HF.out⟩
      obtain ⟨v, hv⟩ : ∃ v : Nat, z k = (v : Int) := ⟨(z k).toNat, by omega⟩
      have hdv : ∀ w', Below wr.heap.size wr w' → w'.cell? (b.add k) = some (Nv .i64 v) := fun w' h => by have := hd w' h; rwa [hv] at this
      have hvL : v ≤ L := by omega
      by_cases hv0 : v = 0
      · have hvx := hv
        by_cases hc9 : cn k = 0
        · have hyes : 0 ≤ z k ∧ z k ≤ (L : Int) ∧ (z k = 0 ↔ cn k = 0) := by omega
          have hle := cst_le hL hcn hcnd
          have hnx := cst_next (cn := cn) hv
          have hmul : cn k * v ≤ 4294967295 * 15 := Nat.mul_le_mul (by omega) (by omega)
          go_upto_region 5 with (fail)
          refine Rg.pd [] (fun _ => [(16, .slice (some b) n d), (17, Nv .i64 k), (18, .pointer (some (b.add k))), (19, .int .i64 (z k)), (20, .bool false), (21, .bool false), (22, .slice (some b) n d), (23, Nv .i64 k), (24, .pointer (some (b.add k))), (25, .int .i64 (z k)), (26, Nv .i64 L), (27, .bool false), (28, .bool false), (29, .bool false), (30, .slice (some b) n d), (31, Nv .i64 k), (32, .pointer (some (b.add k))), (33, Nv .i64 v), (34, .bool true), (35, .slice (some a) n c), (36, Nv .i64 k), (37, .pointer (some (a.add k))), (38, Nv .u32 (cn k)), (39, .bool true), (40, .bool false), (41, .bool false)]) (OI wr (fun _ _ => [])) (fun _ => 0) hO.drew (Rg.ac nv (Rg.ac nv (Rg.ac (nx (fun _ => .pointer (some (b.add k))) (fun _ w => b_ixs (n := n) (c := d) hz Try.underlying25 sz_int w)) (Rg.ac (nca (.int .i64 (z k)) hd agg_int) (Rg.ac (nx (fun _ => .bool false) (fun _ w => lssI_int (a := z k) (c := 0) (decide_eq_false hneg) w)) (Rg.ac nv (Rg.ac nv (Rg.ac nv (Rg.ac (nx (fun _ => .pointer (some (b.add k))) (fun _ w => b_ixs (n := n) (c := d) hz Try.underlying25 sz_int w)) (Rg.ac (nca (.int .i64 (z k)) hd agg_int) (Rg.ac nv (Rg.ac (nx (fun _ => .bool false) (fun _ w => gtrI_int (a := z k) (c := (L : Int)) (decide_eq_false hgt) w)) (Rg.ac nv (Rg.ac nv (Rg.ac nv (Rg.ac nv (Rg.ac (nx (fun _ => .pointer (some (b.add k))) (fun _ w => b_ixs (n := n) (c := d) hz Try.underlying25 sz_int w)) (Rg.ac (nca (Nv .i64 v) hdv agg_int) (Rg.ac (nx (fun _ => .bool true) (fun _ w => B.eql_int (a := v) (c := 0) (b := true) (decide_eq_true hv0) w)) (Rg.ac nv (Rg.ac nv (Rg.ac (nx (fun _ => .pointer (some (a.add k))) (fun _ w => b_ixs (n := n) (c := c) hz Try.underlying23 sz_u32 w)) (Rg.ac (nca (Nv .u32 (cn k)) hc agg_u32) (Rg.ac (nx (fun _ => .bool true) (fun _ w => B.eql_u32 (a := cn k) (c := 0) (b := true) (decide_eq_true hc9) w)) (Rg.ac nv (Rg.ac nv Rg.an)))))))))))))))))))))))))) ?_
          intro ν w1 hO
          replace hO : Own wr w1 [] := hO
          simp only [Rg.putL, Act.put, List.setIfInBounds_toArray, List.set_cons_succ, List.set_cons_zero]
          clear ν
          go_upto_region 7 with (fail)
          refine Rg.pl 13 [] (fun _ => [(42, Nv .u64 (cst cn z k)), (43, .slice (some a) n c), (44, Nv .i64 k), (45, .pointer (some (a.add k))), (46, Nv .u32 (cn k)), (47, Nv .u64 (cn k)), (48, .slice (some b) n d), (49, Nv .i64 k), (50, .pointer (some (b.add k))), (51, Nv .i64 v), (52, Nv .u64 v), (53, Nv .u64 (cn k * v)), (54, Nv .u64 (cst cn z (k + 1)))]) (OI wr (fun _ _ => [])) (fun _ => 0) hO.drew (Rg.ac nv (Rg.ac nv (Rg.ac nv (Rg.ac (nx (fun _ => .pointer (some (a.add k))) (fun _ w => b_ixs (n := n) (c := c) hz Try.underlying23 sz_u32 w)) (Rg.ac (nca (Nv .u32 (cn k)) hc agg_u32) (Rg.ac (nx (fun _ => Nv .u64 (cn k)) (fun _ w => B.c_u32_u64 (a := cn k) (d := cn k) rfl (by omega) w)) (Rg.ac nv (Rg.ac nv (Rg.ac (nx (fun _ => .pointer (some (b.add k))) (fun _ w => b_ixs (n := n) (c := d) hz Try.underlying25 sz_int w)) (Rg.ac (nca (Nv .i64 v) hdv agg_int) (Rg.ac (nx (fun _ => Nv .u64 v) (fun _ w => B.c_int_u64 (a := v) (d := v) rfl (by omega) w)) (Rg.ac (nx (fun _ => Nv .u64 (cn k * v)) (fun _ w => B.mul_u64 (a := cn k) (c := v) (d := cn k * v) rfl (by omega) w)) (Rg.ac (nx (fun _ => Nv .u64 (cst cn z (k + 1))) (fun _ w => B.add_u64 (a := cst cn z k) (c := cn k * v) (d := cst cn z (k + 1)) hnx (by omega) w)) (Rg.ac (nm (fun _ => Nv .u64 (cst cn z (k + 1)))) Rg.an)))))))))))))) (fun _ => Nv .u64 (cst cn z (k + 1))) ?_
          intro ν w2 hO
          replace hO : Own wr w2 [] := hO
          simp only [Rg.putL, Act.put, List.setIfInBounds_toArray, List.set_cons_succ, List.set_cons_zero]
          clear ν
          have hO9 := HO9.out.call hO.low
          clear hO
          have hO := hO9
          clear hO9 HO9
          have HO := hide hO
          clear hO
          go_upto_region 4 with (fail)
          refine wp_region_list (WL.out ?_)
          refine g_val (Nv .i64 k) ?_
          refine g_val (Nv .i64 (k + 1)) ?_ (B.add_int (a := k) (c := 1) (d := k + 1) rfl (by omega) w2)
          refine g_val (Nv .i64 (k + 1)) ?_
          refine g_nil ?_
          simp only [Act.put, List.setIfInBounds_toArray, List.set_cons_succ, List.set_cons_zero]
          go_wp2_with (fail)
          go_roundw
          case rel => exact ⟨k + 1, hz, rfl, rfl, (fun i hi => by rcases Nat.lt_or_eq_of_le (Nat.le_of_lt_succ hi) with h | h; exact hcnd i h; subst h; exact hyes), HO.out⟩
          case measure => show n - ((k + 1 : Nat) : Int).toNat < n - ((k : Nat) : Int).toNat; omega
        · have hno : ¬ okC cn z L n := fun h => by have := (h k hz).2.2; omega
          go_upto_region 5 with (fail)
          refine Rg.pd [] (fun _ => [(16, .slice (some b) n d), (17, Nv .i64 k), (18, .pointer (some (b.add k))), (19, .int .i64 (z k)), (20, .bool false), (21, .bool false), (22, .slice (some b) n d), (23, Nv .i64 k), (24, .pointer (some (b.add k))), (25, .int .i64 (z k)), (26, Nv .i64 L), (27, .bool false), (28, .bool false), (29, .bool false), (30, .slice (some b) n d), (31, Nv .i64 k), (32, .pointer (some (b.add k))), (33, Nv .i64 v), (34, .bool true), (35, .slice (some a) n c), (36, Nv .i64 k), (37, .pointer (some (a.add k))), (38, Nv .u32 (cn k)), (39, .bool false), (40, .bool true), (41, .bool true)]) (OI wr (fun _ _ => [])) (fun _ => 0) hO.drew (Rg.ac nv (Rg.ac nv (Rg.ac (nx (fun _ => .pointer (some (b.add k))) (fun _ w => b_ixs (n := n) (c := d) hz Try.underlying25 sz_int w)) (Rg.ac (nca (.int .i64 (z k)) hd agg_int) (Rg.ac (nx (fun _ => .bool false) (fun _ w => lssI_int (a := z k) (c := 0) (decide_eq_false hneg) w)) (Rg.ac nv (Rg.ac nv (Rg.ac nv (Rg.ac (nx (fun _ => .pointer (some (b.add k))) (fun _ w => b_ixs (n := n) (c := d) hz Try.underlying25 sz_int w)) (Rg.ac (nca (.int .i64 (z k)) hd agg_int) (Rg.ac nv (Rg.ac (nx (fun _ => .bool false) (fun _ w => gtrI_int (a := z k) (c := (L : Int)) (decide_eq_false hgt) w)) (Rg.ac nv (Rg.ac nv (Rg.ac nv (Rg.ac nv (Rg.ac (nx (fun _ => .pointer (some (b.add k))) (fun _ w => b_ixs (n := n) (c := d) hz Try.underlying25 sz_int w)) (Rg.ac (nca (Nv .i64 v) hdv agg_int) (Rg.ac (nx (fun _ => .bool true) (fun _ w => B.eql_int (a := v) (c := 0) (b := true) (decide_eq_true hv0) w)) (Rg.ac nv (Rg.ac nv (Rg.ac (nx (fun _ => .pointer (some (a.add k))) (fun _ w => b_ixs (n := n) (c := c) hz Try.underlying23 sz_u32 w)) (Rg.ac (nca (Nv .u32 (cn k)) hc agg_u32) (Rg.ac (nx (fun _ => .bool false) (fun _ w => B.eql_u32 (a := cn k) (c := 0) (b := false) (decide_eq_false hc9) w)) (Rg.ac nv (Rg.ac nv Rg.an)))))))))))))))))))))))))) ?_
          intro ν w1 hO
          replace hO : Own wr w1 [] := hO
          simp only [Rg.putL, Act.put, List.setIfInBounds_toArray, List.set_cons_succ, List.set_cons_zero]
          clear ν
          have hO9 := HO9.out.call hO.low
          clear hO
          have hO := hO9
          clear hO9 HO9
          go_upto_region 6 with (fail)
          refine wp_region_list (WL.out ?_)
          refine g_val (Nv .u64 0) ?_
          refine g_val (.bool false) ?_
          refine g_nil ?_
          simp only [Act.put, List.setIfInBounds_toArray, List.set_cons_succ, List.set_cons_zero]
          have HF := hide hO.low
          clear hO
          go_wp2_with (fail)
          go_ret2
          exact ⟨_, rfl, Or.inr ⟨hno, rfl⟩, HF.out⟩
      · have hvx := hv
        by_cases hc9 : cn k = 0
        · have hno : ¬ okC cn z L n := fun h => by have := (h k hz).2.2; omega
          go_upto_region 5 with (fail)
          refine Rg.pd [] (fun _ => [(16, .slice (some b) n d), (17, Nv .i64 k), (18, .pointer (some (b.add k))), (19, .int .i64 (z k)), (20, .bool false), (21, .bool false), (22, .slice (some b) n d), (23, Nv .i64 k), (24, .pointer (some (b.add k))), (25, .int .i64 (z k)), (26, Nv .i64 L), (27, .bool false), (28, .bool false), (29, .bool false), (30, .slice (some b) n d), (31, Nv .i64 k), (32, .pointer (some (b.add k))), (33, Nv .i64 v), (34, .bool false), (35, .slice (some a) n c), (36, Nv .i64 k), (37, .pointer (some (a.add k))), (38, Nv .u32 (cn k)), (39, .bool true), (40, .bool true), (41, .bool true)]) (OI wr (fun _ _ => [])) (fun _ => 0) hO.drew (Rg.ac nv (Rg.ac nv (Rg.ac (nx (fun _ => .pointer (some (b.add k))) (fun _ w => b_ixs (n := n) (c := d) hz Try.underlying25 sz_int w)) (Rg.ac (nca (.int .i64 (z k)) hd agg_int) (Rg.ac (nx (fun _ => .bool false) (fun _ w => lssI_int (a := z k) (c := 0) (decide_eq_false hneg) w)) (Rg.ac nv (Rg.ac nv (Rg.ac nv (Rg.ac (nx (fun _ => .pointer (some (b.add k))) (fun _ w => b_ixs (n := n) (c := d) hz Try.underlying25 sz_int w)) (Rg.ac (nca (.int .i64 (z k)) hd agg_int) (Rg.ac nv (Rg.ac (nx (fun _ => .bool false) (fun _ w => gtrI_int (a := z k) (c := (L : Int)) (decide_eq_false hgt) w)) (Rg.ac nv (Rg.ac nv (Rg.ac nv (Rg.ac nv (Rg.ac (nx (fun _ => .pointer (some (b.add k))) (fun _ w => b_ixs (n := n) (c := d) hz Try.underlying25 sz_int w)) (Rg.ac (nca (Nv .i64 v) hdv agg_int) (Rg.ac (nx (fun _ => .bool false) (fun _ w => B.eql_int (a := v) (c := 0) (b := false) (decide_eq_false hv0) w)) (Rg.ac nv (Rg.ac nv (Rg.ac (nx (fun _ => .pointer (some (a.add k))) (fun _ w => b_ixs (n := n) (c := c) hz Try.underlying23 sz_u32 w)) (Rg.ac (nca (Nv .u32 (cn k)) hc agg_u32) (Rg.ac (nx (fun _ => .bool true) (fun _ w => B.eql_u32 (a := cn k) (c := 0) (b := true) (decide_eq_true hc9) w)) (Rg.ac nv (Rg.ac nv Rg.an)))))))))))))))))))))))))) ?_
          intro ν w1 hO
          replace hO : Own wr w1 [] := hO
          simp only [Rg.putL, Act.put, List.setIfInBounds_toArray, List.set_cons_succ, List.set_cons_zero]
          clear ν
          have hO9 := HO9.out.call hO.low
          clear hO
          have hO := hO9
          clear hO9 HO9
          go_upto_region 6 with (fail)
          refine wp_region_list (WL.out ?_)
          refine g_val (Nv .u64 0) ?_
          refine g_val (.bool false) ?_
          refine g_nil ?_
          simp only [Act.put, List.setIfInBounds_toArray, List.set_cons_succ, List.set_cons_zero]
          have HF := hide hO.low
          clear hO
          go_wp2_with (fail)
          go_ret2
          exact ⟨_, rfl, Or.inr ⟨hno, rfl⟩, HF.out⟩
        · have hyes : 0 ≤ z k ∧ z k ≤ (L : Int) ∧ (z k = 0 ↔ cn k = 0) := by omega
          have hle := cst_le hL hcn hcnd
          have hnx := cst_next (cn := cn) hv
          have hmul : cn k * v ≤ 4294967295 * 15 := Nat.mul_le_mul (by omega) (by omega)
          go_upto_region 5 with (fail)
          refine Rg.pd [] (fun _ => [(16, .slice (some b) n d), (17, Nv .i64 k), (18, .pointer (some (b.add k))), (19, .int .i64 (z k)), (20, .bool false), (21, .bool false), (22, .slice (some b) n d), (23, Nv .i64 k), (24, .pointer (some (b.add k))), (25, .int .i64 (z k)), (26, Nv .i64 L), (27, .bool false), (28, .bool false), (29, .bool false), (30, .slice (some b) n d), (31, Nv .i64 k), (32, .pointer (some (b.add k))), (33, Nv .i64 v), (34, .bool false), (35, .slice (some a) n c), (36, Nv .i64 k), (37, .pointer (some (a.add k))), (38, Nv .u32 (cn k)), (39, .bool false), (40, .bool false), (41, .bool false)]) (OI wr (fun _ _ => [])) (fun _ => 0) hO.drew (Rg.ac nv (Rg.ac nv (Rg.ac (nx (fun _ => .pointer (some (b.add k))) (fun _ w => b_ixs (n := n) (c := d) hz Try.underlying25 sz_int w)) (Rg.ac (nca (.int .i64 (z k)) hd agg_int) (Rg.ac (nx (fun _ => .bool false) (fun _ w => lssI_int (a := z k) (c := 0) (decide_eq_false hneg) w)) (Rg.ac nv (Rg.ac nv (Rg.ac nv (Rg.ac (nx (fun _ => .pointer (some (b.add k))) (fun _ w => b_ixs (n := n) (c := d) hz Try.underlying25 sz_int w)) (Rg.ac (nca (.int .i64 (z k)) hd agg_int) (Rg.ac nv (Rg.ac (nx (fun _ => .bool false) (fun _ w => gtrI_int (a := z k) (c := (L : Int)) (decide_eq_false hgt) w)) (Rg.ac nv (Rg.ac nv (Rg.ac nv (Rg.ac nv (Rg.ac (nx (fun _ => .pointer (some (b.add k))) (fun _ w => b_ixs (n := n) (c := d) hz Try.underlying25 sz_int w)) (Rg.ac (nca (Nv .i64 v) hdv agg_int) (Rg.ac (nx (fun _ => .bool false) (fun _ w => B.eql_int (a := v) (c := 0) (b := false) (decide_eq_false hv0) w)) (Rg.ac nv (Rg.ac nv (Rg.ac (nx (fun _ => .pointer (some (a.add k))) (fun _ w => b_ixs (n := n) (c := c) hz Try.underlying23 sz_u32 w)) (Rg.ac (nca (Nv .u32 (cn k)) hc agg_u32) (Rg.ac (nx (fun _ => .bool false) (fun _ w => B.eql_u32 (a := cn k) (c := 0) (b := false) (decide_eq_false hc9) w)) (Rg.ac nv (Rg.ac nv Rg.an)))))))))))))))))))))))))) ?_
          intro ν w1 hO
          replace hO : Own wr w1 [] := hO
          simp only [Rg.putL, Act.put, List.setIfInBounds_toArray, List.set_cons_succ, List.set_cons_zero]
          clear ν
          go_upto_region 7 with (fail)
          refine Rg.pl 13 [] (fun _ => [(42, Nv .u64 (cst cn z k)), (43, .slice (some a) n c), (44, Nv .i64 k), (45, .pointer (some (a.add k))), (46, Nv .u32 (cn k)), (47, Nv .u64 (cn k)), (48, .slice (some b) n d), (49, Nv .i64 k), (50, .pointer (some (b.add k))), (51, Nv .i64 v), (52, Nv .u64 v), (53, Nv .u64 (cn k * v)), (54, Nv .u64 (cst cn z (k + 1)))]) (OI wr (fun _ _ => [])) (fun _ => 0) hO.drew (Rg.ac nv (Rg.ac nv (Rg.ac nv (Rg.ac (nx (fun _ => .pointer (some (a.add k))) (fun _ w => b_ixs (n := n) (c := c) hz Try.underlying23 sz_u32 w)) (Rg.ac (nca (Nv .u32 (cn k)) hc agg_u32) (Rg.ac (nx (fun _ => Nv .u64 (cn k)) (fun _ w => B.c_u32_u64 (a := cn k) (d := cn k) rfl (by omega) w)) (Rg.ac nv (Rg.ac nv (Rg.ac (nx (fun _ => .pointer (some (b.add k))) (fun _ w => b_ixs (n := n) (c := d) hz Try.underlying25 sz_int w)) (Rg.ac (nca (Nv .i64 v) hdv agg_int) (Rg.ac (nx (fun _ => Nv .u64 v) (fun _ w => B.c_int_u64 (a := v) (d := v) rfl (by omega) w)) (Rg.ac (nx (fun _ => Nv .u64 (cn k * v)) (fun _ w => B.mul_u64 (a := cn k) (c := v) (d := cn k * v) rfl (by omega) w)) (Rg.ac (nx (fun _ => Nv .u64 (cst cn z (k + 1))) (fun _ w => B.add_u64 (a := cst cn z k) (c := cn k * v) (d := cst cn z (k + 1)) hnx (by omega) w)) (Rg.ac (nm (fun _ => Nv .u64 (cst cn z (k + 1)))) Rg.an)))))))))))))) (fun _ => Nv .u64 (cst cn z (k + 1))) ?_
          intro ν w2 hO
          replace hO : Own wr w2 [] := hO
          simp only [Rg.putL, Act.put, List.setIfInBounds_toArray, List.set_cons_succ, List.set_cons_zero]
          clear ν
          have hO9 := HO9.out.call hO.low
          clear hO
          have hO := hO9
          clear hO9 HO9
          have HO := hide hO
          clear hO
          go_upto_region 4 with (fail)
          refine wp_region_list (WL.out ?_)
          refine g_val (Nv .i64 k) ?_
          refine g_val (Nv .i64 (k + 1)) ?_ (B.add_int (a := k) (c := 1) (d := k + 1) rfl (by omega) w2)
          refine g_val (Nv .i64 (k + 1)) ?_
          refine g_nil ?_
          simp only [Act.put, List.setIfInBounds_toArray, List.set_cons_succ, List.set_cons_zero]
          go_wp2_with (fail)
          go_roundw
          case rel => exact ⟨k + 1, hz, rfl, rfl, (fun i hi => by rcases Nat.lt_or_eq_of_le (Nat.le_of_lt_succ hi) with h | h; exact hcnd i h; subst h; exact hyes), HO.out⟩
          case measure => show n - ((k + 1 : Nat) : Int).toNat < n - ((k : Nat) : Int).toNat; omega
    · obtain rfl : k = n := by omega
      clear hk9
      go_upto_region 3 with (fail)
      refine wp_region_list (WL.out ?_)
      refine g_val (Nv .i64 k) ?_
      refine g_val (.slice S k c) ?_
      refine g_val (Nv .i64 k) ?_
      refine g_val (.bool false) ?_ (B.lss_int (a := k) (c := k) (b := false) (decide_eq_false hz) wr)
      refine g_nil ?_
      simp only [Act.put, List.setIfInBounds_toArray, List.set_cons_succ, List.set_cons_zero]
      have HF := hide hO.low
      clear hO
      go_upto_region 8 with (fail)
      refine wp_region_list (WL.out ?_)
      refine g_val (Nv .u64 (cst cn z k)) ?_
      refine g_val (Nv .u64 (cst cn z k)) ?_
      refine g_val (.bool true) ?_
      refine g_nil ?_
      simp only [Act.put, List.setIfInBounds_toArray, List.set_cons_succ, List.set_cons_zero]
      go_wp2_with (fail)
      go_ret2
      exact ⟨_, rfl, Or.inl ⟨hcnd, rfl⟩, HF.out⟩
theorem okC_ln {cn : Nat → Nat} {z : Nat → Int} {L n : Nat} (hL : L ≤ 15) (h : okC cn z L n) : ∀ i, i < n → (ln z i = 0 ↔ cn i = 0) ∧ ln z i ≤ L := fun i hi => by
  have h1 := h i hi
  have e := ln_eq (z := z) (i := i) ⟨h1.1, by omega⟩
  exact ⟨⟨fun h0 => h1.2.2.1 (by omega), fun h0 => by have := h1.2.2.2 h0; omega⟩, by omega⟩
theorem okC_of {cn l : Nat → Nat} {L n : Nat} (h : ∀ i, i < n → (l i = 0 ↔ cn i = 0) ∧ l i ≤ L) : okC cn (fun i => ((l i : Nat) : Int)) L n := fun i hi => by
  have h1 := h i hi
  show 0 ≤ ((l i : Nat) : Int) ∧ ((l i : Nat) : Int) ≤ (L : Int) ∧ (((l i : Nat) : Int) = 0 ↔ cn i = 0)
  exact ⟨by omega, by omega, fun e => h1.1.1 (by omega), fun e => by have := h1.1.2 e; omega⟩
theorem cst_ln {cn : Nat → Nat} {z : Nat → Int} {L n : Nat} (hL : L ≤ 15) (h : okC cn z L n) : cst cn z n = sg n fun i => cn i * ln z i := sg_congr fun i hi => by
  have h1 := h i hi
  have e := ln_eq (z := z) (i := i) ⟨h1.1, by omega⟩
  rw [show (z i).toNat = ln z i by omega]
theorem cst_of {cn l : Nat → Nat} {n : Nat} : cst cn (fun i => ((l i : Nat) : Int)) n = sg n fun i => cn i * l i := sg_congr fun i _ => by rw [Int.toNat_natCast]
/-- Lengths that may be and have no more room weigh no less than the least. -/
theorem cost_lower {cn : Nat → Nat} {z : Nat → Int} {L n : Nat} {s : List Nat} (hL : L ≤ 15) (hs : Up (fun x => x) s) (hp : s.Perm (nz cn n)) (h : okC cn z L n) (hr : room (ln z) n ≤ 2 ^ 15) : sm (fun x => x) ((ls (fun x => x) (fun x y => x + y) s L).take (2 * s.length - 2)) ≤ cst cn z n := by
  rw [cst_ln hL h]
  exact (least_lower hL hs hp (okC_ln hL h) hr).2
/-- Single counts: how many are above 0. -/
theorem nz_many {cn : Nat → Nat} : ∀ n, (nz cn n).length = many cn n
  | 0 => rfl
  | n + 1 => by
    show _ = many cn n + (if 1 ≤ cn n then 1 else 0)
    rw [nz]
    by_cases h : cn n = 0
    · rw [if_pos h, if_neg (by omega), nz_many n, Nat.add_zero]
    · rw [if_neg h, if_pos (by omega), List.length_cons, nz_many n]
/-- The order of counts does not matter to those that are not 0. -/
theorem nz_filter {cn : Nat → Nat} : ∀ n, (nz cn n).Perm (((List.range n).map cn).filter fun x => decide (x ≠ 0))
  | 0 => List.Perm.refl _
  | n + 1 => by
    rw [nz, List.range_succ, List.map_append, List.filter_append]
    by_cases h : cn n = 0
    · rw [if_pos h]
      have e : (List.map cn [n]).filter (fun x => decide (x ≠ 0)) = [] := by simp [h]
      rw [e, List.append_nil]
      exact nz_filter n
    · rw [if_neg h]
      have e : (List.map cn [n]).filter (fun x => decide (x ≠ 0)) = [cn n] := by simp [h]
      rw [e]
      exact ((nz_filter n).cons _).trans (List.perm_append_comm (l₁ := [cn n]))
theorem nz_perm {cn dn : Nat → Nat} {n : Nat} (h : ((List.range n).map cn).Perm ((List.range n).map dn)) : (nz cn n).Perm (nz dn n) := (nz_filter n).trans ((h.filter _).trans (nz_filter n).symm)
/-- Counts turned by a places. -/
def trn (cn : Nat → Nat) (n a i : Nat) : Nat := if i < n - a then cn (a + i) else cn (i - (n - a))
theorem trn_perm {cn : Nat → Nat} {n a : Nat} (ha : a ≤ n) : ((List.range n).map cn).Perm ((List.range n).map (trn cn n a)) := by
  have e : (List.range n).map (trn cn n a) = ((List.range n).map cn).drop a ++ ((List.range n).map cn).take a := by
    apply List.ext_getElem
    · simp only [List.length_map, List.length_range, List.length_append, List.length_drop, List.length_take]; omega
    · intro i h1 h2
      simp only [List.length_map, List.length_range] at h1
      have hl : (((List.range n).map cn).drop a).length = n - a := by simp only [List.length_drop, List.length_map, List.length_range]
      rw [List.getElem_map, List.getElem_range]
      unfold trn
      by_cases h : i < n - a
      · rw [if_pos h, List.getElem_append_left (by rw [hl]; exact h), List.getElem_drop, List.getElem_map, List.getElem_range]
      · rw [if_neg h, List.getElem_append_right (by rw [hl]; omega), List.getElem_take, List.getElem_map, List.getElem_range, hl]
  rw [e]
  have h := List.perm_append_comm (l₁ := ((List.range n).map cn).take a) (l₂ := ((List.range n).map cn).drop a)
  rwa [List.take_append_drop] at h
end H
end Go.Proofs.Ytkljpidlfddgbaa

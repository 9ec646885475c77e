/- cmp.Compare; the closures that compare two symbols by their counts, by their lengths. No condition. -/
import Derived.Test.YtkljpidlfddgbaaSb
import Derived.Test.YtkljpidlfddgbaaRb
import Derived.Test.YtkljpidlfddgbaaRh
namespace Go.Proofs.Ytkljpidlfddgbaa
set_option maxRecDepth 100000
open Go.RowKit Rg B

namespace B
theorem agg_su (w : World) : (isAgg 23).run Try.prog w = .ok false w := by kernel_rfl
theorem sz_su (w : World) : (sizeOf 23).run Try.prog w = .ok 1 w := by kernel_rfl
theorem sz_si (w : World) : (sizeOf 25).run Try.prog w = .ok 1 w := by kernel_rfl
end B
namespace Q
open H
/-- What a comparison tells. -/
def cm (a b : Nat) : Int := if a < b then -1 else if b < a then 1 else 0
theorem cm_neg (a b : Nat) : decide (cm a b < 0) = decide (a < b) := by
  unfold cm
  by_cases h : a < b
  · rw [if_pos h]; simp [h]
  · rw [if_neg h]
    by_cases h' : b < a
    · rw [if_pos h']; simp [h]
    · rw [if_neg h']; simp [h]
set_option maxHeartbeats 4000000 in
theorem NaN32_c (x : Nat) (w : World) : Ret 57 #[Nv .u32 x] w (.bool false) := by
  go_enter Try.func57, Try.ntmps57
  have hO := Own.start w
  go_upto_region 0 with (fail)
  refine wp_region_list (WL.out ?_)
  refine g_val (.bool false) ?_
  refine g_nil ?_
  simp only [Act.put, List.setIfInBounds_toArray, List.set_cons_succ, List.set_cons_zero]
  go_upto_region 1 with (fail)
  refine wp_region_list (WL.out ?_)
  refine g_val (Nv .u32 x) ?_
  refine g_val (Nv .u32 x) ?_
  refine g_val (.bool false) ?_ (B.neq_u32 (a := x) (c := x) (b := false) (decide_eq_false (fun h => h rfl)) w)
  refine g_val (.bool false) ?_
  refine g_nil ?_
  simp only [Act.put, List.setIfInBounds_toArray, List.set_cons_succ, List.set_cons_zero]
  have HF := hide hO.low
  clear hO
  go_wp2_with (fail)
  first | exact ⟨rfl, HF.out⟩ | (go_ret; exact ⟨rfl, HF.out⟩)
set_option maxHeartbeats 4000000 in
theorem Cmp32_c (x y : Nat) (w : World) : Ret 46 #[Nv .u32 x, Nv .u32 y] w (.int .i64 (cm x y)) := by
  go_enter Try.func46, Try.ntmps46
  have hO := Own.start w
  go_upto_region 0 with (fail)
  refine wp_region_list (WL.out ?_)
  refine g_val (Nv .i64 0) ?_
  refine g_nil ?_
  simp only [Act.put, List.setIfInBounds_toArray, List.set_cons_succ, List.set_cons_zero]
  go_upto_region 1 with (fail)
  refine wp_region_list (WL.out ?_)
  refine g_val (Nv .u32 x) ?_
  refine g_call hO 57 #[Nv .u32 x] (.bool false) (NaN32_c x w) ?_
  intro w1 hb8 hO
  refine g_val (.bool false) ?_
  refine g_nil ?_
  simp only [Act.put, List.setIfInBounds_toArray, List.set_cons_succ, List.set_cons_zero]
  go_upto_region 2 with (fail)
  refine wp_region_list (WL.out ?_)
  refine g_val (Nv .u32 y) ?_
  refine g_call hO 57 #[Nv .u32 y] (.bool false) (NaN32_c y w1) ?_
  intro w2 hb10 hO
  refine g_val (.bool false) ?_
  refine g_nil ?_
  simp only [Act.put, List.setIfInBounds_toArray, List.set_cons_succ, List.set_cons_zero]
  go_upto_region 3 with (fail)
  refine wp_region_list (WL.out ?_)
  refine g_val (.bool false) ?_
  refine g_nil ?_
  simp only [Act.put, List.setIfInBounds_toArray, List.set_cons_succ, List.set_cons_zero]
  go_upto_region 7 with (fail)
  refine wp_region_list (WL.out ?_)
  refine g_val (.bool false) ?_
  refine g_nil ?_
  simp only [Act.put, List.setIfInBounds_toArray, List.set_cons_succ, List.set_cons_zero]
  have HF := hide hO.low
  by_cases h1 : x < y
  · have h1' := h1
    go_upto_region 9 with (fail)
    refine wp_region_list (WL.out ?_)
    refine g_val (Nv .u32 x) ?_
    refine g_val (Nv .u32 y) ?_
    refine g_val (.bool true) ?_ (B.lss_u32 (a := x) (c := y) (b := true) (decide_eq_true h1) w2)
    refine g_nil ?_
    simp only [Act.put, List.setIfInBounds_toArray, List.set_cons_succ, List.set_cons_zero]
    go_upto_region 10 with (fail)
    refine wp_region_list (WL.out ?_)
    refine g_val (.int .i64 (-1)) ?_
    refine g_nil ?_
    simp only [Act.put, List.setIfInBounds_toArray, List.set_cons_succ, List.set_cons_zero]
    have HF := hide hO.low
    clear hO
    go_wp2_with (fail)
    go_ret
    exact ⟨by rw [show cm x y = -1 from if_pos h1]; rfl, HF.out⟩
  · have h1' := h1
    go_upto_region 9 with (fail)
    refine wp_region_list (WL.out ?_)
    refine g_val (Nv .u32 x) ?_
    refine g_val (Nv .u32 y) ?_
    refine g_val (.bool false) ?_ (B.lss_u32 (a := x) (c := y) (b := false) (decide_eq_false h1) w2)
    refine g_nil ?_
    simp only [Act.put, List.setIfInBounds_toArray, List.set_cons_succ, List.set_cons_zero]
    by_cases h2 : y < x
    · have h2' := h2
      go_upto_region 11 with (fail)
      refine wp_region_list (WL.out ?_)
      refine g_val (Nv .u32 x) ?_
      refine g_val (Nv .u32 y) ?_
      refine g_val (.bool true) ?_ (B.gtr_u32 (a := x) (c := y) (b := true) (decide_eq_true h2) w2)
      refine g_nil ?_
      simp only [Act.put, List.setIfInBounds_toArray, List.set_cons_succ, List.set_cons_zero]
      go_upto_region 12 with (fail)
      refine wp_region_list (WL.out ?_)
      refine g_val (Nv .i64 1) ?_
      refine g_nil ?_
      simp only [Act.put, List.setIfInBounds_toArray, List.set_cons_succ, List.set_cons_zero]
      have HF := hide hO.low
      clear hO
      go_wp2_with (fail)
      go_ret
      exact ⟨by rw [show cm x y = 1 from (if_neg h1).trans (if_pos h2)]; rfl, HF.out⟩
    · have h2' := h2
      go_upto_region 11 with (fail)
      refine wp_region_list (WL.out ?_)
      refine g_val (Nv .u32 x) ?_
      refine g_val (Nv .u32 y) ?_
      refine g_val (.bool false) ?_ (B.gtr_u32 (a := x) (c := y) (b := false) (decide_eq_false h2) w2)
      refine g_nil ?_
      simp only [Act.put, List.setIfInBounds_toArray, List.set_cons_succ, List.set_cons_zero]
      go_upto_region 13 with (fail)
      refine wp_region_list (WL.out ?_)
      refine g_val (Nv .i64 0) ?_
      refine g_nil ?_
      simp only [Act.put, List.setIfInBounds_toArray, List.set_cons_succ, List.set_cons_zero]
      have HF := hide hO.low
      clear hO
      go_wp2_with (fail)
      go_ret
      exact ⟨by rw [show cm x y = 0 from (if_neg h1).trans (if_neg h2)]; rfl, HF.out⟩
set_option maxHeartbeats 4000000 in
theorem NaNI_c (x : Nat) (w : World) : Ret 58 #[Nv .i64 x] w (.bool false) := by
  go_enter Try.func58, Try.ntmps58
  have hO := Own.start w
  go_upto_region 0 with (fail)
  refine wp_region_list (WL.out ?_)
  refine g_val (.bool false) ?_
  refine g_nil ?_
  simp only [Act.put, List.setIfInBounds_toArray, List.set_cons_succ, List.set_cons_zero]
  go_upto_region 1 with (fail)
  refine wp_region_list (WL.out ?_)
  refine g_val (Nv .i64 x) ?_
  refine g_val (Nv .i64 x) ?_
  refine g_val (.bool false) ?_ (B.neq_int (a := x) (c := x) (b := false) (decide_eq_false (fun h => h rfl)) w)
  refine g_val (.bool false) ?_
  refine g_nil ?_
  simp only [Act.put, List.setIfInBounds_toArray, List.set_cons_succ, List.set_cons_zero]
  have HF := hide hO.low
  clear hO
  go_wp2_with (fail)
  first | exact ⟨rfl, HF.out⟩ | (go_ret; exact ⟨rfl, HF.out⟩)
set_option maxHeartbeats 4000000 in
theorem CmpI_c (x y : Nat) (w : World) : Ret 52 #[Nv .i64 x, Nv .i64 y] w (.int .i64 (cm x y)) := by
  go_enter Try.func52, Try.ntmps52
  have hO := Own.start w
  go_upto_region 0 with (fail)
  refine wp_region_list (WL.out ?_)
  refine g_val (Nv .i64 0) ?_
  refine g_nil ?_
  simp only [Act.put, List.setIfInBounds_toArray, List.set_cons_succ, List.set_cons_zero]
  go_upto_region 1 with (fail)
  refine wp_region_list (WL.out ?_)
  refine g_val (Nv .i64 x) ?_
  refine g_call hO 58 #[Nv .i64 x] (.bool false) (NaNI_c x w) ?_
  intro w1 hb8 hO
  refine g_val (.bool false) ?_
  refine g_nil ?_
  simp only [Act.put, List.setIfInBounds_toArray, List.set_cons_succ, List.set_cons_zero]
  go_upto_region 2 with (fail)
  refine wp_region_list (WL.out ?_)
  refine g_val (Nv .i64 y) ?_
  refine g_call hO 58 #[Nv .i64 y] (.bool false) (NaNI_c y w1) ?_
  intro w2 hb10 hO
  refine g_val (.bool false) ?_
  refine g_nil ?_
  simp only [Act.put, List.setIfInBounds_toArray, List.set_cons_succ, List.set_cons_zero]
  go_upto_region 3 with (fail)
  refine wp_region_list (WL.out ?_)
  refine g_val (.bool false) ?_
  refine g_nil ?_
  simp only [Act.put, List.setIfInBounds_toArray, List.set_cons_succ, List.set_cons_zero]
  go_upto_region 7 with (fail)
  refine wp_region_list (WL.out ?_)
  refine g_val (.bool false) ?_
  refine g_nil ?_
  simp only [Act.put, List.setIfInBounds_toArray, List.set_cons_succ, List.set_cons_zero]
  have HF := hide hO.low
  by_cases h1 : x < y
  · have h1' := h1
    go_upto_region 9 with (fail)
    refine wp_region_list (WL.out ?_)
    refine g_val (Nv .i64 x) ?_
    refine g_val (Nv .i64 y) ?_
    refine g_val (.bool true) ?_ (B.lss_int (a := x) (c := y) (b := true) (decide_eq_true h1) w2)
    refine g_nil ?_
    simp only [Act.put, List.setIfInBounds_toArray, List.set_cons_succ, List.set_cons_zero]
    go_upto_region 10 with (fail)
    refine wp_region_list (WL.out ?_)
    refine g_val (.int .i64 (-1)) ?_
    refine g_nil ?_
    simp only [Act.put, List.setIfInBounds_toArray, List.set_cons_succ, List.set_cons_zero]
    have HF := hide hO.low
    clear hO
    go_wp2_with (fail)
    go_ret
    exact ⟨by rw [show cm x y = -1 from if_pos h1]; rfl, HF.out⟩
  · have h1' := h1
    go_upto_region 9 with (fail)
    refine wp_region_list (WL.out ?_)
    refine g_val (Nv .i64 x) ?_
    refine g_val (Nv .i64 y) ?_
    refine g_val (.bool false) ?_ (B.lss_int (a := x) (c := y) (b := false) (decide_eq_false h1) w2)
    refine g_nil ?_
    simp only [Act.put, List.setIfInBounds_toArray, List.set_cons_succ, List.set_cons_zero]
    by_cases h2 : y < x
    · have h2' := h2
      go_upto_region 11 with (fail)
      refine wp_region_list (WL.out ?_)
      refine g_val (Nv .i64 x) ?_
      refine g_val (Nv .i64 y) ?_
      refine g_val (.bool true) ?_ (B.gtr_int (a := x) (c := y) (b := true) (decide_eq_true h2) w2)
      refine g_nil ?_
      simp only [Act.put, List.setIfInBounds_toArray, List.set_cons_succ, List.set_cons_zero]
      go_upto_region 12 with (fail)
      refine wp_region_list (WL.out ?_)
      refine g_val (Nv .i64 1) ?_
      refine g_nil ?_
      simp only [Act.put, List.setIfInBounds_toArray, List.set_cons_succ, List.set_cons_zero]
      have HF := hide hO.low
      clear hO
      go_wp2_with (fail)
      go_ret
      exact ⟨by rw [show cm x y = 1 from (if_neg h1).trans (if_pos h2)]; rfl, HF.out⟩
    · have h2' := h2
      go_upto_region 11 with (fail)
      refine wp_region_list (WL.out ?_)
      refine g_val (Nv .i64 x) ?_
      refine g_val (Nv .i64 y) ?_
      refine g_val (.bool false) ?_ (B.gtr_int (a := x) (c := y) (b := false) (decide_eq_false h2) w2)
      refine g_nil ?_
      simp only [Act.put, List.setIfInBounds_toArray, List.set_cons_succ, List.set_cons_zero]
      go_upto_region 13 with (fail)
      refine wp_region_list (WL.out ?_)
      refine g_val (Nv .i64 0) ?_
      refine g_nil ?_
      simp only [Act.put, List.setIfInBounds_toArray, List.set_cons_succ, List.set_cons_zero]
      have HF := hide hO.low
      clear hO
      go_wp2_with (fail)
      go_ret
      exact ⟨by rw [show cm x y = 0 from (if_neg h1).trans (if_neg h2)]; rfl, HF.out⟩
set_option maxHeartbeats 4000000 in
theorem CloU_c {n c B x y : Nat} {S : Option Addr} {k : Nat → Nat} (hx : x < n) (hy : y < n) (w : World) (hB : Blk w B #[.slice S n c] 23) (hS : Rc w S n (H.nw k)) : Ret 45 #[Nv .i64 x, Nv .i64 y, D B] w (.int .i64 (cm (k x) (k y))) := by
  obtain ⟨a, rfl, hcx⟩ := hS.cell hx
  obtain ⟨a', e, hcy⟩ := hS.cell hy
  obtain rfl := Option.some.inj e
  clear e
  go_enter Try.func45, Try.ntmps45
  have hO := Own.start w
  go_upto_region 0 with (fail)
  refine wp_region_list (WL.out ?_)
  refine g_val (Nv .i64 0) ?_
  refine g_nil ?_
  simp only [Act.put, List.setIfInBounds_toArray, List.set_cons_succ, List.set_cons_zero]
  clear hO
  have hO := Own.start w
  go_upto_region 1 with (fail)
  refine Rg.pl 9 [8] (fun _ => [(6, .slice (some a) n c), (7, Nv .i64 x), (8, .pointer (some (a.add x))), (9, Nv .u32 (k x)), (10, .slice (some a) n c), (11, Nv .i64 y), (12, .pointer (some (a.add y))), (13, Nv .u32 (k y)), (14, .int .i64 (cm (k x) (k y)))]) (OI w (fun s ν => [[], []].getD s [])) (fun _ => 0) hO.drew (Rg.ac (nco (k := 0) (.slice (some a) n c) hB rfl agg_su) (Rg.ac nv (Rg.ac (nx (fun _ => .pointer (some (a.add x))) (fun _ w => b_ixs (n := n) (c := c) hx Try.underlying23 sz_u32 w)) (Rg.ac (nca (Nv .u32 (k x)) hcx agg_u32) (Rg.ac (nco (k := 0) (.slice (some a) n c) hB rfl agg_su) (Rg.ac nv (Rg.ac (nx (fun _ => .pointer (some (a.add y))) (fun _ w => b_ixs (n := n) (c := c) hy Try.underlying23 sz_u32 w)) (Rg.ac (nca (Nv .u32 (k y)) hcy agg_u32) (Rg.ac (sc 0 46 (fun _ => #[Nv .u32 (k x), Nv .u32 (k y)]) (fun _ => .int .i64 (cm (k x) (k y))) (fun _ => Cmp32_c (k x) (k y))) (Rg.ac (nm (fun _ => .int .i64 (cm (k x) (k y)))) Rg.an)))))))))) (fun _ => .int .i64 (cm (k x) (k y))) ?_
  intro ν w1 hO
  replace hO : Own w w1 [] := hO
  simp only [Rg.putL, Act.put, List.setIfInBounds_toArray, List.set_cons_succ, List.set_cons_zero]
  clear ν
  have HF := hide hO.low
  clear hO hB hS hcx hcy
  go_wp2_with (fail)
  go_ret
  exact ⟨rfl, HF.out⟩
set_option maxHeartbeats 4000000 in
theorem CloL_c {n c B x y : Nat} {S : Option Addr} {k : Nat → Nat} (hx : x < n) (hy : y < n) (w : World) (hB : Blk w B #[.slice S n c] 25) (hS : Rc w S n (H.ni k)) : Ret 51 #[Nv .i64 x, Nv .i64 y, D B] w (.int .i64 (cm (k x) (k y))) := by
  obtain ⟨a, rfl, hcx⟩ := hS.cell hx
  obtain ⟨a', e, hcy⟩ := hS.cell hy
  obtain rfl := Option.some.inj e
  clear e
  go_enter Try.func51, Try.ntmps51
  have hO := Own.start w
  go_upto_region 0 with (fail)
  refine wp_region_list (WL.out ?_)
  refine g_val (Nv .i64 0) ?_
  refine g_nil ?_
  simp only [Act.put, List.setIfInBounds_toArray, List.set_cons_succ, List.set_cons_zero]
  clear hO
  have hO := Own.start w
  go_upto_region 1 with (fail)
  refine Rg.pl 9 [8] (fun _ => [(6, .slice (some a) n c), (7, Nv .i64 x), (8, .pointer (some (a.add x))), (9, Nv .i64 (k x)), (10, .slice (some a) n c), (11, Nv .i64 y), (12, .pointer (some (a.add y))), (13, Nv .i64 (k y)), (14, .int .i64 (cm (k x) (k y)))]) (OI w (fun s ν => [[], []].getD s [])) (fun _ => 0) hO.drew (Rg.ac (nco (k := 0) (.slice (some a) n c) hB rfl agg_si) (Rg.ac nv (Rg.ac (nx (fun _ => .pointer (some (a.add x))) (fun _ w => b_ixs (n := n) (c := c) hx Try.underlying25 sz_int w)) (Rg.ac (nca (Nv .i64 (k x)) hcx agg_int) (Rg.ac (nco (k := 0) (.slice (some a) n c) hB rfl agg_si) (Rg.ac nv (Rg.ac (nx (fun _ => .pointer (some (a.add y))) (fun _ w => b_ixs (n := n) (c := c) hy Try.underlying25 sz_int w)) (Rg.ac (nca (Nv .i64 (k y)) hcy agg_int) (Rg.ac (sc 0 52 (fun _ => #[Nv .i64 (k x), Nv .i64 (k y)]) (fun _ => .int .i64 (cm (k x) (k y))) (fun _ => CmpI_c (k x) (k y))) (Rg.ac (nm (fun _ => .int .i64 (cm (k x) (k y)))) Rg.an)))))))))) (fun _ => .int .i64 (cm (k x) (k y))) ?_
  intro ν w1 hO
  replace hO : Own w w1 [] := hO
  simp only [Rg.putL, Act.put, List.setIfInBounds_toArray, List.set_cons_succ, List.set_cons_zero]
  clear ν
  have HF := hide hO.low
  clear hO hB hS hcx hcy
  go_wp2_with (fail)
  go_ret
  exact ⟨rfl, HF.out⟩
end Q
end Go.Proofs.Ytkljpidlfddgbaa

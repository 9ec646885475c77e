/- Rows of whole numbers; swapRange and rotate of package slices. At most 2^40 places; no other condition. -/
import Derived.Test.YtkljpidlfddgbaaSl
import Derived.Test.YtkljpidlfddgbaaRb
namespace Go.Proofs.Ytkljpidlfddgbaa
set_option maxRecDepth 100000
open Go.RowKit Rg B

namespace Q
open H
/-- A row of whole numbers, the first n told. -/
def zI : Nat → Value := zc 1 (.int .i64 0)
def cI (N n : Nat) (f : Nat → Nat) : Array Value := cl zI N n (ni f)
theorem zI_one (i : Nat) : (zI i).oneCell' = true := by
  unfold zI zc
  rw [Nat.mod_one]
  rfl
theorem fit_cI (N n : Nat) (f : Nat → Nat) : Fit 3 (cI N n f) := ⟨(fun h => by cases h), cl_one zI_one fun _ _ => rfl⟩
theorem cI_get {N n : Nat} (hN : n ≤ N) (f : Nat → Nat) {i : Nat} (h : i < n) : (cI N n f)[i]? = some (.int .i64 ((f i : Nat) : Int)) := cl_at _ _ _ _ _ (by omega) h
theorem cI_set {N n : Nat} (_ : n ≤ N) (f : Nat → Nat) (v : Nat) {p : Nat} (h : p < n) : (cI N n f).setIfInBounds p (.int .i64 ((v : Nat) : Int)) = cI N n (fun x => if x = p then v else f x) := by
  unfold cI
  rw [cl_set _ h]
  refine cl_congr fun i _ => ?_
  dsimp only [ni]
  split <;> rfl
theorem sw_two (f : Nat → Nat) {i j : Nat} (h : i ≠ j) : (fun x => if x = j then f i else (if x = i then f j else f x)) = sw f i j := by
  funext x
  unfold sw
  by_cases h1 : x = i
  · rw [if_neg (by omega), if_pos h1, if_pos h1]
  · rw [if_neg h1, if_neg h1]
set_option maxHeartbeats 4000000 in
theorem SwapR_c {N n c a b m : Nat} {fv : Value} (hN : n ≤ N) (hn : n ≤ 2 ^ 40) (hd : a + m ≤ b) (hb : b + m ≤ n) (q : Nat) (f : Nat → Nat) (u : World) (M : List Row) (w : World) (hO : Own u w ((q, cI N n f, 3) :: M)) :
    Calls Try.prog 62 #[.slice (some ⟨q, 0, none⟩) n c, Nv .i64 a, Nv .i64 b, Nv .i64 m, fv] w fun e w' => e = .returned (.tuple #[]) ∧ Own u w' ((q, cI N n (swr f a b m), 3) :: M) := by
  go_enter Try.func62, Try.ntmps62
  rw [← swr_zero f a b] at hO
  go_upto_region 0 with (fail)
  refine wp_region_list (WL.out ?_)
  refine g_val (Nv .i64 0) ?_
  refine g_nil ?_
  simp only [Act.put, List.setIfInBounds_toArray, List.set_cons_succ, List.set_cons_zero]
  have HO := hide hO
  clear hO
  go_wp2_with (fail)
  go_loopw [10] (fun x10 wr => ∃ k : Nat, k ≤ m ∧ x10 = .int .i64 (k : Int) ∧ Own u wr ((q, cI N n (swr f a b k), 3) :: M)) (fun x10 _ => m - (intOf x10).toNat)
  case atStart => exact ⟨0, Nat.zero_le _, rfl, HO.out⟩
  case round =>
    clear HO
    obtain ⟨k, hk9, rfl, hO⟩ := hrel
    by_cases hz : k < m
    · have hk0 : 0 ≤ k := Nat.zero_le _
      go_upto_region 1 with (fail)
      refine wp_region_list (WL.out ?_)
      refine g_val (Nv .i64 k) ?_
      refine g_val (Nv .i64 m) ?_
      refine g_val (.bool true) ?_ (B.lss_int (a := k) (c := m) (b := true) (decide_eq_true hz) wr)
      refine g_nil ?_
      simp only [Act.put, List.setIfInBounds_toArray, List.set_cons_succ, List.set_cons_zero]
      have hi9 : a + k < n := by omega
      have hj9 : b + k < n := by omega
      have hne : a + k ≠ b + k := by omega
      have hnx := swr_next f hd hz
      obtain ⟨g, hg⟩ : ∃ g, g = swr f a b k := ⟨_, rfl⟩
      rw [← hg] at hO hnx
      go_upto_region 3 with (fail)
      refine Rg.pd [21, 23] (fun _ => [(16, .slice (some ⟨q, 0, none⟩) n c), (17, Nv .i64 a), (18, Nv .i64 k), (19, Nv .i64 (a + k)), (20, .slice (some ⟨q, 0, none⟩) n c), (21, Nv .i64 b), (22, Nv .i64 k), (23, Nv .i64 (b + k)), (24, .slice (some ⟨q, 0, none⟩) n c), (25, Nv .i64 b), (26, Nv .i64 k), (27, Nv .i64 (b + k)), (28, E q (b + k)), (29, Nv .i64 (g (b + k))), (30, .slice (some ⟨q, 0, none⟩) n c), (31, Nv .i64 a), (32, Nv .i64 k), (33, Nv .i64 (a + k)), (34, E q (a + k)), (35, Nv .i64 (g (a + k))), (36, E q (a + k)), (37, E q (b + k))]) (OI u (fun s ν => [((q, cI N n g, 3) :: M), ((q, cI N n (fun x => if x = a + k then g (b + k) else g x), 3) :: M), ((q, cI N n (fun x => if x = b + k then g (a + k) else (if x = a + k then g (b + k) else g x)), 3) :: M)].getD s [])) (fun _ => 0) hO.drew (Rg.ac nv (Rg.ac nv (Rg.ac nv (Rg.ac (nx (fun _ => Nv .i64 (a + k)) (fun _ w => B.add_int (a := a) (c := k) (d := a + k) rfl (by omega) w)) (Rg.ac nv (Rg.ac nv (Rg.ac nv (Rg.ac (nx (fun _ => Nv .i64 (b + k)) (fun _ w => B.add_int (a := b) (c := k) (d := b + k) rfl (by omega) w)) (Rg.ac nv (Rg.ac nv (Rg.ac nv (Rg.ac (nx (fun _ => Nv .i64 (b + k)) (fun _ w => B.add_int (a := b) (c := k) (d := b + k) rfl (by omega) w)) (Rg.ac (nx (fun _ => E q (b + k)) (fun _ w => b_isq (n := n) (c := c) hj9 Try.underlying25 sz_int w)) (Rg.ac (nc 0 0 0 (fun _ => b + k) (fun _ => Nv .i64 (g (b + k))) B.agg_int (fun _ => cI_get hN g hj9) (at1 0 fun _ => by kernel_rfl)) (Rg.ac nv (Rg.ac nv (Rg.ac nv (Rg.ac (nx (fun _ => Nv .i64 (a + k)) (fun _ w => B.add_int (a := a) (c := k) (d := a + k) rfl (by omega) w)) (Rg.ac (nx (fun _ => E q (a + k)) (fun _ w => b_isq (n := n) (c := c) hi9 Try.underlying25 sz_int w)) (Rg.ac (nc 0 0 0 (fun _ => a + k) (fun _ => Nv .i64 (g (a + k))) B.agg_int (fun _ => cI_get hN g hi9) (at1 0 fun _ => by kernel_rfl)) (Rg.ac (nx (fun _ => E q (a + k)) (fun _ w => b_isq (n := n) (c := c) hi9 Try.underlying25 sz_int w)) (Rg.ac (sl 0 0 (fun _ => a + k) (fun _ => .int .i64 ((g (a + k) : Nat) : Int)) (fun _ => ((g (b + k) : Nat) : Int)) B.sz_int (fun _ => cI_get hN g hi9) (fun _ => cI_set hN g _ hi9) (fun _ => fit_cI _ _ _)) (Rg.ac (nx (fun _ => E q (b + k)) (fun _ w => b_isq (n := n) (c := c) hj9 Try.underlying25 sz_int w)) (Rg.ac (sl 1 0 (fun _ => b + k) (fun _ => .int .i64 ((if b + k = a + k then g (b + k) else g (b + k) : Nat) : Int)) (fun _ => ((g (a + k) : Nat) : Int)) B.sz_int (fun _ => cI_get hN (fun x => if x = a + k then g (b + k) else g x) hj9) (fun _ => cI_set hN (fun x => if x = a + k then g (b + k) else g x) _ hj9) (fun _ => fit_cI _ _ _)) Rg.an)))))))))))))))))))))))) ?_
      intro ν w1 hO
      replace hO : Own u w1 ((q, cI N n (fun x => if x = b + k then g (a + k) else (if x = a + k then g (b + k) else g x)), 3) :: M) := hO
      simp only [Rg.putL, Act.put, List.setIfInBounds_toArray, List.set_cons_succ, List.set_cons_zero]
      clear ν
      rw [sw_two g hne] at hO
      rw [hnx] at hO
      clear hg hnx
      have HO := hide hO
      clear hO
      go_upto_region 2 with (fail)
      refine wp_region_list (WL.out ?_)
      refine g_val (Nv .i64 k) ?_
      refine g_val (Nv .i64 (k + 1)) ?_ (B.add_int (a := k) (c := 1) (d := k + 1) rfl (by omega) w1)
      refine g_val (Nv .i64 (k + 1)) ?_
      refine g_nil ?_
      simp only [Act.put, List.setIfInBounds_toArray, List.set_cons_succ, List.set_cons_zero]
      go_wp2_with (fail)
      go_roundw
      case rel => exact ⟨k + 1, hz, rfl, HO.out⟩
      case measure => show m - ((k + 1 : Nat) : Int).toNat < m - ((k : Nat) : Int).toNat; omega
    · obtain rfl : k = m := by omega
      clear hk9
      go_upto_region 1 with (fail)
      refine wp_region_list (WL.out ?_)
      refine g_val (Nv .i64 k) ?_
      refine g_val (Nv .i64 k) ?_
      refine g_val (.bool false) ?_ (B.lss_int (a := k) (c := k) (b := false) (decide_eq_false hz) wr)
      refine g_nil ?_
      simp only [Act.put, List.setIfInBounds_toArray, List.set_cons_succ, List.set_cons_zero]
      have HO := hide hO
      clear hO
      go_wp2_with (fail)
      go_end0
      exact ⟨rfl, HO.out⟩
set_option maxHeartbeats 4000000 in
theorem Rot_c {N n c a m b : Nat} {fv : Value} (hN : n ≤ N) (hn : n ≤ 2 ^ 40) (ham : a < m) (hmb : m < b) (hb : b ≤ n) (q : Nat) (f : Nat → Nat) (u : World) (M : List Row) (w : World) (hO : Own u w ((q, cI N n f, 3) :: M)) :
    Calls Try.prog 61 #[.slice (some ⟨q, 0, none⟩) n c, Nv .i64 a, Nv .i64 m, Nv .i64 b, fv] w fun e w' => e = .returned (.tuple #[]) ∧ Own u w' ((q, cI N n (rot f a m b), 3) :: M) := by
  go_enter Try.func61, Try.ntmps61
  go_upto_region 0 with (fail)
  refine wp_region_list (WL.out ?_)
  refine g_val (Nv .i64 m) ?_
  refine g_val (Nv .i64 a) ?_
  refine g_val (Nv .i64 (m - a)) ?_ (B.sub_int (a := m) (c := a) (d := m - a) (by omega) (by omega) w)
  refine g_val (Nv .i64 (m - a)) ?_
  refine g_nil ?_
  simp only [Act.put, List.setIfInBounds_toArray, List.set_cons_succ, List.set_cons_zero]
  go_upto_region 1 with (fail)
  refine wp_region_list (WL.out ?_)
  refine g_val (Nv .i64 b) ?_
  refine g_val (Nv .i64 m) ?_
  refine g_val (Nv .i64 (b - m)) ?_ (B.sub_int (a := b) (c := m) (d := b - m) (by omega) (by omega) w)
  refine g_val (Nv .i64 (b - m)) ?_
  refine g_nil ?_
  simp only [Act.put, List.setIfInBounds_toArray, List.set_cons_succ, List.set_cons_zero]
  have HO := hide hO
  clear hO
  go_wp2_with (fail)
  go_loopw [10, 11] (fun x10 x11 wr => ∃ (i j : Nat) (g : Nat → Nat), x10 = .int .i64 (i : Int) ∧ x11 = .int .i64 (j : Int) ∧ 0 < i ∧ i ≤ m - a ∧ 0 < j ∧ j ≤ b - m ∧ rot g (m - i) m (m + j) = rot f a m b ∧ Own u wr ((q, cI N n g, 3) :: M)) (fun x10 x11 _ => (intOf x10).toNat + (intOf x11).toNat)
  case atStart => exact ⟨m - a, b - m, f, rfl, rfl, by omega, Nat.le_refl _, by omega, Nat.le_refl _, by rw [show m - (m - a) = a by omega, show m + (b - m) = b by omega], HO.out⟩
  case round =>
    clear HO
    obtain ⟨i, j, g, rfl, rfl, hi0, hi1, hj0, hj1, hrot, hO⟩ := hrel
    by_cases hne : i = j
    · subst hne
      go_upto_region 2 with (fail)
      refine wp_region_list (WL.out ?_)
      refine g_val (Nv .i64 i) ?_
      refine g_val (Nv .i64 i) ?_
      refine g_val (.bool false) ?_ (B.neq_int (a := i) (c := i) (b := false) (decide_eq_false (fun h => h rfl)) wr)
      refine g_nil ?_
      simp only [Act.put, List.setIfInBounds_toArray, List.set_cons_succ, List.set_cons_zero]
      go_upto_region 8 with (fail)
      refine wp_region_list (WL.out ?_)
      refine g_val (.slice (some ⟨q, 0, none⟩) n c) ?_
      refine g_val (Nv .i64 m) ?_
      refine g_val (Nv .i64 i) ?_
      refine g_val (Nv .i64 (m - i)) ?_ (B.sub_int (a := m) (c := i) (d := m - i) (by omega) (by omega) wr)
      refine g_val (Nv .i64 m) ?_
      refine g_val (Nv .i64 i) ?_
      refine g_val (fv) ?_
      refine g_chg (L' := ((q, cI N n (swr g (m - i) m i), 3) :: M)) 62 #[.slice (some ⟨q, 0, none⟩) n c, Nv .i64 (m - i), Nv .i64 m, Nv .i64 i, fv] (.tuple #[]) (SwapR_c hN hn (by omega) (by omega) q g u M wr hO) ?_
      intro w1 hO
      refine g_nil ?_
      simp only [Act.put, List.setIfInBounds_toArray, List.set_cons_succ, List.set_cons_zero]
      rw [rot_even g (by omega), hrot] at hO
      have HO := hide hO
      clear hO hrot
      go_wp2_with (fail)
      go_end0
      exact ⟨rfl, HO.out⟩
    · have hne' := hne
      go_upto_region 2 with (fail)
      refine wp_region_list (WL.out ?_)
      refine g_val (Nv .i64 i) ?_
      refine g_val (Nv .i64 j) ?_
      refine g_val (.bool true) ?_ (B.neq_int (a := i) (c := j) (b := true) (decide_eq_true hne) wr)
      refine g_nil ?_
      simp only [Act.put, List.setIfInBounds_toArray, List.set_cons_succ, List.set_cons_zero]
      by_cases hgt : j < i
      · have hgt' := hgt
        go_upto_region 3 with (fail)
        refine wp_region_list (WL.out ?_)
        refine g_val (Nv .i64 i) ?_
        refine g_val (Nv .i64 j) ?_
        refine g_val (.bool true) ?_ (B.gtr_int (a := i) (c := j) (b := true) (decide_eq_true hgt) wr)
        refine g_nil ?_
        simp only [Act.put, List.setIfInBounds_toArray, List.set_cons_succ, List.set_cons_zero]
        go_upto_region 4 with (fail)
        refine wp_region_list (WL.out ?_)
        refine g_val (.slice (some ⟨q, 0, none⟩) n c) ?_
        refine g_val (Nv .i64 m) ?_
        refine g_val (Nv .i64 i) ?_
        refine g_val (Nv .i64 (m - i)) ?_ (B.sub_int (a := m) (c := i) (d := m - i) (by omega) (by omega) wr)
        refine g_val (Nv .i64 m) ?_
        refine g_val (Nv .i64 j) ?_
        refine g_val (fv) ?_
        refine g_chg (L' := ((q, cI N n (swr g (m - i) m j), 3) :: M)) 62 #[.slice (some ⟨q, 0, none⟩) n c, Nv .i64 (m - i), Nv .i64 m, Nv .i64 j, fv] (.tuple #[]) (SwapR_c hN hn (by omega) (by omega) q g u M wr hO) ?_
        intro w1 hO
        refine g_nil ?_
        simp only [Act.put, List.setIfInBounds_toArray, List.set_cons_succ, List.set_cons_zero]
        have hrot2 : rot (swr g (m - i) m j) (m - (i - j)) m (m + j) = rot f a m b := (rot_big g hgt (by omega)).trans hrot
        have HO := hide hO
        clear hO
        go_upto_region 5 with (fail)
        refine wp_region_list (WL.out ?_)
        refine g_val (Nv .i64 i) ?_
        refine g_val (Nv .i64 j) ?_
        refine g_val (Nv .i64 (i - j)) ?_ (B.sub_int (a := i) (c := j) (d := i - j) (by omega) (by omega) w1)
        refine g_val (Nv .i64 (i - j)) ?_
        refine g_nil ?_
        simp only [Act.put, List.setIfInBounds_toArray, List.set_cons_succ, List.set_cons_zero]
        go_wp2_with (fail)
        go_roundw
        case rel => exact ⟨i - j, j, _, rfl, rfl, by omega, by omega, hj0, hj1, hrot2, HO.out⟩
        case measure => show ((i - j : Nat) : Int).toNat + ((j : Nat) : Int).toNat < ((i : Nat) : Int).toNat + ((j : Nat) : Int).toNat; omega
      · have hlt : i < j := by omega
        go_upto_region 3 with (fail)
        refine wp_region_list (WL.out ?_)
        refine g_val (Nv .i64 i) ?_
        refine g_val (Nv .i64 j) ?_
        refine g_val (.bool false) ?_ (B.gtr_int (a := i) (c := j) (b := false) (decide_eq_false hgt) wr)
        refine g_nil ?_
        simp only [Act.put, List.setIfInBounds_toArray, List.set_cons_succ, List.set_cons_zero]
        go_upto_region 6 with (fail)
        refine wp_region_list (WL.out ?_)
        refine g_val (.slice (some ⟨q, 0, none⟩) n c) ?_
        refine g_val (Nv .i64 m) ?_
        refine g_val (Nv .i64 i) ?_
        refine g_val (Nv .i64 (m - i)) ?_ (B.sub_int (a := m) (c := i) (d := m - i) (by omega) (by omega) wr)
        refine g_val (Nv .i64 m) ?_
        refine g_val (Nv .i64 j) ?_
        refine g_val (Nv .i64 (m + j)) ?_ (B.add_int (a := m) (c := j) (d := m + j) rfl (by omega) wr)
        refine g_val (Nv .i64 i) ?_
        refine g_val (Nv .i64 (m + j - i)) ?_ (B.sub_int (a := m + j) (c := i) (d := m + j - i) (by omega) (by omega) wr)
        refine g_val (Nv .i64 i) ?_
        refine g_val (fv) ?_
        refine g_chg (L' := ((q, cI N n (swr g (m - i) (m + j - i) i), 3) :: M)) 62 #[.slice (some ⟨q, 0, none⟩) n c, Nv .i64 (m - i), Nv .i64 (m + j - i), Nv .i64 i, fv] (.tuple #[]) (SwapR_c hN hn (by omega) (by omega) q g u M wr hO) ?_
        intro w1 hO
        refine g_nil ?_
        simp only [Act.put, List.setIfInBounds_toArray, List.set_cons_succ, List.set_cons_zero]
        have hrot2 : rot (swr g (m - i) (m + j - i) i) (m - i) m (m + (j - i)) = rot f a m b := (rot_small g hlt (by omega)).trans hrot
        have HO := hide hO
        clear hO
        go_upto_region 7 with (fail)
        refine wp_region_list (WL.out ?_)
        refine g_val (Nv .i64 j) ?_
        refine g_val (Nv .i64 i) ?_
        refine g_val (Nv .i64 (j - i)) ?_ (B.sub_int (a := j) (c := i) (d := j - i) (by omega) (by omega) w1)
        refine g_val (Nv .i64 (j - i)) ?_
        refine g_nil ?_
        simp only [Act.put, List.setIfInBounds_toArray, List.set_cons_succ, List.set_cons_zero]
        go_wp2_with (fail)
        go_roundw
        case rel => exact ⟨i, j - i, _, rfl, rfl, hi0, hi1, by omega, by omega, hrot2, HO.out⟩
        case measure => show ((i : Nat) : Int).toNat + ((j - i : Nat) : Int).toNat < ((i : Nat) : Int).toNat + ((j : Nat) : Int).toNat; omega
end Q
end Go.Proofs.Ytkljpidlfddgbaa

/- Walks: times. A number and a key whose product is below 2^256. -/
import Derived.Test.YtanahjoiilfcbaaDoorKb
namespace Go.Proofs.YtanahjoiilfcbaaDoor
set_option maxRecDepth 100000
open Go.RowKit Rg

/-- The product so far, and what the inner rounds add. -/
def prd (x y k : Nat) : Nat := x % 2 ^ (64 * k) * y
def sj (x y k j : Nat) : Nat := prd x y k % 2 ^ (64 * (k + j)) + limb x k * (y % 2 ^ (64 * j)) * 2 ^ (64 * k)
def cj (x y k j : Nat) : Nat := sj x y k j / 2 ^ (64 * (k + j))
def wj (x y k j i : Nat) : Nat := if i < k + j then limb (sj x y k j) i else limb (prd x y k) i

theorem sj_succ (x y k j : Nat) : sj x y k (j + 1) = sj x y k j + 2 ^ (64 * (k + j)) * (limb x k * limb y j + limb (prd x y k) (k + j)) := by
  unfold sj
  rw [← Nat.add_assoc, mod_succ, mod_succ, pw_add k j]
  generalize prd x y k % (2 ^ (64 * k) * 2 ^ (64 * j)) = a
  generalize limb (prd x y k) (k + j) = t
  generalize limb x k = X
  generalize limb y j = l
  generalize y % 2 ^ (64 * j) = b
  generalize 2 ^ (64 * k) = K
  generalize 2 ^ (64 * j) = J
  rw [Nat.mul_add X, Nat.add_mul, Nat.mul_add (K * J)]
  have : X * (J * l) * K = K * J * (X * l) := by
    rw [Nat.mul_comm K J, Nat.mul_left_comm X J l, Nat.mul_assoc J K, Nat.mul_assoc J, Nat.mul_comm K]
  omega
theorem cj_lt (x y k j : Nat) : cj x y k j < 2 ^ 64 := by
  unfold cj
  apply Nat.div_lt_of_lt_mul
  unfold sj
  have h1 : prd x y k % 2 ^ (64 * (k + j)) < 2 ^ (64 * (k + j)) := Nat.mod_lt _ (pos64 _)
  have h2 : y % 2 ^ (64 * j) ≤ 2 ^ (64 * j) := Nat.le_of_lt (Nat.mod_lt _ (pos64 _))
  have h3 : limb x k ≤ 2 ^ 64 - 1 := by have := limb_lt x k; omega
  have h4 : limb x k * (y % 2 ^ (64 * j)) * 2 ^ (64 * k) ≤ (2 ^ 64 - 1) * 2 ^ (64 * j) * 2 ^ (64 * k) := Nat.mul_le_mul_right _ (Nat.mul_le_mul h3 h2)
  rw [Nat.mul_assoc (2 ^ 64 - 1), ← Nat.pow_add, show 64 * j + 64 * k = 64 * (k + j) by omega] at h4
  generalize 2 ^ (64 * (k + j)) = M at *
  omega
theorem cj_zero (x y k : Nat) : cj x y k 0 = 0 := by
  unfold cj sj
  simp only [Nat.mul_zero, Nat.pow_zero, Nat.mod_one, Nat.zero_mul, Nat.add_zero]
  exact Nat.div_eq_of_lt (Nat.mod_lt _ (pos64 _))
theorem tj (x y k j : Nat) : sj x y k (j + 1) / 2 ^ (64 * (k + j)) = limb x k * limb y j + limb (prd x y k) (k + j) + cj x y k j := by
  rw [sj_succ, Nat.add_mul_div_left _ _ (pos64 _)]
  unfold cj; omega
theorem cj_succ (x y k j : Nat) : cj x y k (j + 1) = (limb x k * limb y j + limb (prd x y k) (k + j) + cj x y k j) / 2 ^ 64 := by
  rw [← tj, Nat.div_div_eq_div_mul, ← pw_succ]; rfl
theorem lowj (x y k j : Nat) : limb (sj x y k (j + 1)) (k + j) = (limb x k * limb y j + limb (prd x y k) (k + j) + cj x y k j) % 2 ^ 64 := by
  rw [← tj]; rfl
theorem wj_zero (x y k i : Nat) : wj x y k 0 i = limb (prd x y k) i := by
  unfold wj
  split
  · apply limb_congr _ _ i k (by omega)
    unfold sj
    simp only [Nat.mul_zero, Nat.pow_zero, Nat.mod_one, Nat.zero_mul, Nat.add_zero, Nat.mod_mod]
  · rfl
theorem wj_succ (x y k j i : Nat) : wj x y k (j + 1) i = if i = k + j then (limb x k * limb y j + limb (prd x y k) (k + j) + cj x y k j) % 2 ^ 64 else wj x y k j i := by
  by_cases h : i = k + j
  · subst h
    rw [if_pos rfl, ← lowj]
    unfold wj; rw [if_pos (by omega)]
  · rw [if_neg h]
    unfold wj
    by_cases h2 : i < k + j
    · rw [if_pos (by omega), if_pos h2]
      apply limb_congr _ _ i (k + j) h2
      exact add_mod_of _ _ _ _ (sj_succ x y k j)
    · rw [if_neg (by omega), if_neg h2]
theorem wj_at (x y k j : Nat) : wj x y k j (k + j) = limb (prd x y k) (k + j) := by unfold wj; rw [if_neg (by omega)]
theorem prd_lt (x y k m : Nat) (hy : y < 2 ^ (64 * m)) : prd x y k < 2 ^ (64 * (k + m)) := by
  unfold prd
  rw [pw_add]
  have h1 : x % 2 ^ (64 * k) < 2 ^ (64 * k) := Nat.mod_lt _ (pos64 _)
  have h2 : x % 2 ^ (64 * k) * y ≤ (2 ^ (64 * k) - 1) * y := Nat.mul_le_mul_right _ (by omega)
  have h3 : (2 ^ (64 * k) - 1) * y ≤ (2 ^ (64 * k) - 1) * 2 ^ (64 * m) := Nat.mul_le_mul_left _ (by omega)
  have h4 : (2 ^ (64 * k) - 1) * 2 ^ (64 * m) < 2 ^ (64 * k) * 2 ^ (64 * m) := Nat.mul_lt_mul_of_pos_right (by have := pos64 k; omega) (pos64 m)
  omega
theorem sj_all (x y k m : Nat) (hy : y < 2 ^ (64 * m)) : sj x y k m = prd x y (k + 1) := by
  unfold sj
  rw [Nat.mod_eq_of_lt (prd_lt x y k m hy), Nat.mod_eq_of_lt hy]
  unfold prd
  rw [mod_succ, Nat.add_mul]
  congr 1
  rw [Nat.mul_right_comm, Nat.mul_comm (limb x k)]
theorem wide_next (x y k m i : Nat) (hy : y < 2 ^ (64 * m)) : (if i = k + m then cj x y k m else wj x y k m i) = limb (prd x y (k + 1)) i := by
  have hl := prd_lt x y (k + 1) m hy
  by_cases h : i = k + m
  · subst h
    rw [if_pos rfl, limb_top _ _ (by rw [show k + m + 1 = k + 1 + m by omega]; exact hl)]
    unfold cj; rw [sj_all x y k m hy]
  · rw [if_neg h]
    unfold wj
    split
    · rw [sj_all x y k m hy]
    · have h5 : k + m + 1 ≤ i := by omega
      have e1 : 2 ^ (64 * (k + m)) ≤ 2 ^ (64 * i) := Nat.pow_le_pow_right (by omega) (by omega)
      have e2 : 2 ^ (64 * (k + 1 + m)) ≤ 2 ^ (64 * i) := Nat.pow_le_pow_right (by omega) (by omega)
      rw [limb_zero _ _ (Nat.lt_of_lt_of_le hl e2), limb_zero _ _ (Nat.lt_of_lt_of_le (prd_lt x y k m hy) e1)]
theorem prd_zero (x y : Nat) : limb (prd x y 0) = fun _ => 0 := funext fun i => by
  unfold prd; simp [limb, Nat.mod_one]
theorem prd_all (x y m : Nat) (hx : x < 2 ^ (64 * m)) : prd x y m = x * y := by
  unfold prd; rw [Nat.mod_eq_of_lt hx]
theorem wj_start (x y k : Nat) : wj x y k 0 = limb (prd x y k) := funext fun i => wj_zero x y k i
theorem wj_set (x y k j v : Nat) (hv : v = (limb x k * limb y j + limb (prd x y k) (k + j) + cj x y k j) % 2 ^ 64) : (vals .u64 5 (wj x y k j)).setIfInBounds (k + j) (.int .u64 ((v : Nat) : Int)) = vals .u64 5 (wj x y k (j + 1)) := by
  subst hv
  rw [vals_set]
  exact vals_congr _ _ _ _ fun i _ => (wj_succ x y k j i).symm
theorem wide_set (x y k : Nat) (hy : y < 2 ^ (64 * 2)) : (vals .u64 5 (wj x y k 2)).setIfInBounds (k + 2) (.int .u64 ((cj x y k 2 : Nat) : Int)) = vals .u64 5 (limb (prd x y (k + 1))) := by
  rw [vals_set]
  exact vals_congr _ _ _ _ fun i _ => wide_next x y k 2 i hy
def t3 (a b c i : Nat) : Nat := if i = 0 then a else if i = 1 then b else c
theorem t3_of (a b c n : Nat) (h0 : a = limb n 0) (h1 : b = limb n 1) (h2 : c = limb n 2) : vals .u64 3 (t3 a b c) = vals .u64 3 (limb n) := vals_congr _ _ _ _ fun j hj => by
  obtain rfl | rfl | rfl : j = 0 ∨ j = 1 ∨ j = 2 := by omega
  · exact h0
  · exact h1
  · exact h2
theorem l3_low (W : Nat) : vals .u64 3 (t3 (limb W 0) (limb W 1) (limb W 2 % 4)) = vals .u64 3 (limb (W % 2 ^ 130)) :=
  t3_of _ _ _ _ (by rw [limb0, limb0]; omega) (by rw [limb1, limb1]; omega) (by rw [limb2, limb2]; omega)
theorem limb3' (n : Nat) : limb n 3 = n / 2 ^ 192 % 2 ^ 64 := rfl
theorem l3_four (W : Nat) (h : W < 2 ^ 256) : vals .u64 3 (t3 (limb W 2 - limb W 2 % 4) (limb W 3) 0) = vals .u64 3 (limb (4 * (W / 2 ^ 130))) :=
  t3_of _ _ _ _ (by rw [limb0, limb2]; omega) (by rw [limb1, limb3']; omega) (by rw [limb2]; omega)
theorem l3_once (W : Nat) (h : W < 2 ^ 256) : vals .u64 3 (t3 (limb W 2 / 4 + limb W 3 % 4 * 2 ^ 62) (limb W 3 / 4) 0) = vals .u64 3 (limb (W / 2 ^ 130)) :=
  t3_of _ _ _ _ (by rw [limb0, limb2, limb3']; omega) (by rw [limb1, limb3']; omega) (by rw [limb2]; omega)
theorem or_62 (a b : Nat) (ha : a < 2 ^ 62) : a ||| b * 2 ^ 62 = a + b * 2 ^ 62 := by
  rw [Nat.or_comm, nat_join 62 _ _ (by simp) ha, Nat.add_comm]
theorem tm_sum (W : Nat) : W % 2 ^ 130 + (4 * (W / 2 ^ 130) + W / 2 ^ 130) = W % 2 ^ 130 + 5 * (W / 2 ^ 130) := by omega
theorem and_3 (a : Nat) : a &&& 3 = a % 4 := nat_mask2 a
theorem lt_64_4 (a : Nat) (h : a < 2 ^ 64) : a / 4 < 2 ^ 62 := by omega
theorem m4_lt (a : Nat) : a % 4 * 2 ^ 62 < 2 ^ 64 := by omega
theorem bd_t3 (a b c : Nat) : Tryd.prog.built 55 [(0, Nv .u64 a), (1, Nv .u64 b), (2, Nv .u64 c)] = some (vals .u64 3 (t3 a b c)) := by kernel_rfl
theorem bd_t2 (a b : Nat) : Tryd.prog.built 55 [(0, Nv .u64 a), (1, Nv .u64 b)] = some (vals .u64 3 (t3 a b 0)) := by kernel_rfl
set_option maxHeartbeats 4000000 in
theorem times_c (x r : Nat) (hx : x < 2 ^ 192) (hr : r < 2 ^ 128) (hxr : x * r < 2 ^ 256) (w : World) : Ret 46 #[A (vals .u64 3 (limb x)), A (vals .u64 3 (limb r))] w (A (vals .u64 3 (limb (tm x r)))) := by
  obtain ⟨V, hV⟩ : ∃ V, Hid (V = x * r) := ⟨_, hide rfl⟩
  have hV6 : Hid (V < 2 ^ 256) := hide (by rw [hV.out]; exact hxr)
  have hpe : Hid (prd x r 3 = V) := hide (by rw [hV.out]; exact prd_all x r 3 hx)
  have htm : Hid (tm x r = V % 2 ^ 130 + (4 * (V / 2 ^ 130) + V / 2 ^ 130)) := hide (by rw [tm_sum, hV.out]; rfl)
  have Hr : Hid (r < 2 ^ (64 * 2)) := hide hr
  obtain ⟨a1, ha1⟩ : ∃ a, Hid (a = V % 2 ^ 130) := ⟨_, hide rfl⟩
  obtain ⟨a2, ha2⟩ : ∃ a, Hid (a = 4 * (V / 2 ^ 130)) := ⟨_, hide rfl⟩
  obtain ⟨a3, ha3⟩ : ∃ a, Hid (a = V / 2 ^ 130) := ⟨_, hide rfl⟩
  rw [htm.out, ← ha1.out, ← ha2.out, ← ha3.out]
  clear hx hr hxr hV htm
  go_enter Tryd.func46, Tryd.ntmps46
  have hO := Own.start w
  go_upto_region 0 with (fail)
  refine Rg.ps [0, 1, 2] (fun ν => [(2, D (ν 0)), (3, D (ν 1)), (4, D (ν 2))]) (OI w (fun s ν => [[], [((ν 0), vals .u64 3 (limb x), 55)], [((ν 0), vals .u64 3 (limb x), 55), ((ν 1), vals .u64 3 (limb r), 55)], [((ν 0), vals .u64 3 (limb x), 55), ((ν 1), vals .u64 3 (limb r), 55), ((ν 2), vals .u64 3 (fun _ => 0), 55)]].getD s [])) (fun _ => 0) hO (Rg.ac (sn 0 (fun _ => vals .u64 3 (limb x)) 55 (fun _ w => run_box 55 _ rfl _ (by kernel_rfl) w) (fun _ => fit_l3 _)) (Rg.ac (sn 1 (fun _ => vals .u64 3 (limb r)) 55 (fun _ w => run_box 55 _ rfl _ (by kernel_rfl) w) (fun _ => fit_l3 _)) (Rg.ac (sn 2 (fun _ => vals .u64 3 (fun _ => 0)) 55 (fun _ w => al_l3 rfl w) (fun _ => fit_l3 _)) Rg.an))) ?_
  intro ν w1 hO
  replace hO : Own w w1 [((ν 0), vals .u64 3 (limb x), 55), ((ν 1), vals .u64 3 (limb r), 55), ((ν 2), vals .u64 3 (fun _ => 0), 55)] := hO
  simp only [Rg.putL, Act.put, List.setIfInBounds_toArray, List.set_cons_succ, List.set_cons_zero]
  generalize ν 0 = n2 at hO ⊢
  generalize ν 1 = n3 at hO ⊢
  generalize ν 2 = n4 at hO ⊢
  clear ν
  go_upto_region 1 with (fail)
  refine Rg.ps [0] (fun ν => [(5, D (ν 0))]) (OI w (fun s ν => [[(n2, vals .u64 3 (limb x), 55), (n3, vals .u64 3 (limb r), 55), (n4, vals .u64 3 (fun _ => 0), 55)], [(n2, vals .u64 3 (limb x), 55), (n3, vals .u64 3 (limb r), 55), (n4, vals .u64 3 (fun _ => 0), 55), ((ν 0), vals .u64 5 (fun _ => 0), 77)]].getD s [])) (fun _ => 0) hO (Rg.ac (sn 0 (fun _ => vals .u64 5 (fun _ => 0)) 77 (fun _ w => al_w5 rfl w) (fun _ => fit_w5 _)) Rg.an) ?_
  intro ν w2 hO
  replace hO : Own w w2 [(n2, vals .u64 3 (limb x), 55), (n3, vals .u64 3 (limb r), 55), (n4, vals .u64 3 (fun _ => 0), 55), ((ν 0), vals .u64 5 (fun _ => 0), 77)] := hO
  simp only [Rg.putL, Act.put, List.setIfInBounds_toArray, List.set_cons_succ, List.set_cons_zero]
  generalize ν 0 = n5 at hO ⊢
  clear ν
  have HO : Hid (Own w w2 [(n2, vals .u64 3 (limb x), 55), (n3, vals .u64 3 (limb r), 55), (n4, vals .u64 3 (fun _ => 0), 55), (n5, vals .u64 5 (limb (prd x r 0)), 77)]) := hide (by rw [prd_zero]; exact hO)
  clear hO
  go_wp2_with (fail)
  go_loopw [12] (fun x12 wr => ∃ k : Nat, k ≤ 3 ∧ x12 = .int .i64 k ∧ Own w wr [(n2, vals .u64 3 (limb x), 55), (n3, vals .u64 3 (limb r), 55), (n4, vals .u64 3 (fun _ => 0), 55), (n5, vals .u64 5 (limb (prd x r k)), 77)]) (fun x12 _ => 3 - (intOf x12).toNat)
  case atStart => exact ⟨0, Nat.zero_le _, rfl, HO.out⟩
  case round =>
    clear HO
    obtain ⟨k, hk9, rfl, hO⟩ := hrel
    by_cases hlt : k < 3
    · have hq0 : (0 : Int) ≤ (k : Int) := Int.natCast_nonneg k
      have hq1 : (k : Int) < 3 := by omega
      have hw1 := wr1 k (by omega)
      have hw0 := wr0 k (by omega)
      have HOj : Hid (Own w wr [(n2, vals .u64 3 (limb x), 55), (n3, vals .u64 3 (limb r), 55), (n4, vals .u64 3 (fun _ => 0), 55), (n5, vals .u64 5 (wj x r k 0), 77)]) := hide (by rw [wj_start]; exact hO)
      clear hO
      go_wp2_with (fail)
      go_loopw [7, 15] (fun x7 x15 wrj => ∃ j : Nat, j ≤ 2 ∧ x15 = .int .i64 j ∧ x7 = Nv .u64 (cj x r k j) ∧ Own w wrj [(n2, vals .u64 3 (limb x), 55), (n3, vals .u64 3 (limb r), 55), (n4, vals .u64 3 (fun _ => 0), 55), (n5, vals .u64 5 (wj x r k j), 77)]) (fun _ x15 _ => 2 - (intOf x15).toNat)
      case atStart => exact ⟨0, Nat.zero_le _, rfl, by rw [cj_zero]; rfl, HOj.out⟩
      case round =>
        clear HOj
        obtain ⟨j, hj9, rfl, rfl, hO⟩ := hrel
        by_cases hltj : j < 2
        · have hq0j : (0 : Int) ≤ (j : Int) := Int.natCast_nonneg j
          have hq1j : (j : Int) < 2 := by omega
          have hw1j := wr1 j (by omega)
          have hw0j := wr0 j (by omega)
          have hkj5 : k + j < 5 := by omega
          have hk40 : k < 2 ^ 40 := by omega
          have hj40 : j < 2 ^ 40 := by omega
          have hj3 : j < 3 := by omega
          have e1 := lowj x r k j
          have e2 := cj_succ x r k j
          have E1 := hide e1
          have E2 := hide e2
          clear e1 e2
          go_upto_region 9 with (fail)
          refine Rg.pl 21 [15, 20] (fun _ => [(19, Nv .i64 k), (20, Nv .i64 j), (21, Nv .i64 (k + j)), (22, Nv .i64 k), (23, E n2 k), (24, Nv .u64 ((limb x) k)), (25, Nv .i64 j), (26, E n3 j), (27, Nv .u64 ((limb r) j)), (28, Nv .i64 k), (29, Nv .i64 j), (30, Nv .i64 (k + j)), (31, E n5 (k + j)), (32, Nv .u64 (limb (prd x r k) (k + j))), (33, Nv .u64 (cj x r k j)), (34, .tuple #[Nv .u64 (limb (sj x r k (j + 1)) (k + j)), Nv .u64 (cj x r k (j + 1))]), (18, .tuple #[Nv .u64 (limb (sj x r k (j + 1)) (k + j)), Nv .u64 (cj x r k (j + 1))]), (35, Nv .u64 (limb (sj x r k (j + 1)) (k + j))), (36, Nv .u64 (cj x r k (j + 1))), (37, E n5 (k + j))]) (OI w (fun s ν => [[(n2, vals .u64 3 (limb x), 55), (n3, vals .u64 3 (limb r), 55), (n4, vals .u64 3 (fun _ => 0), 55), (n5, vals .u64 5 (wj x r k j), 77)], [(n2, vals .u64 3 (limb x), 55), (n3, vals .u64 3 (limb r), 55), (n4, vals .u64 3 (fun _ => 0), 55), (n5, vals .u64 5 (wj x r k j), 77)], [(n2, vals .u64 3 (limb x), 55), (n3, vals .u64 3 (limb r), 55), (n4, vals .u64 3 (fun _ => 0), 55), (n5, vals .u64 5 (wj x r k (j + 1)), 77)]].getD s [])) (fun _ => 0) hO.drew (Rg.ac nv (Rg.ac nv (Rg.ac (nx (fun _ => Nv .i64 (k + j)) (fun _ w => b_add hk40 hj40 w)) (Rg.ac nv (Rg.ac (nx (fun _ => E n2 k) (fun _ w => b_ia_l3 hlt w)) (Rg.ac (nc 0 0 0 (fun _ => k) (fun _ => Nv .u64 ((limb x) k)) agg_u64 (fun _ => vals_get _ _ _ _ hlt) (at1 0 fun _ => by kernel_rfl)) (Rg.ac nv (Rg.ac (nx (fun _ => E n3 j) (fun _ w => b_ia_l3 hj3 w)) (Rg.ac (nc 0 0 1 (fun _ => j) (fun _ => Nv .u64 ((limb r) j)) agg_u64 (fun _ => vals_get _ _ _ _ hj3) (at1 0 fun _ => by kernel_rfl)) (Rg.ac nv (Rg.ac nv (Rg.ac (nx (fun _ => Nv .i64 (k + j)) (fun _ w => b_add hk40 hj40 w)) (Rg.ac (nx (fun _ => E n5 (k + j)) (fun _ w => b_ia_w5 hkj5 w)) (Rg.ac (nc 0 0 3 (fun _ => (k + j)) (fun _ => Nv .u64 (limb (prd x r k) (k + j))) agg_u64 (fun _ => (vals_get _ _ _ _ hkj5).trans (by rw [wj_at])) (at1 0 fun _ => by kernel_rfl)) (Rg.ac nv (Rg.ac (sc 0 47 (fun _ => #[Nv .u64 ((limb x) k), Nv .u64 ((limb r) j), Nv .u64 (limb (prd x r k) (k + j)), Nv .u64 (cj x r k j)]) (fun _ => .tuple #[Nv .u64 (limb (sj x r k (j + 1)) (k + j)), Nv .u64 (cj x r k (j + 1))]) (fun _ => step_cc _ _ _ _ _ _ (limb_lt _ _) (limb_lt _ _) (limb_lt _ _) (cj_lt _ _ _ _) E1.out E2.out)) (Rg.ac nv (Rg.ac nv (Rg.ac nv (Rg.ac (nx (fun _ => E n5 (k + j)) (fun _ w => b_ia_w5 hkj5 w)) (Rg.ac (sl 1 3 (fun _ => (k + j)) (fun _ => Nv .u64 (limb (prd x r k) (k + j))) (fun _ => ((limb (sj x r k (j + 1)) (k + j) : Nat) : Int)) sz_u64 (fun _ => (vals_get _ _ _ _ hkj5).trans (by rw [wj_at])) (fun _ => wj_set x r k j _ E1.out) (fun _ => fit_w5 _)) (Rg.ac (nm (fun _ => Nv .u64 (cj x r k (j + 1)))) Rg.an)))))))))))))))))))))) (fun _ => Nv .u64 (cj x r k (j + 1))) ?_
          intro ν w3 hO
          replace hO : Own w w3 [(n2, vals .u64 3 (limb x), 55), (n3, vals .u64 3 (limb r), 55), (n4, vals .u64 3 (fun _ => 0), 55), (n5, vals .u64 5 (wj x r k (j + 1)), 77)] := hO
          simp only [Rg.putL, Act.put, List.setIfInBounds_toArray, List.set_cons_succ, List.set_cons_zero]
          clear ν
          have HO2j : Hid (Own w w3 [(n2, vals .u64 3 (limb x), 55), (n3, vals .u64 3 (limb r), 55), (n4, vals .u64 3 (fun _ => 0), 55), (n5, vals .u64 5 (wj x r k (j + 1)), 77)]) := hide hO
          clear hO
          go_wp2_with (fail)
          go_roundw
          case rel => exact ⟨j + 1, hltj, in_succ j, rfl, HO2j.out⟩
          case measure => exact ms_lt hltj
        · have ej : j = 2 := by omega
          subst ej
          clear hltj hj9
          have hk40 : k < 2 ^ 40 := by omega
          have h240 : 2 < 2 ^ 40 := by omega
          have hk25 : k + 2 < 5 := by omega
          go_upto_region 11 with (fail)
          refine Rg.ps [4] (fun _ => [(39, Nv .i64 k), (40, Nv .i64 (k + 2)), (41, Nv .u64 (cj x r k 2)), (42, E n5 (k + 2))]) (OI w (fun s ν => [[(n2, vals .u64 3 (limb x), 55), (n3, vals .u64 3 (limb r), 55), (n4, vals .u64 3 (fun _ => 0), 55), (n5, vals .u64 5 (wj x r k 2), 77)], [(n2, vals .u64 3 (limb x), 55), (n3, vals .u64 3 (limb r), 55), (n4, vals .u64 3 (fun _ => 0), 55), (n5, vals .u64 5 (limb (prd x r (k + 1))), 77)]].getD s [])) (fun _ => 0) hO (Rg.ac nv (Rg.ac (nx (fun _ => Nv .i64 (k + 2)) (fun _ w => b_add hk40 h240 w)) (Rg.ac nv (Rg.ac (nx (fun _ => E n5 (k + 2)) (fun _ w => b_ia_w5 hk25 w)) (Rg.ac (sl 0 3 (fun _ => (k + 2)) (fun _ => Nv .u64 (wj x r k 2 (k + 2))) (fun _ => ((cj x r k 2 : Nat) : Int)) sz_u64 (fun _ => vals_get _ _ _ _ hk25) (fun _ => wide_set x r k Hr.out) (fun _ => fit_w5 _)) Rg.an))))) ?_
          intro ν w4 hO
          replace hO : Own w w4 [(n2, vals .u64 3 (limb x), 55), (n3, vals .u64 3 (limb r), 55), (n4, vals .u64 3 (fun _ => 0), 55), (n5, vals .u64 5 (limb (prd x r (k + 1))), 77)] := hO
          simp only [Rg.putL, Act.put, List.setIfInBounds_toArray, List.set_cons_succ, List.set_cons_zero]
          clear ν
          have HO2 : Hid (Own w w4 [(n2, vals .u64 3 (limb x), 55), (n3, vals .u64 3 (limb r), 55), (n4, vals .u64 3 (fun _ => 0), 55), (n5, vals .u64 5 (limb (prd x r (k + 1))), 77)]) := hide hO
          clear hO
          go_wp2_with (fail)
          go_roundw
          case rel => exact ⟨k + 1, hlt, in_succ k, HO2.out⟩
          case measure => exact ms_lt hlt
    · have ek : k = 3 := by omega
      subst ek
      clear hlt hk9
      rw [hpe.out] at hO
      have h05 : 0 < 5 := by decide
      have h15 : 1 < 5 := by decide
      have h25 : 2 < 5 := by decide
      have h35 : 3 < 5 := by decide
      obtain ⟨c0, hc0⟩ : ∃ a, Hid (limb V 0 = a) := ⟨_, hide rfl⟩
      obtain ⟨c1, hc1⟩ : ∃ a, Hid (limb V 1 = a) := ⟨_, hide rfl⟩
      obtain ⟨c2, hc2⟩ : ∃ a, Hid (limb V 2 = a) := ⟨_, hide rfl⟩
      obtain ⟨c3, hc3⟩ : ∃ a, Hid (limb V 3 = a) := ⟨_, hide rfl⟩
      obtain ⟨p2, hp2⟩ : ∃ a, Hid (limb V 2 % 4 = a) := ⟨_, hide rfl⟩
      obtain ⟨d2, hd2⟩ : ∃ a, Hid (limb V 2 - limb V 2 % 4 = a) := ⟨_, hide rfl⟩
      obtain ⟨q2, hq2⟩ : ∃ a, Hid (limb V 2 / 4 = a) := ⟨_, hide rfl⟩
      obtain ⟨s3, hs3⟩ : ∃ a, Hid (limb V 3 % 4 * 2 ^ 62 = a) := ⟨_, hide rfl⟩
      obtain ⟨e3, he3⟩ : ∃ a, Hid (limb V 2 / 4 + limb V 3 % 4 * 2 ^ 62 = a) := ⟨_, hide rfl⟩
      obtain ⟨f3, hf3⟩ : ∃ a, Hid (limb V 3 / 4 = a) := ⟨_, hide rfl⟩
      have L2 : Hid (c2 < 2 ^ 64) := hide (by rw [← hc2.out]; exact limb_lt _ _)
      have P2 : Hid (c2 &&& 3 = p2) := hide (by rw [← hc2.out, ← hp2.out]; exact and_3 _)
      have D2 : Hid (c2 - c2 % 4 = d2) := hide (by rw [← hc2.out]; exact hd2.out)
      have Q2 : Hid (c2 / 4 = q2) := hide (by rw [← hc2.out]; exact hq2.out)
      have S3 : Hid (c3 % 4 * 2 ^ 62 = s3) := hide (by rw [← hc3.out]; exact hs3.out)
      have E3 : Hid (q2 ||| s3 = e3) := hide (by rw [← hq2.out, ← hs3.out, ← he3.out]; exact or_62 _ _ (lt_64_4 _ (limb_lt _ _)))
      have F3 : Hid (c3 / 4 = f3) := hide (by rw [← hc3.out]; exact hf3.out)
      have LQ : Hid (q2 < 2 ^ 64 ∧ s3 < 2 ^ 64) := hide (by rw [← hq2.out, ← hs3.out]; exact ⟨Nat.lt_trans (lt_64_4 _ (limb_lt _ _)) (by decide), m4_lt _⟩)
      have G : ∀ i c, Hid (limb V i = c) → i < 5 → (vals .u64 5 (limb V))[i]? = some (Nv .u64 c) := fun i c h hi => by rw [vals_get _ _ _ _ hi, h.out]
      have T1 : Hid (vals .u64 3 (t3 c0 c1 p2) = vals .u64 3 (limb a1)) := hide (by rw [← hc0.out, ← hc1.out, ← hp2.out, l3_low, ha1.out])
      have T2 : Hid (vals .u64 3 (t3 d2 c3 0) = vals .u64 3 (limb a2)) := hide (by rw [← hd2.out, ← hc3.out, l3_four V hV6.out, ha2.out])
      have T3 : Hid (vals .u64 3 (t3 e3 f3 0) = vals .u64 3 (limb a3)) := hide (by rw [← he3.out, ← hf3.out, l3_once V hV6.out, ha3.out])
      clear hp2 hd2 hq2 hs3 he3 hf3 ha1 ha2 ha3
      go_upto_region 13 with (fail)
      refine Rg.ps [8, 9] (fun ν => [(44, D n5), (45, Nv .u64 c0), (46, E n5 1), (47, Nv .u64 c1), (48, E n5 2), (49, Nv .u64 c2), (50, Nv .u64 p2), (51, A (vals .u64 3 (t3 c0 c1 p2))), (9, D (ν 8))]) (OI w (fun s ν => [[(n2, vals .u64 3 (limb x), 55), (n3, vals .u64 3 (limb r), 55), (n4, vals .u64 3 (fun _ => 0), 55), (n5, vals .u64 5 (limb V), 77)], [(n2, vals .u64 3 (limb x), 55), (n3, vals .u64 3 (limb r), 55), (n4, vals .u64 3 (fun _ => 0), 55), (n5, vals .u64 5 (limb V), 77), ((ν 8), vals .u64 3 (fun _ => 0), 55)], [(n2, vals .u64 3 (limb x), 55), (n3, vals .u64 3 (limb r), 55), (n4, vals .u64 3 (fun _ => 0), 55), (n5, vals .u64 5 (limb V), 77), ((ν 8), vals .u64 3 (t3 c0 c1 p2), 55)]].getD s [])) (fun _ => 0) hO (Rg.ac nv (Rg.ac (nc 0 0 3 (fun _ => 0) (fun _ => Nv .u64 c0) agg_u64 (fun _ => G _ _ hc0 h05) (at1 0 fun _ => by kernel_rfl)) (Rg.ac nv (Rg.ac (nc 0 0 3 (fun _ => 1) (fun _ => Nv .u64 c1) agg_u64 (fun _ => G _ _ hc1 h15) (at1 0 fun _ => by kernel_rfl)) (Rg.ac nv (Rg.ac (nc 0 0 3 (fun _ => 2) (fun _ => Nv .u64 c2) agg_u64 (fun _ => G _ _ hc2 h25) (at1 0 fun _ => by kernel_rfl)) (Rg.ac (nx (fun _ => Nv .u64 p2) (fun _ w => b_and64 P2.out L2.out (by decide) w)) (Rg.ac (nx (fun _ => A (vals .u64 3 (t3 c0 c1 p2))) (fun _ w => run_bd 55 _ rfl [(0, Nv .u64 c0), (1, Nv .u64 c1), (2, Nv .u64 p2)] (by kernel_rfl) _ (bd_t3 _ _ _) w)) (Rg.ac (sn 0 (fun _ => vals .u64 3 (fun _ => 0)) 55 (fun _ w => al_l3 rfl w) (fun _ => fit_l3 _)) (Rg.ac (sr 1 4 (fun _ => vals .u64 3 (t3 c0 c1 p2)) (fun _ => fit_l3 _)) Rg.an)))))))))) ?_
      intro ν w5 hO
      replace hO : Own w w5 [(n2, vals .u64 3 (limb x), 55), (n3, vals .u64 3 (limb r), 55), (n4, vals .u64 3 (fun _ => 0), 55), (n5, vals .u64 5 (limb V), 77), ((ν 8), vals .u64 3 (t3 c0 c1 p2), 55)] := hO
      simp only [Rg.putL, Act.put, List.setIfInBounds_toArray, List.set_cons_succ, List.set_cons_zero]
      generalize ν 8 = n9 at hO ⊢
      clear ν
      rw [T1.out] at hO
      go_upto_region 14 with (fail)
      refine Rg.ps [6, 7] (fun ν => [(52, E n5 2), (53, Nv .u64 c2), (54, Nv .u64 d2), (55, E n5 3), (56, Nv .u64 c3), (57, A (vals .u64 3 (t3 d2 c3 0))), (10, D (ν 6))]) (OI w (fun s ν => [[(n2, vals .u64 3 (limb x), 55), (n3, vals .u64 3 (limb r), 55), (n4, vals .u64 3 (fun _ => 0), 55), (n5, vals .u64 5 (limb V), 77), (n9, vals .u64 3 (limb a1), 55)], [(n2, vals .u64 3 (limb x), 55), (n3, vals .u64 3 (limb r), 55), (n4, vals .u64 3 (fun _ => 0), 55), (n5, vals .u64 5 (limb V), 77), (n9, vals .u64 3 (limb a1), 55), ((ν 6), vals .u64 3 (fun _ => 0), 55)], [(n2, vals .u64 3 (limb x), 55), (n3, vals .u64 3 (limb r), 55), (n4, vals .u64 3 (fun _ => 0), 55), (n5, vals .u64 5 (limb V), 77), (n9, vals .u64 3 (limb a1), 55), ((ν 6), vals .u64 3 (t3 d2 c3 0), 55)]].getD s [])) (fun _ => 0) hO (Rg.ac nv (Rg.ac (nc 0 0 3 (fun _ => 2) (fun _ => Nv .u64 c2) agg_u64 (fun _ => G _ _ hc2 h25) (at1 0 fun _ => by kernel_rfl)) (Rg.ac (nx (fun _ => Nv .u64 d2) (fun _ w => b_anE L2.out D2.out w)) (Rg.ac nv (Rg.ac (nc 0 0 3 (fun _ => 3) (fun _ => Nv .u64 c3) agg_u64 (fun _ => G _ _ hc3 h35) (at1 0 fun _ => by kernel_rfl)) (Rg.ac (nx (fun _ => A (vals .u64 3 (t3 d2 c3 0))) (fun _ w => run_bd 55 _ rfl [(0, Nv .u64 d2), (1, Nv .u64 c3)] (by kernel_rfl) _ (bd_t2 _ _) w)) (Rg.ac (sn 0 (fun _ => vals .u64 3 (fun _ => 0)) 55 (fun _ w => al_l3 rfl w) (fun _ => fit_l3 _)) (Rg.ac (sr 1 5 (fun _ => vals .u64 3 (t3 d2 c3 0)) (fun _ => fit_l3 _)) Rg.an)))))))) ?_
      intro ν w6 hO
      replace hO : Own w w6 [(n2, vals .u64 3 (limb x), 55), (n3, vals .u64 3 (limb r), 55), (n4, vals .u64 3 (fun _ => 0), 55), (n5, vals .u64 5 (limb V), 77), (n9, vals .u64 3 (limb a1), 55), ((ν 6), vals .u64 3 (t3 d2 c3 0), 55)] := hO
      simp only [Rg.putL, Act.put, List.setIfInBounds_toArray, List.set_cons_succ, List.set_cons_zero]
      generalize ν 6 = n10 at hO ⊢
      clear ν
      rw [T2.out] at hO
      go_upto_region 15 with (fail)
      refine Rg.ps [11, 12] (fun ν => [(58, E n5 2), (59, Nv .u64 c2), (60, Nv .u64 q2), (61, E n5 3), (62, Nv .u64 c3), (63, Nv .u64 s3), (64, Nv .u64 e3), (65, E n5 3), (66, Nv .u64 c3), (67, Nv .u64 f3), (68, A (vals .u64 3 (t3 e3 f3 0))), (11, D (ν 11))]) (OI w (fun s ν => [[(n2, vals .u64 3 (limb x), 55), (n3, vals .u64 3 (limb r), 55), (n4, vals .u64 3 (fun _ => 0), 55), (n5, vals .u64 5 (limb V), 77), (n9, vals .u64 3 (limb a1), 55), (n10, vals .u64 3 (limb a2), 55)], [(n2, vals .u64 3 (limb x), 55), (n3, vals .u64 3 (limb r), 55), (n4, vals .u64 3 (fun _ => 0), 55), (n5, vals .u64 5 (limb V), 77), (n9, vals .u64 3 (limb a1), 55), (n10, vals .u64 3 (limb a2), 55), ((ν 11), vals .u64 3 (fun _ => 0), 55)], [(n2, vals .u64 3 (limb x), 55), (n3, vals .u64 3 (limb r), 55), (n4, vals .u64 3 (fun _ => 0), 55), (n5, vals .u64 5 (limb V), 77), (n9, vals .u64 3 (limb a1), 55), (n10, vals .u64 3 (limb a2), 55), ((ν 11), vals .u64 3 (t3 e3 f3 0), 55)]].getD s [])) (fun _ => 0) hO (Rg.ac nv (Rg.ac (nc 0 0 3 (fun _ => 2) (fun _ => Nv .u64 c2) agg_u64 (fun _ => G _ _ hc2 h25) (at1 0 fun _ => by kernel_rfl)) (Rg.ac (nx (fun _ => Nv .u64 q2) (fun _ w => b_shr2E Q2.out w)) (Rg.ac nv (Rg.ac (nc 0 0 3 (fun _ => 3) (fun _ => Nv .u64 c3) agg_u64 (fun _ => G _ _ hc3 h35) (at1 0 fun _ => by kernel_rfl)) (Rg.ac (nx (fun _ => Nv .u64 s3) (fun _ w => b_shl62E S3.out w)) (Rg.ac (nx (fun _ => Nv .u64 e3) (fun _ w => b_or64 E3.out LQ.out.1 LQ.out.2 w)) (Rg.ac nv (Rg.ac (nc 0 0 3 (fun _ => 3) (fun _ => Nv .u64 c3) agg_u64 (fun _ => G _ _ hc3 h35) (at1 0 fun _ => by kernel_rfl)) (Rg.ac (nx (fun _ => Nv .u64 f3) (fun _ w => b_shr2E F3.out w)) (Rg.ac (nx (fun _ => A (vals .u64 3 (t3 e3 f3 0))) (fun _ w => run_bd 55 _ rfl [(0, Nv .u64 e3), (1, Nv .u64 f3)] (by kernel_rfl) _ (bd_t2 _ _) w)) (Rg.ac (sn 0 (fun _ => vals .u64 3 (fun _ => 0)) 55 (fun _ w => al_l3 rfl w) (fun _ => fit_l3 _)) (Rg.ac (sr 1 6 (fun _ => vals .u64 3 (t3 e3 f3 0)) (fun _ => fit_l3 _)) Rg.an))))))))))))) ?_
      intro ν w7 hO
      replace hO : Own w w7 [(n2, vals .u64 3 (limb x), 55), (n3, vals .u64 3 (limb r), 55), (n4, vals .u64 3 (fun _ => 0), 55), (n5, vals .u64 5 (limb V), 77), (n9, vals .u64 3 (limb a1), 55), (n10, vals .u64 3 (limb a2), 55), ((ν 11), vals .u64 3 (t3 e3 f3 0), 55)] := hO
      simp only [Rg.putL, Act.put, List.setIfInBounds_toArray, List.set_cons_succ, List.set_cons_zero]
      generalize ν 11 = n11 at hO ⊢
      clear ν
      rw [T3.out] at hO
      go_upto_region 16 with (fail)
      refine Rg.pd [3, 4, 5] (fun _ => [(69, A (vals .u64 3 (limb a1))), (70, A (vals .u64 3 (limb a2))), (71, A (vals .u64 3 (limb a3))), (72, A (vals .u64 3 (limb (a2 + a3)))), (73, A (vals .u64 3 (limb (a1 + (a2 + a3)))))]) (OI w (fun s ν => [[(n2, vals .u64 3 (limb x), 55), (n3, vals .u64 3 (limb r), 55), (n4, vals .u64 3 (fun _ => 0), 55), (n5, vals .u64 5 (limb V), 77), (n9, vals .u64 3 (limb a1), 55), (n10, vals .u64 3 (limb a2), 55), (n11, vals .u64 3 (limb a3), 55)], [(n2, vals .u64 3 (limb x), 55), (n3, vals .u64 3 (limb r), 55), (n4, vals .u64 3 (fun _ => 0), 55), (n5, vals .u64 5 (limb V), 77), (n9, vals .u64 3 (limb a1), 55), (n10, vals .u64 3 (limb a2), 55), (n11, vals .u64 3 (limb a3), 55)], [(n2, vals .u64 3 (limb x), 55), (n3, vals .u64 3 (limb r), 55), (n4, vals .u64 3 (fun _ => 0), 55), (n5, vals .u64 5 (limb V), 77), (n9, vals .u64 3 (limb a1), 55), (n10, vals .u64 3 (limb a2), 55), (n11, vals .u64 3 (limb a3), 55)], [(n2, vals .u64 3 (limb x), 55), (n3, vals .u64 3 (limb r), 55), (n4, vals .u64 3 (limb (a1 + (a2 + a3))), 55), (n5, vals .u64 5 (limb V), 77), (n9, vals .u64 3 (limb a1), 55), (n10, vals .u64 3 (limb a2), 55), (n11, vals .u64 3 (limb a3), 55)]].getD s [])) (fun _ => 0) hO.drew (Rg.ac (nld 0 1 4 (at2 0 1 (fun _ => by kernel_rfl) (at1 1 fun _ => by kernel_rfl)) Tryd.underlying55) (Rg.ac (nld 0 0 5 (at1 0 fun _ => by kernel_rfl) Tryd.underlying55) (Rg.ac (nld 0 0 6 (at1 0 fun _ => by kernel_rfl) Tryd.underlying55) (Rg.ac (sc 0 31 (fun _ => #[A (vals .u64 3 (limb a2)), A (vals .u64 3 (limb a3))]) (fun _ => A (vals .u64 3 (limb (a2 + a3)))) (fun _ => plus_c a2 a3)) (Rg.ac (sc 1 31 (fun _ => #[A (vals .u64 3 (limb a1)), A (vals .u64 3 (limb (a2 + a3)))]) (fun _ => A (vals .u64 3 (limb (a1 + (a2 + a3))))) (fun _ => plus_c a1 (a2 + a3))) (Rg.ac (sr 2 2 (fun _ => vals .u64 3 (limb (a1 + (a2 + a3)))) (fun _ => fit_l3 _)) Rg.an)))))) ?_
      intro ν w8 hO
      replace hO : Own w w8 [(n2, vals .u64 3 (limb x), 55), (n3, vals .u64 3 (limb r), 55), (n4, vals .u64 3 (limb (a1 + (a2 + a3))), 55), (n5, vals .u64 5 (limb V), 77), (n9, vals .u64 3 (limb a1), 55), (n10, vals .u64 3 (limb a2), 55), (n11, vals .u64 3 (limb a3), 55)] := hO
      simp only [Rg.putL, Act.put, List.setIfInBounds_toArray, List.set_cons_succ, List.set_cons_zero]
      clear ν
      go_wp2_with (fail)
      refine bodyPost_ret (v := A (vals .u64 3 (limb (a1 + (a2 + a3))))) (results_cell_row Tryd.results46 _ _ n4 55 _ (0, 0) _ rfl (hO.row 2 rfl) Tryd.underlying55 rfl ((fit_l3 _).size rfl)) rfl ⟨rfl, hO.low⟩
end Go.Proofs.YtanahjoiilfcbaaDoor

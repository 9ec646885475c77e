/- Walks: plus, Mul64, step. Words below 2^64; no other condition. -/
import Derived.Test.YtanahjoiilfcbaaDoorLa
namespace Go.Proofs.YtanahjoiilfcbaaDoor
set_option maxRecDepth 100000
open Go.RowKit Rg

theorem wr1 (k : Nat) (h : k < 4294967296) : wrap64 ((k : Int) + 1) = (k : Int) + 1 := by unfold wrap64; omega
theorem wr0 (k : Nat) (h : k < 4294967296) : IntKind.i64.wrap ((k : Int) + 1) = (k : Int) + 1 := by unfold IntKind.wrap; simp [IntKind.bits, IntKind.signed]; omega
theorem ms_lt {k n : Nat} (h : k < n) : n - (intOf (.int .i64 ((k : Int) + 1))).toNat < n - (intOf (.int .i64 (k : Int))).toNat := by simp [intOf]; omega
theorem in_succ (k : Nat) : Value.int .i64 ((k : Int) + 1) = .int .i64 ((k + 1 : Nat) : Int) := by simp
/-- The first k of one, then those of another. -/
def sw (a b : Nat → Nat) (k j : Nat) : Nat := if j < k then a j else b j
theorem sw_zero (a b : Nat → Nat) : sw a b 0 = b := funext fun j => by unfold sw; rw [if_neg (by omega)]
theorem sw_here (a b : Nat → Nat) (k : Nat) : sw a b k k = b k := by unfold sw; rw [if_neg (by omega)]
theorem sw_end (kd : IntKind) (n : Nat) (a b : Nat → Nat) : vals kd n (sw a b n) = vals kd n a := vals_congr _ _ _ _ fun j hj => by unfold sw; rw [if_pos hj]
theorem sw_next (a b : Nat → Nat) (k j : Nat) : (if j = k then a k else sw a b k j) = sw a b (k + 1) j := by
  unfold sw
  by_cases h : j = k
  · subst h; rw [if_pos rfl, if_pos (by omega)]
  · rw [if_neg h]
    by_cases h2 : j < k
    · rw [if_pos h2, if_pos (by omega)]
    · rw [if_neg h2, if_neg (by omega)]
theorem sw_set (kd : IntKind) (n : Nat) (a b : Nat → Nat) (k v : Nat) (hv : v = a k) : (vals kd n (sw a b k)).setIfInBounds k (.int kd ((v : Nat) : Int)) = vals kd n (sw a b (k + 1)) := by
  subst hv
  rw [vals_set]
  exact vals_congr _ _ _ _ fun j _ => sw_next a b k j
def cin (x y k : Nat) : Nat := (x % 2 ^ (64 * k) + y % 2 ^ (64 * k)) / 2 ^ (64 * k)
theorem cin0 (x y : Nat) : cin x y 0 = 0 := by simp [cin]; omega
theorem add_step (x y k : Nat) (h : k < 3) : cin x y k ≤ 1 ∧ limb (x + y) k = (limb x k + limb y k + cin x y k) % 2 ^ 64 ∧ cin x y (k + 1) = (limb x k + limb y k + cin x y k) / 2 ^ 64 := by
  obtain rfl | rfl | rfl : k = 0 ∨ k = 1 ∨ k = 2 := by omega
  all_goals
    simp [limb, cin]
    omega
set_option maxHeartbeats 1000000 in
theorem plus_c (x y : Nat) (w : World) : Ret 31 #[A (vals .u64 3 (limb x)), A (vals .u64 3 (limb y))] w (A (vals .u64 3 (limb (x + y)))) := by
  go_enter Tryd.func31, Tryd.ntmps31
  have hO := Own.start w
  go_upto_region 0 with (fail)
  refine Rg.ps [0, 1, 2] (fun ν => [(2, D (ν 0)), (3, D (ν 1)), (4, D (ν 2))]) (OI w (fun s ν => [[], [((ν 0), vals .u64 3 (limb x), 55)], [((ν 0), vals .u64 3 (limb x), 55), ((ν 1), vals .u64 3 (limb y), 55)], [((ν 0), vals .u64 3 (limb x), 55), ((ν 1), vals .u64 3 (limb y), 55), ((ν 2), vals .u64 3 (fun _ => 0), 55)]].getD s [])) (fun _ => 0) hO (Rg.ac (sn 0 (fun _ => vals .u64 3 (limb x)) 55 (fun _ w => run_box 55 _ rfl _ (by kernel_rfl) w) (fun _ => fit_l3 _)) (Rg.ac (sn 1 (fun _ => vals .u64 3 (limb y)) 55 (fun _ w => run_box 55 _ rfl _ (by kernel_rfl) w) (fun _ => fit_l3 _)) (Rg.ac (sn 2 (fun _ => vals .u64 3 (fun _ => 0)) 55 (fun _ w => al_l3 rfl w) (fun _ => fit_l3 _)) Rg.an))) ?_
  intro ν w1 hO
  replace hO : Own w w1 [((ν 0), vals .u64 3 (limb x), 55), ((ν 1), vals .u64 3 (limb y), 55), ((ν 2), vals .u64 3 (fun _ => 0), 55)] := hO
  simp only [Rg.putL, Act.put, List.setIfInBounds_toArray, List.set_cons_succ, List.set_cons_zero]
  generalize ν 0 = n2 at hO ⊢
  generalize ν 1 = n3 at hO ⊢
  generalize ν 2 = n4 at hO ⊢
  clear ν
  have HO : Hid (Own w w1 [(n2, vals .u64 3 (sw (limb (x + y)) (limb x) 0), 55), (n3, vals .u64 3 (limb y), 55), (n4, vals .u64 3 (fun _ => 0), 55)]) := hide (by rw [sw_zero]; exact hO)
  clear hO
  go_wp2_with (fail)
  go_loopw [5, 7] (fun x5 x7 wr => ∃ k : Nat, k ≤ 3 ∧ x7 = .int .i64 k ∧ x5 = Nv .u64 (cin x y k) ∧ Own w wr [(n2, vals .u64 3 (sw (limb (x + y)) (limb x) k), 55), (n3, vals .u64 3 (limb y), 55), (n4, vals .u64 3 (fun _ => 0), 55)]) (fun _ x7 _ => 3 - (intOf x7).toNat)
  case atStart => exact ⟨0, Nat.zero_le _, rfl, by rw [cin0]; rfl, HO.out⟩
  case round =>
    clear HO
    obtain ⟨k, hk9, rfl, rfl, hO⟩ := hrel
    by_cases hlt : k < 3
    · have hq0 : (0 : Int) ≤ (k : Int) := Int.natCast_nonneg k
      have hq1 : (k : Int) < 3 := by omega
      have hw1 := wr1 k (by omega)
      have hw0 := wr0 k (by omega)
      obtain ⟨ha1, ha2, ha3⟩ := add_step x y k hlt
      go_upto_region 5 with (fail)
      refine Rg.pl 14 [13] (fun _ => [(11, Nv .i64 k), (12, Nv .i64 k), (13, E n2 k), (14, Nv .u64 ((limb x) k)), (15, Nv .i64 k), (16, E n3 k), (17, Nv .u64 ((limb y) k)), (18, Nv .u64 (cin x y k)), (19, .tuple #[Nv .u64 (limb (x + y) k), Nv .u64 (cin x y (k + 1))]), (10, .tuple #[Nv .u64 (limb (x + y) k), Nv .u64 (cin x y (k + 1))]), (20, Nv .u64 (limb (x + y) k)), (21, Nv .u64 (cin x y (k + 1))), (22, E n2 k)]) (OI w (fun s ν => [[(n2, vals .u64 3 (sw (limb (x + y)) (limb x) k), 55), (n3, vals .u64 3 (limb y), 55), (n4, vals .u64 3 (fun _ => 0), 55)], [(n2, vals .u64 3 (sw (limb (x + y)) (limb x) (k + 1)), 55), (n3, vals .u64 3 (limb y), 55), (n4, vals .u64 3 (fun _ => 0), 55)]].getD s [])) (fun _ => 0) hO.drew (Rg.ac nv (Rg.ac nv (Rg.ac (nx (fun _ => E n2 k) (fun _ w => b_ia_l3 hlt w)) (Rg.ac (nc 0 0 0 (fun _ => k) (fun _ => Nv .u64 ((limb x) k)) agg_u64 (fun _ => (vals_get _ _ _ _ hlt).trans (by rw [sw_here])) (at1 0 fun _ => by kernel_rfl)) (Rg.ac nv (Rg.ac (nx (fun _ => E n3 k) (fun _ w => b_ia_l3 hlt w)) (Rg.ac (nc 0 0 1 (fun _ => k) (fun _ => Nv .u64 ((limb y) k)) agg_u64 (fun _ => vals_get _ _ _ _ hlt) (at1 0 fun _ => by kernel_rfl)) (Rg.ac nv (Rg.ac (nx (fun _ => .tuple #[Nv .u64 (limb (x + y) k), Nv .u64 (cin x y (k + 1))]) (fun _ w => b_add64 ha1 ha2 ha3 w)) (Rg.ac nv (Rg.ac nv (Rg.ac nv (Rg.ac (nx (fun _ => E n2 k) (fun _ w => b_ia_l3 hlt w)) (Rg.ac (sl 0 0 (fun _ => k) (fun _ => Nv .u64 (limb x k)) (fun _ => ((limb (x + y) k : Nat) : Int)) sz_u64 (fun _ => (vals_get _ _ _ _ hlt).trans (by rw [sw_here])) (fun _ => sw_set _ _ _ _ _ _ rfl) (fun _ => fit_l3 _)) (Rg.ac (nm (fun _ => Nv .u64 (cin x y (k + 1)))) Rg.an))))))))))))))) (fun _ => Nv .u64 (cin x y (k + 1))) ?_
      intro ν w2 hO
      replace hO : Own w w2 [(n2, vals .u64 3 (sw (limb (x + y)) (limb x) (k + 1)), 55), (n3, vals .u64 3 (limb y), 55), (n4, vals .u64 3 (fun _ => 0), 55)] := hO
      simp only [Rg.putL, Act.put, List.setIfInBounds_toArray, List.set_cons_succ, List.set_cons_zero]
      clear ν
      have HO2 : Hid (Own w w2 [(n2, vals .u64 3 (sw (limb (x + y)) (limb x) (k + 1)), 55), (n3, vals .u64 3 (limb y), 55), (n4, vals .u64 3 (fun _ => 0), 55)]) := hide hO
      clear hO
      go_wp2_with (fail)
      go_roundw
      case rel => exact ⟨k + 1, hlt, in_succ k, rfl, HO2.out⟩
      case measure => exact ms_lt hlt
    · have ek : k = 3 := by omega
      subst ek
      clear hlt hk9
      rw [sw_end] at hO
      go_upto_region 7 with (fail)
      refine Rg.ps [1] (fun _ => [(24, A (vals .u64 3 (limb (x + y))))]) (OI w (fun s ν => [[(n2, vals .u64 3 (limb (x + y)), 55), (n3, vals .u64 3 (limb y), 55), (n4, vals .u64 3 (fun _ => 0), 55)], [(n2, vals .u64 3 (limb (x + y)), 55), (n3, vals .u64 3 (limb y), 55), (n4, vals .u64 3 (limb (x + y)), 55)]].getD s [])) (fun _ => 0) hO (Rg.ac (nld 0 0 0 (at1 0 fun _ => by kernel_rfl) Tryd.underlying55) (Rg.ac (sr 0 2 (fun _ => vals .u64 3 (limb (x + y))) (fun _ => fit_l3 _)) Rg.an)) ?_
      intro ν w3 hO
      replace hO : Own w w3 [(n2, vals .u64 3 (limb (x + y)), 55), (n3, vals .u64 3 (limb y), 55), (n4, vals .u64 3 (limb (x + y)), 55)] := hO
      simp only [Rg.putL, Act.put, List.setIfInBounds_toArray, List.set_cons_succ, List.set_cons_zero]
      clear ν
      go_wp2_with (fail)
      refine bodyPost_ret (v := A (vals .u64 3 (limb (x + y)))) (results_cell_row Tryd.results31 _ _ n4 55 _ (0, 0) _ rfl (hO.row 2 rfl) Tryd.underlying55 rfl ((fit_l3 _).size rfl)) rfl ⟨rfl, hO.low⟩
set_option maxHeartbeats 400000 in
theorem mul64_any (x y : Nat) (w : World) (hx : x < 2 ^ 64) (hy : y < 2 ^ 64) :
    Calls Tryd.prog 48 #[.int .u64 x, .int .u64 y] w fun e w' => e = .returned (.tuple #[.int .u64 (x * y / 2 ^ 64 : Nat), .int .u64 (x * y % 2 ^ 64 : Nat)]) ∧ w' = w := by
  have Hh := hide (mul_hi x y hx hy)
  clear hx hy
  go_enter Tryd.func48, Tryd.ntmps48
  go_wp2
  go_ret2
  exact ⟨ret_two Hh.out (mul_lo x y), rfl⟩
theorem mul64_at (x y : Nat) (args : Array Value) (w : World) (h : args = #[.int .u64 x, .int .u64 y]) (hx : x < 2 ^ 64) (hy : y < 2 ^ 64) (hi lo : Nat) (hh : hi = x * y / 2 ^ 64) (hl : lo = x * y % 2 ^ 64) :
    Calls Tryd.prog 48 args w fun e w' => e = .returned (.tuple #[.int .u64 hi, .int .u64 lo]) ∧ w' = w := by
  subst h hh hl; exact mul64_any x y w hx hy
set_option maxHeartbeats 400000 in
theorem step_any (x y m c : Nat) (w : World) (hx : x < 2 ^ 64) (hy : y < 2 ^ 64) (hm : m < 2 ^ 64) (hc : c < 2 ^ 64) :
    Calls Tryd.prog 47 #[.int .u64 x, .int .u64 y, .int .u64 m, .int .u64 c] w fun e w' => e = .returned (.tuple #[.int .u64 ((x * y + m + c) % 2 ^ 64 : Nat), .int .u64 ((x * y + m + c) / 2 ^ 64 : Nat)]) ∧ w' = w := by
  obtain ⟨n1, n2, n3, n4⟩ := halves_num x y m c hx hy hm hc
  have a1 := add_lit (x * y % 2 ^ 64) m _ _ rfl rfl
  have a2 := add_lit ((x * y % 2 ^ 64 + m) % 2 ^ 64) c _ _ rfl rfl
  have w1 : IntKind.u64.wrap (((x * y / 2 ^ 64 : Nat) : Int) + (((x * y % 2 ^ 64 + m) / 2 ^ 64 : Nat) : Int)) = ((x * y / 2 ^ 64 + (x * y % 2 ^ 64 + m) / 2 ^ 64 : Nat) : Int) := by rw [wrap_u64']; omega
  have w2 : IntKind.u64.wrap (((x * y / 2 ^ 64 + (x * y % 2 ^ 64 + m) / 2 ^ 64 : Nat) : Int) + ((((x * y % 2 ^ 64 + m) % 2 ^ 64 + c) / 2 ^ 64 : Nat) : Int)) = (((x * y + m + c) / 2 ^ 64 : Nat) : Int) := by rw [wrap_u64']; omega
  have M := hide (fun w => mul64_at x y #[.int .u64 x, .int .u64 y] w rfl hx hy _ _ rfl rfl)
  rw [← n4]
  clear n1 n2 n3 n4 hx hy hm hc
  generalize ((x * y % 2 ^ 64 + m) % 2 ^ 64 + c) % 2 ^ 64 = s2 at *
  generalize ((x * y % 2 ^ 64 + m) % 2 ^ 64 + c) / 2 ^ 64 = o2 at *
  generalize (x * y + m + c) / 2 ^ 64 = g2 at *
  generalize x * y / 2 ^ 64 + (x * y % 2 ^ 64 + m) / 2 ^ 64 = g1 at *
  generalize (x * y % 2 ^ 64 + m) % 2 ^ 64 = s1 at *
  generalize (x * y % 2 ^ 64 + m) / 2 ^ 64 = o1 at *
  generalize x * y / 2 ^ 64 = hi at *
  generalize x * y % 2 ^ 64 = lo at *
  go_enter Tryd.func47, Tryd.ntmps47
  go_wp2_with fail
  refine (M.out _).mono ?_
  rintro e w' ⟨rfl, rfl⟩
  dsimp only
  go_wp2
  go_ret2
  exact ⟨rfl, rfl⟩
theorem step_c (x y m c : Nat) (hx : x < 2 ^ 64) (hy : y < 2 ^ 64) (hm : m < 2 ^ 64) (hc : c < 2 ^ 64) (w : World) : Ret 47 #[Nv .u64 x, Nv .u64 y, Nv .u64 m, Nv .u64 c] w (.tuple #[Nv .u64 ((x * y + m + c) % 2 ^ 64), Nv .u64 ((x * y + m + c) / 2 ^ 64)]) := (step_any x y m c w hx hy hm hc).mono fun _ _ h => ⟨h.1, h.2 ▸ Below.refl _ _⟩
theorem step_cc (x y m c s d : Nat) (hx : x < 2 ^ 64) (hy : y < 2 ^ 64) (hm : m < 2 ^ 64) (hc : c < 2 ^ 64) (hs : s = (x * y + m + c) % 2 ^ 64) (hd : d = (x * y + m + c) / 2 ^ 64) (w : World) : Ret 47 #[Nv .u64 x, Nv .u64 y, Nv .u64 m, Nv .u64 c] w (.tuple #[Nv .u64 s, Nv .u64 d]) := by
  subst hs hd
  exact step_c x y m c hx hy hm hc w
end Go.Proofs.YtanahjoiilfcbaaDoor

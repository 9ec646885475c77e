/- Walks: read, lowest. At most 24 bytes below 256; a number below 2^131. -/
import Derived.Test.YtanahjoiilfcbaaDoorSl
namespace Go.Proofs.YtanahjoiilfcbaaDoor
set_option maxRecDepth 100000
open Go.RowKit Rg

theorem lz : limb 0 = fun _ => 0 := funext fun i => by simp [limb]
theorem rd_set (b : Nat → Nat) (hb : ∀ i, b i < 256) (k v : Nat) (hv : v = limb (nb b (k + 1)) (k / 8)) : (vals .u64 3 (limb (nb b k))).setIfInBounds (k / 8) (.int .u64 ((v : Nat) : Int)) = vals .u64 3 (limb (nb b (k + 1))) := by
  subst hv
  rw [vals_set]
  refine vals_congr _ _ _ _ fun j _ => ?_
  by_cases h : j = k / 8
  · rw [if_pos h, h]
  · rw [if_neg h, limb_nb_other b hb k j h]
theorem rd_or (b : Nat → Nat) (hb : ∀ i, b i < 256) (k : Nat) : limb (nb b k) (k / 8) ||| b k * 2 ^ (k % 8 * 8) = limb (nb b (k + 1)) (k / 8) := by
  rw [Nat.or_comm, nat_join (k % 8 * 8) _ _ (by simp) (limb_nb b hb k), limb_nb_same b hb k, Nat.add_comm]
theorem shl_lt (b : Nat → Nat) (hb : ∀ i, b i < 256) (k s : Nat) (hs : s ≤ 56) : b k * 2 ^ s < 2 ^ 64 :=
  Nat.lt_of_lt_of_le (Nat.mul_lt_mul_of_pos_right (hb k) (Nat.two_pow_pos s)) (Nat.le_trans (Nat.mul_le_mul_left _ (Nat.pow_le_pow_right (by omega) hs)) (by decide))
set_option maxHeartbeats 1000000 in
theorem read_c (S : Option Addr) (n c : Nat) (b : Nat → Nat) (hb : ∀ i, b i < 256) (hn : n ≤ 24) (w : World) (hS : Rd w S n b) : Ret 30 #[.slice S n c] w (A (vals .u64 3 (limb (nb b n)))) := by
  have HS := hide hS
  have Hn := hide hn
  clear hS hn
  go_enter Tryd.func30, Tryd.ntmps30
  have hO := Own.start w
  go_upto_region 0 with (fail)
  refine Rg.ps [0] (fun ν => [(2, D (ν 0))]) (OI w (fun s ν => [[], [((ν 0), vals .u64 3 (fun _ => 0), 55)]].getD s [])) (fun _ => 0) hO (Rg.ac (sn 0 (fun _ => vals .u64 3 (fun _ => 0)) 55 (fun _ w => al_l3 rfl w) (fun _ => fit_l3 _)) Rg.an) ?_
  intro ν w1 hO
  replace hO : Own w w1 [((ν 0), vals .u64 3 (fun _ => 0), 55)] := hO
  simp only [Rg.putL, Act.put, List.setIfInBounds_toArray, List.set_cons_succ, List.set_cons_zero]
  generalize ν 0 = n2 at hO ⊢
  clear ν
  go_upto_region 1 with (fail)
  refine Rg.ps [0] (fun ν => [(3, D (ν 0))]) (OI w (fun s ν => [[(n2, vals .u64 3 (fun _ => 0), 55)], [(n2, vals .u64 3 (fun _ => 0), 55), ((ν 0), vals .u64 3 (fun _ => 0), 55)]].getD s [])) (fun _ => 0) hO (Rg.ac (sn 0 (fun _ => vals .u64 3 (fun _ => 0)) 55 (fun _ w => al_l3 rfl w) (fun _ => fit_l3 _)) Rg.an) ?_
  intro ν w2 hO
  replace hO : Own w w2 [(n2, vals .u64 3 (fun _ => 0), 55), ((ν 0), vals .u64 3 (fun _ => 0), 55)] := hO
  simp only [Rg.putL, Act.put, List.setIfInBounds_toArray, List.set_cons_succ, List.set_cons_zero]
  generalize ν 0 = n3 at hO ⊢
  clear ν
  have HO : Hid (Own w w2 [(n2, vals .u64 3 (fun _ => 0), 55), (n3, vals .u64 3 (limb (nb b 0)), 55)]) := hide (by rw [show nb b 0 = 0 from rfl, lz]; exact hO)
  clear hO
  go_wp2_with (fail)
  go_loopw [8] (fun x8 wr => ∃ k : Nat, k ≤ n ∧ x8 = .int .i64 k ∧ Own w wr [(n2, vals .u64 3 (fun _ => 0), 55), (n3, vals .u64 3 (limb (nb b k)), 55)]) (fun x8 _ => n - (intOf x8).toNat)
  case atStart => exact ⟨0, Nat.zero_le _, rfl, HO.out⟩
  case round =>
    clear HO
    obtain ⟨k, hk9, rfl, hO⟩ := hrel
    have hn := Hn.out
    by_cases hlt : k < n
    · have hq0 : (0 : Int) ≤ (k : Int) := Int.natCast_nonneg k
      have hq1 : (k : Int) < (n : Int) := by omega
      have hw1 := wr1 k (by omega)
      have hw0 := wr0 k (by omega)
      obtain ⟨a, rfl, hcx⟩ := HS.out.cell hlt
      have cx := hcx wr hO.low
      have hk8 : k / 8 < 3 := by omega
      have hk40 : k < 2 ^ 40 := by omega
      have hkm : k % 8 < 2 ^ 40 := by omega
      have hk56 : k % 8 * 8 ≤ 56 := by omega
      clear hn
      go_upto_region 5 with (fail)
      refine Rg.pd [12] (fun _ => [(13, Nv .i64 k), (14, Nv .i64 (k / 8)), (15, E n3 (k / 8)), (16, Nv .u64 (limb (nb b k) (k / 8))), (17, Nv .u8 (b k)), (18, Nv .u64 (b k)), (19, Nv .i64 k), (20, Nv .i64 (k % 8)), (21, Nv .i64 (k % 8 * 8)), (22, Nv .u64 (b k * 2 ^ (k % 8 * 8))), (23, Nv .u64 (limb (nb b (k + 1)) (k / 8))), (24, E n3 (k / 8))]) (OI w (fun s ν => [[(n2, vals .u64 3 (fun _ => 0), 55), (n3, vals .u64 3 (limb (nb b k)), 55)], [(n2, vals .u64 3 (fun _ => 0), 55), (n3, vals .u64 3 (limb (nb b (k + 1))), 55)]].getD s [])) (fun _ => 0) hO.drew (Rg.ac nv (Rg.ac (nx (fun _ => Nv .i64 (k / 8)) (fun _ w => b_quo8 hk40 w)) (Rg.ac (nx (fun _ => E n3 (k / 8)) (fun _ w => b_ia_l3 hk8 w)) (Rg.ac (nc 0 0 1 (fun _ => (k / 8)) (fun _ => Nv .u64 (limb (nb b k) (k / 8))) agg_u64 (fun _ => vals_get _ _ _ _ hk8) (at1 0 fun _ => by kernel_rfl)) (Rg.ac nv (Rg.ac (nx (fun _ => Nv .u64 (b k)) (fun _ w => b_c85 (hb k) w)) (Rg.ac nv (Rg.ac (nx (fun _ => Nv .i64 (k % 8)) (fun _ w => b_rem8 w)) (Rg.ac (nx (fun _ => Nv .i64 (k % 8 * 8)) (fun _ w => b_mulr8 hkm w)) (Rg.ac (nx (fun _ => Nv .u64 (b k * 2 ^ (k % 8 * 8))) (fun _ w => b_shl (hb k) hk56 w)) (Rg.ac (nx (fun _ => Nv .u64 (limb (nb b (k + 1)) (k / 8))) (fun _ w => b_or64 (rd_or b hb k) (limb_lt _ _) (shl_lt b hb k _ hk56) w)) (Rg.ac (nx (fun _ => E n3 (k / 8)) (fun _ w => b_ia_l3 hk8 w)) (Rg.ac (sl 0 1 (fun _ => (k / 8)) (fun _ => Nv .u64 (limb (nb b k) (k / 8))) (fun _ => ((limb (nb b (k + 1)) (k / 8) : Nat) : Int)) sz_u64 (fun _ => vals_get _ _ _ _ hk8) (fun _ => rd_set b hb k _ rfl) (fun _ => fit_l3 _)) Rg.an))))))))))))) ?_
      intro ν w3 hO
      replace hO : Own w w3 [(n2, vals .u64 3 (fun _ => 0), 55), (n3, vals .u64 3 (limb (nb b (k + 1))), 55)] := hO
      simp only [Rg.putL, Act.put, List.setIfInBounds_toArray, List.set_cons_succ, List.set_cons_zero]
      clear ν
      have HO2 : Hid (Own w w3 [(n2, vals .u64 3 (fun _ => 0), 55), (n3, vals .u64 3 (limb (nb b (k + 1))), 55)]) := hide hO
      clear hO
      go_wp2_with (fail)
      go_roundw
      case rel => exact ⟨k + 1, hlt, in_succ k, HO2.out⟩
      case measure => exact ms_lt hlt
    · have ek : k = n := by omega
      obtain rfl := ek
      clear hlt hk9
      go_upto_region 7 with (fail)
      refine Rg.ps [1] (fun _ => [(26, A (vals .u64 3 (limb (nb b k))))]) (OI w (fun s ν => [[(n2, vals .u64 3 (fun _ => 0), 55), (n3, vals .u64 3 (limb (nb b k)), 55)], [(n2, vals .u64 3 (limb (nb b k)), 55), (n3, vals .u64 3 (limb (nb b k)), 55)]].getD s [])) (fun _ => 0) hO (Rg.ac (nld 0 0 1 (at1 0 fun _ => by kernel_rfl) Tryd.underlying55) (Rg.ac (sr 0 0 (fun _ => vals .u64 3 (limb (nb b k))) (fun _ => fit_l3 _)) Rg.an)) ?_
      intro ν w4 hO
      replace hO : Own w w4 [(n2, vals .u64 3 (limb (nb b k)), 55), (n3, vals .u64 3 (limb (nb b k)), 55)] := hO
      simp only [Rg.putL, Act.put, List.setIfInBounds_toArray, List.set_cons_succ, List.set_cons_zero]
      clear ν
      clear hn
      go_wp2_with (fail)
      refine bodyPost_ret (v := A (vals .u64 3 (limb (nb b k)))) (results_cell_row Tryd.results30 _ _ n2 55 _ (0, 0) _ rfl (hO.row 0 rfl) Tryd.underlying55 rfl ((fit_l3 _).size rfl)) rfl ⟨rfl, hO.low⟩
theorem low_mul {x : Nat} (h : x < 2 ^ 131) : 5 * ((x + 5) / 2 ^ 130) < 2 ^ 64 := by omega
theorem limb_two {x : Nat} (h : x < 2 ^ 131) : limb (x + 5) 2 / 4 = (x + 5) / 2 ^ 130 := by rw [limb2]; omega
theorem bd_five {a : Nat} (ha : a < 2 ^ 64) : Tryd.prog.built 55 [(0, Nv .u64 a)] = some (vals .u64 3 (limb a)) := by
  have e : vals .u64 3 (limb a) = vals .u64 3 (fun j => if j = 0 then a else 0) := vals_congr _ _ _ _ fun j hj => by
    obtain rfl | rfl | rfl : j = 0 ∨ j = 1 ∨ j = 2 := by omega
    · rw [limb0, if_pos rfl]; omega
    · rw [limb1, if_neg (by omega)]; omega
    · rw [limb2, if_neg (by omega)]; omega
  have e2 : Tryd.prog.built 55 [(0, Nv .u64 a)] = some (vals .u64 3 (fun j => if j = 0 then a else 0)) := by kernel_rfl
  exact e2.trans (congrArg some e.symm)
theorem b_ix2 {ρ : Operand → Value} {o : Oper} {x y : Operand} {f : Nat → Nat} (w : World) (ho : o.op = .index 55 x y := by rfl) (hx : ρ x = A (vals .u64 3 f) := by kernel_rfl) (hy : ρ y = .int .i64 2 := by kernel_rfl) : (execOp ρ o).run Tryd.prog w = .ok (.value (Nv .u64 (f 2))) w := by
  have e : (Instr.index 55 (A (vals .u64 3 f)) (.int .i64 2)).run Tryd.prog w = .ok (Nv .u64 (f 2)) w := by kernel_rfl
  unfold execOp
  simp only [ho, hx, hy, Sem.run_bind, e, Result.andThen_ok, Sem.run_pure]
set_option maxHeartbeats 1000000 in
theorem lowest_c (x : Nat) (hx : x < 2 ^ 131) (w : World) : Ret 32 #[A (vals .u64 3 (limb x))] w (A (vals .u64 3 (limb (low x)))) := by
  obtain ⟨q, hq⟩ : ∃ q, Hid (q = (x + 5) / 2 ^ 130) := ⟨_, hide rfl⟩
  have h5 : 5 * q < 2 ^ 64 := by rw [hq.out]; exact low_mul hx
  have e2 : limb (x + 5) 2 / 4 = q := by rw [hq.out]; exact limb_two hx
  have el : low x = x + 5 * q := by rw [hq.out]; rfl
  rw [el]
  have h55 : (5 : Nat) < 2 ^ 64 := by decide
  clear hq hx el
  go_enter Tryd.func32, Tryd.ntmps32
  have hO := Own.start w
  go_upto_region 0 with (fail)
  refine Rg.ps [0, 1] (fun ν => [(1, D (ν 0)), (2, D (ν 1))]) (OI w (fun s ν => [[], [((ν 0), vals .u64 3 (limb x), 55)], [((ν 0), vals .u64 3 (limb x), 55), ((ν 1), vals .u64 3 (fun _ => 0), 55)]].getD s [])) (fun _ => 0) hO (Rg.ac (sn 0 (fun _ => vals .u64 3 (limb x)) 55 (fun _ w => run_box 55 _ rfl _ (by kernel_rfl) w) (fun _ => fit_l3 _)) (Rg.ac (sn 1 (fun _ => vals .u64 3 (fun _ => 0)) 55 (fun _ w => al_l3 rfl w) (fun _ => fit_l3 _)) Rg.an)) ?_
  intro ν w1 hO
  replace hO : Own w w1 [((ν 0), vals .u64 3 (limb x), 55), ((ν 1), vals .u64 3 (fun _ => 0), 55)] := hO
  simp only [Rg.putL, Act.put, List.setIfInBounds_toArray, List.set_cons_succ, List.set_cons_zero]
  generalize ν 0 = n1 at hO ⊢
  generalize ν 1 = n2 at hO ⊢
  clear ν
  go_upto_region 1 with (fail)
  refine Rg.ps [2] (fun _ => [(4, A (vals .u64 3 (limb x))), (5, A (vals .u64 3 (limb 5))), (6, A (vals .u64 3 (limb (x + 5)))), (7, Nv .u64 (limb (x + 5) 2)), (8, Nv .u64 (limb (x + 5) 2 / 4)), (3, Nv .u64 (limb (x + 5) 2 / 4))]) (OI w (fun s ν => [[(n1, vals .u64 3 (limb x), 55), (n2, vals .u64 3 (fun _ => 0), 55)], [(n1, vals .u64 3 (limb x), 55), (n2, vals .u64 3 (fun _ => 0), 55)]].getD s [])) (fun _ => 0) hO (Rg.ac (nld 0 0 0 (at1 0 fun _ => by kernel_rfl) Tryd.underlying55) (Rg.ac (nx (fun _ => A (vals .u64 3 (limb 5))) (fun _ w => run_bd 55 _ rfl [(0, Nv .u64 5)] (by kernel_rfl) _ (bd_five h55) w)) (Rg.ac (sc 0 31 (fun _ => #[A (vals .u64 3 (limb x)), A (vals .u64 3 (limb 5))]) (fun _ => A (vals .u64 3 (limb (x + 5)))) (fun _ => plus_c x 5)) (Rg.ac (nx (fun _ => Nv .u64 (limb (x + 5) 2)) (fun _ w => b_ix2 w)) (Rg.ac (nx (fun _ => Nv .u64 (limb (x + 5) 2 / 4)) (fun _ w => b_shr2 w)) (Rg.ac nv Rg.an)))))) ?_
  intro ν w2 hO
  replace hO : Own w w2 [(n1, vals .u64 3 (limb x), 55), (n2, vals .u64 3 (fun _ => 0), 55)] := hO
  simp only [Rg.putL, Act.put, List.setIfInBounds_toArray, List.set_cons_succ, List.set_cons_zero]
  clear ν
  rw [e2]
  clear e2
  go_upto_region 2 with (fail)
  refine Rg.ps [4, 5] (fun _ => [(9, A (vals .u64 3 (limb x))), (10, Nv .u64 q), (11, Nv .u64 (5 * q)), (12, A (vals .u64 3 (limb (5 * q)))), (13, A (vals .u64 3 (limb (x + 5 * q))))]) (OI w (fun s ν => [[(n1, vals .u64 3 (limb x), 55), (n2, vals .u64 3 (fun _ => 0), 55)], [(n1, vals .u64 3 (limb x), 55), (n2, vals .u64 3 (fun _ => 0), 55)], [(n1, vals .u64 3 (limb x), 55), (n2, vals .u64 3 (limb (x + 5 * q)), 55)]].getD s [])) (fun _ => 0) hO (Rg.ac (nld 0 0 0 (at1 0 fun _ => by kernel_rfl) Tryd.underlying55) (Rg.ac nv (Rg.ac (nx (fun _ => Nv .u64 (5 * q)) (fun _ w => b_mul64 h5 w)) (Rg.ac (nx (fun _ => A (vals .u64 3 (limb (5 * q)))) (fun _ w => run_bd 55 _ rfl [(0, Nv .u64 (5 * q))] (by kernel_rfl) _ (bd_five h5) w)) (Rg.ac (sc 0 31 (fun _ => #[A (vals .u64 3 (limb x)), A (vals .u64 3 (limb (5 * q)))]) (fun _ => A (vals .u64 3 (limb (x + 5 * q)))) (fun _ => plus_c x (5 * q))) (Rg.ac (sr 1 1 (fun _ => vals .u64 3 (limb (x + 5 * q))) (fun _ => fit_l3 _)) Rg.an)))))) ?_
  intro ν w3 hO
  replace hO : Own w w3 [(n1, vals .u64 3 (limb x), 55), (n2, vals .u64 3 (limb (x + 5 * q)), 55)] := hO
  simp only [Rg.putL, Act.put, List.setIfInBounds_toArray, List.set_cons_succ, List.set_cons_zero]
  clear ν
  go_wp2_with (fail)
  refine bodyPost_ret (v := A (vals .u64 3 (limb (x + 5 * q)))) (results_cell_row Tryd.results32 _ _ n2 55 _ (0, 0) _ rfl (hO.row 1 rfl) Tryd.underlying55 rfl ((fit_l3 _).size rfl)) rfl ⟨rfl, hO.low⟩
end Go.Proofs.YtanahjoiilfcbaaDoor

/- Walks: PolyOne. The variable kept as it is laid; bytes below 256. -/
import Derived.Test.YtflmnhjfgdbfeaaDoorKg
namespace Go.Proofs.YtflmnhjfgdbfeaaDoor
set_option maxRecDepth 100000
open Go.RowKit Rg

theorem laid_set (kd : IntKind) (N : Nat) (h f : Nat → Nat) (d k v : Nat) (hv : v = f k) : (vals kd N (laid h f d k)).setIfInBounds (d + k) (.int kd ((v : Nat) : Int)) = vals kd N (laid h f d (k + 1)) := by
  subst hv
  rw [vals_set]
  refine vals_congr _ _ _ _ fun j _ => ?_
  unfold laid
  by_cases h1 : j = d + k
  · subst h1
    rw [if_pos rfl, if_pos ⟨by omega, by omega⟩, Nat.add_sub_cancel_left]
  · rw [if_neg h1]
    by_cases h2 : d ≤ j ∧ j < d + k
    · rw [if_pos h2, if_pos ⟨by omega, by omega⟩]
    · rw [if_neg h2, if_neg (by omega)]
def k1 (i : Nat) : Nat := if i = 0 then 1 else 0
theorem bd_k1 : Tryd.prog.built 22 [(0, .int .u8 1)] = some (vals .u8 32 k1) := by kernel_rfl
/-- What is added to the half's digits. -/
def dg1 (g : Nat → Nat) (n i : Nat) : Nat := if i < n then g i else if i = n then 1 else 0
theorem dg1_nb (g : Nat → Nat) (n : Nat) (hn : n < 16) : nb (dg1 g n) 16 = nb g n + 2 ^ (8 * n) := by
  have e1 : nb (dg1 g n) (n + 1 + (15 - n)) = nb (dg1 g n) (n + 1) := nb_short _ _ _ fun i hi _ => by unfold dg1; rw [if_neg (by omega), if_neg (by omega)]
  rw [show n + 1 + (15 - n) = 16 by omega] at e1
  rw [e1, nb, nb_congr (dg1 g n) g n fun j hj => if_pos hj]
  have e2 : dg1 g n n = 1 := by unfold dg1; rw [if_neg (by omega), if_pos rfl]
  rw [e2, Nat.one_mul]
theorem tm_one (v : Nat) (h : v < 2 ^ 130) : tm v 1 = v := by
  unfold tm
  rw [Nat.mul_one, Nat.mod_eq_of_lt h, Nat.div_eq_of_lt h]
  rfl
theorem tg_one (half g : Nat → Nat) (hg : ∀ i, g i < 256) (n : Nat) (h0 : 0 < n) (hn : n < 16) (i : Nat) : tg (laid k1 half 16 16) g n i = byt (nb (fun i => half i + dg1 g n i) 16) i := by
  have e1 : nb (cl (laid k1 half 16 16)) 16 = 1 := by
    have : nb (cl (laid k1 half 16 16)) 16 = nb k1 16 := nb_congr _ _ 16 fun j hj => by
      have e : laid k1 half 16 16 j = k1 j := by unfold laid; rw [if_neg (by omega)]
      unfold cl
      rw [e]
      unfold k1
      by_cases h : j = 0
      · subst h; rfl
      · rw [if_neg h]
        split
        · rfl
        · split <;> rfl
    rw [this]
    decide +kernel
  have e2 : sk16 (laid k1 half 16 16) = nb half 16 := nb_congr _ _ 16 fun j hj => by
    show laid k1 half 16 16 (16 + j) = half j
    unfold laid
    rw [if_pos ⟨by omega, by omega⟩, Nat.add_sub_cancel_left]
  have hv : nb g n + 2 ^ (8 * n) < 2 ^ 129 := by
    have h1 := nb_lt g hg n
    have h2 : 2 ^ (8 * n) ≤ 2 ^ 120 := Nat.pow_le_pow_right (by omega) (by omega)
    omega
  have e3 : pv 1 g n = nb g n + 2 ^ (8 * n) := by
    rw [pv_at 1 g n 0 n (by omega) hn, if_neg (by omega)]
    rw [nb_congr (fun j => g (16 * 0 + j)) g n fun j _ => by rw [Nat.mul_zero, Nat.zero_add], fb, Nat.zero_add]
    exact tm_one _ (by omega)
  unfold tg
  rw [e1, e2, e3, low_small _ hv, nb_add, dg1_nb g n hn, Nat.add_comm]
theorem b_neq8 {ρ : Operand → Value} {o : Oper} {x y : Operand} {a c : Nat} (h : a = c) (w : World) (ho : o.op = .binOp .neq 5 x y 5 := by rfl) (hx : ρ x = Nv .u8 a := by kernel_rfl) (hy : ρ y = Nv .u8 c := by kernel_rfl) : (execOp ρ o).run Tryd.prog w = .ok (.value (.bool false)) w := by
  subst h
  unfold execOp
  simp only [ho, hx, hy]
  go_simp
theorem b_remE {ρ : Operand → Value} {o : Oper} {x y : Operand} {k d : Nat} (h : k % 256 = d) (w : World) (ho : o.op = .binOp .rem 3 x y 3 := by rfl) (hx : ρ x = Nv .i64 k := by kernel_rfl) (hy : ρ y = .int .i64 256 := by kernel_rfl) : (execOp ρ o).run Tryd.prog w = .ok (.value (Nv .i64 d)) w := by
  subst h; exact b_rem256 w ho hx hy
theorem b_quoE {ρ : Operand → Value} {o : Oper} {x y : Operand} {k d : Nat} (hk : k < 2 ^ 40) (h : k / 256 = d) (w : World) (ho : o.op = .binOp .quo 3 x y 3 := by rfl) (hx : ρ x = Nv .i64 k := by kernel_rfl) (hy : ρ y = .int .i64 256 := by kernel_rfl) : (execOp ρ o).run Tryd.prog w = .ok (.value (Nv .i64 d)) w := by
  subst h; exact b_quo256 hk w ho hx hy
theorem sum_set (half g : Nat → Nat) (n : Nat) : (vals .i64 16 (sw (fun j => half j + g j) half n)).setIfInBounds n (.int .i64 ((half n + 1 : Nat) : Int)) = vals .i64 16 (fun i => half i + dg1 g n i) := by
  rw [vals_set]
  refine vals_congr _ _ _ _ fun j _ => ?_
  show (if j = n then half n + 1 else sw (fun j => half j + g j) half n j) = half j + dg1 g n j
  unfold sw dg1
  by_cases h : j = n
  · subst h; rw [if_pos rfl, if_neg (by omega), if_pos rfl]
  · rw [if_neg h]
    by_cases h2 : j < n
    · rw [if_pos h2, if_pos h2]
    · rw [if_neg h2, if_neg h2, if_neg h]; rfl
set_option maxHeartbeats 8000000 in
theorem one_walk (half : Nat → Nat) (hh : ∀ i, half i < 256) (S : Option Addr) (n c : Nat) (g : Nat → Nat) (hg : ∀ i, g i < 256) (hc : n ≤ c) (w : World) (hG : Gl w 0 (vals .u64 2 kp)) (hS : Rd w S n g) : Ret 7 #[.slice S n c, A (vals .u8 16 half)] w (.bool true) := by
  have HA : Hid (∀ w1 : World, Below w.heap.size w w1 → Ret 8 #[] w1 (.bool true)) := hide fun w1 h => awake_c w1 (hG.low h)
  have HS := hide hS
  have Hc := hide hc
  have HG := hide hG
  clear hS hc hG
  go_enter Tryd.func7, Tryd.ntmps7
  have hO := Own.start w
  go_upto_region 0 with (fail)
  refine Rg.ps [0] (fun ν => [(3, D (ν 0)), (4, .bool false)]) (OI w (fun s ν => [[], [((ν 0), vals .u8 16 half, 25)]].getD s [])) (fun _ => 0) hO (Rg.ac (sn 0 (fun _ => vals .u8 16 half) 25 (fun _ w => run_box 25 _ rfl _ (by kernel_rfl) w) (fun _ => fit_b16 _)) (Rg.ac nv Rg.an)) ?_
  intro ν w1 hO
  replace hO : Own w w1 [((ν 0), vals .u8 16 half, 25)] := hO
  simp only [Rg.putL, Act.put, List.setIfInBounds_toArray, List.set_cons_succ, List.set_cons_zero]
  generalize ν 0 = n3 at hO ⊢
  clear ν
  go_upto_region 1 with (fail)
  refine Rg.ps [0] (fun _ => [(14, .bool true), (5, .bool true)]) (OI w (fun s ν => [[(n3, vals .u8 16 half, 25)], [(n3, vals .u8 16 half, 25)]].getD s [])) (fun _ => 0) hO (Rg.ac (sq 0 8 (fun _ => #[]) (fun _ => .bool true) (fun ν w hO => HA.out w hO.low)) (Rg.ac nv Rg.an)) ?_
  intro ν w2 hO
  replace hO : Own w w2 [(n3, vals .u8 16 half, 25)] := hO
  simp only [Rg.putL, Act.put, List.setIfInBounds_toArray, List.set_cons_succ, List.set_cons_zero]
  clear ν
  by_cases hq : 0 < n ∧ n < 16
  · have h0 : ¬ (n : Int) = 0 := by omega
    have h1 : ¬ (15 : Int) < (n : Int) := by omega
    have Hq := hide hq
    clear hq
    go_upto_region 4 with (fail)
    clear h0 h1
    refine Rg.ps [1, 2] (fun ν => [(24, A (vals .u8 32 k1)), (6, D (ν 1))]) (OI w (fun s ν => [[(n3, vals .u8 16 half, 25)], [(n3, vals .u8 16 half, 25), ((ν 1), vals .u8 32 (fun _ => 0), 22)], [(n3, vals .u8 16 half, 25), ((ν 1), vals .u8 32 k1, 22)]].getD s [])) (fun _ => 0) hO (Rg.ac (nx (fun _ => A (vals .u8 32 k1)) (fun _ w => run_bd 22 _ rfl [(0, Nv .u8 1)] (by kernel_rfl) _ bd_k1 w)) (Rg.ac (sn 0 (fun _ => vals .u8 32 (fun _ => 0)) 22 (fun _ w => al_b32 rfl w) (fun _ => fit_b32 _)) (Rg.ac (sr 1 1 (fun _ => vals .u8 32 k1) (fun _ => fit_b32 _)) Rg.an))) ?_
    intro ν w3 hO
    replace hO : Own w w3 [(n3, vals .u8 16 half, 25), ((ν 1), vals .u8 32 k1, 22)] := hO
    simp only [Rg.putL, Act.put, List.setIfInBounds_toArray, List.set_cons_succ, List.set_cons_zero]
    generalize ν 1 = n6 at hO ⊢
    clear ν
    go_upto_region 5 with (fail)
    refine Rg.ps [1, 2] (fun ν => [(25, A (vals .i64 16 (fun _ => 0))), (7, D (ν 1))]) (OI w (fun s ν => [[(n3, vals .u8 16 half, 25), (n6, vals .u8 32 k1, 22)], [(n3, vals .u8 16 half, 25), (n6, vals .u8 32 k1, 22), ((ν 1), vals .i64 16 (fun _ => 0), 33)], [(n3, vals .u8 16 half, 25), (n6, vals .u8 32 k1, 22), ((ν 1), vals .i64 16 (fun _ => 0), 33)]].getD s [])) (fun _ => 0) hO (Rg.ac (nx (fun _ => A (vals .i64 16 (fun _ => 0))) (fun _ w => run_bd 33 _ rfl [] (by kernel_rfl) _ bd_i16 w)) (Rg.ac (sn 0 (fun _ => vals .i64 16 (fun _ => 0)) 33 (fun _ w => al_i16 rfl w) (fun _ => fit_i16 _)) (Rg.ac (sr 1 2 (fun _ => vals .i64 16 (fun _ => 0)) (fun _ => fit_i16 _)) Rg.an))) ?_
    intro ν w4 hO
    replace hO : Own w w4 [(n3, vals .u8 16 half, 25), (n6, vals .u8 32 k1, 22), ((ν 1), vals .i64 16 (fun _ => 0), 33)] := hO
    simp only [Rg.putL, Act.put, List.setIfInBounds_toArray, List.set_cons_succ, List.set_cons_zero]
    generalize ν 1 = n7 at hO ⊢
    clear ν
    have HO : Hid (Own w w4 [(n3, vals .u8 16 half, 25), (n6, vals .u8 32 (laid k1 half 16 0), 22), (n7, vals .i64 16 (sw half (fun _ => 0) 0), 33)]) := hide (by rw [sw_zero, laid_zero]; exact hO)
    clear hO
    go_wp2_with (fail)
    go_loopw [8] (fun x8 wr => ∃ k : Nat, k ≤ 16 ∧ x8 = .int .i64 k ∧ Own w wr [(n3, vals .u8 16 half, 25), (n6, vals .u8 32 (laid k1 half 16 k), 22), (n7, vals .i64 16 (sw half (fun _ => 0) k), 33)]) (fun x8 _ => 16 - (intOf x8).toNat)
    case atStart => exact ⟨0, Nat.zero_le _, rfl, HO.out⟩
    case round =>
      clear HO
      obtain ⟨k, hk9, rfl, hO⟩ := hrel
      by_cases hlt : k < 16
      · have hq0 : (0 : Int) ≤ (k : Int) := Int.natCast_nonneg k
        have hq1 : (k : Int) < 16 := by omega
        have hw1 := wr1 k (by omega)
        have hw0 := wr0 k (by omega)
        have hk32 : 16 + k < 32 := by omega
        have h16 : 16 < 2 ^ 40 := by decide
        have hk40 : k < 2 ^ 40 := by omega
        go_upto_region 9 with (fail)
        refine Rg.ps [6] (fun _ => [(30, Nv .i64 k), (31, Nv .i64 (16 + k)), (32, Nv .i64 k), (33, E n3 k), (34, Nv .u8 (half k)), (35, E n6 (16 + k))]) (OI w (fun s ν => [[(n3, vals .u8 16 half, 25), (n6, vals .u8 32 (laid k1 half 16 k), 22), (n7, vals .i64 16 (sw half (fun _ => 0) k), 33)], [(n3, vals .u8 16 half, 25), (n6, vals .u8 32 (laid k1 half 16 (k + 1)), 22), (n7, vals .i64 16 (sw half (fun _ => 0) k), 33)]].getD s [])) (fun _ => 0) hO (Rg.ac nv (Rg.ac (nx (fun _ => Nv .i64 (16 + k)) (fun _ w => b_add h16 hk40 w)) (Rg.ac nv (Rg.ac (nx (fun _ => E n3 k) (fun _ w => b_ia_b16 hlt w)) (Rg.ac (nc 0 0 0 (fun _ => k) (fun _ => Nv .u8 (half k)) agg_u8 (fun _ => vals_get _ _ _ _ hlt) (at1 0 fun _ => by kernel_rfl)) (Rg.ac (nx (fun _ => E n6 (16 + k)) (fun _ w => b_ia_b32 hk32 w)) (Rg.ac (sl 0 1 (fun _ => (16 + k)) (fun _ => Nv .u8 (laid k1 half 16 k (16 + k))) (fun _ => ((half k : Nat) : Int)) sz_u8 (fun _ => vals_get _ _ _ _ hk32) (fun _ => laid_set _ _ _ _ _ _ _ rfl) (fun _ => fit_b32 _)) Rg.an))))))) ?_
        intro ν w5 hO
        replace hO : Own w w5 [(n3, vals .u8 16 half, 25), (n6, vals .u8 32 (laid k1 half 16 (k + 1)), 22), (n7, vals .i64 16 (sw half (fun _ => 0) k), 33)] := hO
        simp only [Rg.putL, Act.put, List.setIfInBounds_toArray, List.set_cons_succ, List.set_cons_zero]
        clear ν
        go_upto_region 10 with (fail)
        refine Rg.ps [6] (fun _ => [(36, Nv .i64 k), (37, Nv .i64 k), (38, E n3 k), (39, Nv .u8 (half k)), (40, Nv .i64 (half k)), (41, E n7 k)]) (OI w (fun s ν => [[(n3, vals .u8 16 half, 25), (n6, vals .u8 32 (laid k1 half 16 (k + 1)), 22), (n7, vals .i64 16 (sw half (fun _ => 0) k), 33)], [(n3, vals .u8 16 half, 25), (n6, vals .u8 32 (laid k1 half 16 (k + 1)), 22), (n7, vals .i64 16 (sw half (fun _ => 0) (k + 1)), 33)]].getD s [])) (fun _ => 0) hO (Rg.ac nv (Rg.ac nv (Rg.ac (nx (fun _ => E n3 k) (fun _ w => b_ia_b16 hlt w)) (Rg.ac (nc 0 0 0 (fun _ => k) (fun _ => Nv .u8 (half k)) agg_u8 (fun _ => vals_get _ _ _ _ hlt) (at1 0 fun _ => by kernel_rfl)) (Rg.ac (nx (fun _ => Nv .i64 (half k)) (fun _ w => b_c53 (hh k) w)) (Rg.ac (nx (fun _ => E n7 k) (fun _ w => b_ia_i16 hlt w)) (Rg.ac (sl 0 2 (fun _ => k) (fun _ => Nv .i64 0) (fun _ => ((half k : Nat) : Int)) sz_int (fun _ => (vals_get _ _ _ _ hlt).trans (by rw [sw_here])) (fun _ => sw_set _ _ _ _ _ _ rfl) (fun _ => fit_i16 _)) Rg.an))))))) ?_
        intro ν w6 hO
        replace hO : Own w w6 [(n3, vals .u8 16 half, 25), (n6, vals .u8 32 (laid k1 half 16 (k + 1)), 22), (n7, vals .i64 16 (sw half (fun _ => 0) (k + 1)), 33)] := hO
        simp only [Rg.putL, Act.put, List.setIfInBounds_toArray, List.set_cons_succ, List.set_cons_zero]
        clear ν
        have HO2 : Hid (Own w w6 [(n3, vals .u8 16 half, 25), (n6, vals .u8 32 (laid k1 half 16 (k + 1)), 22), (n7, vals .i64 16 (sw half (fun _ => 0) (k + 1)), 33)]) := hide hO
        clear hO
        go_wp2_with (fail)
        go_roundw
        case rel => exact ⟨k + 1, hlt, in_succ k, HO2.out⟩
        case measure => exact ms_lt hlt
      · have ek : k = 16 := by omega
        subst ek
        clear hlt hk9
        rw [sw_end] at hO
        have HO : Hid (Own w wr [(n3, vals .u8 16 half, 25), (n6, vals .u8 32 (laid k1 half 16 16), 22), (n7, vals .i64 16 (sw (fun j => half j + g j) half 0), 33)]) := hide (by rw [sw_zero]; exact hO)
        clear hO
        go_wp2_with (fail)
        go_loopw [9] (fun x9 wr => ∃ k : Nat, k ≤ n ∧ x9 = .int .i64 k ∧ Own w wr [(n3, vals .u8 16 half, 25), (n6, vals .u8 32 (laid k1 half 16 16), 22), (n7, vals .i64 16 (sw (fun j => half j + g j) half k), 33)]) (fun x9 _ => n - (intOf x9).toNat)
        case atStart => exact ⟨0, Nat.zero_le _, rfl, HO.out⟩
        case round =>
          clear HO
          obtain ⟨k, hk9, rfl, hO⟩ := hrel
          have hq9 := Hq.out
          by_cases hlt : k < n
          · have hq0 : (0 : Int) ≤ (k : Int) := Int.natCast_nonneg k
            have hq1 : (k : Int) < (n : Int) := by omega
            have hw1 := wr1 k (by omega)
            have hw0 := wr0 k (by omega)
            obtain ⟨a, rfl, hcx⟩ := HS.out.cell hlt
            have hk16 : k < 16 := by omega
            have hb1 : half k < 2 ^ 40 := Nat.lt_trans (hh k) (by decide)
            have hb2 : g k < 2 ^ 40 := Nat.lt_trans (hg k) (by decide)
            clear hq9
            go_upto_region 14 with (fail)
            refine Rg.pd [11] (fun _ => [(48, Nv .i64 k), (49, Nv .i64 k), (50, E n7 k), (51, Nv .i64 (half k)), (52, .slice (some a) n c), (53, Nv .i64 k), (54, .pointer (some (a.add k))), (55, Nv .u8 (g k)), (56, Nv .i64 (g k)), (57, Nv .i64 (half k + g k)), (58, E n7 k)]) (OI w (fun s ν => [[(n3, vals .u8 16 half, 25), (n6, vals .u8 32 (laid k1 half 16 16), 22), (n7, vals .i64 16 (sw (fun j => half j + g j) half k), 33)], [(n3, vals .u8 16 half, 25), (n6, vals .u8 32 (laid k1 half 16 16), 22), (n7, vals .i64 16 (sw (fun j => half j + g j) half (k + 1)), 33)]].getD s [])) (fun _ => 0) hO.drew (Rg.ac nv (Rg.ac nv (Rg.ac (nx (fun _ => E n7 k) (fun _ w => b_ia_i16 hk16 w)) (Rg.ac (nc 0 0 2 (fun _ => k) (fun _ => Nv .i64 (half k)) agg_int (fun _ => (vals_get _ _ _ _ hk16).trans (by rw [sw_here])) (at1 0 fun _ => by kernel_rfl)) (Rg.ac nv (Rg.ac nv (Rg.ac (nx (fun _ => .pointer (some (a.add k))) (fun _ w => b_iaA (c := c) hlt w)) (Rg.ac (nca (Nv .u8 (g k)) hcx agg_u8) (Rg.ac (nx (fun _ => Nv .i64 (g k)) (fun _ w => b_c53 (hg k) w)) (Rg.ac (nx (fun _ => Nv .i64 (half k + g k)) (fun _ w => b_add hb1 hb2 w)) (Rg.ac (nx (fun _ => E n7 k) (fun _ w => b_ia_i16 hk16 w)) (Rg.ac (sl 0 2 (fun _ => k) (fun _ => Nv .i64 (half k)) (fun _ => ((half k + g k : Nat) : Int)) sz_int (fun _ => (vals_get _ _ _ _ hk16).trans (by rw [sw_here])) (fun _ => sw_set _ _ (fun j => half j + g j) _ _ _ rfl) (fun _ => fit_i16 _)) Rg.an)))))))))))) ?_
            intro ν w7 hO
            replace hO : Own w w7 [(n3, vals .u8 16 half, 25), (n6, vals .u8 32 (laid k1 half 16 16), 22), (n7, vals .i64 16 (sw (fun j => half j + g j) half (k + 1)), 33)] := hO
            simp only [Rg.putL, Act.put, List.setIfInBounds_toArray, List.set_cons_succ, List.set_cons_zero]
            clear ν
            have HO2 : Hid (Own w w7 [(n3, vals .u8 16 half, 25), (n6, vals .u8 32 (laid k1 half 16 16), 22), (n7, vals .i64 16 (sw (fun j => half j + g j) half (k + 1)), 33)]) := hide hO
            clear hO
            go_wp2_with (fail)
            go_roundw
            case rel => exact ⟨k + 1, hlt, in_succ k, HO2.out⟩
            case measure => exact ms_lt hlt
          · have ek : k = n := by omega
            obtain rfl := ek
            clear hlt hk9
            have hk16 : k < 16 := hq9.2
            have hb1 : half k < 2 ^ 40 := Nat.lt_trans (hh k) (by decide)
            have h140 : 1 < 2 ^ 40 := by decide
            clear hq9
            go_upto_region 15 with (fail)
            refine Rg.ps [8] (fun _ => [(59, .slice S k c), (60, Nv .i64 k), (61, .slice S k c), (62, Nv .i64 k), (63, E n7 k), (64, Nv .i64 (half k)), (65, Nv .i64 (half k + 1)), (66, E n7 k)]) (OI w (fun s ν => [[(n3, vals .u8 16 half, 25), (n6, vals .u8 32 (laid k1 half 16 16), 22), (n7, vals .i64 16 (sw (fun j => half j + g j) half k), 33)], [(n3, vals .u8 16 half, 25), (n6, vals .u8 32 (laid k1 half 16 16), 22), (n7, vals .i64 16 (fun i => half i + dg1 g k i), 33)]].getD s [])) (fun _ => 0) hO (Rg.ac nv (Rg.ac nv (Rg.ac nv (Rg.ac nv (Rg.ac (nx (fun _ => E n7 k) (fun _ w => b_ia_i16 hk16 w)) (Rg.ac (nc 0 0 2 (fun _ => k) (fun _ => Nv .i64 (half k)) agg_int (fun _ => (vals_get _ _ _ _ hk16).trans (by rw [sw_here])) (at1 0 fun _ => by kernel_rfl)) (Rg.ac (nx (fun _ => Nv .i64 (half k + 1)) (fun _ w => b_add hb1 h140 w)) (Rg.ac (nx (fun _ => E n7 k) (fun _ w => b_ia_i16 hk16 w)) (Rg.ac (sl 0 2 (fun _ => k) (fun _ => Nv .i64 (half k)) (fun _ => ((half k + 1 : Nat) : Int)) sz_int (fun _ => (vals_get _ _ _ _ hk16).trans (by rw [sw_here])) (fun _ => sum_set half g k) (fun _ => fit_i16 _)) Rg.an))))))))) ?_
            intro ν w8 hO
            replace hO : Own w w8 [(n3, vals .u8 16 half, 25), (n6, vals .u8 32 (laid k1 half 16 16), 22), (n7, vals .i64 16 (fun i => half i + dg1 g k i), 33)] := hO
            simp only [Rg.putL, Act.put, List.setIfInBounds_toArray, List.set_cons_succ, List.set_cons_zero]
            clear ν
            obtain ⟨K, hK⟩ : ∃ K, Hid (laid k1 half 16 16 = K) := ⟨_, hide rfl⟩
            obtain ⟨dd, hd⟩ : ∃ dd, Hid ((fun i => half i + dg1 g k i) = dd) := ⟨_, hide rfl⟩
            obtain ⟨T, hT⟩ : ∃ T, Hid (tg K g k = T) := ⟨_, hide rfl⟩
            have Hdl : Hid (∀ i, dd i ≤ 255 * 2) := hide fun i => by
              rw [← hd.out]
              have h1 := hh i
              have h2 := hg i
              show half i + dg1 g k i ≤ 510
              unfold dg1
              split
              · omega
              · split <;> omega
            have Hdig : Hid (∀ i, i < 16 → (dd i + cy dd i) % 256 = T i) := hide fun i hi => by
              rw [cy_dig' dd i 16 hi, ← hT.out, ← hK.out, tg_one half g hg k Hq.out.1 hk16 i, hd.out]
            have Hcy : Hid (∀ i, cy dd i ≤ 2) := hide (cy_le dd 2 Hdl.out)
            have hKl : ∀ i, K i < 256 := fun i => by rw [← hK.out]; exact laid_lt (fun j => by unfold k1; split <;> omega) hh 16 16 i
            have HC : Hid (∀ (q : Nat) (w1 : World), Below w.heap.size w w1 → Blk w1 q #[.slice S k c] 23 → Ret 9 #[A (vals .u8 32 K), .slice (some ⟨q, 0, none⟩) 1 1] w1 (A (vals .u8 16 T))) := hide fun q w1 h hB => hT.out ▸ tag1_c K hKl S k c q g hg Hc.out w1 (HG.out.low h) hB (HS.out.low h)
            rw [hK.out, hd.out] at hO
            clear hKl hT hd hK
            go_upto_region 16 with (fail)
            refine Rg.ps [2, 3, 4, 5] (fun ν => [(67, A (vals .u8 32 K)), (68, .slice S k c), (69, .slice (some ⟨(ν 2), 0, none⟩) 1 1), (70, A (vals .u8 16 T)), (10, D (ν 4))]) (OI w (fun s ν => [[(n3, vals .u8 16 half, 25), (n6, vals .u8 32 K, 22), (n7, vals .i64 16 dd, 33)], [(n3, vals .u8 16 half, 25), (n6, vals .u8 32 K, 22), (n7, vals .i64 16 dd, 33), ((ν 2), #[.slice S k c], 23)], [(n3, vals .u8 16 half, 25), (n6, vals .u8 32 K, 22), (n7, vals .i64 16 dd, 33), ((ν 2), #[.slice S k c], 23)], [(n3, vals .u8 16 half, 25), (n6, vals .u8 32 K, 22), (n7, vals .i64 16 dd, 33), ((ν 2), #[.slice S k c], 23), ((ν 4), vals .u8 16 (fun _ => 0), 25)], [(n3, vals .u8 16 half, 25), (n6, vals .u8 32 K, 22), (n7, vals .i64 16 dd, 33), ((ν 2), #[.slice S k c], 23), ((ν 4), vals .u8 16 T, 25)]].getD s [])) (fun _ => 0) hO (Rg.ac (nld 0 0 1 (at1 0 fun _ => by kernel_rfl) Tryd.underlying22) (Rg.ac nv (Rg.ac (sv 0 (fun _ q => .slice (some ⟨q, 0, none⟩) 1 1) (fun _ => #[.slice S k c]) 23 (fun _ w => b_pt1 w) (fun _ => fit_ss (by kernel_rfl))) (Rg.ac (sq 1 9 (fun ν => #[A (vals .u8 32 K), .slice (some ⟨(ν 2), 0, none⟩) 1 1]) (fun _ => A (vals .u8 16 T)) (fun ν w hO => HC.out _ w hO.low (hO.row 3 rfl))) (Rg.ac (sn 2 (fun _ => vals .u8 16 (fun _ => 0)) 25 (fun _ w => al_b16 rfl w) (fun _ => fit_b16 _)) (Rg.ac (sr 3 4 (fun _ => vals .u8 16 T) (fun _ => fit_b16 _)) Rg.an)))))) ?_
            intro ν w9 hO
            replace hO : Own w w9 [(n3, vals .u8 16 half, 25), (n6, vals .u8 32 K, 22), (n7, vals .i64 16 dd, 33), ((ν 2), #[.slice S k c], 23), ((ν 4), vals .u8 16 T, 25)] := hO
            simp only [Rg.putL, Act.put, List.setIfInBounds_toArray, List.set_cons_succ, List.set_cons_zero]
            generalize ν 2 = n69 at hO ⊢
            generalize ν 4 = n10 at hO ⊢
            clear ν
            clear HC
            have HOi : Hid (Own w w9 [(n3, vals .u8 16 half, 25), (n6, vals .u8 32 K, 22), (n7, vals .i64 16 dd, 33), (n69, #[.slice S k c], 23), (n10, vals .u8 16 T, 25)]) := hide (hO)
            clear hO
            go_wp2_with (fail)
            go_loopw [11, 12] (fun x11 x12 wri => ∃ i : Nat, i ≤ 16 ∧ x12 = .int .i64 i ∧ x11 = Nv .i64 (cy dd i) ∧ Own w wri [(n3, vals .u8 16 half, 25), (n6, vals .u8 32 K, 22), (n7, vals .i64 16 dd, 33), (n69, #[.slice S k c], 23), (n10, vals .u8 16 T, 25)]) (fun _ x12 _ => 16 - (intOf x12).toNat)
            case atStart => exact ⟨0, Nat.zero_le _, rfl, by rw [cy_zero]; rfl, HOi.out⟩
            case round =>
              clear HOi
              obtain ⟨i, hi9, rfl, rfl, hO⟩ := hrel
              by_cases hlti : i < 16
              · have hq0i : (0 : Int) ≤ (i : Int) := Int.natCast_nonneg i
                have hq1i : (i : Int) < 16 := by omega
                have hw1i := wr1 i (by omega)
                have hw0i := wr0 i (by omega)
                have hdl := Hdl.out i
                have hcl := Hcy.out i
                have hb1 : dd i < 2 ^ 40 := by omega
                have hb2 : cy dd i < 2 ^ 40 := by omega
                obtain ⟨s1, hs1⟩ : ∃ s1, Hid (dd i + cy dd i = s1) := ⟨_, hide rfl⟩
                have hs40 : s1 < 2 ^ 40 := by rw [← hs1.out]; omega
                have Hs2 : Hid (s1 % 256 = T i) := hide (by rw [← hs1.out]; exact Hdig.out i hlti)
                have Hs3 : Hid (s1 / 256 = cy dd (i + 1)) := hide (by rw [← hs1.out]; exact cy_step dd i)
                have hTl : T i < 256 := by rw [← Hs2.out]; exact Nat.mod_lt _ (by decide)
                clear hdl hcl
                go_upto_region 21 with (fail)
                refine Rg.ps [] (fun _ => [(75, Nv .i64 i), (76, E n7 i), (77, Nv .i64 (dd i)), (78, Nv .i64 (cy dd i)), (79, Nv .i64 s1), (13, Nv .i64 s1)]) (OI w (fun _ _ => [(n3, vals .u8 16 half, 25), (n6, vals .u8 32 K, 22), (n7, vals .i64 16 dd, 33), (n69, #[.slice S k c], 23), (n10, vals .u8 16 T, 25)])) (fun _ => 0) hO (Rg.ac nv (Rg.ac (nx (fun _ => E n7 i) (fun _ w => b_ia_i16 hlti w)) (Rg.ac (nc 0 0 2 (fun _ => i) (fun _ => Nv .i64 (dd i)) agg_int (fun _ => vals_get _ _ _ _ hlti) (at1 0 fun _ => by kernel_rfl)) (Rg.ac nv (Rg.ac (nx (fun _ => Nv .i64 s1) (fun _ w => b_addE hb1 hb2 hs1.out w)) (Rg.ac nv Rg.an)))))) ?_
                intro ν w10 hO
                replace hO : Own w w10 [(n3, vals .u8 16 half, 25), (n6, vals .u8 32 K, 22), (n7, vals .i64 16 dd, 33), (n69, #[.slice S k c], 23), (n10, vals .u8 16 T, 25)] := hO
                simp only [Rg.putL, Act.put, List.setIfInBounds_toArray, List.set_cons_succ, List.set_cons_zero]
                clear ν
                go_upto_region 22 with (fail)
                refine Rg.ps [] (fun _ => [(80, Nv .i64 i), (81, E n10 i), (82, Nv .u8 (T i)), (83, Nv .i64 s1), (84, Nv .i64 (T i)), (85, Nv .u8 (T i)), (86, .bool false)]) (OI w (fun _ _ => [(n3, vals .u8 16 half, 25), (n6, vals .u8 32 K, 22), (n7, vals .i64 16 dd, 33), (n69, #[.slice S k c], 23), (n10, vals .u8 16 T, 25)])) (fun _ => 0) hO (Rg.ac nv (Rg.ac (nx (fun _ => E n10 i) (fun _ w => b_ia_b16 hlti w)) (Rg.ac (nc 0 0 4 (fun _ => i) (fun _ => Nv .u8 (T i)) agg_u8 (fun _ => vals_get _ _ _ _ hlti) (at1 0 fun _ => by kernel_rfl)) (Rg.ac nv (Rg.ac (nx (fun _ => Nv .i64 (T i)) (fun _ w => b_remE Hs2.out w)) (Rg.ac (nx (fun _ => Nv .u8 (T i)) (fun _ w => b_c35 hTl w)) (Rg.ac (nx (fun _ => .bool false) (fun _ w => b_neq8 (a := T i) (c := T i) rfl w)) Rg.an))))))) ?_
                intro ν w11 hO
                replace hO : Own w w11 [(n3, vals .u8 16 half, 25), (n6, vals .u8 32 K, 22), (n7, vals .i64 16 dd, 33), (n69, #[.slice S k c], 23), (n10, vals .u8 16 T, 25)] := hO
                simp only [Rg.putL, Act.put, List.setIfInBounds_toArray, List.set_cons_succ, List.set_cons_zero]
                clear ν
                go_upto_region 24 with (fail)
                refine Rg.ps [] (fun _ => [(87, Nv .i64 s1), (88, Nv .i64 (cy dd (i + 1))), (11, Nv .i64 (cy dd (i + 1)))]) (OI w (fun _ _ => [(n3, vals .u8 16 half, 25), (n6, vals .u8 32 K, 22), (n7, vals .i64 16 dd, 33), (n69, #[.slice S k c], 23), (n10, vals .u8 16 T, 25)])) (fun _ => 0) hO (Rg.ac nv (Rg.ac (nx (fun _ => Nv .i64 (cy dd (i + 1))) (fun _ w => b_quoE hs40 Hs3.out w)) (Rg.ac nv Rg.an))) ?_
                intro ν w12 hO
                replace hO : Own w w12 [(n3, vals .u8 16 half, 25), (n6, vals .u8 32 K, 22), (n7, vals .i64 16 dd, 33), (n69, #[.slice S k c], 23), (n10, vals .u8 16 T, 25)] := hO
                simp only [Rg.putL, Act.put, List.setIfInBounds_toArray, List.set_cons_succ, List.set_cons_zero]
                clear ν
                have HO2i : Hid (Own w w12 [(n3, vals .u8 16 half, 25), (n6, vals .u8 32 K, 22), (n7, vals .i64 16 dd, 33), (n69, #[.slice S k c], 23), (n10, vals .u8 16 T, 25)]) := hide hO
                clear hO
                go_wp2_with (fail)
                go_roundw
                case rel => exact ⟨i + 1, hlti, in_succ i, rfl, HO2i.out⟩
                case measure => exact ms_lt hlti
              · have ei : i = 16 := by omega
                subst ei
                clear hlti hi9
                have HF := hide hO.low
                clear hO
                go_wp2_with (fail)
                go_ret
                exact ⟨rfl, HF.out⟩
  · have HF := hide hO.low
    clear hO
    by_cases hz : n = 0
    · subst hz
      clear hq
      go_wp2_with (fail)
      go_ret
      exact ⟨rfl, HF.out⟩
    · have h0 : ¬ (n : Int) = 0 := by omega
      have h1 : (15 : Int) < (n : Int) := by omega
      clear hq hz
      go_wp2_with (fail)
      go_ret
      exact ⟨rfl, HF.out⟩
end Go.Proofs.YtflmnhjfgdbfeaaDoor

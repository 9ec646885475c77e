/- Walks of the reference: Power. -/
import Derived.Test.YtalnkcijebdpbaaVg
import Derived.Test.YtalnkcijebdpbaaVi
namespace Go.Proofs.Ytalnkcijebdpbaa.F
open Go.RowKit

theorem one_mod : 1 % pP = 1 := by unfold pP; omega
theorem pm_none (a : Nat) : pm a 0 = 1 := by unfold pm; rw [Nat.pow_zero]; exact one_mod
theorem mm_sq (a q : Nat) : mm (pm a q) (pm a q) = pm a (2 * q) := by rw [show 2 * q = q + q by omega]; exact pm_mul a q q
theorem mm_more (a q : Nat) : mm (pm a q) a = pm a (q + 1) := by unfold mm pm; rw [Nat.pow_succ, Nat.mod_mul_mod]
theorem pow_bit (e m : Nat) : dg e (m / 16) / 2 ^ (m % 16) % 2 = e / 2 ^ m % 2 := by
  unfold dg
  have h : 65536 = 2 ^ (m % 16) * (2 * 2 ^ (15 - m % 16)) := by rw [show 65536 = 2 ^ 16 from rfl, ← Nat.pow_succ', ← Nat.pow_add]; congr 1; omega
  rw [h, Nat.mod_mul_right_div_self, Nat.mod_mul_right_mod, Nat.div_div_eq_div_mul, ← Nat.pow_add]
  congr 3; omega
theorem next_bit (e m : Nat) : e / 2 ^ m = 2 * (e / 2 ^ (m + 1)) + e / 2 ^ m % 2 := by
  rw [Nat.pow_succ, ← Nat.div_div_eq_div_mul]; omega
theorem and_one (n : Nat) (h : n < 65536) : bits .and .u64 (n : Int) 1 = ((n % 2 : Nat) : Int) := by
  have := u64_and_nat n 1 (by omega) (by omega)
  rw [show ((1 : Nat) : Int) = 1 from rfl] at this
  rw [this, nat_mask1]
theorem quo16 (k : Nat) (h : k < 256) : IntKind.i64.wrap ((k : Int).tdiv 16) = (k : Int) / 16 := by
  rw [Int.tdiv_eq_ediv_of_nonneg (by omega), wrap_i64_small' _ (by omega) (by omega)]
theorem quo16' (k : Nat) (h : k < 256) : IntKind.i64.wrap ((k : Int) / 16) = (k : Int) / 16 := by
  rw [wrap_i64_small' _ (by omega) (by omega)]
theorem rem16 (k : Nat) : IntKind.i64.wrap ((k : Int).tmod 16) = (k : Int) % 16 := by
  rw [Int.tmod_eq_emod_of_nonneg (by omega), wrap_i64_small' _ (by omega) (by omega)]
set_option maxHeartbeats 2000000 in
theorem refPower_any (a e : Nat) (w : World) (ha : a < 2 ^ 256) (he : e < 2 ^ 256) :
    Calls Try.prog 74 #[rn a, rn e] w fun r w' => r = .returned (rn (pm a e)) ∧ Below w.heap.size w w' := by
  have Ha := hide ha
  have He := hide he
  clear ha he
  unfold rn
  have A0 := hide (((Blk.new w (vals .u64 16 (dg a)) 33).alloc (.cells (vals .u64 16 (dg e)) 33)).alloc (.cells (vals .u64 16 (fun _ => 0)) 33))
  have E0 := hide ((Blk.new' (w.alloc (.cells (vals .u64 16 (dg a)) 33)) (w.heap.size + 1) (by simp) (vals .u64 16 (dg e)) 33).alloc (.cells (vals .u64 16 (fun _ => 0)) 33))
  have Z0 := hide (Blk.new' ((w.alloc (.cells (vals .u64 16 (dg a)) 33)).alloc (.cells (vals .u64 16 (dg e)) 33)) (w.heap.size + 2) (by simp) (vals .u64 16 (fun _ => 0)) 33)
  have L0 : Hid (Below w.heap.size w (((w.alloc (.cells (vals .u64 16 (dg a)) 33)).alloc (.cells (vals .u64 16 (dg e)) 33)).alloc (.cells (vals .u64 16 (fun _ => 0)) 33))) := hide ((((Below.refl _ w).alloc (Nat.le_refl _) _).alloc (by simp) _).alloc (by simp; omega) _)
  go_enter Try.func74, Try.ntmps74
  go_wp2_with (first
    | (go_at_call 50; refine (refOf_at 1 _ _ rfl (by omega)).mono ?_; rw [one_mod]; unfold rn; rintro r w1 ⟨rfl, hb1⟩; have A1 := hide (A0.out.call hb1); have E1 := hide (E0.out.call hb1); have Z1 := hide (Z0.out.call hb1); have L1 := hide (L0.out.trans (hb1.mono L0.out.size)); clear hb1 A0 E0 Z0 L0; dsimp only)
    | (refine wpList_store_abs rfl 33 _ _ rfl w1.heap.size (vals .u64 16 (dg 1)) rfl rfl 33 _ (Blk.new w1 _ _) (by exact cells31) (by rw [vals_size]; rfl) (vals_one _ _ _) ?_; intro y2 B2 S2; have A2 := hide (S2.other _ _ _ (Nat.ne_of_gt A1.out.lt) (A1.out.alloc _)); have E2 := hide (S2.other _ _ _ (Nat.ne_of_gt E1.out.lt) (E1.out.alloc _)); have Z2 := hide (S2.other _ _ _ (Nat.ne_of_gt Z1.out.lt) (Z1.out.alloc _)); have L2 := hide (S2.low _ _ (L1.out.alloc L1.out.size _) L1.out.size); have O2 := hide B2; have hO : w.heap.size + 2 < w1.heap.size := Z1.out.lt; clear B2 S2 A1 E1 Z1 L1))
  obtain ⟨O, hOe⟩ : ∃ O, O = w1.heap.size := ⟨_, rfl⟩
  rw [← hOe] at O2 hO ⊢
  clear hOe
  go_loopw [6] (fun i ws => ∃ k : Nat, k ≤ 256 ∧ i = .int .i64 ((k : Int) - 1) ∧ Blk ws w.heap.size (vals .u64 16 (dg a)) 33 ∧ Blk ws (w.heap.size + 1) (vals .u64 16 (dg e)) 33 ∧ (∃ z, z.size = 16 ∧ Blk ws (w.heap.size + 2) z 33) ∧ Blk ws O (vals .u64 16 (dg (pm a (e / 2 ^ k)))) 33 ∧ Below w.heap.size w ws) (fun i _ => (intOf i + 1).toNat)
  case atStart =>
    refine ⟨256, by omega, rfl, A2.out, E2.out, ⟨_, vals_size _ _ _, Z2.out⟩, ?_, L2.out⟩
    rw [Nat.div_eq_of_lt He.out, pm_none]
    exact O2.out
  case round =>
    clear A2 E2 Z2 L2 O2
    obtain ⟨k, hk, rfl, Ba, Be, ⟨z, hz, Bz⟩, Bo, L⟩ := hrel
    have HA := hide Ba
    have HE := hide Be
    have HZ := hide Bz
    have HO := hide Bo
    have HL := hide L
    clear Ba Be Bz Bo L
    rcases Nat.eq_zero_or_pos k with h0 | h0
    · subst h0
      rw [show ((0 : Nat) : Int) - 1 = -1 from rfl]
      rw [show e / 2 ^ 0 = e by simp] at HO
      go_wp2_with (first
        | (refine wpList_load_row rfl 33 _ rfl O rfl 33 _ (0, 0) _ HO.out Try.underlying33 rfl (by rw [vals_size]; exact cells31) ?_)
        | (refine wpList_store_row rfl 33 _ _ rfl (w.heap.size + 2) (vals .u64 16 (dg (pm a e))) rfl rfl 33 z HZ.out (by rw [vals_size]; exact cells31) (by rw [vals_size]; exact hz) (vals_one _ _ _) ?_))
      refine bodyPost_ret (v := .agg (vals .u64 16 (dg (pm a e)))) (results_cell_row Try.results74 _ _ (w.heap.size + 2) 33 _ (0, 0) _ rfl (HZ.out.row _) Try.underlying33 rfl (by rw [vals_size]; exact cells31)) rfl ⟨rfl, ?_⟩
      exact Below.row HL.out (by omega) _
    · obtain ⟨m, rfl⟩ : ∃ m, k = m + 1 := ⟨k - 1, by omega⟩
      rw [show ((m + 1 : Nat) : Int) - 1 = (m : Int) by omega]
      have hm0 : (0 : Int) ≤ (m : Int) := by omega
      have hm4 : (m : Int) < 256 := by omega
      have hq0 : (0 : Int) ≤ (m : Int) / 16 := by omega
      have hq4 : (m : Int) / 16 < 16 := by omega
      have hq : IntKind.i64.wrap ((m : Int).tdiv 16) = (m : Int) / 16 := quo16 m (by omega)
      have hq' : IntKind.i64.wrap ((m : Int) / 16) = (m : Int) / 16 := quo16' m (by omega)
      have hr : IntKind.i64.wrap ((m : Int).tmod 16) = (m : Int) % 16 := rem16 m
      have hr' : (m : Int).tmod 16 = (m : Int) % 16 := by rw [Int.tmod_eq_emod_of_nonneg (by omega)]
      have hqn : ((m : Int) / 16).toNat = m / 16 := by omega
      have hrn : ((m : Int) % 16).toNat = m % 16 := by omega
      have hr0 : (0 : Int) ≤ (m : Int) % 16 := by omega
      have hr4 : (m : Int) % 16 < 16 := by omega
      have Hb := hide (pow_bit e m)
      have Hx := hide (next_bit e m)
      have hdl := dg_lt e (m / 16)
      obtain ⟨q, hqe⟩ : ∃ q, q = e / 2 ^ (m + 1) := ⟨_, rfl⟩
      rw [← hqe] at HO Hx
      clear hqe
      have Hsq := hide (mm_sq a q)
      have Hp := hide (Nat.lt_trans (pm_lt a q) pP_lt)
      have Hp2 := hide (Nat.lt_trans (pm_lt a (2 * q)) pP_lt)
      go_upto_region 6 with (first
        | (refine wpList_load_row rfl 33 _ rfl O rfl 33 _ (0, 0) _ HO.out Try.underlying33 rfl (by rw [vals_size]; exact cells31) ?_)
        | (go_at_call 48; refine (refMul_at (pm a q) (pm a q) _ _ rfl Hp.out Hp.out).mono ?_; rw [Hsq.out]; unfold rn; rintro r w3 ⟨rfl, hb3⟩; have A3 := hide (HA.out.call hb3); have E3 := hide (HE.out.call hb3); have Z3 := hide (HZ.out.call hb3); have O3 := hide (HO.out.call hb3); have L3 := hide (HL.out.trans (hb3.mono HL.out.size)); clear hb3 HA HE HZ HO HL; dsimp only)
        | (refine wpList_store_abs rfl 33 _ _ rfl O (vals .u64 16 (dg (pm a (2 * q)))) rfl rfl 33 _ O3.out (by rw [vals_size]; exact cells31) (by rw [vals_size, vals_size]) (vals_one _ _ _) ?_; intro y4 B4 S4; have A4 := hide (S4.other _ _ _ (by omega) A3.out); have E4 := hide (S4.other _ _ _ (by omega) E3.out); have Z4 := hide (S4.other _ _ _ (by omega) Z3.out); have L4 := hide (S4.low _ _ L3.out (by omega)); have O4 := hide B4; clear B4 S4 A3 E3 Z3 O3 L3))
      have ce := E4.out.cell (m / 16)
      rw [vals_get _ _ _ _ (by omega)] at ce
      have hdl2 : dg e (m / 16) / 2 ^ (m % 16) < 65536 := Nat.lt_of_le_of_lt (Nat.div_le_self _ _) hdl
      have hand0 := and_one _ hdl2
      rw [Hb.out, show ((dg e (m / 16) / 2 ^ (m % 16) : Nat) : Int) = ((dg e (m / 16) : Nat) : Int) / 2 ^ (m % 16) by simp] at hand0
      clear hdl2 Hb
      rcases Nat.mod_two_eq_zero_or_one (e / 2 ^ m) with hbit | hbit
      · rw [hbit] at hand0 Hx
        have hand : bits .and .u64 (((dg e (m / 16) : Nat) : Int) / 2 ^ (m % 16)) 1 = 0 := hand0
        clear hand0 hbit
        go_wp2
        go_roundw
        case rel => exact ⟨m, by omega, by go_num, A4.out, E4.out, ⟨z, hz, Z4.out⟩, by rw [Hx.out]; exact O4.out, L4.out⟩
        case measure => simp [intOf]
      · rw [hbit] at hand0 Hx
        have hand : bits .and .u64 (((dg e (m / 16) : Nat) : Int) / 2 ^ (m % 16)) 1 = 1 := hand0
        clear hand0 hbit
        have Hmo := hide (mm_more a (2 * q))
        go_wp2_with (first
          | (refine wpList_load_row rfl 33 _ rfl O rfl 33 _ (0, 0) _ O4.out Try.underlying33 rfl (by rw [vals_size]; exact cells31) ?_)
          | (refine wpList_load_row rfl 33 _ rfl w.heap.size rfl 33 _ (0, 0) _ A4.out Try.underlying33 rfl (by rw [vals_size]; exact cells31) ?_)
          | (go_at_call 48; refine (refMul_at (pm a (2 * q)) a _ _ rfl Hp2.out Ha.out).mono ?_; rw [Hmo.out]; unfold rn; rintro r w5 ⟨rfl, hb5⟩; have A5 := hide (A4.out.call hb5); have E5 := hide (E4.out.call hb5); have Z5 := hide (Z4.out.call hb5); have O5 := hide (O4.out.call hb5); have L5 := hide (L4.out.trans (hb5.mono L4.out.size)); clear hb5 A4 E4 Z4 O4 L4; dsimp only)
          | (refine wpList_store_abs rfl 33 _ _ rfl O (vals .u64 16 (dg (pm a (2 * q + 1)))) rfl rfl 33 _ O5.out (by rw [vals_size]; exact cells31) (by rw [vals_size, vals_size]) (vals_one _ _ _) ?_; intro y6 B6 S6; have A6 := hide (S6.other _ _ _ (by omega) A5.out); have E6 := hide (S6.other _ _ _ (by omega) E5.out); have Z6 := hide (S6.other _ _ _ (by omega) Z5.out); have L6 := hide (S6.low _ _ L5.out (by omega)); have O6 := hide B6; clear B6 S6 A5 E5 Z5 O5 L5))
        go_roundw
        case rel => exact ⟨m, by omega, by go_num, A6.out, E6.out, ⟨z, hz, Z6.out⟩, by rw [Hx.out]; exact O6.out, L6.out⟩
        case measure => simp [intOf]
theorem refPower_at (a e : Nat) (args : Array Value) (w : World) (h : args = #[rn a, rn e]) (ha : a < 2 ^ 256) (he : e < 2 ^ 256) :
    Calls Try.prog 74 args w fun r w' => r = .returned (rn (pm a e)) ∧ Below w.heap.size w w' := by subst h; exact refPower_any a e w ha he

end Go.Proofs.Ytalnkcijebdpbaa.F

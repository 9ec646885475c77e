/- ScalarRing's walk: for all bytes the law returns true. -/
import Derived.Test.YtokhmhodkakioaaDoorSo
namespace Go.Proofs.YtokhmhodkakioaaDoor
open Go.RowKit

theorem ring_pure (A B C Z O q : Nat) (N : Nat → Nat) (hZ : Z = 0) (hO : O = 1) (hm : ∀ n, N (n % q) = n % q) (hq : 0 < q) : ∃ m1 m2 s l t r : Nat,
    (A * B + Z) % q = m1 ∧ (B * C + Z) % q = m2 ∧ (B * O + C) % q = s ∧ (A * N s + Z) % q = l ∧ (A * C + N m1) % q = l ∧ (B * A + Z) % q = m1 ∧
    (N m1 * C + Z) % q = t ∧ (A * N m2 + Z) % q = t ∧ (C * O + B) % q = s ∧ N m1 < q ∧ N s < q ∧ A % q = r ∧ N r < q := by
  subst hZ hO
  simp only [Nat.mul_one, Nat.add_zero]
  refine ⟨A * B % q, B * C % q, (B + C) % q, A * (B + C) % q, A * B * C % q, A % q, rfl, rfl, rfl, ?_, ?_, ?_, ?_, ?_, ?_, ?_, ?_, rfl, ?_⟩
  · rw [hm, Nat.mul_mod_mod]
  · rw [hm, Nat.add_mod_mod, Nat.mul_add, Nat.add_comm]
  · rw [Nat.mul_comm]
  · rw [hm, Nat.mod_mul_mod]
  · rw [hm, Nat.mul_mod_mod, Nat.mul_assoc]
  · rw [Nat.add_comm]
  · rw [hm]; exact Nat.mod_lt _ hq
  · rw [hm]; exact Nat.mod_lt _ hq
  · rw [hm]; exact Nat.mod_lt _ hq

set_option maxRecDepth 100000 in
set_option maxHeartbeats 8000000 in
theorem ring_walk (f g h : Nat → Nat) (w : World) (hG : Glob w) (hf : ∀ i, f i < 256) (hg : ∀ i, g i < 256) (hh : ∀ i, h i < 256) :
    Calls Tryd.prog 4 #[ba f, ba g, ba h] w fun e w' => e = .returned (.bool true) ∧ Below w.heap.size w w' := by
  have HG := hide hG
  have Hf := hide hf
  have Hg := hide hg
  have Hh := hide hh
  obtain ⟨m1, m2, s, l, t, r, e1, e2, e3, e4, e5, e6, e7, e8, e9, e10, e11, e12, e13⟩ := ring_pure (nb f 32) (nb g 32) (nb h 32) (nb (fun _ => 0) 32) (nb (oneB 1) 32) qL (fun m => nb (byt m) 32) (nb_zero 32) (nb_one 1 31) nb_modq qL_pos
  have E1 := hide e1
  have E2 := hide e2
  have E3 := hide e3
  have E4 := hide e4
  have E5 := hide e5
  have E6 := hide e6
  have E7 := hide e7
  have E8 := hide e8
  have E9 := hide e9
  have E10 := hide (decide_eq_true e10)
  have E11 := hide (decide_eq_true e11)
  have E12 := hide e12
  have E13 := hide (decide_eq_true e13)
  have H0 : Hid (∀ i : Nat, (fun _ => 0 : Nat → Nat) i < 256) := hide (fun _ => by show 0 < 256; omega)
  have H1 := hide (oneB_lt 1 (by omega))
  clear hG hf hg hh e1 e2 e3 e4 e5 e6 e7 e8 e9 e10 e11 e12 e13
  unfold ba
  have A_0 := hide (((Blk.new w (vals .u8 32 f) 23).alloc (.cells (vals .u8 32 g) 23)).alloc (.cells (vals .u8 32 h) 23))
  have B_0 := hide ((Blk.new' (w.alloc (.cells (vals .u8 32 f) 23)) (w.heap.size + 1) (by simp) (vals .u8 32 g) 23).alloc (.cells (vals .u8 32 h) 23))
  have C_0 := hide (Blk.new' ((w.alloc (.cells (vals .u8 32 f) 23)).alloc (.cells (vals .u8 32 g) 23)) (w.heap.size + 2) (by simp) (vals .u8 32 h) 23)
  have L_0 : Hid (Below w.heap.size w (((w.alloc (.cells (vals .u8 32 f) 23)).alloc (.cells (vals .u8 32 g) 23)).alloc (.cells (vals .u8 32 h) 23))) := hide ((((Below.refl _ w).alloc (Nat.le_refl _) _).alloc (by simp) _).alloc (by simp; omega) _)
  go_enter Tryd.func4, Tryd.ntmps4
  go_upto_region 3 with (first
      | (go_at_call 7; refine (awake_at _ _ rfl (HG.out.low L_0.out)).mono ?_; rintro e k1 ⟨rfl, hb⟩; have A_1 := hide (A_0.out.call hb); have B_1 := hide (B_0.out.call hb); have C_1 := hide (C_0.out.call hb); have L_1 := hide (L_0.out.trans (hb.mono L_0.out.size)); clear hb A_0 B_0 C_0 L_0; dsimp only)
      | (refine wpList_store_abs rfl 23 _ _ rfl k1.heap.size (vals .u8 32 (fun _ => 0)) rfl rfl 23 _ (Blk.new k1 _ _) (by rw [vals_size]; exact cells23) (by rw [vals_size]; rfl) (vals_one _ _ _) ?_; intro k2 Bn Sn; have neZA := hide (Nat.ne_of_gt A_1.out.lt); have neZB := hide (Nat.ne_of_gt B_1.out.lt); have neZC := hide (Nat.ne_of_gt C_1.out.lt); have leZ := hide L_1.out.size; have A_2 := hide (Sn.other _ _ _ (Nat.ne_of_gt A_1.out.lt) (A_1.out.alloc _)); have B_2 := hide (Sn.other _ _ _ (Nat.ne_of_gt B_1.out.lt) (B_1.out.alloc _)); have C_2 := hide (Sn.other _ _ _ (Nat.ne_of_gt C_1.out.lt) (C_1.out.alloc _)); have L_2 := hide (Sn.low _ _ (L_1.out.alloc L_1.out.size _) L_1.out.size); have Z_2 := hide Bn; clear Bn Sn A_1 B_1 C_1 L_1))
  go_upto_region 4 with (first
      | (refine wpList_store_abs rfl 23 _ _ rfl k2.heap.size (vals .u8 32 (oneB 1)) rfl rfl 23 _ (Blk.new k2 _ _) (by rw [vals_size]; exact cells23) (by rw [vals_size]; rfl) (vals_one _ _ _) ?_; intro k3 Bn Sn; have neOA := hide (Nat.ne_of_gt A_2.out.lt); have neOB := hide (Nat.ne_of_gt B_2.out.lt); have neOC := hide (Nat.ne_of_gt C_2.out.lt); have neOZ := hide (Nat.ne_of_gt Z_2.out.lt); have leO := hide L_2.out.size; have A_3 := hide (Sn.other _ _ _ (Nat.ne_of_gt A_2.out.lt) (A_2.out.alloc _)); have B_3 := hide (Sn.other _ _ _ (Nat.ne_of_gt B_2.out.lt) (B_2.out.alloc _)); have C_3 := hide (Sn.other _ _ _ (Nat.ne_of_gt C_2.out.lt) (C_2.out.alloc _)); have Z_3 := hide (Sn.other _ _ _ (Nat.ne_of_gt Z_2.out.lt) (Z_2.out.alloc _)); have L_3 := hide (Sn.low _ _ (L_2.out.alloc L_2.out.size _) L_2.out.size); have O_3 := hide Bn; clear Bn Sn A_2 B_2 C_2 Z_2 L_2))
  go_upto_region 5 with (first
      | (refine wpList_load_w (by rfl) 23 _ rfl (w.heap.size) rfl 23 _ (0, 0) _ A_3.out Tryd.underlying23 rfl (by rw [vals_size]; exact cells23) ?_)
      | (refine wpList_load_w (by rfl) 23 _ rfl (w.heap.size + 1) rfl 23 _ (0, 0) _ B_3.out Tryd.underlying23 rfl (by rw [vals_size]; exact cells23) ?_)
      | (refine wpList_load_w (by rfl) 23 _ rfl (k1.heap.size) rfl 23 _ (0, 0) _ Z_3.out Tryd.underlying23 rfl (by rw [vals_size]; exact cells23) ?_)
      | (go_at_call 10; refine (muladd_n f g (fun _ => 0) m1 _ _ rfl (HG.out.low L_3.out) Hf.out Hg.out H0.out E1.out).mono ?_; unfold ba; rintro e k4 ⟨rfl, hb⟩; have A_4 := hide (A_3.out.call hb); have B_4 := hide (B_3.out.call hb); have C_4 := hide (C_3.out.call hb); have Z_4 := hide (Z_3.out.call hb); have O_4 := hide (O_3.out.call hb); have L_4 := hide (L_3.out.trans (hb.mono L_3.out.size)); clear hb A_3 B_3 C_3 Z_3 O_3 L_3; dsimp only)
      | (refine wpList_store_abs rfl 23 _ _ rfl k4.heap.size (vals .u8 32 (byt m1)) rfl rfl 23 _ (Blk.new k4 _ _) (by rw [vals_size]; exact cells23) (by rw [vals_size]; rfl) (vals_one _ _ _) ?_; intro k5 Bn Sn; have nePA := hide (Nat.ne_of_gt A_4.out.lt); have nePB := hide (Nat.ne_of_gt B_4.out.lt); have nePC := hide (Nat.ne_of_gt C_4.out.lt); have nePZ := hide (Nat.ne_of_gt Z_4.out.lt); have nePO := hide (Nat.ne_of_gt O_4.out.lt); have leP := hide L_4.out.size; have A_5 := hide (Sn.other _ _ _ (Nat.ne_of_gt A_4.out.lt) (A_4.out.alloc _)); have B_5 := hide (Sn.other _ _ _ (Nat.ne_of_gt B_4.out.lt) (B_4.out.alloc _)); have C_5 := hide (Sn.other _ _ _ (Nat.ne_of_gt C_4.out.lt) (C_4.out.alloc _)); have Z_5 := hide (Sn.other _ _ _ (Nat.ne_of_gt Z_4.out.lt) (Z_4.out.alloc _)); have O_5 := hide (Sn.other _ _ _ (Nat.ne_of_gt O_4.out.lt) (O_4.out.alloc _)); have L_5 := hide (Sn.low _ _ (L_4.out.alloc L_4.out.size _) L_4.out.size); have P_5 := hide Bn; clear Bn Sn A_4 B_4 C_4 Z_4 O_4 L_4))
  go_upto_region 6 with (first
      | (refine wpList_load_w (by rfl) 23 _ rfl (w.heap.size + 1) rfl 23 _ (0, 0) _ B_5.out Tryd.underlying23 rfl (by rw [vals_size]; exact cells23) ?_)
      | (refine wpList_load_w (by rfl) 23 _ rfl (w.heap.size + 2) rfl 23 _ (0, 0) _ C_5.out Tryd.underlying23 rfl (by rw [vals_size]; exact cells23) ?_)
      | (refine wpList_load_w (by rfl) 23 _ rfl (k1.heap.size) rfl 23 _ (0, 0) _ Z_5.out Tryd.underlying23 rfl (by rw [vals_size]; exact cells23) ?_)
      | (go_at_call 10; refine (muladd_n g h (fun _ => 0) m2 _ _ rfl (HG.out.low L_5.out) Hg.out Hh.out H0.out E2.out).mono ?_; unfold ba; rintro e k6 ⟨rfl, hb⟩; have A_6 := hide (A_5.out.call hb); have B_6 := hide (B_5.out.call hb); have C_6 := hide (C_5.out.call hb); have Z_6 := hide (Z_5.out.call hb); have O_6 := hide (O_5.out.call hb); have P_6 := hide (P_5.out.call hb); have L_6 := hide (L_5.out.trans (hb.mono L_5.out.size)); clear hb A_5 B_5 C_5 Z_5 O_5 P_5 L_5; dsimp only)
      | (refine wpList_store_abs rfl 23 _ _ rfl k6.heap.size (vals .u8 32 (byt m2)) rfl rfl 23 _ (Blk.new k6 _ _) (by rw [vals_size]; exact cells23) (by rw [vals_size]; rfl) (vals_one _ _ _) ?_; intro k7 Bn Sn; have neQA := hide (Nat.ne_of_gt A_6.out.lt); have neQB := hide (Nat.ne_of_gt B_6.out.lt); have neQC := hide (Nat.ne_of_gt C_6.out.lt); have neQZ := hide (Nat.ne_of_gt Z_6.out.lt); have neQO := hide (Nat.ne_of_gt O_6.out.lt); have neQP := hide (Nat.ne_of_gt P_6.out.lt); have leQ := hide L_6.out.size; have A_7 := hide (Sn.other _ _ _ (Nat.ne_of_gt A_6.out.lt) (A_6.out.alloc _)); have B_7 := hide (Sn.other _ _ _ (Nat.ne_of_gt B_6.out.lt) (B_6.out.alloc _)); have C_7 := hide (Sn.other _ _ _ (Nat.ne_of_gt C_6.out.lt) (C_6.out.alloc _)); have Z_7 := hide (Sn.other _ _ _ (Nat.ne_of_gt Z_6.out.lt) (Z_6.out.alloc _)); have O_7 := hide (Sn.other _ _ _ (Nat.ne_of_gt O_6.out.lt) (O_6.out.alloc _)); have P_7 := hide (Sn.other _ _ _ (Nat.ne_of_gt P_6.out.lt) (P_6.out.alloc _)); have L_7 := hide (Sn.low _ _ (L_6.out.alloc L_6.out.size _) L_6.out.size); have Q_7 := hide Bn; clear Bn Sn A_6 B_6 C_6 Z_6 O_6 P_6 L_6))
  go_upto_region 7 with (first
      | (refine wpList_load_w (by rfl) 23 _ rfl (w.heap.size + 1) rfl 23 _ (0, 0) _ B_7.out Tryd.underlying23 rfl (by rw [vals_size]; exact cells23) ?_)
      | (refine wpList_load_w (by rfl) 23 _ rfl (k2.heap.size) rfl 23 _ (0, 0) _ O_7.out Tryd.underlying23 rfl (by rw [vals_size]; exact cells23) ?_)
      | (refine wpList_load_w (by rfl) 23 _ rfl (w.heap.size + 2) rfl 23 _ (0, 0) _ C_7.out Tryd.underlying23 rfl (by rw [vals_size]; exact cells23) ?_)
      | (go_at_call 10; refine (muladd_n g (oneB 1) h s _ _ rfl (HG.out.low L_7.out) Hg.out H1.out Hh.out E3.out).mono ?_; unfold ba; rintro e k8 ⟨rfl, hb⟩; have A_8 := hide (A_7.out.call hb); have B_8 := hide (B_7.out.call hb); have C_8 := hide (C_7.out.call hb); have Z_8 := hide (Z_7.out.call hb); have O_8 := hide (O_7.out.call hb); have P_8 := hide (P_7.out.call hb); have Q_8 := hide (Q_7.out.call hb); have L_8 := hide (L_7.out.trans (hb.mono L_7.out.size)); clear hb A_7 B_7 C_7 Z_7 O_7 P_7 Q_7 L_7; dsimp only)
      | (refine wpList_store_abs rfl 23 _ _ rfl k8.heap.size (vals .u8 32 (byt s)) rfl rfl 23 _ (Blk.new k8 _ _) (by rw [vals_size]; exact cells23) (by rw [vals_size]; rfl) (vals_one _ _ _) ?_; intro k9 Bn Sn; have neSA := hide (Nat.ne_of_gt A_8.out.lt); have neSB := hide (Nat.ne_of_gt B_8.out.lt); have neSC := hide (Nat.ne_of_gt C_8.out.lt); have neSZ := hide (Nat.ne_of_gt Z_8.out.lt); have neSO := hide (Nat.ne_of_gt O_8.out.lt); have neSP := hide (Nat.ne_of_gt P_8.out.lt); have neSQ := hide (Nat.ne_of_gt Q_8.out.lt); have leS := hide L_8.out.size; have A_9 := hide (Sn.other _ _ _ (Nat.ne_of_gt A_8.out.lt) (A_8.out.alloc _)); have B_9 := hide (Sn.other _ _ _ (Nat.ne_of_gt B_8.out.lt) (B_8.out.alloc _)); have C_9 := hide (Sn.other _ _ _ (Nat.ne_of_gt C_8.out.lt) (C_8.out.alloc _)); have Z_9 := hide (Sn.other _ _ _ (Nat.ne_of_gt Z_8.out.lt) (Z_8.out.alloc _)); have O_9 := hide (Sn.other _ _ _ (Nat.ne_of_gt O_8.out.lt) (O_8.out.alloc _)); have P_9 := hide (Sn.other _ _ _ (Nat.ne_of_gt P_8.out.lt) (P_8.out.alloc _)); have Q_9 := hide (Sn.other _ _ _ (Nat.ne_of_gt Q_8.out.lt) (Q_8.out.alloc _)); have L_9 := hide (Sn.low _ _ (L_8.out.alloc L_8.out.size _) L_8.out.size); have S_9 := hide Bn; clear Bn Sn A_8 B_8 C_8 Z_8 O_8 P_8 Q_8 L_8))
  go_upto_region 8 with (first
      | (refine wpList_load_w (by rfl) 23 _ rfl (w.heap.size) rfl 23 _ (0, 0) _ A_9.out Tryd.underlying23 rfl (by rw [vals_size]; exact cells23) ?_)
      | (refine wpList_load_w (by rfl) 23 _ rfl (k8.heap.size) rfl 23 _ (0, 0) _ S_9.out Tryd.underlying23 rfl (by rw [vals_size]; exact cells23) ?_)
      | (refine wpList_load_w (by rfl) 23 _ rfl (k1.heap.size) rfl 23 _ (0, 0) _ Z_9.out Tryd.underlying23 rfl (by rw [vals_size]; exact cells23) ?_)
      | (go_at_call 10; refine (muladd_n f (byt s) (fun _ => 0) l _ _ rfl (HG.out.low L_9.out) Hf.out (byt_lt _) H0.out E4.out).mono ?_; unfold ba; rintro e k10 ⟨rfl, hb⟩; have A_10 := hide (A_9.out.call hb); have B_10 := hide (B_9.out.call hb); have C_10 := hide (C_9.out.call hb); have Z_10 := hide (Z_9.out.call hb); have O_10 := hide (O_9.out.call hb); have P_10 := hide (P_9.out.call hb); have Q_10 := hide (Q_9.out.call hb); have S_10 := hide (S_9.out.call hb); have L_10 := hide (L_9.out.trans (hb.mono L_9.out.size)); clear hb A_9 B_9 C_9 Z_9 O_9 P_9 Q_9 S_9 L_9; dsimp only)
      | (refine wpList_store_abs rfl 23 _ _ rfl k10.heap.size (vals .u8 32 (byt l)) rfl rfl 23 _ (Blk.new k10 _ _) (by rw [vals_size]; exact cells23) (by rw [vals_size]; rfl) (vals_one _ _ _) ?_; intro k11 Bn Sn; have neUA := hide (Nat.ne_of_gt A_10.out.lt); have neUB := hide (Nat.ne_of_gt B_10.out.lt); have neUC := hide (Nat.ne_of_gt C_10.out.lt); have neUZ := hide (Nat.ne_of_gt Z_10.out.lt); have neUO := hide (Nat.ne_of_gt O_10.out.lt); have neUP := hide (Nat.ne_of_gt P_10.out.lt); have neUQ := hide (Nat.ne_of_gt Q_10.out.lt); have neUS := hide (Nat.ne_of_gt S_10.out.lt); have leU := hide L_10.out.size; have A_11 := hide (Sn.other _ _ _ (Nat.ne_of_gt A_10.out.lt) (A_10.out.alloc _)); have B_11 := hide (Sn.other _ _ _ (Nat.ne_of_gt B_10.out.lt) (B_10.out.alloc _)); have C_11 := hide (Sn.other _ _ _ (Nat.ne_of_gt C_10.out.lt) (C_10.out.alloc _)); have Z_11 := hide (Sn.other _ _ _ (Nat.ne_of_gt Z_10.out.lt) (Z_10.out.alloc _)); have O_11 := hide (Sn.other _ _ _ (Nat.ne_of_gt O_10.out.lt) (O_10.out.alloc _)); have P_11 := hide (Sn.other _ _ _ (Nat.ne_of_gt P_10.out.lt) (P_10.out.alloc _)); have Q_11 := hide (Sn.other _ _ _ (Nat.ne_of_gt Q_10.out.lt) (Q_10.out.alloc _)); have S_11 := hide (Sn.other _ _ _ (Nat.ne_of_gt S_10.out.lt) (S_10.out.alloc _)); have L_11 := hide (Sn.low _ _ (L_10.out.alloc L_10.out.size _) L_10.out.size); have U_11 := hide Bn; clear Bn Sn A_10 B_10 C_10 Z_10 O_10 P_10 Q_10 S_10 L_10))
  go_upto_region 9 with (first
      | (refine wpList_load_w (by rfl) 23 _ rfl (w.heap.size) rfl 23 _ (0, 0) _ A_11.out Tryd.underlying23 rfl (by rw [vals_size]; exact cells23) ?_)
      | (refine wpList_load_w (by rfl) 23 _ rfl (w.heap.size + 2) rfl 23 _ (0, 0) _ C_11.out Tryd.underlying23 rfl (by rw [vals_size]; exact cells23) ?_)
      | (refine wpList_load_w (by rfl) 23 _ rfl (k4.heap.size) rfl 23 _ (0, 0) _ P_11.out Tryd.underlying23 rfl (by rw [vals_size]; exact cells23) ?_)
      | (go_at_call 10; refine (muladd_n f h (byt m1) l _ _ rfl (HG.out.low L_11.out) Hf.out Hh.out (byt_lt _) E5.out).mono ?_; unfold ba; rintro e k12 ⟨rfl, hb⟩; have A_12 := hide (A_11.out.call hb); have B_12 := hide (B_11.out.call hb); have C_12 := hide (C_11.out.call hb); have Z_12 := hide (Z_11.out.call hb); have O_12 := hide (O_11.out.call hb); have P_12 := hide (P_11.out.call hb); have Q_12 := hide (Q_11.out.call hb); have S_12 := hide (S_11.out.call hb); have U_12 := hide (U_11.out.call hb); have L_12 := hide (L_11.out.trans (hb.mono L_11.out.size)); clear hb A_11 B_11 C_11 Z_11 O_11 P_11 Q_11 S_11 U_11 L_11; dsimp only)
      | (refine wpList_store_abs rfl 23 _ _ rfl k12.heap.size (vals .u8 32 (byt l)) rfl rfl 23 _ (Blk.new k12 _ _) (by rw [vals_size]; exact cells23) (by rw [vals_size]; rfl) (vals_one _ _ _) ?_; intro k13 Bn Sn; have neVA := hide (Nat.ne_of_gt A_12.out.lt); have neVB := hide (Nat.ne_of_gt B_12.out.lt); have neVC := hide (Nat.ne_of_gt C_12.out.lt); have neVZ := hide (Nat.ne_of_gt Z_12.out.lt); have neVO := hide (Nat.ne_of_gt O_12.out.lt); have neVP := hide (Nat.ne_of_gt P_12.out.lt); have neVQ := hide (Nat.ne_of_gt Q_12.out.lt); have neVS := hide (Nat.ne_of_gt S_12.out.lt); have neVU := hide (Nat.ne_of_gt U_12.out.lt); have leV := hide L_12.out.size; have A_13 := hide (Sn.other _ _ _ (Nat.ne_of_gt A_12.out.lt) (A_12.out.alloc _)); have B_13 := hide (Sn.other _ _ _ (Nat.ne_of_gt B_12.out.lt) (B_12.out.alloc _)); have C_13 := hide (Sn.other _ _ _ (Nat.ne_of_gt C_12.out.lt) (C_12.out.alloc _)); have Z_13 := hide (Sn.other _ _ _ (Nat.ne_of_gt Z_12.out.lt) (Z_12.out.alloc _)); have O_13 := hide (Sn.other _ _ _ (Nat.ne_of_gt O_12.out.lt) (O_12.out.alloc _)); have P_13 := hide (Sn.other _ _ _ (Nat.ne_of_gt P_12.out.lt) (P_12.out.alloc _)); have Q_13 := hide (Sn.other _ _ _ (Nat.ne_of_gt Q_12.out.lt) (Q_12.out.alloc _)); have S_13 := hide (Sn.other _ _ _ (Nat.ne_of_gt S_12.out.lt) (S_12.out.alloc _)); have U_13 := hide (Sn.other _ _ _ (Nat.ne_of_gt U_12.out.lt) (U_12.out.alloc _)); have L_13 := hide (Sn.low _ _ (L_12.out.alloc L_12.out.size _) L_12.out.size); have V_13 := hide Bn; clear Bn Sn A_12 B_12 C_12 Z_12 O_12 P_12 Q_12 S_12 U_12 L_12))
  generalize hpz : k1.heap.size = pz at *
  clear hpz
  generalize hpo : k2.heap.size = po at *
  clear hpo
  generalize hpp : k4.heap.size = pp at *
  clear hpp
  generalize hpq : k6.heap.size = pq at *
  clear hpq
  generalize hps : k8.heap.size = ps at *
  clear hps
  generalize hpu : k10.heap.size = pu at *
  clear hpu
  generalize hpv : k12.heap.size = pv at *
  clear hpv
  have hq1 := eq_same (byt m1) (byt m1) fun _ _ => rfl
  have hqt := eq_same (byt t) (byt t) fun _ _ => rfl
  have hql := eq_same (byt l) (byt l) fun _ _ => rfl
  have hqs := eq_same (byt s) (byt s) fun _ _ => rfl
  refine wp_region_held_drew (S := fun w' => Below k13.heap.size k13 w') (by kernel_rfl) (Below.refl _ _).drew (fun hHeld => ?_)
  refine wpAnyH_take (i := 0) (oi := { dst := some 39, op := Op.load 23 (Operand.tmp 10), type := 23, pos := "law.go:42", after := #[], guard := none }) (v := .agg (vals .u8 32 (byt m1))) rfl (by kernel_rfl) (by kernel_rfl) (by kernel_rfl) (fun _ _ _ h => h) (yields_blk P_13.out (by rfl) 23 _ rfl rfl _ Tryd.underlying23 rfl (by rw [vals_size]; exact cells23)) hHeld ?_
  try simp only [Act.put, List.setIfInBounds_toArray, List.set_cons_zero, List.set_cons_succ]
  refine wpAnyH_take (i := 1) (oi := { dst := some 40, op := Op.load 23 (Operand.tmp 4), type := 23, pos := "law.go:42", after := #[], guard := none }) (v := .agg (vals .u8 32 g)) rfl (by kernel_rfl) (by kernel_rfl) (by kernel_rfl) (fun _ _ _ h => h) (yields_blk B_13.out (by rfl) 23 _ rfl rfl _ Tryd.underlying23 rfl (by rw [vals_size]; exact cells23)) hHeld ?_
  try simp only [Act.put, List.setIfInBounds_toArray, List.set_cons_zero, List.set_cons_succ]
  refine wpAnyH_take (i := 2) (oi := { dst := some 41, op := Op.load 23 (Operand.tmp 3), type := 23, pos := "law.go:42", after := #[], guard := none }) (v := .agg (vals .u8 32 f)) rfl (by kernel_rfl) (by kernel_rfl) (by kernel_rfl) (fun _ _ _ h => h) (yields_blk A_13.out (by rfl) 23 _ rfl rfl _ Tryd.underlying23 rfl (by rw [vals_size]; exact cells23)) hHeld ?_
  try simp only [Act.put, List.setIfInBounds_toArray, List.set_cons_zero, List.set_cons_succ]
  refine wpAnyH_take (i := 3) (oi := { dst := some 42, op := Op.load 23 (Operand.tmp 8), type := 23, pos := "law.go:42", after := #[], guard := none }) (v := .agg (vals .u8 32 (fun _ => 0))) rfl (by kernel_rfl) (by kernel_rfl) (by kernel_rfl) (fun _ _ _ h => h) (yields_blk Z_13.out (by rfl) 23 _ rfl rfl _ Tryd.underlying23 rfl (by rw [vals_size]; exact cells23)) hHeld ?_
  try simp only [Act.put, List.setIfInBounds_toArray, List.set_cons_zero, List.set_cons_succ]
  refine wpAnyH_ready (rs := [4]) (by kernel_rfl) (by simp) ?_
  refine AllReadyH.cons (o := { dst := some 43, op := Op.call { callee := Callee.value (Operand.func 10), args := #[Operand.tmp 40, Operand.tmp 41, Operand.tmp 42], argTypes := #[23, 23, 23] }, type := 23, pos := "law.go:42", after := #[{ on := 1, ground := Ground.data }, { on := 2, ground := Ground.data }, { on := 3, ground := Ground.data }], guard := none }) rfl (fun K hK => ?_) AllReadyH.nil
  go_simp
  refine (muladd_n g f (fun _ => 0) m1 _ _ (by rfl) ((HG.out.low L_13.out).low hHeld) Hg.out Hf.out H0.out E6.out).mono ?_
  unfold ba
  rintro e u14 ⟨rfl, hb⟩
  have HT14 := hide (keepCall hb rfl hHeld)
  dsimp only
  refine hK.out _ _ HT14.out (fun hHeld => ?_)
  clear hK K hb
  try simp only [Act.put, List.setIfInBounds_toArray, List.set_cons_zero, List.set_cons_succ]
  refine wpAnyH_take (i := 5) (oi := { dst := some 44, op := Op.binOp BinOp.eql 23 (Operand.tmp 39) (Operand.tmp 43) 23, type := 4, pos := "law.go:42", after := #[{ on := 0, ground := Ground.data }, { on := 4, ground := Ground.data }], guard := none }) (v := .bool true) rfl (by kernel_rfl) (by kernel_rfl) (by kernel_rfl) (fun _ _ _ h => h) (Or.inl ⟨by rfl, fun w hSw => by go_simp⟩) hHeld ?_
  try simp only [Act.put, List.setIfInBounds_toArray, List.set_cons_zero, List.set_cons_succ]
  refine wpAnyH_take (i := 6) (oi := { dst := some 45, op := Op.move (Operand.tmp 44), type := 4, pos := "law.go:42", after := #[{ on := 5, ground := Ground.data }, { on := 4, ground := Ground.chain }], guard := none }) (v := .bool true) rfl (by kernel_rfl) (by kernel_rfl) (by kernel_rfl) (fun _ _ _ h => h) (Or.inl ⟨by rfl, fun w hSw => by go_simp⟩) hHeld ?_
  try simp only [Act.put, List.setIfInBounds_toArray, List.set_cons_zero, List.set_cons_succ]
  refine wpAnyH_take (i := 7) (oi := { dst := some 46, op := Op.load 23 (Operand.tmp 10), type := 23, pos := "law.go:42", after := #[{ on := 6, ground := Ground.guard }], guard := some (6, true) }) (v := .agg (vals .u8 32 (byt m1))) rfl (by kernel_rfl) (by kernel_rfl) (by kernel_rfl) (fun _ _ _ h => h) (yields_blk P_13.out (by rfl) 23 _ rfl rfl _ Tryd.underlying23 rfl (by rw [vals_size]; exact cells23)) hHeld ?_
  try simp only [Act.put, List.setIfInBounds_toArray, List.set_cons_zero, List.set_cons_succ]
  refine wpAnyH_take (i := 8) (oi := { dst := some 47, op := Op.load 23 (Operand.tmp 5), type := 23, pos := "law.go:42", after := #[{ on := 6, ground := Ground.guard }], guard := some (6, true) }) (v := .agg (vals .u8 32 h)) rfl (by kernel_rfl) (by kernel_rfl) (by kernel_rfl) (fun _ _ _ h => h) (yields_blk C_13.out (by rfl) 23 _ rfl rfl _ Tryd.underlying23 rfl (by rw [vals_size]; exact cells23)) hHeld ?_
  try simp only [Act.put, List.setIfInBounds_toArray, List.set_cons_zero, List.set_cons_succ]
  refine wpAnyH_take (i := 9) (oi := { dst := some 48, op := Op.load 23 (Operand.tmp 8), type := 23, pos := "law.go:42", after := #[{ on := 6, ground := Ground.guard }], guard := some (6, true) }) (v := .agg (vals .u8 32 (fun _ => 0))) rfl (by kernel_rfl) (by kernel_rfl) (by kernel_rfl) (fun _ _ _ h => h) (yields_blk Z_13.out (by rfl) 23 _ rfl rfl _ Tryd.underlying23 rfl (by rw [vals_size]; exact cells23)) hHeld ?_
  try simp only [Act.put, List.setIfInBounds_toArray, List.set_cons_zero, List.set_cons_succ]
  refine wpAnyH_take (i := 11) (oi := { dst := some 50, op := Op.load 23 (Operand.tmp 3), type := 23, pos := "law.go:42", after := #[{ on := 6, ground := Ground.guard }], guard := some (6, true) }) (v := .agg (vals .u8 32 f)) rfl (by kernel_rfl) (by kernel_rfl) (by kernel_rfl) (fun _ _ _ h => h) (yields_blk A_13.out (by rfl) 23 _ rfl rfl _ Tryd.underlying23 rfl (by rw [vals_size]; exact cells23)) hHeld ?_
  try simp only [Act.put, List.setIfInBounds_toArray, List.set_cons_zero, List.set_cons_succ]
  refine wpAnyH_take (i := 12) (oi := { dst := some 51, op := Op.load 23 (Operand.tmp 11), type := 23, pos := "law.go:42", after := #[{ on := 6, ground := Ground.guard }], guard := some (6, true) }) (v := .agg (vals .u8 32 (byt m2))) rfl (by kernel_rfl) (by kernel_rfl) (by kernel_rfl) (fun _ _ _ h => h) (yields_blk Q_13.out (by rfl) 23 _ rfl rfl _ Tryd.underlying23 rfl (by rw [vals_size]; exact cells23)) hHeld ?_
  try simp only [Act.put, List.setIfInBounds_toArray, List.set_cons_zero, List.set_cons_succ]
  refine wpAnyH_take (i := 13) (oi := { dst := some 52, op := Op.load 23 (Operand.tmp 8), type := 23, pos := "law.go:42", after := #[{ on := 6, ground := Ground.guard }], guard := some (6, true) }) (v := .agg (vals .u8 32 (fun _ => 0))) rfl (by kernel_rfl) (by kernel_rfl) (by kernel_rfl) (fun _ _ _ h => h) (yields_blk Z_13.out (by rfl) 23 _ rfl rfl _ Tryd.underlying23 rfl (by rw [vals_size]; exact cells23)) hHeld ?_
  try simp only [Act.put, List.setIfInBounds_toArray, List.set_cons_zero, List.set_cons_succ]
  refine wpAnyH_ready (rs := [10]) (by kernel_rfl) (by simp) ?_
  refine AllReadyH.cons (o := { dst := some 49, op := Op.call { callee := Callee.value (Operand.func 10), args := #[Operand.tmp 46, Operand.tmp 47, Operand.tmp 48], argTypes := #[23, 23, 23] }, type := 23, pos := "law.go:42", after := #[{ on := 7, ground := Ground.data }, { on := 8, ground := Ground.data }, { on := 9, ground := Ground.data }, { on := 6, ground := Ground.chain }, { on := 6, ground := Ground.guard }], guard := some (6, true) }) rfl (fun K hK => ?_) AllReadyH.nil
  go_simp
  refine (muladd_n (byt m1) h (fun _ => 0) t _ _ (by rfl) ((HG.out.low L_13.out).low hHeld) (byt_lt _) Hh.out H0.out E7.out).mono ?_
  unfold ba
  rintro e u15 ⟨rfl, hb⟩
  have HT15 := hide (keepCall hb rfl hHeld)
  dsimp only
  refine hK.out _ _ HT15.out (fun hHeld => ?_)
  clear hK K hb
  try simp only [Act.put, List.setIfInBounds_toArray, List.set_cons_zero, List.set_cons_succ]
  refine wpAnyH_ready (rs := [14]) (by kernel_rfl) (by simp) ?_
  refine AllReadyH.cons (o := { dst := some 53, op := Op.call { callee := Callee.value (Operand.func 10), args := #[Operand.tmp 50, Operand.tmp 51, Operand.tmp 52], argTypes := #[23, 23, 23] }, type := 23, pos := "law.go:42", after := #[{ on := 11, ground := Ground.data }, { on := 12, ground := Ground.data }, { on := 13, ground := Ground.data }, { on := 10, ground := Ground.chain }, { on := 6, ground := Ground.guard }], guard := some (6, true) }) rfl (fun K hK => ?_) AllReadyH.nil
  go_simp
  refine (muladd_n f (byt m2) (fun _ => 0) t _ _ (by rfl) ((HG.out.low L_13.out).low hHeld) Hf.out (byt_lt _) H0.out E8.out).mono ?_
  unfold ba
  rintro e u16 ⟨rfl, hb⟩
  have HT16 := hide (keepCall hb rfl hHeld)
  dsimp only
  refine hK.out _ _ HT16.out (fun hHeld => ?_)
  clear hK K hb
  try simp only [Act.put, List.setIfInBounds_toArray, List.set_cons_zero, List.set_cons_succ]
  refine wpAnyH_take (i := 15) (oi := { dst := some 54, op := Op.binOp BinOp.eql 23 (Operand.tmp 49) (Operand.tmp 53) 23, type := 4, pos := "law.go:42", after := #[{ on := 10, ground := Ground.data }, { on := 14, ground := Ground.data }, { on := 6, ground := Ground.guard }], guard := some (6, true) }) (v := .bool true) rfl (by kernel_rfl) (by kernel_rfl) (by kernel_rfl) (fun _ _ _ h => h) (Or.inl ⟨by rfl, fun w hSw => by go_simp⟩) hHeld ?_
  try simp only [Act.put, List.setIfInBounds_toArray, List.set_cons_zero, List.set_cons_succ]
  refine wpAnyH_take (i := 16) (oi := { dst := some 55, op := Op.pick (Operand.tmp 45) (Operand.tmp 54) (Operand.const (Value.bool false)), type := 4, pos := "law.go:42", after := #[{ on := 6, ground := Ground.data }, { on := 15, ground := Ground.data }], guard := none }) (v := .bool true) rfl (by kernel_rfl) (by kernel_rfl) (by kernel_rfl) (fun _ _ _ h => h) (Or.inl ⟨by rfl, fun w hSw => by go_simp⟩) hHeld ?_
  try simp only [Act.put, List.setIfInBounds_toArray, List.set_cons_zero, List.set_cons_succ]
  refine wpAnyH_take (i := 17) (oi := { dst := some 56, op := Op.move (Operand.tmp 55), type := 4, pos := "law.go:42", after := #[{ on := 16, ground := Ground.data }, { on := 14, ground := Ground.chain }], guard := none }) (v := .bool true) rfl (by kernel_rfl) (by kernel_rfl) (by kernel_rfl) (fun _ _ _ h => h) (Or.inl ⟨by rfl, fun w hSw => by go_simp⟩) hHeld ?_
  try simp only [Act.put, List.setIfInBounds_toArray, List.set_cons_zero, List.set_cons_succ]
  refine wpAnyH_take (i := 18) (oi := { dst := some 57, op := Op.load 23 (Operand.tmp 13), type := 23, pos := "law.go:42", after := #[{ on := 17, ground := Ground.guard }], guard := some (17, true) }) (v := .agg (vals .u8 32 (byt l))) rfl (by kernel_rfl) (by kernel_rfl) (by kernel_rfl) (fun _ _ _ h => h) (yields_blk U_13.out (by rfl) 23 _ rfl rfl _ Tryd.underlying23 rfl (by rw [vals_size]; exact cells23)) hHeld ?_
  try simp only [Act.put, List.setIfInBounds_toArray, List.set_cons_zero, List.set_cons_succ]
  refine wpAnyH_take (i := 19) (oi := { dst := some 58, op := Op.load 23 (Operand.tmp 14), type := 23, pos := "law.go:42", after := #[{ on := 17, ground := Ground.guard }], guard := some (17, true) }) (v := .agg (vals .u8 32 (byt l))) rfl (by kernel_rfl) (by kernel_rfl) (by kernel_rfl) (fun _ _ _ h => h) (yields_blk V_13.out (by rfl) 23 _ rfl rfl _ Tryd.underlying23 rfl (by rw [vals_size]; exact cells23)) hHeld ?_
  try simp only [Act.put, List.setIfInBounds_toArray, List.set_cons_zero, List.set_cons_succ]
  refine wpAnyH_take (i := 20) (oi := { dst := some 59, op := Op.binOp BinOp.eql 23 (Operand.tmp 57) (Operand.tmp 58) 23, type := 4, pos := "law.go:42", after := #[{ on := 18, ground := Ground.data }, { on := 19, ground := Ground.data }, { on := 17, ground := Ground.guard }], guard := some (17, true) }) (v := .bool true) rfl (by kernel_rfl) (by kernel_rfl) (by kernel_rfl) (fun _ _ _ h => h) (Or.inl ⟨by rfl, fun w hSw => by go_simp⟩) hHeld ?_
  try simp only [Act.put, List.setIfInBounds_toArray, List.set_cons_zero, List.set_cons_succ]
  refine wpAnyH_take (i := 21) (oi := { dst := some 60, op := Op.pick (Operand.tmp 56) (Operand.tmp 59) (Operand.const (Value.bool false)), type := 4, pos := "law.go:42", after := #[{ on := 17, ground := Ground.data }, { on := 20, ground := Ground.data }], guard := none }) (v := .bool true) rfl (by kernel_rfl) (by kernel_rfl) (by kernel_rfl) (fun _ _ _ h => h) (Or.inl ⟨by rfl, fun w hSw => by go_simp⟩) hHeld ?_
  try simp only [Act.put, List.setIfInBounds_toArray, List.set_cons_zero, List.set_cons_succ]
  refine wpAnyH_take (i := 22) (oi := { dst := some 61, op := Op.move (Operand.tmp 60), type := 4, pos := "law.go:42", after := #[{ on := 21, ground := Ground.data }, { on := 17, ground := Ground.chain }], guard := none }) (v := .bool true) rfl (by kernel_rfl) (by kernel_rfl) (by kernel_rfl) (fun _ _ _ h => h) (Or.inl ⟨by rfl, fun w hSw => by go_simp⟩) hHeld ?_
  try simp only [Act.put, List.setIfInBounds_toArray, List.set_cons_zero, List.set_cons_succ]
  refine wpAnyH_take (i := 23) (oi := { dst := some 62, op := Op.load 23 (Operand.tmp 12), type := 23, pos := "law.go:42", after := #[{ on := 22, ground := Ground.guard }], guard := some (22, true) }) (v := .agg (vals .u8 32 (byt s))) rfl (by kernel_rfl) (by kernel_rfl) (by kernel_rfl) (fun _ _ _ h => h) (yields_blk S_13.out (by rfl) 23 _ rfl rfl _ Tryd.underlying23 rfl (by rw [vals_size]; exact cells23)) hHeld ?_
  try simp only [Act.put, List.setIfInBounds_toArray, List.set_cons_zero, List.set_cons_succ]
  refine wpAnyH_take (i := 24) (oi := { dst := some 63, op := Op.load 23 (Operand.tmp 5), type := 23, pos := "law.go:42", after := #[{ on := 22, ground := Ground.guard }], guard := some (22, true) }) (v := .agg (vals .u8 32 h)) rfl (by kernel_rfl) (by kernel_rfl) (by kernel_rfl) (fun _ _ _ h => h) (yields_blk C_13.out (by rfl) 23 _ rfl rfl _ Tryd.underlying23 rfl (by rw [vals_size]; exact cells23)) hHeld ?_
  try simp only [Act.put, List.setIfInBounds_toArray, List.set_cons_zero, List.set_cons_succ]
  refine wpAnyH_take (i := 25) (oi := { dst := some 64, op := Op.load 23 (Operand.tmp 9), type := 23, pos := "law.go:42", after := #[{ on := 22, ground := Ground.guard }], guard := some (22, true) }) (v := .agg (vals .u8 32 (oneB 1))) rfl (by kernel_rfl) (by kernel_rfl) (by kernel_rfl) (fun _ _ _ h => h) (yields_blk O_13.out (by rfl) 23 _ rfl rfl _ Tryd.underlying23 rfl (by rw [vals_size]; exact cells23)) hHeld ?_
  try simp only [Act.put, List.setIfInBounds_toArray, List.set_cons_zero, List.set_cons_succ]
  refine wpAnyH_take (i := 26) (oi := { dst := some 65, op := Op.load 23 (Operand.tmp 4), type := 23, pos := "law.go:42", after := #[{ on := 22, ground := Ground.guard }], guard := some (22, true) }) (v := .agg (vals .u8 32 g)) rfl (by kernel_rfl) (by kernel_rfl) (by kernel_rfl) (fun _ _ _ h => h) (yields_blk B_13.out (by rfl) 23 _ rfl rfl _ Tryd.underlying23 rfl (by rw [vals_size]; exact cells23)) hHeld ?_
  try simp only [Act.put, List.setIfInBounds_toArray, List.set_cons_zero, List.set_cons_succ]
  refine wpAnyH_ready (rs := [27]) (by kernel_rfl) (by simp) ?_
  refine AllReadyH.cons (o := { dst := some 66, op := Op.call { callee := Callee.value (Operand.func 10), args := #[Operand.tmp 63, Operand.tmp 64, Operand.tmp 65], argTypes := #[23, 23, 23] }, type := 23, pos := "law.go:42", after := #[{ on := 24, ground := Ground.data }, { on := 25, ground := Ground.data }, { on := 26, ground := Ground.data }, { on := 22, ground := Ground.chain }, { on := 22, ground := Ground.guard }], guard := some (22, true) }) rfl (fun K hK => ?_) AllReadyH.nil
  go_simp
  refine (muladd_n h (oneB 1) g s _ _ (by rfl) ((HG.out.low L_13.out).low hHeld) Hh.out H1.out Hg.out E9.out).mono ?_
  unfold ba
  rintro e u17 ⟨rfl, hb⟩
  have HT17 := hide (keepCall hb rfl hHeld)
  dsimp only
  refine hK.out _ _ HT17.out (fun hHeld => ?_)
  clear hK K hb
  try simp only [Act.put, List.setIfInBounds_toArray, List.set_cons_zero, List.set_cons_succ]
  refine wpAnyH_take (i := 28) (oi := { dst := some 67, op := Op.binOp BinOp.eql 23 (Operand.tmp 62) (Operand.tmp 66) 23, type := 4, pos := "law.go:42", after := #[{ on := 23, ground := Ground.data }, { on := 27, ground := Ground.data }, { on := 22, ground := Ground.guard }], guard := some (22, true) }) (v := .bool true) rfl (by kernel_rfl) (by kernel_rfl) (by kernel_rfl) (fun _ _ _ h => h) (Or.inl ⟨by rfl, fun w hSw => by go_simp⟩) hHeld ?_
  try simp only [Act.put, List.setIfInBounds_toArray, List.set_cons_zero, List.set_cons_succ]
  refine wpAnyH_take (i := 29) (oi := { dst := some 68, op := Op.pick (Operand.tmp 61) (Operand.tmp 67) (Operand.const (Value.bool false)), type := 4, pos := "law.go:42", after := #[{ on := 22, ground := Ground.data }, { on := 28, ground := Ground.data }], guard := none }) (v := .bool true) rfl (by kernel_rfl) (by kernel_rfl) (by kernel_rfl) (fun _ _ _ h => h) (Or.inl ⟨by rfl, fun w hSw => by go_simp⟩) hHeld ?_
  try simp only [Act.put, List.setIfInBounds_toArray, List.set_cons_zero, List.set_cons_succ]
  refine wpAnyH_take (i := 30) (oi := { dst := some 15, op := Op.assign (Operand.tmp 68), type := 4, pos := "law.go:42", after := #[{ on := 29, ground := Ground.data }, { on := 27, ground := Ground.chain }, { on := 0, ground := Ground.phase }, { on := 1, ground := Ground.phase }, { on := 2, ground := Ground.phase }, { on := 3, ground := Ground.phase }, { on := 4, ground := Ground.phase }, { on := 5, ground := Ground.phase }, { on := 6, ground := Ground.phase }, { on := 7, ground := Ground.phase }, { on := 8, ground := Ground.phase }, { on := 9, ground := Ground.phase }, { on := 10, ground := Ground.phase }, { on := 11, ground := Ground.phase }, { on := 12, ground := Ground.phase }, { on := 13, ground := Ground.phase }, { on := 14, ground := Ground.phase }, { on := 15, ground := Ground.phase }, { on := 16, ground := Ground.phase }, { on := 17, ground := Ground.phase }, { on := 18, ground := Ground.phase }, { on := 19, ground := Ground.phase }, { on := 20, ground := Ground.phase }, { on := 21, ground := Ground.phase }, { on := 22, ground := Ground.phase }, { on := 23, ground := Ground.phase }, { on := 24, ground := Ground.phase }, { on := 25, ground := Ground.phase }, { on := 26, ground := Ground.phase }, { on := 27, ground := Ground.phase }, { on := 28, ground := Ground.phase }, { on := 29, ground := Ground.phase }], guard := none }) (v := .bool true) rfl (by kernel_rfl) (by kernel_rfl) (by kernel_rfl) (fun _ _ _ h => h) (Or.inl ⟨by rfl, fun w hSw => by go_simp⟩) hHeld ?_
  try simp only [Act.put, List.setIfInBounds_toArray, List.set_cons_zero, List.set_cons_succ]
  refine wpAnyH_done (by kernel_rfl) ?_ _
  have A_18 := hide (A_13.out.call HT17.out)
  have B_18 := hide (B_13.out.call HT17.out)
  have C_18 := hide (C_13.out.call HT17.out)
  have Z_18 := hide (Z_13.out.call HT17.out)
  have O_18 := hide (O_13.out.call HT17.out)
  have P_18 := hide (P_13.out.call HT17.out)
  have Q_18 := hide (Q_13.out.call HT17.out)
  have S_18 := hide (S_13.out.call HT17.out)
  have U_18 := hide (U_13.out.call HT17.out)
  have V_18 := hide (V_13.out.call HT17.out)
  have L_18 := hide (keepLow2 L_13.out HT17.out)
  clear hHeld
  clear hq1 hqt hql hqs
  go_wp2_with (first
      | (refine wpList_load_w (by rfl) 23 _ rfl (pp) rfl 23 _ (0, 0) _ P_18.out Tryd.underlying23 rfl (by rw [vals_size]; exact cells23) ?_)
      | (go_at_call 12; refine (fine_n (byt m1) true _ _ rfl (HG.out.low L_18.out) (byt_lt _) E10.out).mono ?_; rintro e k19 ⟨rfl, hb⟩; have A_19 := hide (A_18.out.call hb); have B_19 := hide (B_18.out.call hb); have C_19 := hide (C_18.out.call hb); have Z_19 := hide (Z_18.out.call hb); have O_19 := hide (O_18.out.call hb); have P_19 := hide (P_18.out.call hb); have Q_19 := hide (Q_18.out.call hb); have S_19 := hide (S_18.out.call hb); have U_19 := hide (U_18.out.call hb); have V_19 := hide (V_18.out.call hb); have L_19 := hide (L_18.out.trans (hb.mono L_18.out.size)); clear hb A_18 B_18 C_18 Z_18 O_18 P_18 Q_18 S_18 U_18 V_18 L_18; dsimp only)
      | (refine wpList_load_w (by rfl) 23 _ rfl (ps) rfl 23 _ (0, 0) _ S_19.out Tryd.underlying23 rfl (by rw [vals_size]; exact cells23) ?_)
      | (go_at_call 12; refine (fine_n (byt s) true _ _ rfl (HG.out.low L_19.out) (byt_lt _) E11.out).mono ?_; rintro e k20 ⟨rfl, hb⟩; have A_20 := hide (A_19.out.call hb); have B_20 := hide (B_19.out.call hb); have C_20 := hide (C_19.out.call hb); have Z_20 := hide (Z_19.out.call hb); have O_20 := hide (O_19.out.call hb); have P_20 := hide (P_19.out.call hb); have Q_20 := hide (Q_19.out.call hb); have S_20 := hide (S_19.out.call hb); have U_20 := hide (U_19.out.call hb); have V_20 := hide (V_19.out.call hb); have L_20 := hide (L_19.out.trans (hb.mono L_19.out.size)); clear hb A_19 B_19 C_19 Z_19 O_19 P_19 Q_19 S_19 U_19 V_19 L_19; dsimp only)
      | (refine wpList_load_w (by rfl) 23 _ rfl (w.heap.size) rfl 23 _ (0, 0) _ A_20.out Tryd.underlying23 rfl (by rw [vals_size]; exact cells23) ?_)
      | (go_at_call 16; refine (wide_at f _ _ rfl).mono ?_; unfold bb; rintro e k21 ⟨rfl, hb⟩; have A_21 := hide (A_20.out.call hb); have B_21 := hide (B_20.out.call hb); have C_21 := hide (C_20.out.call hb); have Z_21 := hide (Z_20.out.call hb); have O_21 := hide (O_20.out.call hb); have P_21 := hide (P_20.out.call hb); have Q_21 := hide (Q_20.out.call hb); have S_21 := hide (S_20.out.call hb); have U_21 := hide (U_20.out.call hb); have V_21 := hide (V_20.out.call hb); have L_21 := hide (L_20.out.trans (hb.mono L_20.out.size)); clear hb A_20 B_20 C_20 Z_20 O_20 P_20 Q_20 S_20 U_20 V_20 L_20; dsimp only)
      | (go_at_call 8; refine (reduce_n (wd f) r _ _ rfl (HG.out.low L_21.out) (wd_lt _ Hf.out) (by rw [nb_wd]; exact E12.out)).mono ?_; unfold ba; rintro e k22 ⟨rfl, hb⟩; have A_22 := hide (A_21.out.call hb); have B_22 := hide (B_21.out.call hb); have C_22 := hide (C_21.out.call hb); have Z_22 := hide (Z_21.out.call hb); have O_22 := hide (O_21.out.call hb); have P_22 := hide (P_21.out.call hb); have Q_22 := hide (Q_21.out.call hb); have S_22 := hide (S_21.out.call hb); have U_22 := hide (U_21.out.call hb); have V_22 := hide (V_21.out.call hb); have L_22 := hide (L_21.out.trans (hb.mono L_21.out.size)); clear hb A_21 B_21 C_21 Z_21 O_21 P_21 Q_21 S_21 U_21 V_21 L_21; dsimp only)
      | (go_at_call 12; refine (fine_n (byt r) true _ _ rfl (HG.out.low L_22.out) (byt_lt _) E13.out).mono ?_; rintro e k23 ⟨rfl, hb⟩; have A_23 := hide (A_22.out.call hb); have B_23 := hide (B_22.out.call hb); have C_23 := hide (C_22.out.call hb); have Z_23 := hide (Z_22.out.call hb); have O_23 := hide (O_22.out.call hb); have P_23 := hide (P_22.out.call hb); have Q_23 := hide (Q_22.out.call hb); have S_23 := hide (S_22.out.call hb); have U_23 := hide (U_22.out.call hb); have V_23 := hide (V_22.out.call hb); have L_23 := hide (L_22.out.trans (hb.mono L_22.out.size)); clear hb A_22 B_22 C_22 Z_22 O_22 P_22 Q_22 S_22 U_22 V_22 L_22; dsimp only))
  go_ret
  exact ⟨rfl, L_23.out⟩
end Go.Proofs.YtokhmhodkakioaaDoor

/- Walks: Mul, Both, Bytes; Neg, Same, Base, Places of points of the curve. No other condition. -/
import Derived.Test.YtbpmakegimgbpaaGreatDoorJf
namespace Go.Proofs.YtbpmakegimgbpaaGreatDoor
set_option maxRecDepth 100000
open F Go.RowKit Rg

theorem nb_lt32 (f : Nat → Nat) (hf : ∀ i, f i < 256) : nb f 32 < 2 ^ 256 := nb_lt f hf 32
set_option maxHeartbeats 4000000 in
theorem mul7_c (f : Nat → Nat) {P : Nat × Nat} (hf : ∀ i, f i < 256) (hP : Ok7 P) (w : World) : Ret 34 #[.agg (vals .u8 32 f), .agg (pt P)] w (.agg (pt (mul7 P (nb f 32)))) := by
  go_enter Tryz.func34, Tryz.ntmps34
  have ht : totP [(f, P)] 256 = mul7 P (nb f 32) := by rw [tot_one hP (nb_lt32 f hf) 256 (by omega), Nat.sub_self, Nat.pow_zero, Nat.div_one]
  have hc : ∀ (q : Nat) (w : World), Blk w q (sl [(f, P)]) 100 → Ret 62 #[.slice (some ⟨q, 0, none⟩) 1 1] w (.agg (pt (mul7 P (nb f 32)))) := fun q w hB => ht ▸ total_c [(f, P)] q (fun m hm => by rw [List.mem_singleton] at hm; subst hm; exact ⟨hP, hf⟩) (by simp) w hB
  have Hc := hide hc
  clear hc ht
  have hO := Wn.start w
  go_upto_region 0 with (fail)
  refine Rg.ps [0, 1, 2] (fun ν => [(2, D (ν 0)), (3, D (ν 1)), (4, D (ν 2))]) (OI w (Sq _ (fun ν => [ap ((ν 0), vals .u8 32 f, 22), ap ((ν 1), pt P, 49), ap ((ν 2), ps [0, 0], 49)]))) (fun _ => 0) hO (Rg.ac (sn 0 (fun _ => vals .u8 32 f) 22 (fun _ w => run_box 22 _ rfl _ (by kernel_rfl) w) (fun _ => ft (fit_by _))) (Rg.ac (sn 1 (fun _ => pt P) 49 (fun _ w => run_box 49 _ rfl _ (by kernel_rfl) w) (fun _ => ft (fit_pt _ _))) (Rg.ac (sn 2 (fun _ => ps [0, 0]) 49 (fun _ w => al29 rfl w) (fun _ => ft (fit_pt _ _))) Rg.an))) ?_
  intro ν w1 hO
  simp only [OI, Sq, Sg, ap, qA, qB, qC, qD, qE, qF, qG, Rg.putL, Act.put] at hO ⊢
  generalize ν 0 = n2 at hO ⊢
  generalize ν 1 = n3 at hO ⊢
  generalize ν 2 = n4 at hO ⊢
  clear ν
  go_upto_region 1 with (fail)
  refine Rg.pd [2, 4, 5, 6] (fun ν => [(5, A (vals .u8 32 f)), (6, A (pt P)), (7, A (ad P)), (8, A (mq f P)), (9, .slice (some ⟨(ν 4), 0, none⟩) 1 1), (10, A (pt (mul7 P (nb f 32))))]) (OI w (Sq _ (fun ν => [id, ap ((ν 4), sl [(f, P)], 100), id, se 2 (n4, pt (mul7 P (nb f 32)), 49)]))) (fun _ => 0) hO.drew (Rg.ac (nld 0 1 0 (fun _ => n2) (fun _ => vals .u8 32 f) (t2 0 1 (t1 1)) Tryz.underlying22) (Rg.ac (nld 0 0 1 (fun _ => n3) (fun _ => pt P) (t1 0) Tryz.underlying49) (Rg.ac (sC 0 63 _ _ (fun _ => add_p hP)) (Rg.ac (nx (fun _ => A (mq f P)) (fun _ w => run_bd 100 _ rfl [(0, A (vals .u8 32 f)), (1, A (ad P))] (by kernel_rfl) _ (bd_mu _ _ _ _) w)) (Rg.ac (sv 1 (fun ν q => .slice (some ⟨q, 0, none⟩) 1 1) (fun _ => sl [(f, P)]) 100 (fun _ w => bs1 rfl f P (by kernel_rfl) w) (fun _ => fit_any (by kernel_rfl))) (Rg.ac (sq 2 62 (fun ν => #[.slice (some ⟨(ν 4), 0, none⟩) 1 1]) (fun _ => A (pt (mul7 P (nb f 32)))) (fun ν w hO => Hc.out _ w (hO.row 3 rfl))) (Rg.ac (sr 3 2 (fun _ => pt (mul7 P (nb f 32))) (fun _ => ft (fit_pt _ _))) Rg.an))))))) ?_
  intro ν w2 hO
  simp only [OI, Sq, Sg, ap, se, id, qA, qB, qC, qD, qE, qF, qG, Rg.putL, Act.put] at hO ⊢
  generalize ν 4 = n9 at hO ⊢
  clear ν
  go_wp2_with fail
  refine bodyPost_ret (v := .agg (pt (mul7 P (nb f 32)))) (results_cell_row Tryz.results34 _ _ n4 49 _ (0, 0) _ rfl (hO.row 2 rfl) Tryz.underlying49 rfl (fit_pt _ _).size) rfl ⟨rfl, hO.low⟩
set_option maxHeartbeats 4000000 in
theorem both7_c (f g : Nat → Nat) {P Q : Nat × Nat} (hf : ∀ i, f i < 256) (hP : Ok7 P) (hg : ∀ i, g i < 256) (hQ : Ok7 Q) (w : World) : Ret 25 #[.agg (vals .u8 32 f), .agg (pt P), .agg (vals .u8 32 g), .agg (pt Q)] w (.agg (pt (add7 (mul7 P (nb f 32)) (mul7 Q (nb g 32))))) := by
  go_enter Tryz.func25, Tryz.ntmps25
  have ht : totP [(f, P), (g, Q)] 256 = add7 (mul7 P (nb f 32)) (mul7 Q (nb g 32)) := by rw [tot_two hP hQ (nb_lt32 f hf) (nb_lt32 g hg) 256 (by omega), Nat.sub_self, Nat.pow_zero, Nat.div_one, Nat.div_one]
  have hc : ∀ (q : Nat) (w : World), Blk w q (sl [(f, P), (g, Q)]) 100 → Ret 62 #[.slice (some ⟨q, 0, none⟩) 2 2] w (.agg (pt (add7 (mul7 P (nb f 32)) (mul7 Q (nb g 32))))) := fun q w hB => ht ▸ total_c [(f, P), (g, Q)] q (fun m hm => by simp only [List.mem_cons, List.not_mem_nil, or_false] at hm; (rcases hm with rfl | rfl) <;> first | exact ⟨hP, hf⟩ | exact ⟨hQ, hg⟩) (by simp) w hB
  have Hc := hide hc
  clear hc ht
  have hO := Wn.start w
  go_upto_region 0 with (fail)
  refine Rg.ps [0, 1, 2, 3, 4] (fun ν => [(4, D (ν 0)), (5, D (ν 1)), (6, D (ν 2)), (7, D (ν 3)), (8, D (ν 4))]) (OI w (Sq _ (fun ν => [ap ((ν 0), vals .u8 32 f, 22), ap ((ν 1), pt P, 49), ap ((ν 2), vals .u8 32 g, 22), ap ((ν 3), pt Q, 49), ap ((ν 4), ps [0, 0], 49)]))) (fun _ => 0) hO (Rg.ac (sn 0 (fun _ => vals .u8 32 f) 22 (fun _ w => run_box 22 _ rfl _ (by kernel_rfl) w) (fun _ => ft (fit_by _))) (Rg.ac (sn 1 (fun _ => pt P) 49 (fun _ w => run_box 49 _ rfl _ (by kernel_rfl) w) (fun _ => ft (fit_pt _ _))) (Rg.ac (sn 2 (fun _ => vals .u8 32 g) 22 (fun _ w => run_box 22 _ rfl _ (by kernel_rfl) w) (fun _ => ft (fit_by _))) (Rg.ac (sn 3 (fun _ => pt Q) 49 (fun _ w => run_box 49 _ rfl _ (by kernel_rfl) w) (fun _ => ft (fit_pt _ _))) (Rg.ac (sn 4 (fun _ => ps [0, 0]) 49 (fun _ w => al29 rfl w) (fun _ => ft (fit_pt _ _))) Rg.an))))) ?_
  intro ν w1 hO
  simp only [OI, Sq, Sg, ap, qA, qB, qC, qD, qE, qF, qG, Rg.putL, Act.put] at hO ⊢
  generalize ν 0 = n4 at hO ⊢
  generalize ν 1 = n5 at hO ⊢
  generalize ν 2 = n6 at hO ⊢
  generalize ν 3 = n7 at hO ⊢
  generalize ν 4 = n8 at hO ⊢
  clear ν
  go_upto_region 1 with (fail)
  refine Rg.pd [2, 6, 8, 9, 10] (fun ν => [(9, A (vals .u8 32 f)), (10, A (pt P)), (11, A (ad P)), (12, A (mq f P)), (13, A (vals .u8 32 g)), (14, A (pt Q)), (15, A (ad Q)), (16, A (mq g Q)), (17, .slice (some ⟨(ν 8), 0, none⟩) 2 2), (18, A (pt (add7 (mul7 P (nb f 32)) (mul7 Q (nb g 32)))))]) (OI w (Sq _ (fun ν => [id, id, ap ((ν 8), sl [(f, P), (g, Q)], 100), id, se 4 (n8, pt (add7 (mul7 P (nb f 32)) (mul7 Q (nb g 32))), 49)]))) (fun _ => 0) hO.drew (Rg.ac (nld 0 2 0 (fun _ => n4) (fun _ => vals .u8 32 f) (t2 0 2 (t2 1 2 (t1 2))) Tryz.underlying22) (Rg.ac (nld 0 0 1 (fun _ => n5) (fun _ => pt P) (t1 0) Tryz.underlying49) (Rg.ac (sC 0 63 _ _ (fun _ => add_p hP)) (Rg.ac (nx (fun _ => A (mq f P)) (fun _ w => run_bd 100 _ rfl [(0, A (vals .u8 32 f)), (1, A (ad P))] (by kernel_rfl) _ (bd_mu _ _ _ _) w)) (Rg.ac (nld 0 2 2 (fun _ => n6) (fun _ => vals .u8 32 g) (t2 0 2 (t2 1 2 (t1 2))) Tryz.underlying22) (Rg.ac (nld 0 1 3 (fun _ => n7) (fun _ => pt Q) (t2 0 1 (t1 1)) Tryz.underlying49) (Rg.ac (sC 1 63 _ _ (fun _ => add_p hQ)) (Rg.ac (nx (fun _ => A (mq g Q)) (fun _ w => run_bd 100 _ rfl [(0, A (vals .u8 32 g)), (1, A (ad Q))] (by kernel_rfl) _ (bd_mu _ _ _ _) w)) (Rg.ac (sv 2 (fun ν q => .slice (some ⟨q, 0, none⟩) 2 2) (fun _ => sl [(f, P), (g, Q)]) 100 (fun _ w => bs2 rfl f P g Q (by kernel_rfl) (by kernel_rfl) w) (fun _ => fit_any (by kernel_rfl))) (Rg.ac (sq 3 62 (fun ν => #[.slice (some ⟨(ν 8), 0, none⟩) 2 2]) (fun _ => A (pt (add7 (mul7 P (nb f 32)) (mul7 Q (nb g 32))))) (fun ν w hO => Hc.out _ w (hO.row 5 rfl))) (Rg.ac (sr 4 4 (fun _ => pt (add7 (mul7 P (nb f 32)) (mul7 Q (nb g 32)))) (fun _ => ft (fit_pt _ _))) Rg.an))))))))))) ?_
  intro ν w2 hO
  simp only [OI, Sq, Sg, ap, se, id, qA, qB, qC, qD, qE, qF, qG, Rg.putL, Act.put] at hO ⊢
  generalize ν 8 = n17 at hO ⊢
  clear ν
  go_wp2_with fail
  refine bodyPost_ret (v := .agg (pt (add7 (mul7 P (nb f 32)) (mul7 Q (nb g 32))))) (results_cell_row Tryz.results25 _ _ n8 49 _ (0, 0) _ rfl (hO.row 4 rfl) Tryz.underlying49 rfl (fit_pt _ _).size) rfl ⟨rfl, hO.low⟩
theorem neg_p {P : Nat × Nat} (hP : Ok7 P) (w : World) : Ret 27 #[.agg (pt P)] w (.agg (pt (neg7 P))) := neg7_c P.1 (sm P.2 1) hP.x w
theorem places_p {P : Nat × Nat} (hP : Ok7 P) (w : World) : Ret 80 #[.agg (pt P)] w (.tuple #[.agg (arr 4 (limb P.1)), .agg (arr 4 (limb P.2))]) := by
  have h := places_c P.1 (sm P.2 1) (sm_lt _ _) w
  rw [sm_am hP.y] at h
  exact h
theorem sm_one {x y : Nat} (hx : x < pP) (hy : y < pP) : sm x 1 = sm y 1 ↔ x = y := by
  constructor
  · intro h; rw [← sm_am hx, ← sm_am hy, h]
  · rintro rfl; rfl
theorem same_p {P Q : Nat × Nat} (hP : Ok7 P) (hQ : Ok7 Q) (w : World) : Ret 24 #[.agg (pt P), .agg (pt Q)] w (.bool (decide (P = Q))) := by
  have h := same7_c P.1 (sm P.2 1) Q.1 (sm Q.2 1) hP.x (sm_lt _ _) hQ.x (sm_lt _ _) w
  have e : (decide (P.1 = Q.1) && decide (sm P.2 1 = sm Q.2 1)) = decide (P = Q) := by
    rw [Bool.eq_iff_iff]
    simp only [Bool.and_eq_true, decide_eq_true_eq, sm_one hP.y hQ.y]
    exact ⟨fun h => Prod.ext h.1 h.2, fun h => ⟨h ▸ rfl, h ▸ rfl⟩⟩
  rw [e] at h
  exact h
theorem base_p (w : World) : Ret 26 #[] w (.agg (pt base7)) := base_c w
theorem or_run15 {o : Oper} (a : Act) (w : World) (g : Nat) (hg : g < 256) (h0 : a.eval (.tmp 16) = .int .u8 ((g : Nat) : Int)) (ho : o.op = .binOp .or 5 (.tmp 16) (.const (.int .u8 128)) 5 := by rfl) : (execOp a.eval o).run Tryz.prog w = .ok (.value (.int .u8 ((g % 128 + 128 : Nat) : Int))) w := by
  unfold execOp
  simp only [ho, h0]
  have e0 : a.eval (.const (.int .u8 128)) = .int .u8 128 := rfl
  have e := or8_128 g hg
  go_simp
theorem bytes_even {P : Nat × Nat} (h : ¬ P.1 % 2 = 1) : num7 P = P.2 := by unfold num7; rw [show P.1 % 2 = 0 by omega, Nat.mul_zero, Nat.add_zero]
theorem byt_high {y : Nat} (hy : y < pP) (j : Nat) : byt (y + 2 ^ 255) j = if j = 31 then byt y 31 % 128 + 128 else byt y j := by
  have hp : y < 2 ^ 255 := Nat.lt_of_lt_of_le hy (by unfold pP; omega)
  unfold byt
  by_cases h31 : j = 31
  · subst h31
    rw [if_pos rfl]
    have h1 : y / 2 ^ (8 * 31) < 128 := Nat.div_lt_of_lt_mul (by rw [show 2 ^ (8 * 31) * 128 = 2 ^ 255 by decide +kernel]; exact hp)
    rw [show (2 : Nat) ^ 255 = 2 ^ (8 * 31) * 128 by decide +kernel, Nat.add_mul_div_left _ _ (by decide +kernel)]
    omega
  · rw [if_neg h31]
    by_cases hj : j < 31
    · rw [show (2 : Nat) ^ 255 = 2 ^ (8 * j) * (256 * 2 ^ (247 - 8 * j)) by rw [show (256 : Nat) = 2 ^ 8 by rfl, ← Nat.pow_add, ← Nat.pow_add]; congr 1; omega, Nat.add_mul_div_left _ _ (Nat.pow_pos (by omega)), Nat.add_mul_mod_self_left]
    · have h8 : (2 : Nat) ^ 256 ≤ 2 ^ (8 * j) := Nat.pow_le_pow_right (by omega) (by omega)
      have h9 : (2 : Nat) ^ 256 = 2 ^ 255 + 2 ^ 255 := by decide +kernel
      rw [Nat.div_eq_of_lt (by omega), Nat.div_eq_of_lt (by omega)]
theorem bytes_odd {P : Nat × Nat} (hP : Ok7 P) (h : P.1 % 2 = 1) : vals .u8 32 (fun j => if j = 31 then byt P.2 31 % 128 + 128 else byt P.2 j) = vals .u8 32 (byt (num7 P)) := by
  unfold num7
  rw [h, Nat.mul_one]
  exact vals_congr _ _ _ _ fun j _ => (byt_high hP.y j).symm
set_option maxHeartbeats 4000000 in
theorem bytes_p {P : Nat × Nat} (hP : Ok7 P) (w : World) : Ret 35 #[.agg (pt P)] w (.agg (vals .u8 32 (byt (num7 P)))) := by
  go_enter Tryz.func35, Tryz.ntmps35
  have hO := Wn.start w
  go_upto_region 0 with (fail)
  refine Rg.ps [0, 1] (fun ν => [(1, D (ν 0)), (2, D (ν 1))]) (OI w (Sq _ (fun ν => [ap ((ν 0), pt P, 49), ap ((ν 1), vals .u8 32 (fun _ => 0), 22)]))) (fun _ => 0) hO (Rg.ac (sn 0 (fun _ => pt P) 49 (fun _ w => run_box 49 _ rfl _ (by kernel_rfl) w) (fun _ => ft (fit_pt _ _))) (Rg.ac (sn 1 (fun _ => vals .u8 32 (fun _ => 0)) 22 (fun _ w => al22 rfl w) (fun _ => ft (fit_by _))) Rg.an)) ?_
  intro ν w1 hO
  simp only [OI, Sq, Sg, ap, qA, qB, qC, qD, qE, qF, qG, Rg.putL, Act.put] at hO ⊢
  generalize ν 0 = n1 at hO ⊢
  generalize ν 1 = n2 at hO ⊢
  clear ν
  go_upto_region 1 with (fail)
  refine Rg.ps [1, 5, 6, 7, 8] (fun ν => [(7, A (pt P)), (8, .tuple #[A (arr 4 (limb P.1)), A (arr 4 (limb P.2))]), (6, .tuple #[A (arr 4 (limb P.1)), A (arr 4 (limb P.2))]), (9, A (arr 4 (limb P.1))), (10, A (arr 4 (limb P.2))), (3, D (ν 5)), (4, D (ν 6))]) (OI w (Sq _ (fun ν => [id, ap ((ν 5), arr 4 (limb 0), 47), ap ((ν 6), arr 4 (limb 0), 47), se 2 ((ν 5), arr 4 (limb P.1), 47), se 3 ((ν 6), arr 4 (limb P.2), 47)]))) (fun _ => 0) hO (Rg.ac (nld 0 0 0 (fun _ => n1) (fun _ => pt P) (t1 0) Tryz.underlying49) (Rg.ac (sC 0 80 _ _ (fun _ => places_p hP)) (Rg.ac nV (Rg.ac nV (Rg.ac nV (Rg.ac (sn 1 (fun _ => arr 4 (limb 0)) 47 (fun _ w => al27 rfl w) (fun _ => ft (fit_fe _))) (Rg.ac (sn 2 (fun _ => arr 4 (limb 0)) 47 (fun _ w => al27 rfl w) (fun _ => ft (fit_fe _))) (Rg.ac (sr 3 2 (fun _ => arr 4 (limb P.1)) (fun _ => ft (fit_fe _))) (Rg.ac (sr 4 3 (fun _ => arr 4 (limb P.2)) (fun _ => ft (fit_fe _))) Rg.an))))))))) ?_
  intro ν w2 hO
  simp only [OI, Sq, Sg, ap, se, id, qA, qB, qC, qD, qE, qF, qG, Rg.putL, Act.put] at hO ⊢
  generalize ν 5 = n3 at hO ⊢
  generalize ν 6 = n4 at hO ⊢
  clear ν
  go_upto_region 2 with (fail)
  refine Rg.ps [1, 2, 3] (fun ν => [(11, A (arr 4 (limb P.2))), (12, A (vals .u8 32 (byt P.2))), (5, D (ν 2))]) (OI w (Sq _ (fun ν => [id, ap ((ν 2), vals .u8 32 (fun _ => 0), 22), se 4 ((ν 2), vals .u8 32 (byt P.2), 22)]))) (fun _ => 0) hO (Rg.ac (nld 0 0 3 (fun _ => n4) (fun _ => arr 4 (limb P.2)) (t1 0) Tryz.underlying47) (Rg.ac (sC 0 49 _ _ (fun _ => bytes_c P.2)) (Rg.ac (sn 1 (fun _ => vals .u8 32 (fun _ => 0)) 22 (fun _ w => al22 rfl w) (fun _ => ft (fit_by _))) (Rg.ac (sr 2 4 (fun _ => vals .u8 32 (byt P.2)) (fun _ => ft (fit_by _))) Rg.an)))) ?_
  intro ν w3 hO
  simp only [OI, Sq, Sg, ap, se, id, qA, qB, qC, qD, qE, qF, qG, Rg.putL, Act.put] at hO ⊢
  generalize ν 2 = n5 at hO ⊢
  clear ν
  go_upto_region 3 with (fail)
  by_cases hodd : P.1 % 2 = 1
  · skip
    have hc := odd_c P.1
    rw [decide_eq_true hodd] at hc
    refine Rg.ps [1] (fun _ => [(13, A (arr 4 (limb P.1))), (14, .bool true)]) (OI w (Sq _ (fun _ => [id]))) (fun _ => 0) hO (Rg.ac (nld 0 0 2 (fun _ => n3) (fun _ => arr 4 (limb P.1)) (t1 0) Tryz.underlying47) (Rg.ac (sC 0 81 _ _ (fun _ => hc)) Rg.an)) ?_
    intro ν w4 hO
    simp only [OI, Sq, Sg, id, qC, qD, qE, qF, qG, Rg.putL, Act.put] at hO ⊢
    clear ν
    have hb := bytes_odd hP hodd
    have Hb := hide hb
    clear hc hb hodd
    go_upto_region 4 with (fail)
    refine Rg.ps [4] (fun _ => [(15, E n5 31), (16, Nv .u8 ((byt P.2) 31)), (17, Nv .u8 (byt P.2 31 % 128 + 128)), (18, E n5 31)]) (OI w (Sq _ (fun _ => [se 4 (n5, vals .u8 32 (fun j => if j = 31 then byt P.2 31 % 128 + 128 else (byt P.2) j), 22)]))) (fun _ => 0) hO (Rg.ac nV (Rg.ac (nc 0 0 4 (fun _ => n5) 22 (fun _ => vals .u8 32 (byt P.2)) (fun _ => 31) (fun _ => Nv .u8 ((byt P.2) 31)) agg_u8 (fun _ => (vals_get _ _ _ _ (by omega))) (t1 0)) (Rg.ac (nx (fun _ => Nv .u8 (byt P.2 31 % 128 + 128)) (fun _ w => or_run15 _ w _ (byt_lt _ _) (by kernel_rfl))) (Rg.ac nV (Rg.ac (sL 0 4 (fun _ => 31) (fun _ => Nv .u8 ((byt P.2) 31)) (fun _ => ((byt P.2 31 % 128 + 128 : Nat) : Int)) sz_u8 (fun _ => (vals_get _ _ _ _ (by omega))) (fun _ => (set_by _ _ _)) (fun _ => ft (fit_by _))) Rg.an))))) ?_
    intro ν w5 hO
    simp only [OI, Sq, Sg, se, qC, qD, qE, qF, qG, Rg.putL, Act.put] at hO ⊢
    clear ν
    rw [Hb.out] at hO
    go_upto_region 5 with (fail)
    refine Rg.ps [1] (fun _ => [(19, A (vals .u8 32 (byt (num7 P))))]) (OI w (Sq _ (fun _ => [se 1 (n2, vals .u8 32 (byt (num7 P)), 22)]))) (fun _ => 0) hO (Rg.ac (nld 0 0 4 (fun _ => n5) (fun _ => vals .u8 32 (byt (num7 P))) (t1 0) Tryz.underlying22) (Rg.ac (sr 0 1 (fun _ => vals .u8 32 (byt (num7 P))) (fun _ => ft (fit_by _))) Rg.an)) ?_
    intro ν w6 hO
    simp only [OI, Sq, Sg, se, qC, qD, qE, qF, qG, Rg.putL, Act.put] at hO ⊢
    clear ν
    go_wp2_with fail
    refine bodyPost_ret (v := .agg (vals .u8 32 (byt (num7 P)))) (results_cell_row Tryz.results35 _ _ n2 22 _ (0, 0) _ rfl (hO.row 1 rfl) Tryz.underlying22 rfl (fit_by _).size) rfl ⟨rfl, hO.low⟩
  · skip
    have hc := odd_c P.1
    rw [decide_eq_false hodd] at hc
    refine Rg.ps [1] (fun _ => [(13, A (arr 4 (limb P.1))), (14, .bool false)]) (OI w (Sq _ (fun _ => [id]))) (fun _ => 0) hO (Rg.ac (nld 0 0 2 (fun _ => n3) (fun _ => arr 4 (limb P.1)) (t1 0) Tryz.underlying47) (Rg.ac (sC 0 81 _ _ (fun _ => hc)) Rg.an)) ?_
    intro ν w4 hO
    simp only [OI, Sq, Sg, id, qC, qD, qE, qF, qG, Rg.putL, Act.put] at hO ⊢
    clear ν
    replace hO : Wn w w4 [(n1, pt P, 49), (n2, vals .u8 32 (fun _ => 0), 22), (n3, arr 4 (limb P.1), 47), (n4, arr 4 (limb P.2), 47), (n5, vals .u8 32 (byt (num7 P)), 22)] := by rw [bytes_even hodd]; exact hO
    clear hc hodd
    go_upto_region 5 with (fail)
    refine Rg.ps [1] (fun _ => [(19, A (vals .u8 32 (byt (num7 P))))]) (OI w (Sq _ (fun _ => [se 1 (n2, vals .u8 32 (byt (num7 P)), 22)]))) (fun _ => 0) hO (Rg.ac (nld 0 0 4 (fun _ => n5) (fun _ => vals .u8 32 (byt (num7 P))) (t1 0) Tryz.underlying22) (Rg.ac (sr 0 1 (fun _ => vals .u8 32 (byt (num7 P))) (fun _ => ft (fit_by _))) Rg.an)) ?_
    intro ν w5 hO
    simp only [OI, Sq, Sg, se, qC, qD, qE, qF, qG, Rg.putL, Act.put] at hO ⊢
    clear ν
    go_wp2_with fail
    refine bodyPost_ret (v := .agg (vals .u8 32 (byt (num7 P)))) (results_cell_row Tryz.results35 _ _ n2 22 _ (0, 0) _ rfl (hO.row 1 rfl) Tryz.underlying22 rfl (fit_by _).size) rfl ⟨rfl, hO.low⟩
end Go.Proofs.YtbpmakegimgbpaaGreatDoor

/- Walks: one, d, pointAt, Base, Places, Neg, sides, joined, reckoned, addendOf, whole. Numbers below p; no other condition. -/
import Derived.Test.YtbpmakegimgbpaaGreatDoorJo
namespace Go.Proofs.YtbpmakegimgbpaaGreatDoor
set_option maxRecDepth 100000
open F Go.RowKit Rg

set_option maxHeartbeats 4000000 in
theorem one_c (w : World) : Ret 53 #[] w (.agg (arr 4 (limb 1))) := by
  go_enter Tryz.func53, Tryz.ntmps53
  have hO := Wn.start w
  go_upto_region 0 with (fail)
  refine Rg.ps [0] (fun ν => [(0, D (ν 0))]) (OI w (Sq _ (fun ν => [ap ((ν 0), arr 4 (limb 0), 47)]))) (fun _ => 0) hO (Rg.ac (sn 0 (fun _ => arr 4 (limb 0)) 47 (fun _ w => al27 rfl w) (fun _ => ft (fit_fe _))) Rg.an) ?_
  intro ν w1 hO
  simp only [OI, Sq, Sg, ap, qB, qD, qE, qF, qG, Rg.putL, Act.put] at hO ⊢
  generalize ν 0 = n0 at hO ⊢
  clear ν
  go_upto_region 1 with (fail)
  refine Rg.ps [1, 2] (fun _ => [(1, A (vals .u8 32 (cb [1]))), (2, A (arr 4 (limb 1)))]) (OI w (Sq _ (fun _ => [id, se 0 (n0, arr 4 (limb 1), 47)]))) (fun _ => 0) hO (Rg.ac (nx (fun _ => A (vals .u8 32 (cb [1]))) (fun _ w => run_bd 22 _ rfl [(0, .int IntKind.u8 1)] (by kernel_rfl) _ (by kernel_rfl) w)) (Rg.ac (sC 0 48 (fun _ => #[A (vals .u8 32 (cb [1]))]) (fun _ => A (arr 4 (limb 1))) (fun _ => (load_k _ 1 (cb_lt _ (by decide +kernel)) (by decide +kernel)))) (Rg.ac (sr 1 0 (fun _ => arr 4 (limb 1)) (fun _ => ft (fit_fe _))) Rg.an))) ?_
  intro ν w2 hO
  simp only [OI, Sq, Sg, se, id, qC, qD, qE, qF, qG, Rg.putL, Act.put] at hO ⊢
  clear ν
  go_wp2_with fail
  refine bodyPost_ret (v := .agg (arr 4 (limb 1))) (results_cell_row Tryz.results53 _ _ n0 47 _ (0, 0) _ rfl (hO.row 0 rfl) Tryz.underlying47 rfl (fit_fe _).size) rfl ⟨rfl, hO.low⟩
set_option maxHeartbeats 4000000 in
theorem d_c (w : World) : Ret 56 #[] w (.agg (arr 4 (limb d7N))) := by
  go_enter Tryz.func56, Tryz.ntmps56
  have hO := Wn.start w
  go_upto_region 0 with (fail)
  refine Rg.ps [0] (fun ν => [(0, D (ν 0))]) (OI w (Sq _ (fun ν => [ap ((ν 0), arr 4 (limb 0), 47)]))) (fun _ => 0) hO (Rg.ac (sn 0 (fun _ => arr 4 (limb 0)) 47 (fun _ w => al27 rfl w) (fun _ => ft (fit_fe _))) Rg.an) ?_
  intro ν w1 hO
  simp only [OI, Sq, Sg, ap, qB, qD, qE, qF, qG, Rg.putL, Act.put] at hO ⊢
  generalize ν 0 = n0 at hO ⊢
  clear ν
  go_upto_region 1 with (fail)
  refine Rg.ps [1, 2] (fun _ => [(1, A (vals .u8 32 (cb [163, 120, 89, 19, 202, 77, 235, 117, 171, 216, 65, 65, 77, 10, 112, 0, 152, 232, 121, 119, 121, 64, 199, 140, 115, 254, 111, 43, 238, 108, 3, 82]))), (2, A (arr 4 (limb d7N)))]) (OI w (Sq _ (fun _ => [id, se 0 (n0, arr 4 (limb d7N), 47)]))) (fun _ => 0) hO (Rg.ac (nx (fun _ => A (vals .u8 32 (cb [163, 120, 89, 19, 202, 77, 235, 117, 171, 216, 65, 65, 77, 10, 112, 0, 152, 232, 121, 119, 121, 64, 199, 140, 115, 254, 111, 43, 238, 108, 3, 82]))) (fun _ w => run_bd 22 _ rfl [(0, .int IntKind.u8 163), (1, .int IntKind.u8 120), (2, .int IntKind.u8 89), (3, .int IntKind.u8 19), (4, .int IntKind.u8 202), (5, .int IntKind.u8 77), (6, .int IntKind.u8 235), (7, .int IntKind.u8 117), (8, .int IntKind.u8 171), (9, .int IntKind.u8 216), (10, .int IntKind.u8 65), (11, .int IntKind.u8 65), (12, .int IntKind.u8 77), (13, .int IntKind.u8 10), (14, .int IntKind.u8 112), (15, .int IntKind.u8 0), (16, .int IntKind.u8 152), (17, .int IntKind.u8 232), (18, .int IntKind.u8 121), (19, .int IntKind.u8 119), (20, .int IntKind.u8 121), (21, .int IntKind.u8 64), (22, .int IntKind.u8 199), (23, .int IntKind.u8 140), (24, .int IntKind.u8 115), (25, .int IntKind.u8 254), (26, .int IntKind.u8 111), (27, .int IntKind.u8 43), (28, .int IntKind.u8 238), (29, .int IntKind.u8 108), (30, .int IntKind.u8 3), (31, .int IntKind.u8 82)] (by kernel_rfl) _ (by kernel_rfl) w)) (Rg.ac (sC 0 48 (fun _ => #[A (vals .u8 32 (cb [163, 120, 89, 19, 202, 77, 235, 117, 171, 216, 65, 65, 77, 10, 112, 0, 152, 232, 121, 119, 121, 64, 199, 140, 115, 254, 111, 43, 238, 108, 3, 82]))]) (fun _ => A (arr 4 (limb d7N))) (fun _ => (load_k _ d7N (cb_lt _ (by decide +kernel)) (by decide +kernel)))) (Rg.ac (sr 1 0 (fun _ => arr 4 (limb d7N)) (fun _ => ft (fit_fe _))) Rg.an))) ?_
  intro ν w2 hO
  simp only [OI, Sq, Sg, se, id, qC, qD, qE, qF, qG, Rg.putL, Act.put] at hO ⊢
  clear ν
  go_wp2_with fail
  refine bodyPost_ret (v := .agg (arr 4 (limb d7N))) (results_cell_row Tryz.results56 _ _ n0 47 _ (0, 0) _ rfl (hO.row 0 rfl) Tryz.underlying47 rfl (fit_fe _).size) rfl ⟨rfl, hO.low⟩
set_option maxHeartbeats 4000000 in
theorem pointAt_c (x y : Nat) (hy : y < pP) (w : World) : Ret 58 #[.agg (arr 4 (limb x)), .agg (arr 4 (limb y))] w (.agg (ps [x, sm y 1])) := by
  go_enter Tryz.func58, Tryz.ntmps58
  have hO := Wn.start w
  go_upto_region 0 with (fail)
  refine Rg.ps [0, 1, 2] (fun ν => [(2, D (ν 0)), (3, D (ν 1)), (4, D (ν 2))]) (OI w (Sq _ (fun ν => [ap ((ν 0), arr 4 (limb x), 47), ap ((ν 1), arr 4 (limb y), 47), ap ((ν 2), ps [0, 0], 49)]))) (fun _ => 0) hO (Rg.ac (sn 0 (fun _ => arr 4 (limb x)) 47 (fun _ w => run_box 47 _ rfl _ (by kernel_rfl) w) (fun _ => ft (fit_fe _))) (Rg.ac (sn 1 (fun _ => arr 4 (limb y)) 47 (fun _ w => run_box 47 _ rfl _ (by kernel_rfl) w) (fun _ => ft (fit_fe _))) (Rg.ac (sn 2 (fun _ => ps [0, 0]) 49 (fun _ w => al29 rfl w) (fun _ => ft (fit_pt _ _))) Rg.an))) ?_
  intro ν w1 hO
  simp only [OI, Sq, Sg, ap, qA, qB, qC, qD, qE, qF, qG, Rg.putL, Act.put] at hO ⊢
  generalize ν 0 = n2 at hO ⊢
  generalize ν 1 = n3 at hO ⊢
  generalize ν 2 = n4 at hO ⊢
  clear ν
  go_upto_region 1 with (fail)
  refine Rg.pd [2, 3, 5] (fun _ => [(5, A (arr 4 (limb x))), (6, A (arr 4 (limb y))), (7, A (arr 4 (limb 1))), (8, A (arr 4 (limb (sm y 1)))), (9, A (ps [x, sm y 1]))]) (OI w (Sq _ (fun _ => [id, id, se 2 (n4, ps [x, sm y 1], 49)]))) (fun _ => 0) hO.drew (Rg.ac (nld 0 2 0 (fun _ => n2) (fun _ => arr 4 (limb x)) (t2 0 2 (t2 1 2 (t1 2))) Tryz.underlying47) (Rg.ac (nld 0 1 1 (fun _ => n3) (fun _ => arr 4 (limb y)) (t2 0 1 (t1 1)) Tryz.underlying47) (Rg.ac (sC 0 53 _ _ (fun _ => one_c)) (Rg.ac (sC 1 52 _ _ (fun _ => sub_c y 1 hy (of_lt (by omega)))) (Rg.ac (nx (fun _ => A (ps [x, sm y 1])) (fun _ w => run_bd 49 _ rfl [(0, A (arr 4 (limb x))), (1, A (arr 4 (limb (sm y 1))))] (by kernel_rfl) _ (bd_pt _ _) w)) (Rg.ac (sr 2 2 (fun _ => ps [x, sm y 1]) (fun _ => ft (fit_pt _ _))) Rg.an)))))) ?_
  intro ν w2 hO
  simp only [OI, Sq, Sg, se, id, qC, qD, qE, qF, qG, Rg.putL, Act.put] at hO ⊢
  clear ν
  go_wp2_with fail
  refine bodyPost_ret (v := .agg (ps [x, sm y 1])) (results_cell_row Tryz.results58 _ _ n4 49 _ (0, 0) _ rfl (hO.row 2 rfl) Tryz.underlying49 rfl (fit_pt _ _).size) rfl ⟨rfl, hO.low⟩
set_option maxHeartbeats 4000000 in
theorem base_c (w : World) : Ret 26 #[] w (.agg (ps [x7N, sm yN 1])) := by
  go_enter Tryz.func26, Tryz.ntmps26
  have hO := Wn.start w
  go_upto_region 0 with (fail)
  refine Rg.ps [0] (fun ν => [(0, D (ν 0))]) (OI w (Sq _ (fun ν => [ap ((ν 0), ps [0, 0], 49)]))) (fun _ => 0) hO (Rg.ac (sn 0 (fun _ => ps [0, 0]) 49 (fun _ w => al29 rfl w) (fun _ => ft (fit_pt _ _))) Rg.an) ?_
  intro ν w1 hO
  simp only [OI, Sq, Sg, ap, qB, qD, qE, qF, qG, Rg.putL, Act.put] at hO ⊢
  generalize ν 0 = n0 at hO ⊢
  clear ν
  go_upto_region 1 with (fail)
  refine Rg.ps [1, 2, 3] (fun ν => [(3, A (vals .u8 32 (cb [26, 213, 37, 143, 96, 45, 86, 201, 178, 167, 37, 149, 96, 199, 44, 105, 92, 220, 214, 253, 49, 226, 164, 192, 254, 83, 110, 205, 211, 54, 105, 33]))), (4, A (arr 4 (limb x7N))), (1, D (ν 2))]) (OI w (Sq _ (fun ν => [id, ap ((ν 2), arr 4 (limb 0), 47), se 1 ((ν 2), arr 4 (limb x7N), 47)]))) (fun _ => 0) hO (Rg.ac (nx (fun _ => A (vals .u8 32 (cb [26, 213, 37, 143, 96, 45, 86, 201, 178, 167, 37, 149, 96, 199, 44, 105, 92, 220, 214, 253, 49, 226, 164, 192, 254, 83, 110, 205, 211, 54, 105, 33]))) (fun _ w => run_bd 22 _ rfl [(0, .int IntKind.u8 26), (1, .int IntKind.u8 213), (2, .int IntKind.u8 37), (3, .int IntKind.u8 143), (4, .int IntKind.u8 96), (5, .int IntKind.u8 45), (6, .int IntKind.u8 86), (7, .int IntKind.u8 201), (8, .int IntKind.u8 178), (9, .int IntKind.u8 167), (10, .int IntKind.u8 37), (11, .int IntKind.u8 149), (12, .int IntKind.u8 96), (13, .int IntKind.u8 199), (14, .int IntKind.u8 44), (15, .int IntKind.u8 105), (16, .int IntKind.u8 92), (17, .int IntKind.u8 220), (18, .int IntKind.u8 214), (19, .int IntKind.u8 253), (20, .int IntKind.u8 49), (21, .int IntKind.u8 226), (22, .int IntKind.u8 164), (23, .int IntKind.u8 192), (24, .int IntKind.u8 254), (25, .int IntKind.u8 83), (26, .int IntKind.u8 110), (27, .int IntKind.u8 205), (28, .int IntKind.u8 211), (29, .int IntKind.u8 54), (30, .int IntKind.u8 105), (31, .int IntKind.u8 33)] (by kernel_rfl) _ (by kernel_rfl) w)) (Rg.ac (sC 0 48 (fun _ => #[A (vals .u8 32 (cb [26, 213, 37, 143, 96, 45, 86, 201, 178, 167, 37, 149, 96, 199, 44, 105, 92, 220, 214, 253, 49, 226, 164, 192, 254, 83, 110, 205, 211, 54, 105, 33]))]) (fun _ => A (arr 4 (limb x7N))) (fun _ => (load_k _ x7N (cb_lt _ (by decide +kernel)) (by decide +kernel)))) (Rg.ac (sn 1 (fun _ => arr 4 (limb 0)) 47 (fun _ w => al27 rfl w) (fun _ => ft (fit_fe _))) (Rg.ac (sr 2 1 (fun _ => arr 4 (limb x7N)) (fun _ => ft (fit_fe _))) Rg.an)))) ?_
  intro ν w2 hO
  simp only [OI, Sq, Sg, ap, se, id, qA, qB, qC, qD, qE, qF, qG, Rg.putL, Act.put] at hO ⊢
  generalize ν 2 = n1 at hO ⊢
  clear ν
  go_upto_region 2 with (fail)
  refine Rg.ps [1, 2, 3] (fun ν => [(5, A (vals .u8 32 (cb [88, 102, 102, 102, 102, 102, 102, 102, 102, 102, 102, 102, 102, 102, 102, 102, 102, 102, 102, 102, 102, 102, 102, 102, 102, 102, 102, 102, 102, 102, 102, 102]))), (6, A (arr 4 (limb yN))), (2, D (ν 2))]) (OI w (Sq _ (fun ν => [id, ap ((ν 2), arr 4 (limb 0), 47), se 2 ((ν 2), arr 4 (limb yN), 47)]))) (fun _ => 0) hO (Rg.ac (nx (fun _ => A (vals .u8 32 (cb [88, 102, 102, 102, 102, 102, 102, 102, 102, 102, 102, 102, 102, 102, 102, 102, 102, 102, 102, 102, 102, 102, 102, 102, 102, 102, 102, 102, 102, 102, 102, 102]))) (fun _ w => run_bd 22 _ rfl [(0, .int IntKind.u8 88), (1, .int IntKind.u8 102), (2, .int IntKind.u8 102), (3, .int IntKind.u8 102), (4, .int IntKind.u8 102), (5, .int IntKind.u8 102), (6, .int IntKind.u8 102), (7, .int IntKind.u8 102), (8, .int IntKind.u8 102), (9, .int IntKind.u8 102), (10, .int IntKind.u8 102), (11, .int IntKind.u8 102), (12, .int IntKind.u8 102), (13, .int IntKind.u8 102), (14, .int IntKind.u8 102), (15, .int IntKind.u8 102), (16, .int IntKind.u8 102), (17, .int IntKind.u8 102), (18, .int IntKind.u8 102), (19, .int IntKind.u8 102), (20, .int IntKind.u8 102), (21, .int IntKind.u8 102), (22, .int IntKind.u8 102), (23, .int IntKind.u8 102), (24, .int IntKind.u8 102), (25, .int IntKind.u8 102), (26, .int IntKind.u8 102), (27, .int IntKind.u8 102), (28, .int IntKind.u8 102), (29, .int IntKind.u8 102), (30, .int IntKind.u8 102), (31, .int IntKind.u8 102)] (by kernel_rfl) _ (by kernel_rfl) w)) (Rg.ac (sC 0 48 (fun _ => #[A (vals .u8 32 (cb [88, 102, 102, 102, 102, 102, 102, 102, 102, 102, 102, 102, 102, 102, 102, 102, 102, 102, 102, 102, 102, 102, 102, 102, 102, 102, 102, 102, 102, 102, 102, 102]))]) (fun _ => A (arr 4 (limb yN))) (fun _ => (load_k _ yN (cb_lt _ (by decide +kernel)) (by decide +kernel)))) (Rg.ac (sn 1 (fun _ => arr 4 (limb 0)) 47 (fun _ w => al27 rfl w) (fun _ => ft (fit_fe _))) (Rg.ac (sr 2 2 (fun _ => arr 4 (limb yN)) (fun _ => ft (fit_fe _))) Rg.an)))) ?_
  intro ν w3 hO
  simp only [OI, Sq, Sg, ap, se, id, qA, qB, qC, qD, qE, qF, qG, Rg.putL, Act.put] at hO ⊢
  generalize ν 2 = n2 at hO ⊢
  clear ν
  go_upto_region 3 with (fail)
  refine Rg.ps [2, 3] (fun _ => [(7, A (arr 4 (limb x7N))), (8, A (arr 4 (limb yN))), (9, A (ps [x7N, sm yN 1]))]) (OI w (Sq _ (fun _ => [id, se 0 (n0, ps [x7N, sm yN 1], 49)]))) (fun _ => 0) hO (Rg.ac (nld 0 0 1 (fun _ => n1) (fun _ => arr 4 (limb x7N)) (t1 0) Tryz.underlying47) (Rg.ac (nld 0 0 2 (fun _ => n2) (fun _ => arr 4 (limb yN)) (t1 0) Tryz.underlying47) (Rg.ac (sC 0 58 _ _ (fun _ => pointAt_c x7N yN ok_base.y)) (Rg.ac (sr 1 0 (fun _ => ps [x7N, sm yN 1]) (fun _ => ft (fit_pt _ _))) Rg.an)))) ?_
  intro ν w4 hO
  simp only [OI, Sq, Sg, se, id, qC, qD, qE, qF, qG, Rg.putL, Act.put] at hO ⊢
  clear ν
  go_wp2_with fail
  refine bodyPost_ret (v := .agg (ps [x7N, sm yN 1])) (results_cell_row Tryz.results26 _ _ n0 49 _ (0, 0) _ rfl (hO.row 0 rfl) Tryz.underlying49 rfl (fit_pt _ _).size) rfl ⟨rfl, hO.low⟩
set_option maxHeartbeats 4000000 in
theorem places_c (x y : Nat) (hy : y < pP) (w : World) : Ret 80 #[.agg (ps [x, y])] w (.tuple #[.agg (arr 4 (limb x)), .agg (arr 4 (limb (am y 1)))]) := by
  go_enter Tryz.func80, Tryz.ntmps80
  have hO := Wn.start w
  go_upto_region 0 with (fail)
  refine Rg.ps [0, 1, 2] (fun ν => [(1, D (ν 0)), (2, D (ν 1)), (3, D (ν 2))]) (OI w (Sq _ (fun ν => [ap ((ν 0), ps [x, y], 49), ap ((ν 1), arr 4 (limb 0), 47), ap ((ν 2), arr 4 (limb 0), 47)]))) (fun _ => 0) hO (Rg.ac (sn 0 (fun _ => ps [x, y]) 49 (fun _ w => run_box 49 _ rfl _ (by kernel_rfl) w) (fun _ => ft (fit_pt _ _))) (Rg.ac (sn 1 (fun _ => arr 4 (limb 0)) 47 (fun _ w => al27 rfl w) (fun _ => ft (fit_fe _))) (Rg.ac (sn 2 (fun _ => arr 4 (limb 0)) 47 (fun _ w => al27 rfl w) (fun _ => ft (fit_fe _))) Rg.an))) ?_
  intro ν w1 hO
  simp only [OI, Sq, Sg, ap, qA, qB, qC, qD, qE, qF, qG, Rg.putL, Act.put] at hO ⊢
  generalize ν 0 = n1 at hO ⊢
  generalize ν 1 = n2 at hO ⊢
  generalize ν 2 = n3 at hO ⊢
  clear ν
  go_upto_region 1 with (fail)
  refine Rg.pd [4, 5, 6, 7] (fun _ => [(4, E n1 0), (5, A (arr 4 (limb x))), (6, E n1 4), (7, A (arr 4 (limb y))), (8, A (arr 4 (limb 1))), (9, A (arr 4 (limb (am y 1))))]) (OI w (Sq _ (fun _ => [id, id, se 1 (n2, arr 4 (limb x), 47), se 2 (n3, arr 4 (limb (am y 1)), 47)]))) (fun _ => 0) hO.drew (Rg.ac nV (Rg.ac (npt 0 2 0 0 (fun _ => n1) 49 (fun _ => part_pt0 x y) (t2 0 2 (t2 1 2 (t1 2))) Tryz.underlying47) (Rg.ac nV (Rg.ac (npt 0 1 0 4 (fun _ => n1) 49 (fun _ => part_pt1 x y) (t2 0 1 (t1 1)) Tryz.underlying47) (Rg.ac (sC 0 53 _ _ (fun _ => one_c)) (Rg.ac (sC 1 54 _ _ (fun _ => add_c y 1 hy (of_lt (by omega)))) (Rg.ac (sr 2 1 (fun _ => arr 4 (limb x)) (fun _ => ft (fit_fe _))) (Rg.ac (sr 3 2 (fun _ => arr 4 (limb (am y 1))) (fun _ => ft (fit_fe _))) Rg.an)))))))) ?_
  intro ν w2 hO
  simp only [OI, Sq, Sg, se, id, qC, qD, qE, qF, qG, Rg.putL, Act.put] at hO ⊢
  clear ν
  go_wp2_with fail
  refine bodyPost_ret (v := .tuple #[.agg (arr 4 (limb x)), .agg (arr 4 (limb (am y 1)))]) (results_two Tryz.results80 _ _ n2 n3 47 47 _ _ (0, 0) (0, 0) _ _ rfl (hO.row 1 rfl) Tryz.underlying47 rfl (fit_fe _).size rfl (hO.row 2 rfl) Tryz.underlying47 rfl (fit_fe _).size) rfl ⟨rfl, hO.low⟩
set_option maxHeartbeats 4000000 in
theorem neg7_c (x y : Nat) (hx : x < pP) (w : World) : Ret 27 #[.agg (ps [x, y])] w (.agg (ps [ng x, y])) := by
  go_enter Tryz.func27, Tryz.ntmps27
  have hO := Wn.start w
  go_upto_region 0 with (fail)
  refine Rg.ps [0, 1] (fun ν => [(1, D (ν 0)), (2, D (ν 1))]) (OI w (Sq _ (fun ν => [ap ((ν 0), ps [x, y], 49), ap ((ν 1), ps [0, 0], 49)]))) (fun _ => 0) hO (Rg.ac (sn 0 (fun _ => ps [x, y]) 49 (fun _ w => run_box 49 _ rfl _ (by kernel_rfl) w) (fun _ => ft (fit_pt _ _))) (Rg.ac (sn 1 (fun _ => ps [0, 0]) 49 (fun _ w => al29 rfl w) (fun _ => ft (fit_pt _ _))) Rg.an)) ?_
  intro ν w1 hO
  simp only [OI, Sq, Sg, ap, qA, qB, qC, qD, qE, qF, qG, Rg.putL, Act.put] at hO ⊢
  generalize ν 0 = n1 at hO ⊢
  generalize ν 1 = n2 at hO ⊢
  clear ν
  go_upto_region 1 with (fail)
  refine Rg.pd [2, 6] (fun _ => [(3, E n1 0), (4, A (arr 4 (limb x))), (5, A (arr 4 (limb (ng x)))), (6, E n1 4), (7, A (arr 4 (limb y))), (8, A (ps [ng x, y]))]) (OI w (Sq _ (fun _ => [id, se 1 (n2, ps [ng x, y], 49)]))) (fun _ => 0) hO.drew (Rg.ac nV (Rg.ac (npt 0 0 0 0 (fun _ => n1) 49 (fun _ => part_pt0 x y) (t1 0) Tryz.underlying47) (Rg.ac (sC 0 60 _ _ (fun _ => neg_c x hx)) (Rg.ac nV (Rg.ac (npt 0 1 0 4 (fun _ => n1) 49 (fun _ => part_pt1 x y) (t2 0 1 (t1 1)) Tryz.underlying47) (Rg.ac (nx (fun _ => A (ps [ng x, y])) (fun _ w => run_bd 49 _ rfl [(0, A (arr 4 (limb (ng x)))), (1, A (arr 4 (limb y)))] (by kernel_rfl) _ (bd_pt _ _) w)) (Rg.ac (sr 1 1 (fun _ => ps [ng x, y]) (fun _ => ft (fit_pt _ _))) Rg.an))))))) ?_
  intro ν w2 hO
  simp only [OI, Sq, Sg, se, id, qC, qD, qE, qF, qG, Rg.putL, Act.put] at hO ⊢
  clear ν
  go_wp2_with fail
  refine bodyPost_ret (v := .agg (ps [ng x, y])) (results_cell_row Tryz.results27 _ _ n2 49 _ (0, 0) _ rfl (hO.row 1 rfl) Tryz.underlying49 rfl (fit_pt _ _).size) rfl ⟨rfl, hO.low⟩
set_option maxHeartbeats 4000000 in
theorem sides_c (x y z : Nat) (hx : x < pP) (hy : y < pP) (w : World) : Ret 105 #[.agg (ps [x, y, z])] w (.tuple #[.agg (arr 4 (limb (am y x))), .agg (arr 4 (limb (sm y x)))]) := by
  go_enter Tryz.func105, Tryz.ntmps105
  have hO := Wn.start w
  go_upto_region 0 with (fail)
  refine Rg.ps [0, 1, 2] (fun ν => [(1, D (ν 0)), (2, D (ν 1)), (3, D (ν 2))]) (OI w (Sq _ (fun ν => [ap ((ν 0), ps [x, y, z], 141), ap ((ν 1), arr 4 (limb 0), 47), ap ((ν 2), arr 4 (limb 0), 47)]))) (fun _ => 0) hO (Rg.ac (sn 0 (fun _ => ps [x, y, z]) 141 (fun _ w => run_box 141 _ rfl _ (by kernel_rfl) w) (fun _ => ft (fit_co _ _ _))) (Rg.ac (sn 1 (fun _ => arr 4 (limb 0)) 47 (fun _ w => al27 rfl w) (fun _ => ft (fit_fe _))) (Rg.ac (sn 2 (fun _ => arr 4 (limb 0)) 47 (fun _ w => al27 rfl w) (fun _ => ft (fit_fe _))) Rg.an))) ?_
  intro ν w1 hO
  simp only [OI, Sq, Sg, ap, qA, qB, qC, qD, qE, qF, qG, Rg.putL, Act.put] at hO ⊢
  generalize ν 0 = n1 at hO ⊢
  generalize ν 1 = n2 at hO ⊢
  generalize ν 2 = n3 at hO ⊢
  clear ν
  go_upto_region 1 with (fail)
  refine Rg.pd [4, 9, 10, 11] (fun _ => [(4, E n1 4), (5, A (arr 4 (limb y))), (6, E n1 0), (7, A (arr 4 (limb x))), (8, A (arr 4 (limb (am y x)))), (9, E n1 4), (10, A (arr 4 (limb y))), (11, E n1 0), (12, A (arr 4 (limb x))), (13, A (arr 4 (limb (sm y x))))]) (OI w (Sq _ (fun _ => [id, id, se 1 (n2, arr 4 (limb (am y x)), 47), se 2 (n3, arr 4 (limb (sm y x)), 47)]))) (fun _ => 0) hO.drew (Rg.ac nV (Rg.ac (npt 0 0 0 4 (fun _ => n1) 141 (fun _ => part_co1 x y z) (t1 0) Tryz.underlying47) (Rg.ac nV (Rg.ac (npt 0 0 0 0 (fun _ => n1) 141 (fun _ => part_co0 x y z) (t1 0) Tryz.underlying47) (Rg.ac (sC 0 54 _ _ (fun _ => add_c y x hy hx)) (Rg.ac nV (Rg.ac (npt 0 1 0 4 (fun _ => n1) 141 (fun _ => part_co1 x y z) (t2 0 1 (t1 1)) Tryz.underlying47) (Rg.ac nV (Rg.ac (npt 0 1 0 0 (fun _ => n1) 141 (fun _ => part_co0 x y z) (t2 0 1 (t1 1)) Tryz.underlying47) (Rg.ac (sC 1 52 _ _ (fun _ => sub_c y x hy hx)) (Rg.ac (sr 2 1 (fun _ => arr 4 (limb (am y x))) (fun _ => ft (fit_fe _))) (Rg.ac (sr 3 2 (fun _ => arr 4 (limb (sm y x))) (fun _ => ft (fit_fe _))) Rg.an)))))))))))) ?_
  intro ν w2 hO
  simp only [OI, Sq, Sg, se, id, qC, qD, qE, qF, qG, Rg.putL, Act.put] at hO ⊢
  clear ν
  go_wp2_with fail
  refine bodyPost_ret (v := .tuple #[.agg (arr 4 (limb (am y x))), .agg (arr 4 (limb (sm y x)))]) (results_two Tryz.results105 _ _ n2 n3 47 47 _ _ (0, 0) (0, 0) _ _ rfl (hO.row 1 rfl) Tryz.underlying47 rfl (fit_fe _).size rfl (hO.row 2 rfl) Tryz.underlying47 rfl (fit_fe _).size) rfl ⟨rfl, hO.low⟩
set_option maxHeartbeats 4000000 in
theorem joined_c (e f g h : Nat) (he : e < pP) (hf : f < pP) (hg : g < pP) (hh : h < pP) (w : World) : Ret 116 #[.agg (arr 4 (limb e)), .agg (arr 4 (limb f)), .agg (arr 4 (limb g)), .agg (arr 4 (limb h))] w (.agg (ps [mm e f, mm g h, mm f g, mm e h])) := by
  go_enter Tryz.func116, Tryz.ntmps116
  have hO := Wn.start w
  go_upto_region 0 with (fail)
  refine Rg.ps [0, 1, 2, 3, 4] (fun ν => [(4, D (ν 0)), (5, D (ν 1)), (6, D (ν 2)), (7, D (ν 3)), (8, D (ν 4))]) (OI w (Sq _ (fun ν => [ap ((ν 0), arr 4 (limb e), 47), ap ((ν 1), arr 4 (limb f), 47), ap ((ν 2), arr 4 (limb g), 47), ap ((ν 3), arr 4 (limb h), 47), ap ((ν 4), ps [0, 0, 0, 0], 143)]))) (fun _ => 0) hO (Rg.ac (sn 0 (fun _ => arr 4 (limb e)) 47 (fun _ w => run_box 47 _ rfl _ (by kernel_rfl) w) (fun _ => ft (fit_fe _))) (Rg.ac (sn 1 (fun _ => arr 4 (limb f)) 47 (fun _ w => run_box 47 _ rfl _ (by kernel_rfl) w) (fun _ => ft (fit_fe _))) (Rg.ac (sn 2 (fun _ => arr 4 (limb g)) 47 (fun _ w => run_box 47 _ rfl _ (by kernel_rfl) w) (fun _ => ft (fit_fe _))) (Rg.ac (sn 3 (fun _ => arr 4 (limb h)) 47 (fun _ w => run_box 47 _ rfl _ (by kernel_rfl) w) (fun _ => ft (fit_fe _))) (Rg.ac (sn 4 (fun _ => ps [0, 0, 0, 0]) 143 (fun _ w => al83 rfl w) (fun _ => ft (fit_ru _ _ _ _))) Rg.an))))) ?_
  intro ν w1 hO
  simp only [OI, Sq, Sg, ap, qA, qB, qC, qD, qE, qF, qG, Rg.putL, Act.put] at hO ⊢
  generalize ν 0 = n4 at hO ⊢
  generalize ν 1 = n5 at hO ⊢
  generalize ν 2 = n6 at hO ⊢
  generalize ν 3 = n7 at hO ⊢
  generalize ν 4 = n8 at hO ⊢
  clear ν
  go_upto_region 1 with (fail)
  refine Rg.pd [2, 5, 8, 12, 14] (fun _ => [(9, A (arr 4 (limb e))), (10, A (arr 4 (limb f))), (11, A (arr 4 (limb (mm e f)))), (12, A (arr 4 (limb g))), (13, A (arr 4 (limb h))), (14, A (arr 4 (limb (mm g h)))), (15, A (arr 4 (limb f))), (16, A (arr 4 (limb g))), (17, A (arr 4 (limb (mm f g)))), (18, A (ps [mm e f, mm g h, mm f g])), (19, A (arr 4 (limb e))), (20, A (arr 4 (limb h))), (21, A (arr 4 (limb (mm e h)))), (22, A (ps [mm e f, mm g h, mm f g, mm e h]))]) (OI w (Sq _ (fun _ => [id, id, id, id, se 4 (n8, ps [mm e f, mm g h, mm f g, mm e h], 143)]))) (fun _ => 0) hO.drew (Rg.ac (nld 0 0 0 (fun _ => n4) (fun _ => arr 4 (limb e)) (t1 0) Tryz.underlying47) (Rg.ac (nld 0 0 1 (fun _ => n5) (fun _ => arr 4 (limb f)) (t1 0) Tryz.underlying47) (Rg.ac (sC 0 55 _ _ (fun _ => mul_c e f he hf)) (Rg.ac (nld 0 1 2 (fun _ => n6) (fun _ => arr 4 (limb g)) (t2 0 1 (t1 1)) Tryz.underlying47) (Rg.ac (nld 0 1 3 (fun _ => n7) (fun _ => arr 4 (limb h)) (t2 0 1 (t1 1)) Tryz.underlying47) (Rg.ac (sC 1 55 _ _ (fun _ => mul_c g h hg hh)) (Rg.ac (nld 0 2 1 (fun _ => n5) (fun _ => arr 4 (limb f)) (t2 0 2 (t2 1 2 (t1 2))) Tryz.underlying47) (Rg.ac (nld 0 2 2 (fun _ => n6) (fun _ => arr 4 (limb g)) (t2 0 2 (t2 1 2 (t1 2))) Tryz.underlying47) (Rg.ac (sC 2 55 _ _ (fun _ => mul_c f g hf hg)) (Rg.ac (nx (fun _ => A (ps [mm e f, mm g h, mm f g])) (fun _ w => run_bd 141 _ rfl [(0, A (arr 4 (limb (mm e f)))), (1, A (arr 4 (limb (mm g h)))), (2, A (arr 4 (limb (mm f g))))] (by kernel_rfl) _ (bd_co _ _ _) w)) (Rg.ac (nld 0 3 0 (fun _ => n4) (fun _ => arr 4 (limb e)) (t2 0 3 (t2 1 3 (t2 2 3 (t1 3)))) Tryz.underlying47) (Rg.ac (nld 0 3 3 (fun _ => n7) (fun _ => arr 4 (limb h)) (t2 0 3 (t2 1 3 (t2 2 3 (t1 3)))) Tryz.underlying47) (Rg.ac (sC 3 55 _ _ (fun _ => mul_c e h he hh)) (Rg.ac (nx (fun _ => A (ps [mm e f, mm g h, mm f g, mm e h])) (fun _ w => run_bd 143 _ rfl [(0, A (ps [mm e f, mm g h, mm f g])), (1, A (arr 4 (limb (mm e h))))] (by kernel_rfl) _ (bd_ru _ _ _ _) w)) (Rg.ac (sr 4 4 (fun _ => ps [mm e f, mm g h, mm f g, mm e h]) (fun _ => ft (fit_ru _ _ _ _))) Rg.an))))))))))))))) ?_
  intro ν w2 hO
  simp only [OI, Sq, Sg, se, id, qC, qD, qE, qF, qG, Rg.putL, Act.put] at hO ⊢
  clear ν
  go_wp2_with fail
  refine bodyPost_ret (v := .agg (ps [mm e f, mm g h, mm f g, mm e h])) (results_cell_row Tryz.results116 _ _ n8 143 _ (0, 0) _ rfl (hO.row 4 rfl) Tryz.underlying143 rfl (fit_ru _ _ _ _).size) rfl ⟨rfl, hO.low⟩
set_option maxHeartbeats 4000000 in
theorem reckoned_c (x y : Nat) (hx : x < pP) (hy : y < pP) (w : World) : Ret 100 #[.agg (ps [x, y])] w (.agg (ps [x, am y 1, 1, mm x (am y 1)])) := by
  go_enter Tryz.func100, Tryz.ntmps100
  have hO := Wn.start w
  go_upto_region 0 with (fail)
  refine Rg.ps [0, 1] (fun ν => [(1, D (ν 0)), (2, D (ν 1))]) (OI w (Sq _ (fun ν => [ap ((ν 0), ps [x, y], 49), ap ((ν 1), ps [0, 0, 0, 0], 143)]))) (fun _ => 0) hO (Rg.ac (sn 0 (fun _ => ps [x, y]) 49 (fun _ w => run_box 49 _ rfl _ (by kernel_rfl) w) (fun _ => ft (fit_pt _ _))) (Rg.ac (sn 1 (fun _ => ps [0, 0, 0, 0]) 143 (fun _ w => al83 rfl w) (fun _ => ft (fit_ru _ _ _ _))) Rg.an)) ?_
  intro ν w1 hO
  simp only [OI, Sq, Sg, ap, qA, qB, qC, qD, qE, qF, qG, Rg.putL, Act.put] at hO ⊢
  generalize ν 0 = n1 at hO ⊢
  generalize ν 1 = n2 at hO ⊢
  clear ν
  go_upto_region 1 with (fail)
  refine Rg.ps [1, 5, 6, 7, 8] (fun ν => [(6, A (ps [x, y])), (7, .tuple #[A (arr 4 (limb x)), A (arr 4 (limb (am y 1)))]), (5, .tuple #[A (arr 4 (limb x)), A (arr 4 (limb (am y 1)))]), (8, A (arr 4 (limb x))), (9, A (arr 4 (limb (am y 1)))), (3, D (ν 5)), (4, D (ν 6))]) (OI w (Sq _ (fun ν => [id, ap ((ν 5), arr 4 (limb 0), 47), ap ((ν 6), arr 4 (limb 0), 47), se 2 ((ν 5), arr 4 (limb x), 47), se 3 ((ν 6), arr 4 (limb (am y 1)), 47)]))) (fun _ => 0) hO (Rg.ac (nld 0 0 0 (fun _ => n1) (fun _ => ps [x, y]) (t1 0) Tryz.underlying49) (Rg.ac (sC 0 80 _ _ (fun _ => places_c x y hy)) (Rg.ac nV (Rg.ac nV (Rg.ac nV (Rg.ac (sn 1 (fun _ => arr 4 (limb 0)) 47 (fun _ w => al27 rfl w) (fun _ => ft (fit_fe _))) (Rg.ac (sn 2 (fun _ => arr 4 (limb 0)) 47 (fun _ w => al27 rfl w) (fun _ => ft (fit_fe _))) (Rg.ac (sr 3 2 (fun _ => arr 4 (limb x)) (fun _ => ft (fit_fe _))) (Rg.ac (sr 4 3 (fun _ => arr 4 (limb (am y 1))) (fun _ => ft (fit_fe _))) Rg.an))))))))) ?_
  intro ν w2 hO
  simp only [OI, Sq, Sg, ap, se, id, qA, qB, qC, qD, qE, qF, qG, Rg.putL, Act.put] at hO ⊢
  generalize ν 5 = n3 at hO ⊢
  generalize ν 6 = n4 at hO ⊢
  clear ν
  go_upto_region 2 with (fail)
  refine Rg.pd [2, 6, 8] (fun _ => [(10, A (arr 4 (limb x))), (11, A (arr 4 (limb (am y 1)))), (12, A (arr 4 (limb 1))), (13, A (ps [x, am y 1, 1])), (14, A (arr 4 (limb x))), (15, A (arr 4 (limb (am y 1)))), (16, A (arr 4 (limb (mm x (am y 1))))), (17, A (ps [x, am y 1, 1, mm x (am y 1)]))]) (OI w (Sq _ (fun _ => [id, id, se 1 (n2, ps [x, am y 1, 1, mm x (am y 1)], 143)]))) (fun _ => 0) hO.drew (Rg.ac (nld 0 2 2 (fun _ => n3) (fun _ => arr 4 (limb x)) (t2 0 2 (t2 1 2 (t1 2))) Tryz.underlying47) (Rg.ac (nld 0 2 3 (fun _ => n4) (fun _ => arr 4 (limb (am y 1))) (t2 0 2 (t2 1 2 (t1 2))) Tryz.underlying47) (Rg.ac (sC 0 53 _ _ (fun _ => one_c)) (Rg.ac (nx (fun _ => A (ps [x, am y 1, 1])) (fun _ w => run_bd 141 _ rfl [(0, A (arr 4 (limb x))), (1, A (arr 4 (limb (am y 1)))), (2, A (arr 4 (limb 1)))] (by kernel_rfl) _ (bd_co _ _ _) w)) (Rg.ac (nld 0 1 2 (fun _ => n3) (fun _ => arr 4 (limb x)) (t2 0 1 (t1 1)) Tryz.underlying47) (Rg.ac (nld 0 1 3 (fun _ => n4) (fun _ => arr 4 (limb (am y 1))) (t2 0 1 (t1 1)) Tryz.underlying47) (Rg.ac (sC 1 55 _ _ (fun _ => mul_c x (am y 1) hx (am_lt _ _))) (Rg.ac (nx (fun _ => A (ps [x, am y 1, 1, mm x (am y 1)])) (fun _ w => run_bd 143 _ rfl [(0, A (ps [x, am y 1, 1])), (1, A (arr 4 (limb (mm x (am y 1)))))] (by kernel_rfl) _ (bd_ru _ _ _ _) w)) (Rg.ac (sr 2 1 (fun _ => ps [x, am y 1, 1, mm x (am y 1)]) (fun _ => ft (fit_ru _ _ _ _))) Rg.an))))))))) ?_
  intro ν w3 hO
  simp only [OI, Sq, Sg, se, id, qC, qD, qE, qF, qG, Rg.putL, Act.put] at hO ⊢
  clear ν
  go_wp2_with fail
  refine bodyPost_ret (v := .agg (ps [x, am y 1, 1, mm x (am y 1)])) (results_cell_row Tryz.results100 _ _ n2 143 _ (0, 0) _ rfl (hO.row 1 rfl) Tryz.underlying143 rfl (fit_ru _ _ _ _).size) rfl ⟨rfl, hO.low⟩
set_option maxHeartbeats 4000000 in
theorem addendOf_c (x y : Nat) (hx : x < pP) (hy : y < pP) (w : World) : Ret 63 #[.agg (ps [x, y])] w (.agg (ps [am (am y 1) x, sm (am y 1) x, mm dd7 (mm x (am y 1))])) := by
  go_enter Tryz.func63, Tryz.ntmps63
  have hO := Wn.start w
  go_upto_region 0 with (fail)
  refine Rg.ps [0, 1] (fun ν => [(1, D (ν 0)), (2, D (ν 1))]) (OI w (Sq _ (fun ν => [ap ((ν 0), ps [x, y], 49), ap ((ν 1), ps [0, 0, 0], 97)]))) (fun _ => 0) hO (Rg.ac (sn 0 (fun _ => ps [x, y]) 49 (fun _ w => run_box 49 _ rfl _ (by kernel_rfl) w) (fun _ => ft (fit_pt _ _))) (Rg.ac (sn 1 (fun _ => ps [0, 0, 0]) 97 (fun _ w => al87 rfl w) (fun _ => ft (fit_ad _ _ _))) Rg.an)) ?_
  intro ν w1 hO
  simp only [OI, Sq, Sg, ap, qA, qB, qC, qD, qE, qF, qG, Rg.putL, Act.put] at hO ⊢
  generalize ν 0 = n1 at hO ⊢
  generalize ν 1 = n2 at hO ⊢
  clear ν
  go_upto_region 1 with (fail)
  refine Rg.ps [1, 2, 3] (fun ν => [(6, A (ps [x, y])), (7, A (ps [x, am y 1, 1, mm x (am y 1)])), (3, D (ν 2))]) (OI w (Sq _ (fun ν => [id, ap ((ν 2), ps [0, 0, 0, 0], 143), se 2 ((ν 2), ps [x, am y 1, 1, mm x (am y 1)], 143)]))) (fun _ => 0) hO (Rg.ac (nld 0 0 0 (fun _ => n1) (fun _ => ps [x, y]) (t1 0) Tryz.underlying49) (Rg.ac (sC 0 100 _ _ (fun _ => reckoned_c x y hx hy)) (Rg.ac (sn 1 (fun _ => ps [0, 0, 0, 0]) 143 (fun _ w => al83 rfl w) (fun _ => ft (fit_ru _ _ _ _))) (Rg.ac (sr 2 2 (fun _ => ps [x, am y 1, 1, mm x (am y 1)]) (fun _ => ft (fit_ru _ _ _ _))) Rg.an)))) ?_
  intro ν w2 hO
  simp only [OI, Sq, Sg, ap, se, id, qA, qB, qC, qD, qE, qF, qG, Rg.putL, Act.put] at hO ⊢
  generalize ν 2 = n3 at hO ⊢
  clear ν
  go_upto_region 2 with (fail)
  refine Rg.ps [2, 6, 7, 8, 9] (fun ν => [(9, E n3 0), (10, A (ps [x, am y 1, 1])), (11, .tuple #[A (arr 4 (limb (am (am y 1) x))), A (arr 4 (limb (sm (am y 1) x)))]), (8, .tuple #[A (arr 4 (limb (am (am y 1) x))), A (arr 4 (limb (sm (am y 1) x)))]), (12, A (arr 4 (limb (am (am y 1) x)))), (13, A (arr 4 (limb (sm (am y 1) x)))), (4, D (ν 6)), (5, D (ν 7))]) (OI w (Sq _ (fun ν => [id, ap ((ν 6), arr 4 (limb 0), 47), ap ((ν 7), arr 4 (limb 0), 47), se 3 ((ν 6), arr 4 (limb (am (am y 1) x)), 47), se 4 ((ν 7), arr 4 (limb (sm (am y 1) x)), 47)]))) (fun _ => 0) hO (Rg.ac nV (Rg.ac (npt 0 0 2 0 (fun _ => n3) 143 (fun _ => part_ruc x (am y 1) 1 (mm x (am y 1))) (t1 0) Tryz.underlying141) (Rg.ac (sC 0 105 _ _ (fun _ => sides_c x (am y 1) 1 hx (am_lt _ _))) (Rg.ac nV (Rg.ac nV (Rg.ac nV (Rg.ac (sn 1 (fun _ => arr 4 (limb 0)) 47 (fun _ w => al27 rfl w) (fun _ => ft (fit_fe _))) (Rg.ac (sn 2 (fun _ => arr 4 (limb 0)) 47 (fun _ w => al27 rfl w) (fun _ => ft (fit_fe _))) (Rg.ac (sr 3 3 (fun _ => arr 4 (limb (am (am y 1) x))) (fun _ => ft (fit_fe _))) (Rg.ac (sr 4 4 (fun _ => arr 4 (limb (sm (am y 1) x))) (fun _ => ft (fit_fe _))) Rg.an)))))))))) ?_
  intro ν w3 hO
  simp only [OI, Sq, Sg, ap, se, id, qA, qB, qC, qD, qE, qF, qG, Rg.putL, Act.put] at hO ⊢
  generalize ν 6 = n4 at hO ⊢
  generalize ν 7 = n5 at hO ⊢
  clear ν
  go_upto_region 3 with (fail)
  refine Rg.pd [2, 3, 4, 7, 9] (fun _ => [(14, A (arr 4 (limb (am (am y 1) x)))), (15, A (arr 4 (limb (sm (am y 1) x)))), (16, A (arr 4 (limb d7N))), (17, A (arr 4 (limb d7N))), (18, A (arr 4 (limb (am d7N d7N)))), (19, E n3 12), (20, A (arr 4 (limb (mm x (am y 1))))), (21, A (arr 4 (limb (mm (am d7N d7N) (mm x (am y 1)))))), (22, A (ps [am (am y 1) x, sm (am y 1) x, mm (am d7N d7N) (mm x (am y 1))]))]) (OI w (Sq _ (fun _ => [id, id, id, id, se 1 (n2, ps [am (am y 1) x, sm (am y 1) x, mm (am d7N d7N) (mm x (am y 1))], 97)]))) (fun _ => 0) hO.drew (Rg.ac (nld 0 4 3 (fun _ => n4) (fun _ => arr 4 (limb (am (am y 1) x))) (t2 0 4 (t2 1 4 (t2 2 4 (t2 3 4 (t1 4))))) Tryz.underlying47) (Rg.ac (nld 0 4 4 (fun _ => n5) (fun _ => arr 4 (limb (sm (am y 1) x))) (t2 0 4 (t2 1 4 (t2 2 4 (t2 3 4 (t1 4))))) Tryz.underlying47) (Rg.ac (sC 0 56 _ _ (fun _ => d_c)) (Rg.ac (sC 1 56 _ _ (fun _ => d_c)) (Rg.ac (sC 2 54 _ _ (fun _ => add_c d7N d7N d7_lt d7_lt)) (Rg.ac nV (Rg.ac (npt 0 3 2 12 (fun _ => n3) 143 (fun _ => part_ru3 x (am y 1) 1 (mm x (am y 1))) (t2 0 3 (t2 1 3 (t2 2 3 (t1 3)))) Tryz.underlying47) (Rg.ac (sC 3 55 _ _ (fun _ => mul_c (am d7N d7N) (mm x (am y 1)) (am_lt _ _) (mm_lt _ _))) (Rg.ac (nx (fun _ => A (ps [am (am y 1) x, sm (am y 1) x, mm (am d7N d7N) (mm x (am y 1))])) (fun _ w => run_bd 97 _ rfl [(0, A (arr 4 (limb (am (am y 1) x)))), (1, A (arr 4 (limb (sm (am y 1) x)))), (2, A (arr 4 (limb (mm (am d7N d7N) (mm x (am y 1))))))] (by kernel_rfl) _ (bd_ad _ _ _) w)) (Rg.ac (sr 4 1 (fun _ => ps [am (am y 1) x, sm (am y 1) x, mm (am d7N d7N) (mm x (am y 1))]) (fun _ => ft (fit_ad _ _ _))) Rg.an)))))))))) ?_
  intro ν w4 hO
  simp only [OI, Sq, Sg, se, id, qC, qD, qE, qF, qG, Rg.putL, Act.put] at hO ⊢
  clear ν
  go_wp2_with fail
  refine bodyPost_ret (v := .agg (ps [am (am y 1) x, sm (am y 1) x, mm (am d7N d7N) (mm x (am y 1))])) (results_cell_row Tryz.results63 _ _ n2 97 _ (0, 0) _ rfl (hO.row 1 rfl) Tryz.underlying97 rfl (fit_ad _ _ _).size) rfl ⟨rfl, hO.low⟩
set_option maxHeartbeats 4000000 in
theorem whole_c (x y z : Nat) (hx : x < pP) (hy : y < pP) (hz : z < pP) (w : World) : Ret 104 #[.agg (ps [x, y, z])] w (.agg (ps [mm x (iN z), sm (mm y (iN z)) 1])) := by
  go_enter Tryz.func104, Tryz.ntmps104
  have hO := Wn.start w
  go_upto_region 0 with (fail)
  refine Rg.ps [0, 1] (fun ν => [(1, D (ν 0)), (2, D (ν 1))]) (OI w (Sq _ (fun ν => [ap ((ν 0), ps [x, y, z], 141), ap ((ν 1), ps [0, 0], 49)]))) (fun _ => 0) hO (Rg.ac (sn 0 (fun _ => ps [x, y, z]) 141 (fun _ w => run_box 141 _ rfl _ (by kernel_rfl) w) (fun _ => ft (fit_co _ _ _))) (Rg.ac (sn 1 (fun _ => ps [0, 0]) 49 (fun _ w => al29 rfl w) (fun _ => ft (fit_pt _ _))) Rg.an)) ?_
  intro ν w1 hO
  simp only [OI, Sq, Sg, ap, qA, qB, qC, qD, qE, qF, qG, Rg.putL, Act.put] at hO ⊢
  generalize ν 0 = n1 at hO ⊢
  generalize ν 1 = n2 at hO ⊢
  clear ν
  go_upto_region 1 with (fail)
  refine Rg.ps [2, 3, 4] (fun ν => [(4, E n1 8), (5, A (arr 4 (limb z))), (6, A (arr 4 (limb (iN z)))), (3, D (ν 3))]) (OI w (Sq _ (fun ν => [id, ap ((ν 3), arr 4 (limb 0), 47), se 2 ((ν 3), arr 4 (limb (iN z)), 47)]))) (fun _ => 0) hO (Rg.ac nV (Rg.ac (npt 0 0 0 8 (fun _ => n1) 141 (fun _ => part_co2 x y z) (t1 0) Tryz.underlying47) (Rg.ac (sC 0 117 _ _ (fun _ => inv_c z hz)) (Rg.ac (sn 1 (fun _ => arr 4 (limb 0)) 47 (fun _ w => al27 rfl w) (fun _ => ft (fit_fe _))) (Rg.ac (sr 2 2 (fun _ => arr 4 (limb (iN z))) (fun _ => ft (fit_fe _))) Rg.an))))) ?_
  intro ν w2 hO
  simp only [OI, Sq, Sg, ap, se, id, qA, qB, qC, qD, qE, qF, qG, Rg.putL, Act.put] at hO ⊢
  generalize ν 3 = n3 at hO ⊢
  clear ν
  go_upto_region 2 with (fail)
  refine Rg.pd [3, 7, 8, 9] (fun _ => [(7, E n1 0), (8, A (arr 4 (limb x))), (9, A (arr 4 (limb (iN z)))), (10, A (arr 4 (limb (mm x (iN z))))), (11, E n1 4), (12, A (arr 4 (limb y))), (13, A (arr 4 (limb (iN z)))), (14, A (arr 4 (limb (mm y (iN z))))), (15, A (ps [mm x (iN z), sm (mm y (iN z)) 1]))]) (OI w (Sq _ (fun _ => [id, id, id, se 1 (n2, ps [mm x (iN z), sm (mm y (iN z)) 1], 49)]))) (fun _ => 0) hO.drew (Rg.ac nV (Rg.ac (npt 0 0 0 0 (fun _ => n1) 141 (fun _ => part_co0 x y z) (t1 0) Tryz.underlying47) (Rg.ac (nld 0 0 2 (fun _ => n3) (fun _ => arr 4 (limb (iN z))) (t1 0) Tryz.underlying47) (Rg.ac (sC 0 55 _ _ (fun _ => mul_c x (iN z) hx (iN_lt _))) (Rg.ac nV (Rg.ac (npt 0 1 0 4 (fun _ => n1) 141 (fun _ => part_co1 x y z) (t2 0 1 (t1 1)) Tryz.underlying47) (Rg.ac (nld 0 1 2 (fun _ => n3) (fun _ => arr 4 (limb (iN z))) (t2 0 1 (t1 1)) Tryz.underlying47) (Rg.ac (sC 1 55 _ _ (fun _ => mul_c y (iN z) hy (iN_lt _))) (Rg.ac (sC 2 58 _ _ (fun _ => pointAt_c (mm x (iN z)) (mm y (iN z)) (mm_lt _ _))) (Rg.ac (sr 3 1 (fun _ => ps [mm x (iN z), sm (mm y (iN z)) 1]) (fun _ => ft (fit_pt _ _))) Rg.an)))))))))) ?_
  intro ν w3 hO
  simp only [OI, Sq, Sg, se, id, qC, qD, qE, qF, qG, Rg.putL, Act.put] at hO ⊢
  clear ν
  go_wp2_with fail
  refine bodyPost_ret (v := .agg (ps [mm x (iN z), sm (mm y (iN z)) 1])) (results_cell_row Tryz.results104 _ _ n2 49 _ (0, 0) _ rfl (hO.row 1 rfl) Tryz.underlying49 rfl (fit_pt _ _).size) rfl ⟨rfl, hO.low⟩
end Go.Proofs.YtbpmakegimgbpaaGreatDoor

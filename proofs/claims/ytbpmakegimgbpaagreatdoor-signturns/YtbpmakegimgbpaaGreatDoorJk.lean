/- Texts in one: Gj Gk. -/
import Derived.Test.YtbpmakegimgbpaaGreatDoorGi
namespace Go.Proofs.YtbpmakegimgbpaaGreatDoor
set_option maxRecDepth 100000
open F Go.RowKit Rg

abbrev rp (P : Nat × Nat) : Array Value := qn [P.1, P.2]
abbrev wq (r : Q4) : Array Value := qn [r.1, r.2.1, r.2.2.1, r.2.2.2]
theorem sm_zero (a : Nat) : sm 0 a = ng a := by unfold sm ng; rw [Nat.zero_add]
theorem eqlN_c {ρ : Operand → Value} {o : Oper} (x y : Operand) (f g : Nat) (b : Bool) (hf : f < 2 ^ 256) (hg : g < 2 ^ 256) (hb : decide (f = g) = b) (w : World) (ho : o.op = .binOp .eql 58 x y 58) (hx : ρ x = .agg (vals .u64 16 (F.dg f))) (hy : ρ y = .agg (vals .u64 16 (F.dg g))) : (execOp ρ o).run Tryz.prog w = .ok (.value (.bool b)) w := by
  have h := eq_n (F.dg f) (F.dg g) b ((all16 f g hf hg).trans hb)
  unfold execOp
  simp only [ho, hx, hy]
  go_simp
set_option maxHeartbeats 4000000 in
theorem rd_c (w : World) : Ret 71 #[] w (.agg (vals .u64 16 (F.dg d7N))) := by
  go_enter Tryz.func71, Tryz.ntmps71
  have hO := Wn.start w
  go_upto_region 0 with (fail)
  refine Rg.ps [0] (fun ν => [(0, D (ν 0))]) (OI w (Sq _ (fun ν => [ap ((ν 0), vals .u64 16 (F.dg 0), 58)]))) (fun _ => 0) hO (Rg.ac (sn 0 (fun _ => vals .u64 16 (F.dg 0)) 58 (fun _ w => al33 rfl w) (fun _ => ft (fit_rn _))) Rg.an) ?_
  intro ν w1 hO
  simp only [OI, Sq, Sg, ap, qB, qD, qE, qF, qG, Rg.putL, Act.put] at hO ⊢
  generalize ν 0 = n0 at hO ⊢
  clear ν
  go_upto_region 1 with (fail)
  refine Rg.ps [0, 1, 2, 3, 4, 5] (fun ν => [(2, A (vals .u64 16 (F.dg 121665))), (3, A (vals .u64 16 (F.dg 121666))), (4, A (vals .u64 16 (F.dg (iN 121666)))), (5, A (vals .u64 16 (F.dg (mm 121665 (iN 121666))))), (1, D (ν 4))]) (OI w (Sq _ (fun ν => [id, id, id, id, ap ((ν 4), vals .u64 16 (F.dg 0), 58), se 1 ((ν 4), vals .u64 16 (F.dg (mm 121665 (iN 121666))), 58)]))) (fun _ => 0) hO (Rg.ac (sC 0 69 _ _ (fun _ => rof_c 121665 (by omega))) (Rg.ac (sC 1 69 _ _ (fun _ => rof_c 121666 (by omega))) (Rg.ac (sC 2 75 _ _ (fun _ => rinv_c 121666 (of_lt (by omega)))) (Rg.ac (sC 3 67 _ _ (fun _ => rmul_c 121665 (iN 121666) (of_lt (by omega)) (iN_lt _))) (Rg.ac (sn 4 (fun _ => vals .u64 16 (F.dg 0)) 58 (fun _ w => al33 rfl w) (fun _ => ft (fit_rn _))) (Rg.ac (sr 5 1 (fun _ => vals .u64 16 (F.dg (mm 121665 (iN 121666)))) (fun _ => ft (fit_rn _))) Rg.an)))))) ?_
  intro ν w2 hO
  simp only [OI, Sq, Sg, ap, se, id, qA, qB, qC, qD, qE, qF, qG, Rg.putL, Act.put] at hO ⊢
  generalize ν 4 = n1 at hO ⊢
  clear ν
  go_upto_region 2 with (fail)
  refine Rg.pd [0, 2, 3] (fun _ => [(6, A (vals .u64 16 (F.dg 0))), (7, A (vals .u64 16 (F.dg (mm 121665 (iN 121666))))), (8, A (vals .u64 16 (F.dg (sm 0 (mm 121665 (iN 121666))))))]) (OI w (Sq _ (fun _ => [id, id, se 0 (n0, vals .u64 16 (F.dg (sm 0 (mm 121665 (iN 121666)))), 58)]))) (fun _ => 0) hO.drew (Rg.ac (sC 0 69 _ _ (fun _ => rof_c 0 (by omega))) (Rg.ac (nld 0 1 1 (fun _ => n1) (fun _ => vals .u64 16 (F.dg (mm 121665 (iN 121666)))) (t2 0 1 (t1 1)) Tryz.underlying58) (Rg.ac (sC 1 68 _ _ (fun _ => rsub_c 0 (mm 121665 (iN 121666)) (of_lt (by omega)) (mm_lt _ _))) (Rg.ac (sr 2 0 (fun _ => vals .u64 16 (F.dg (sm 0 (mm 121665 (iN 121666))))) (fun _ => ft (fit_rn _))) Rg.an)))) ?_
  intro ν w3 hO
  simp only [OI, Sq, Sg, se, id, qC, qD, qE, qF, qG, Rg.putL, Act.put] at hO ⊢
  clear ν
  go_wp2_with fail
  refine bodyPost_ret (v := .agg (vals .u64 16 (F.dg (sm 0 (mm 121665 (iN 121666)))))) (results_cell_row Tryz.results71 _ _ n0 58 _ (0, 0) _ rfl (hO.row 0 rfl) Tryz.underlying58 rfl (fit_rn _).size) rfl ⟨by rw [d7_eq], hO.low⟩
set_option maxHeartbeats 4000000 in
theorem rzero_c (w : World) : Ret 66 #[] w (.agg (rp zero7)) := by
  go_enter Tryz.func66, Tryz.ntmps66
  have hO := Wn.start w
  go_upto_region 0 with (fail)
  refine Rg.ps [0] (fun ν => [(0, D (ν 0))]) (OI w (Sq _ (fun ν => [ap ((ν 0), qn [0, 0], 60)]))) (fun _ => 0) hO (Rg.ac (sn 0 (fun _ => qn [0, 0]) 60 (fun _ w => al35 rfl w) (fun _ => ft (fit_rp _ _))) Rg.an) ?_
  intro ν w1 hO
  simp only [OI, Sq, Sg, ap, qB, qD, qE, qF, qG, Rg.putL, Act.put] at hO ⊢
  generalize ν 0 = n0 at hO ⊢
  clear ν
  go_upto_region 1 with (fail)
  refine Rg.ps [0, 2] (fun _ => [(1, A (vals .u64 16 (F.dg 1))), (2, A (qn [0, 1]))]) (OI w (Sq _ (fun _ => [id, se 0 (n0, qn [0, 1], 60)]))) (fun _ => 0) hO (Rg.ac (sC 0 69 _ _ (fun _ => rof_c 1 (by omega))) (Rg.ac (nx (fun _ => A (qn [0, 1])) (fun _ w => run_bd 60 _ rfl [(1, A (vals .u64 16 (F.dg 1)))] (by kernel_rfl) _ (bd_rp1 _) w)) (Rg.ac (sr 1 0 (fun _ => qn [0, 1]) (fun _ => ft (fit_rp _ _))) Rg.an))) ?_
  intro ν w2 hO
  simp only [OI, Sq, Sg, se, id, qC, qD, qE, qF, qG, Rg.putL, Act.put] at hO ⊢
  clear ν
  go_wp2_with fail
  refine bodyPost_ret (v := .agg (qn [0, 1])) (results_cell_row Tryz.results66 _ _ n0 60 _ (0, 0) _ rfl (hO.row 0 rfl) Tryz.underlying60 rfl (fit_rp _ _).size) rfl ⟨rfl, hO.low⟩
set_option maxHeartbeats 4000000 in
theorem radd_p {P Q : Nat × Nat} (hP : Ok7 P) (hQ : Ok7 Q) (w : World) : Ret 30 #[.agg (rp P), .agg (rp Q)] w (.agg (rp (add7 P Q))) := by
  go_enter Tryz.func30, Tryz.ntmps30
  have hO := Wn.start w
  go_upto_region 0 with (fail)
  refine Rg.ps [0, 1, 2] (fun ν => [(2, D (ν 0)), (3, D (ν 1)), (4, D (ν 2))]) (OI w (Sq _ (fun ν => [ap ((ν 0), rp P, 60), ap ((ν 1), rp Q, 60), ap ((ν 2), qn [0, 0], 60)]))) (fun _ => 0) hO (Rg.ac (sn 0 (fun _ => rp P) 60 (fun _ w => run_box 60 _ rfl _ (by kernel_rfl) w) (fun _ => ft (fit_rp _ _))) (Rg.ac (sn 1 (fun _ => rp Q) 60 (fun _ w => run_box 60 _ rfl _ (by kernel_rfl) w) (fun _ => ft (fit_rp _ _))) (Rg.ac (sn 2 (fun _ => qn [0, 0]) 60 (fun _ w => al35 rfl w) (fun _ => ft (fit_rp _ _))) Rg.an))) ?_
  intro ν w1 hO
  simp only [OI, Sq, Sg, ap, qA, qB, qC, qD, qE, qF, qG, Rg.putL, Act.put] at hO ⊢
  generalize ν 0 = n2 at hO ⊢
  generalize ν 1 = n3 at hO ⊢
  generalize ν 2 = n4 at hO ⊢
  clear ν
  go_upto_region 1 with (fail)
  refine Rg.ps [4, 5, 6] (fun ν => [(13, E n2 0), (14, A (vals .u64 16 (F.dg P.1))), (15, E n3 16), (16, A (vals .u64 16 (F.dg Q.2))), (17, A (vals .u64 16 (F.dg (mm P.1 Q.2)))), (5, D (ν 5))]) (OI w (Sq _ (fun ν => [id, ap ((ν 5), vals .u64 16 (F.dg 0), 58), se 3 ((ν 5), vals .u64 16 (F.dg (mm P.1 Q.2)), 58)]))) (fun _ => 0) hO (Rg.ac nV (Rg.ac (npt 0 0 0 0 (fun _ => n2) 60 (fun _ => part_rp0 P.1 P.2) (t1 0) Tryz.underlying58) (Rg.ac nV (Rg.ac (npt 0 0 1 16 (fun _ => n3) 60 (fun _ => part_rp1 Q.1 Q.2) (t1 0) Tryz.underlying58) (Rg.ac (sC 0 67 _ _ (fun _ => rmul_c P.1 Q.2 hP.x hQ.y)) (Rg.ac (sn 1 (fun _ => vals .u64 16 (F.dg 0)) 58 (fun _ w => al33 rfl w) (fun _ => ft (fit_rn _))) (Rg.ac (sr 2 3 (fun _ => vals .u64 16 (F.dg (mm P.1 Q.2))) (fun _ => ft (fit_rn _))) Rg.an))))))) ?_
  intro ν w2 hO
  simp only [OI, Sq, Sg, ap, se, id, qA, qB, qC, qD, qE, qF, qG, Rg.putL, Act.put] at hO ⊢
  generalize ν 5 = n5 at hO ⊢
  clear ν
  go_upto_region 2 with (fail)
  refine Rg.ps [4, 5, 6] (fun ν => [(18, E n2 16), (19, A (vals .u64 16 (F.dg P.2))), (20, E n3 0), (21, A (vals .u64 16 (F.dg Q.1))), (22, A (vals .u64 16 (F.dg (mm P.2 Q.1)))), (6, D (ν 5))]) (OI w (Sq _ (fun ν => [id, ap ((ν 5), vals .u64 16 (F.dg 0), 58), se 4 ((ν 5), vals .u64 16 (F.dg (mm P.2 Q.1)), 58)]))) (fun _ => 0) hO (Rg.ac nV (Rg.ac (npt 0 0 0 16 (fun _ => n2) 60 (fun _ => part_rp1 P.1 P.2) (t1 0) Tryz.underlying58) (Rg.ac nV (Rg.ac (npt 0 0 1 0 (fun _ => n3) 60 (fun _ => part_rp0 Q.1 Q.2) (t1 0) Tryz.underlying58) (Rg.ac (sC 0 67 _ _ (fun _ => rmul_c P.2 Q.1 hP.y hQ.x)) (Rg.ac (sn 1 (fun _ => vals .u64 16 (F.dg 0)) 58 (fun _ w => al33 rfl w) (fun _ => ft (fit_rn _))) (Rg.ac (sr 2 4 (fun _ => vals .u64 16 (F.dg (mm P.2 Q.1))) (fun _ => ft (fit_rn _))) Rg.an))))))) ?_
  intro ν w3 hO
  simp only [OI, Sq, Sg, ap, se, id, qA, qB, qC, qD, qE, qF, qG, Rg.putL, Act.put] at hO ⊢
  generalize ν 5 = n6 at hO ⊢
  clear ν
  go_upto_region 3 with (fail)
  refine Rg.ps [4, 5, 6] (fun ν => [(23, E n2 16), (24, A (vals .u64 16 (F.dg P.2))), (25, E n3 16), (26, A (vals .u64 16 (F.dg Q.2))), (27, A (vals .u64 16 (F.dg (mm P.2 Q.2)))), (7, D (ν 5))]) (OI w (Sq _ (fun ν => [id, ap ((ν 5), vals .u64 16 (F.dg 0), 58), se 5 ((ν 5), vals .u64 16 (F.dg (mm P.2 Q.2)), 58)]))) (fun _ => 0) hO (Rg.ac nV (Rg.ac (npt 0 0 0 16 (fun _ => n2) 60 (fun _ => part_rp1 P.1 P.2) (t1 0) Tryz.underlying58) (Rg.ac nV (Rg.ac (npt 0 0 1 16 (fun _ => n3) 60 (fun _ => part_rp1 Q.1 Q.2) (t1 0) Tryz.underlying58) (Rg.ac (sC 0 67 _ _ (fun _ => rmul_c P.2 Q.2 hP.y hQ.y)) (Rg.ac (sn 1 (fun _ => vals .u64 16 (F.dg 0)) 58 (fun _ w => al33 rfl w) (fun _ => ft (fit_rn _))) (Rg.ac (sr 2 5 (fun _ => vals .u64 16 (F.dg (mm P.2 Q.2))) (fun _ => ft (fit_rn _))) Rg.an))))))) ?_
  intro ν w4 hO
  simp only [OI, Sq, Sg, ap, se, id, qA, qB, qC, qD, qE, qF, qG, Rg.putL, Act.put] at hO ⊢
  generalize ν 5 = n7 at hO ⊢
  clear ν
  go_upto_region 4 with (fail)
  refine Rg.ps [4, 5, 6] (fun ν => [(28, E n2 0), (29, A (vals .u64 16 (F.dg P.1))), (30, E n3 0), (31, A (vals .u64 16 (F.dg Q.1))), (32, A (vals .u64 16 (F.dg (mm P.1 Q.1)))), (8, D (ν 5))]) (OI w (Sq _ (fun ν => [id, ap ((ν 5), vals .u64 16 (F.dg 0), 58), se 6 ((ν 5), vals .u64 16 (F.dg (mm P.1 Q.1)), 58)]))) (fun _ => 0) hO (Rg.ac nV (Rg.ac (npt 0 0 0 0 (fun _ => n2) 60 (fun _ => part_rp0 P.1 P.2) (t1 0) Tryz.underlying58) (Rg.ac nV (Rg.ac (npt 0 0 1 0 (fun _ => n3) 60 (fun _ => part_rp0 Q.1 Q.2) (t1 0) Tryz.underlying58) (Rg.ac (sC 0 67 _ _ (fun _ => rmul_c P.1 Q.1 hP.x hQ.x)) (Rg.ac (sn 1 (fun _ => vals .u64 16 (F.dg 0)) 58 (fun _ w => al33 rfl w) (fun _ => ft (fit_rn _))) (Rg.ac (sr 2 6 (fun _ => vals .u64 16 (F.dg (mm P.1 Q.1))) (fun _ => ft (fit_rn _))) Rg.an))))))) ?_
  intro ν w5 hO
  simp only [OI, Sq, Sg, ap, se, id, qA, qB, qC, qD, qE, qF, qG, Rg.putL, Act.put] at hO ⊢
  generalize ν 5 = n8 at hO ⊢
  clear ν
  go_upto_region 5 with (fail)
  refine Rf.pg (fun ν => [(33, A (vals .u64 16 (F.dg d7N))), (34, A (vals .u64 16 (F.dg (mm P.1 Q.2)))), (35, A (vals .u64 16 (F.dg (mm P.2 Q.1)))), (36, A (vals .u64 16 (F.dg (mm (mm P.1 Q.2) (mm P.2 Q.1))))), (37, A (vals .u64 16 (F.dg (mm d7N (mm (mm P.1 Q.2) (mm P.2 Q.1)))))), (9, D (ν 5))]) [(n2, rp P, 60, none), (n3, rp Q, 60, none), (n4, qn [0, 0], 60, none), (n5, vals .u64 16 (F.dg (mm P.1 Q.2)), 58, none), (n6, vals .u64 16 (F.dg (mm P.2 Q.1)), 58, none), (n7, vals .u64 16 (F.dg (mm P.2 Q.2)), 58, none), (n8, vals .u64 16 (F.dg (mm P.1 Q.1)), 58, none)] (fun _ => [(5, vals .u64 16 (F.dg 0), 58, some (6, vals .u64 16 (F.dg (mm d7N (mm (mm P.1 Q.2) (mm P.2 Q.1))))))]) (fun _ => 0) hO.drew (Rg.ac (Rf.fq 71 _ _ (fun D ν w my hO => (rd_c) w)) (Rg.ac (Rf.fld 3 (fun _ => n5) (fun _ => vals .u64 16 (F.dg (mm P.1 Q.2))) (fun D ν _ => rfl) Tryz.underlying58) (Rg.ac (Rf.fld 4 (fun _ => n6) (fun _ => vals .u64 16 (F.dg (mm P.2 Q.1))) (fun D ν _ => rfl) Tryz.underlying58) (Rg.ac (Rf.fq 67 _ _ (fun D ν w my hO => (rmul_c (mm P.1 Q.2) (mm P.2 Q.1) (mm_lt _ _) (mm_lt _ _)) w)) (Rg.ac (Rf.fq 67 _ _ (fun D ν w my hO => (rmul_c d7N (mm (mm P.1 Q.2) (mm P.2 Q.1)) d7_lt (mm_lt _ _)) w)) (Rg.ac (Rf.ga 0 (fun _ _ => rfl) (fun _ _ => rfl) (fun _ w => al33 rfl w) (fun _ => ft (fit_rn _))) (Rg.ac (Rf.gm 0 5 (fun _ => rfl) (ft (fit_rn _))) Rg.an))))))) ?_
  intro ν w6 hO
  replace hO : Wn w w6 [(n2, rp P, 60), (n3, rp Q, 60), (n4, qn [0, 0], 60), (n5, vals .u64 16 (F.dg (mm P.1 Q.2)), 58), (n6, vals .u64 16 (F.dg (mm P.2 Q.1)), 58), (n7, vals .u64 16 (F.dg (mm P.2 Q.2)), 58), (n8, vals .u64 16 (F.dg (mm P.1 Q.1)), 58), ((ν 5), vals .u64 16 (F.dg (mm d7N (mm (mm P.1 Q.2) (mm P.2 Q.1)))), 58)] := hO
  simp only [qC, qD, qE, Rg.putL, Act.put]
  generalize ν 5 = n9 at hO ⊢
  clear ν
  go_upto_region 6 with (fail)
  refine Rg.ps [0, 1, 2] (fun ν => [(38, A (vals .u64 16 (F.dg 1))), (10, D (ν 1))]) (OI w (Sq _ (fun ν => [id, ap ((ν 1), vals .u64 16 (F.dg 0), 58), se 8 ((ν 1), vals .u64 16 (F.dg 1), 58)]))) (fun _ => 0) hO (Rg.ac (sC 0 69 _ _ (fun _ => rof_c 1 (by omega))) (Rg.ac (sn 1 (fun _ => vals .u64 16 (F.dg 0)) 58 (fun _ w => al33 rfl w) (fun _ => ft (fit_rn _))) (Rg.ac (sr 2 8 (fun _ => vals .u64 16 (F.dg 1)) (fun _ => ft (fit_rn _))) Rg.an))) ?_
  intro ν w7 hO
  simp only [OI, Sq, Sg, ap, se, id, qA, qB, qC, qD, qE, qF, qG, Rg.putL, Act.put] at hO ⊢
  generalize ν 1 = n10 at hO ⊢
  clear ν
  go_upto_region 7 with (fail)
  refine Rf.pg (fun ν => [(39, A (vals .u64 16 (F.dg (mm P.1 Q.2)))), (40, A (vals .u64 16 (F.dg (mm P.2 Q.1)))), (41, A (vals .u64 16 (F.dg (am (mm P.1 Q.2) (mm P.2 Q.1))))), (42, A (vals .u64 16 (F.dg 1))), (43, A (vals .u64 16 (F.dg (mm d7N (mm (mm P.1 Q.2) (mm P.2 Q.1)))))), (44, A (vals .u64 16 (F.dg (am 1 (mm d7N (mm (mm P.1 Q.2) (mm P.2 Q.1))))))), (45, A (vals .u64 16 (F.dg (iN (am 1 (mm d7N (mm (mm P.1 Q.2) (mm P.2 Q.1)))))))), (46, A (vals .u64 16 (F.dg (mm (am (mm P.1 Q.2) (mm P.2 Q.1)) (iN (am 1 (mm d7N (mm (mm P.1 Q.2) (mm P.2 Q.1))))))))), (11, D (ν 8))]) [(n2, rp P, 60, none), (n3, rp Q, 60, none), (n4, qn [0, 0], 60, none), (n5, vals .u64 16 (F.dg (mm P.1 Q.2)), 58, none), (n6, vals .u64 16 (F.dg (mm P.2 Q.1)), 58, none), (n7, vals .u64 16 (F.dg (mm P.2 Q.2)), 58, none), (n8, vals .u64 16 (F.dg (mm P.1 Q.1)), 58, none), (n9, vals .u64 16 (F.dg (mm d7N (mm (mm P.1 Q.2) (mm P.2 Q.1)))), 58, none), (n10, vals .u64 16 (F.dg 1), 58, none)] (fun _ => [(8, vals .u64 16 (F.dg 0), 58, some (9, vals .u64 16 (F.dg (mm (am (mm P.1 Q.2) (mm P.2 Q.1)) (iN (am 1 (mm d7N (mm (mm P.1 Q.2) (mm P.2 Q.1)))))))))]) (fun _ => 0) hO.drew (Rg.ac (Rf.fld 3 (fun _ => n5) (fun _ => vals .u64 16 (F.dg (mm P.1 Q.2))) (fun D ν _ => rfl) Tryz.underlying58) (Rg.ac (Rf.fld 4 (fun _ => n6) (fun _ => vals .u64 16 (F.dg (mm P.2 Q.1))) (fun D ν _ => rfl) Tryz.underlying58) (Rg.ac (Rf.fq 70 _ _ (fun D ν w my hO => (radd_c (mm P.1 Q.2) (mm P.2 Q.1) (mm_lt _ _) (mm_lt _ _)) w)) (Rg.ac (Rf.fld 8 (fun _ => n10) (fun _ => vals .u64 16 (F.dg 1)) (fun D ν _ => rfl) Tryz.underlying58) (Rg.ac (Rf.fld 7 (fun _ => n9) (fun _ => vals .u64 16 (F.dg (mm d7N (mm (mm P.1 Q.2) (mm P.2 Q.1))))) (fun D ν _ => rfl) Tryz.underlying58) (Rg.ac (Rf.fq 70 _ _ (fun D ν w my hO => (radd_c 1 (mm d7N (mm (mm P.1 Q.2) (mm P.2 Q.1))) (of_lt (by omega)) (mm_lt _ _)) w)) (Rg.ac (Rf.fq 75 _ _ (fun D ν w my hO => (rinv_c (am 1 (mm d7N (mm (mm P.1 Q.2) (mm P.2 Q.1)))) (am_lt _ _)) w)) (Rg.ac (Rf.fq 67 _ _ (fun D ν w my hO => (rmul_c (am (mm P.1 Q.2) (mm P.2 Q.1)) (iN (am 1 (mm d7N (mm (mm P.1 Q.2) (mm P.2 Q.1))))) (am_lt _ _) (iN_lt _)) w)) (Rg.ac (Rf.ga 0 (fun _ _ => rfl) (fun _ _ => rfl) (fun _ w => al33 rfl w) (fun _ => ft (fit_rn _))) (Rg.ac (Rf.gm 0 8 (fun _ => rfl) (ft (fit_rn _))) Rg.an)))))))))) ?_
  intro ν w8 hO
  replace hO : Wn w w8 [(n2, rp P, 60), (n3, rp Q, 60), (n4, qn [0, 0], 60), (n5, vals .u64 16 (F.dg (mm P.1 Q.2)), 58), (n6, vals .u64 16 (F.dg (mm P.2 Q.1)), 58), (n7, vals .u64 16 (F.dg (mm P.2 Q.2)), 58), (n8, vals .u64 16 (F.dg (mm P.1 Q.1)), 58), (n9, vals .u64 16 (F.dg (mm d7N (mm (mm P.1 Q.2) (mm P.2 Q.1)))), 58), (n10, vals .u64 16 (F.dg 1), 58), ((ν 8), vals .u64 16 (F.dg (mm (am (mm P.1 Q.2) (mm P.2 Q.1)) (iN (am 1 (mm d7N (mm (mm P.1 Q.2) (mm P.2 Q.1))))))), 58)] := hO
  simp only [qC, qD, qE, Rg.putL, Act.put]
  generalize ν 8 = n11 at hO ⊢
  clear ν
  go_upto_region 8 with (fail)
  refine Rf.pg (fun ν => [(47, A (vals .u64 16 (F.dg (mm P.2 Q.2)))), (48, A (vals .u64 16 (F.dg (mm P.1 Q.1)))), (49, A (vals .u64 16 (F.dg (am (mm P.2 Q.2) (mm P.1 Q.1))))), (50, A (vals .u64 16 (F.dg 1))), (51, A (vals .u64 16 (F.dg (mm d7N (mm (mm P.1 Q.2) (mm P.2 Q.1)))))), (52, A (vals .u64 16 (F.dg (sm 1 (mm d7N (mm (mm P.1 Q.2) (mm P.2 Q.1))))))), (53, A (vals .u64 16 (F.dg (iN (sm 1 (mm d7N (mm (mm P.1 Q.2) (mm P.2 Q.1)))))))), (54, A (vals .u64 16 (F.dg (mm (am (mm P.2 Q.2) (mm P.1 Q.1)) (iN (sm 1 (mm d7N (mm (mm P.1 Q.2) (mm P.2 Q.1))))))))), (12, D (ν 8))]) [(n2, rp P, 60, none), (n3, rp Q, 60, none), (n4, qn [0, 0], 60, none), (n5, vals .u64 16 (F.dg (mm P.1 Q.2)), 58, none), (n6, vals .u64 16 (F.dg (mm P.2 Q.1)), 58, none), (n7, vals .u64 16 (F.dg (mm P.2 Q.2)), 58, none), (n8, vals .u64 16 (F.dg (mm P.1 Q.1)), 58, none), (n9, vals .u64 16 (F.dg (mm d7N (mm (mm P.1 Q.2) (mm P.2 Q.1)))), 58, none), (n10, vals .u64 16 (F.dg 1), 58, none), (n11, vals .u64 16 (F.dg (mm (am (mm P.1 Q.2) (mm P.2 Q.1)) (iN (am 1 (mm d7N (mm (mm P.1 Q.2) (mm P.2 Q.1))))))), 58, none)] (fun _ => [(8, vals .u64 16 (F.dg 0), 58, some (9, vals .u64 16 (F.dg (mm (am (mm P.2 Q.2) (mm P.1 Q.1)) (iN (sm 1 (mm d7N (mm (mm P.1 Q.2) (mm P.2 Q.1)))))))))]) (fun _ => 0) hO.drew (Rg.ac (Rf.fld 5 (fun _ => n7) (fun _ => vals .u64 16 (F.dg (mm P.2 Q.2))) (fun D ν _ => rfl) Tryz.underlying58) (Rg.ac (Rf.fld 6 (fun _ => n8) (fun _ => vals .u64 16 (F.dg (mm P.1 Q.1))) (fun D ν _ => rfl) Tryz.underlying58) (Rg.ac (Rf.fq 70 _ _ (fun D ν w my hO => (radd_c (mm P.2 Q.2) (mm P.1 Q.1) (mm_lt _ _) (mm_lt _ _)) w)) (Rg.ac (Rf.fld 8 (fun _ => n10) (fun _ => vals .u64 16 (F.dg 1)) (fun D ν _ => rfl) Tryz.underlying58) (Rg.ac (Rf.fld 7 (fun _ => n9) (fun _ => vals .u64 16 (F.dg (mm d7N (mm (mm P.1 Q.2) (mm P.2 Q.1))))) (fun D ν _ => rfl) Tryz.underlying58) (Rg.ac (Rf.fq 68 _ _ (fun D ν w my hO => (rsub_c 1 (mm d7N (mm (mm P.1 Q.2) (mm P.2 Q.1))) (of_lt (by omega)) (mm_lt _ _)) w)) (Rg.ac (Rf.fq 75 _ _ (fun D ν w my hO => (rinv_c (sm 1 (mm d7N (mm (mm P.1 Q.2) (mm P.2 Q.1)))) (sm_lt _ _)) w)) (Rg.ac (Rf.fq 67 _ _ (fun D ν w my hO => (rmul_c (am (mm P.2 Q.2) (mm P.1 Q.1)) (iN (sm 1 (mm d7N (mm (mm P.1 Q.2) (mm P.2 Q.1))))) (am_lt _ _) (iN_lt _)) w)) (Rg.ac (Rf.ga 0 (fun _ _ => rfl) (fun _ _ => rfl) (fun _ w => al33 rfl w) (fun _ => ft (fit_rn _))) (Rg.ac (Rf.gm 0 8 (fun _ => rfl) (ft (fit_rn _))) Rg.an)))))))))) ?_
  intro ν w9 hO
  replace hO : Wn w w9 [(n2, rp P, 60), (n3, rp Q, 60), (n4, qn [0, 0], 60), (n5, vals .u64 16 (F.dg (mm P.1 Q.2)), 58), (n6, vals .u64 16 (F.dg (mm P.2 Q.1)), 58), (n7, vals .u64 16 (F.dg (mm P.2 Q.2)), 58), (n8, vals .u64 16 (F.dg (mm P.1 Q.1)), 58), (n9, vals .u64 16 (F.dg (mm d7N (mm (mm P.1 Q.2) (mm P.2 Q.1)))), 58), (n10, vals .u64 16 (F.dg 1), 58), (n11, vals .u64 16 (F.dg (mm (am (mm P.1 Q.2) (mm P.2 Q.1)) (iN (am 1 (mm d7N (mm (mm P.1 Q.2) (mm P.2 Q.1))))))), 58), ((ν 8), vals .u64 16 (F.dg (mm (am (mm P.2 Q.2) (mm P.1 Q.1)) (iN (sm 1 (mm d7N (mm (mm P.1 Q.2) (mm P.2 Q.1))))))), 58)] := hO
  simp only [qC, qD, qE, Rg.putL, Act.put]
  generalize ν 8 = n12 at hO ⊢
  clear ν
  go_upto_region 9 with (fail)
  refine Rg.ps [3] (fun _ => [(55, A (vals .u64 16 (F.dg (mm (am (mm P.1 Q.2) (mm P.2 Q.1)) (iN (am 1 (mm d7N (mm (mm P.1 Q.2) (mm P.2 Q.1))))))))), (56, A (vals .u64 16 (F.dg (mm (am (mm P.2 Q.2) (mm P.1 Q.1)) (iN (sm 1 (mm d7N (mm (mm P.1 Q.2) (mm P.2 Q.1))))))))), (57, A (qn [mm (am (mm P.1 Q.2) (mm P.2 Q.1)) (iN (am 1 (mm d7N (mm (mm P.1 Q.2) (mm P.2 Q.1))))), mm (am (mm P.2 Q.2) (mm P.1 Q.1)) (iN (sm 1 (mm d7N (mm (mm P.1 Q.2) (mm P.2 Q.1)))))]))]) (OI w (Sq _ (fun _ => [se 2 (n4, qn [mm (am (mm P.1 Q.2) (mm P.2 Q.1)) (iN (am 1 (mm d7N (mm (mm P.1 Q.2) (mm P.2 Q.1))))), mm (am (mm P.2 Q.2) (mm P.1 Q.1)) (iN (sm 1 (mm d7N (mm (mm P.1 Q.2) (mm P.2 Q.1)))))], 60)]))) (fun _ => 0) hO (Rg.ac (nld 0 0 9 (fun _ => n11) (fun _ => vals .u64 16 (F.dg (mm (am (mm P.1 Q.2) (mm P.2 Q.1)) (iN (am 1 (mm d7N (mm (mm P.1 Q.2) (mm P.2 Q.1)))))))) (t1 0) Tryz.underlying58) (Rg.ac (nld 0 0 10 (fun _ => n12) (fun _ => vals .u64 16 (F.dg (mm (am (mm P.2 Q.2) (mm P.1 Q.1)) (iN (sm 1 (mm d7N (mm (mm P.1 Q.2) (mm P.2 Q.1)))))))) (t1 0) Tryz.underlying58) (Rg.ac (nx (fun _ => A (qn [mm (am (mm P.1 Q.2) (mm P.2 Q.1)) (iN (am 1 (mm d7N (mm (mm P.1 Q.2) (mm P.2 Q.1))))), mm (am (mm P.2 Q.2) (mm P.1 Q.1)) (iN (sm 1 (mm d7N (mm (mm P.1 Q.2) (mm P.2 Q.1)))))])) (fun _ w => run_bd 60 _ rfl [(0, A (vals .u64 16 (F.dg (mm (am (mm P.1 Q.2) (mm P.2 Q.1)) (iN (am 1 (mm d7N (mm (mm P.1 Q.2) (mm P.2 Q.1))))))))), (1, A (vals .u64 16 (F.dg (mm (am (mm P.2 Q.2) (mm P.1 Q.1)) (iN (sm 1 (mm d7N (mm (mm P.1 Q.2) (mm P.2 Q.1)))))))))] (by kernel_rfl) _ (bd_rp _ _) w)) (Rg.ac (sr 0 2 (fun _ => qn [mm (am (mm P.1 Q.2) (mm P.2 Q.1)) (iN (am 1 (mm d7N (mm (mm P.1 Q.2) (mm P.2 Q.1))))), mm (am (mm P.2 Q.2) (mm P.1 Q.1)) (iN (sm 1 (mm d7N (mm (mm P.1 Q.2) (mm P.2 Q.1)))))]) (fun _ => ft (fit_rp _ _))) Rg.an)))) ?_
  intro ν w10 hO
  simp only [OI, Sq, Sg, se, qC, qD, qE, qF, qG, Rg.putL, Act.put] at hO ⊢
  clear ν
  go_wp2_with fail
  refine bodyPost_ret (v := .agg (qn [mm (am (mm P.1 Q.2) (mm P.2 Q.1)) (iN (am 1 (mm d7N (mm (mm P.1 Q.2) (mm P.2 Q.1))))), mm (am (mm P.2 Q.2) (mm P.1 Q.1)) (iN (sm 1 (mm d7N (mm (mm P.1 Q.2) (mm P.2 Q.1)))))])) (results_cell_row Tryz.results30 _ _ n4 60 _ (0, 0) _ rfl (hO.row 2 rfl) Tryz.underlying60 rfl (fit_rp _ _).size) rfl ⟨by rw [add7_eq]; rfl, hO.low⟩
set_option maxHeartbeats 4000000 in
theorem rsum_p {P Q : Nat × Nat} {p q : Q4} (hp : Rp P p) (hq : Rp Q q) (w : World) : Ret 76 #[.agg (wq p), .agg (wq q), .agg (vals .u64 16 (F.dg dd7))] w (.agg (wq (sum4 p q))) := by
  go_enter Tryz.func76, Tryz.ntmps76
  have hO := Wn.start w
  go_upto_region 0 with (fail)
  refine Rg.ps [0, 1, 2, 3] (fun ν => [(3, D (ν 0)), (4, D (ν 1)), (5, D (ν 2)), (6, D (ν 3))]) (OI w (Sq _ (fun ν => [ap ((ν 0), wq p, 111), ap ((ν 1), wq q, 111), ap ((ν 2), vals .u64 16 (F.dg dd7), 58), ap ((ν 3), qn [0, 0, 0, 0], 111)]))) (fun _ => 0) hO (Rg.ac (sn 0 (fun _ => wq p) 111 (fun _ w => run_box 111 _ rfl _ (by kernel_rfl) w) (fun _ => ft (fit_wd _ _ _ _))) (Rg.ac (sn 1 (fun _ => wq q) 111 (fun _ w => run_box 111 _ rfl _ (by kernel_rfl) w) (fun _ => ft (fit_wd _ _ _ _))) (Rg.ac (sn 2 (fun _ => vals .u64 16 (F.dg dd7)) 58 (fun _ w => run_box 58 _ rfl _ (by kernel_rfl) w) (fun _ => ft (fit_rn _))) (Rg.ac (sn 3 (fun _ => qn [0, 0, 0, 0]) 111 (fun _ w => al91 rfl w) (fun _ => ft (fit_wd _ _ _ _))) Rg.an)))) ?_
  intro ν w1 hO
  simp only [OI, Sq, Sg, ap, qA, qB, qC, qD, qE, qF, qG, Rg.putL, Act.put] at hO ⊢
  generalize ν 0 = n3 at hO ⊢
  generalize ν 1 = n4 at hO ⊢
  generalize ν 2 = n5 at hO ⊢
  generalize ν 3 = n6 at hO ⊢
  clear ν
  go_upto_region 1 with (fail)
  refine Rf.pg (fun ν => [(16, E n3 16), (17, A (vals .u64 16 (F.dg p.2.1))), (18, E n3 0), (19, A (vals .u64 16 (F.dg p.1))), (20, A (vals .u64 16 (F.dg (sm p.2.1 p.1)))), (21, E n4 16), (22, A (vals .u64 16 (F.dg q.2.1))), (23, E n4 0), (24, A (vals .u64 16 (F.dg q.1))), (25, A (vals .u64 16 (F.dg (sm q.2.1 q.1)))), (26, A (vals .u64 16 (F.dg (mm (sm p.2.1 p.1) (sm q.2.1 q.1))))), (7, D (ν 11))]) [(n3, wq p, 111, none), (n4, wq q, 111, none), (n5, vals .u64 16 (F.dg dd7), 58, none), (n6, qn [0, 0, 0, 0], 111, none)] (fun _ => [(11, vals .u64 16 (F.dg 0), 58, some (12, vals .u64 16 (F.dg (mm (sm p.2.1 p.1) (sm q.2.1 q.1)))))]) (fun _ => 0) hO.drew (Rg.ac Rf.fv (Rg.ac (Rf.fpt 0 16 (fun _ => n3) 111 (fun _ => part_wd1 p.1 p.2.1 p.2.2.1 p.2.2.2) (fun D ν _ => rfl) Tryz.underlying58) (Rg.ac Rf.fv (Rg.ac (Rf.fpt 0 0 (fun _ => n3) 111 (fun _ => part_wd0 p.1 p.2.1 p.2.2.1 p.2.2.2) (fun D ν _ => rfl) Tryz.underlying58) (Rg.ac (Rf.fq 68 _ _ (fun D ν w my hO => (rsub_c p.2.1 p.1 hp.y hp.x) w)) (Rg.ac Rf.fv (Rg.ac (Rf.fpt 1 16 (fun _ => n4) 111 (fun _ => part_wd1 q.1 q.2.1 q.2.2.1 q.2.2.2) (fun D ν _ => rfl) Tryz.underlying58) (Rg.ac Rf.fv (Rg.ac (Rf.fpt 1 0 (fun _ => n4) 111 (fun _ => part_wd0 q.1 q.2.1 q.2.2.1 q.2.2.2) (fun D ν _ => rfl) Tryz.underlying58) (Rg.ac (Rf.fq 68 _ _ (fun D ν w my hO => (rsub_c q.2.1 q.1 hq.y hq.x) w)) (Rg.ac (Rf.fq 67 _ _ (fun D ν w my hO => (rmul_c (sm p.2.1 p.1) (sm q.2.1 q.1) (sm_lt _ _) (sm_lt _ _)) w)) (Rg.ac (Rf.ga 0 (fun _ _ => rfl) (fun _ _ => rfl) (fun _ w => al33 rfl w) (fun _ => ft (fit_rn _))) (Rg.ac (Rf.gm 0 11 (fun _ => rfl) (ft (fit_rn _))) Rg.an))))))))))))) ?_
  intro ν w2 hO
  replace hO : Wn w w2 [(n3, wq p, 111), (n4, wq q, 111), (n5, vals .u64 16 (F.dg dd7), 58), (n6, qn [0, 0, 0, 0], 111), ((ν 11), vals .u64 16 (F.dg (mm (sm p.2.1 p.1) (sm q.2.1 q.1))), 58)] := hO
  simp only [qC, qD, qE, Rg.putL, Act.put]
  generalize ν 11 = n7 at hO ⊢
  clear ν
  go_upto_region 2 with (fail)
  refine Rf.pg (fun ν => [(27, E n3 16), (28, A (vals .u64 16 (F.dg p.2.1))), (29, E n3 0), (30, A (vals .u64 16 (F.dg p.1))), (31, A (vals .u64 16 (F.dg (am p.2.1 p.1)))), (32, E n4 16), (33, A (vals .u64 16 (F.dg q.2.1))), (34, E n4 0), (35, A (vals .u64 16 (F.dg q.1))), (36, A (vals .u64 16 (F.dg (am q.2.1 q.1)))), (37, A (vals .u64 16 (F.dg (mm (am p.2.1 p.1) (am q.2.1 q.1))))), (8, D (ν 11))]) [(n3, wq p, 111, none), (n4, wq q, 111, none), (n5, vals .u64 16 (F.dg dd7), 58, none), (n6, qn [0, 0, 0, 0], 111, none), (n7, vals .u64 16 (F.dg (mm (sm p.2.1 p.1) (sm q.2.1 q.1))), 58, none)] (fun _ => [(11, vals .u64 16 (F.dg 0), 58, some (12, vals .u64 16 (F.dg (mm (am p.2.1 p.1) (am q.2.1 q.1)))))]) (fun _ => 0) hO.drew (Rg.ac Rf.fv (Rg.ac (Rf.fpt 0 16 (fun _ => n3) 111 (fun _ => part_wd1 p.1 p.2.1 p.2.2.1 p.2.2.2) (fun D ν _ => rfl) Tryz.underlying58) (Rg.ac Rf.fv (Rg.ac (Rf.fpt 0 0 (fun _ => n3) 111 (fun _ => part_wd0 p.1 p.2.1 p.2.2.1 p.2.2.2) (fun D ν _ => rfl) Tryz.underlying58) (Rg.ac (Rf.fq 70 _ _ (fun D ν w my hO => (radd_c p.2.1 p.1 hp.y hp.x) w)) (Rg.ac Rf.fv (Rg.ac (Rf.fpt 1 16 (fun _ => n4) 111 (fun _ => part_wd1 q.1 q.2.1 q.2.2.1 q.2.2.2) (fun D ν _ => rfl) Tryz.underlying58) (Rg.ac Rf.fv (Rg.ac (Rf.fpt 1 0 (fun _ => n4) 111 (fun _ => part_wd0 q.1 q.2.1 q.2.2.1 q.2.2.2) (fun D ν _ => rfl) Tryz.underlying58) (Rg.ac (Rf.fq 70 _ _ (fun D ν w my hO => (radd_c q.2.1 q.1 hq.y hq.x) w)) (Rg.ac (Rf.fq 67 _ _ (fun D ν w my hO => (rmul_c (am p.2.1 p.1) (am q.2.1 q.1) (am_lt _ _) (am_lt _ _)) w)) (Rg.ac (Rf.ga 0 (fun _ _ => rfl) (fun _ _ => rfl) (fun _ w => al33 rfl w) (fun _ => ft (fit_rn _))) (Rg.ac (Rf.gm 0 11 (fun _ => rfl) (ft (fit_rn _))) Rg.an))))))))))))) ?_
  intro ν w3 hO
  replace hO : Wn w w3 [(n3, wq p, 111), (n4, wq q, 111), (n5, vals .u64 16 (F.dg dd7), 58), (n6, qn [0, 0, 0, 0], 111), (n7, vals .u64 16 (F.dg (mm (sm p.2.1 p.1) (sm q.2.1 q.1))), 58), ((ν 11), vals .u64 16 (F.dg (mm (am p.2.1 p.1) (am q.2.1 q.1))), 58)] := hO
  simp only [qC, qD, qE, Rg.putL, Act.put]
  generalize ν 11 = n8 at hO ⊢
  clear ν
  go_upto_region 3 with (fail)
  refine Rf.pg (fun ν => [(38, E n3 48), (39, A (vals .u64 16 (F.dg p.2.2.2))), (40, A (vals .u64 16 (F.dg dd7))), (41, A (vals .u64 16 (F.dg (mm p.2.2.2 dd7)))), (42, E n4 48), (43, A (vals .u64 16 (F.dg q.2.2.2))), (44, A (vals .u64 16 (F.dg (mm (mm p.2.2.2 dd7) q.2.2.2)))), (9, D (ν 7))]) [(n3, wq p, 111, none), (n4, wq q, 111, none), (n5, vals .u64 16 (F.dg dd7), 58, none), (n6, qn [0, 0, 0, 0], 111, none), (n7, vals .u64 16 (F.dg (mm (sm p.2.1 p.1) (sm q.2.1 q.1))), 58, none), (n8, vals .u64 16 (F.dg (mm (am p.2.1 p.1) (am q.2.1 q.1))), 58, none)] (fun _ => [(7, vals .u64 16 (F.dg 0), 58, some (8, vals .u64 16 (F.dg (mm (mm p.2.2.2 dd7) q.2.2.2))))]) (fun _ => 0) hO.drew (Rg.ac Rf.fv (Rg.ac (Rf.fpt 0 48 (fun _ => n3) 111 (fun _ => part_wd3 p.1 p.2.1 p.2.2.1 p.2.2.2) (fun D ν _ => rfl) Tryz.underlying58) (Rg.ac (Rf.fld 2 (fun _ => n5) (fun _ => vals .u64 16 (F.dg dd7)) (fun D ν _ => rfl) Tryz.underlying58) (Rg.ac (Rf.fq 67 _ _ (fun D ν w my hO => (rmul_c p.2.2.2 dd7 hp.t (am_lt _ _)) w)) (Rg.ac Rf.fv (Rg.ac (Rf.fpt 1 48 (fun _ => n4) 111 (fun _ => part_wd3 q.1 q.2.1 q.2.2.1 q.2.2.2) (fun D ν _ => rfl) Tryz.underlying58) (Rg.ac (Rf.fq 67 _ _ (fun D ν w my hO => (rmul_c (mm p.2.2.2 dd7) q.2.2.2 (mm_lt _ _) hq.t) w)) (Rg.ac (Rf.ga 0 (fun _ _ => rfl) (fun _ _ => rfl) (fun _ w => al33 rfl w) (fun _ => ft (fit_rn _))) (Rg.ac (Rf.gm 0 7 (fun _ => rfl) (ft (fit_rn _))) Rg.an))))))))) ?_
  intro ν w4 hO
  replace hO : Wn w w4 [(n3, wq p, 111), (n4, wq q, 111), (n5, vals .u64 16 (F.dg dd7), 58), (n6, qn [0, 0, 0, 0], 111), (n7, vals .u64 16 (F.dg (mm (sm p.2.1 p.1) (sm q.2.1 q.1))), 58), (n8, vals .u64 16 (F.dg (mm (am p.2.1 p.1) (am q.2.1 q.1))), 58), ((ν 7), vals .u64 16 (F.dg (mm (mm p.2.2.2 dd7) q.2.2.2)), 58)] := hO
  simp only [qC, qD, qE, Rg.putL, Act.put]
  generalize ν 7 = n9 at hO ⊢
  clear ν
  go_upto_region 4 with (fail)
  refine Rg.ps [4, 5, 6] (fun ν => [(45, E n3 32), (46, A (vals .u64 16 (F.dg p.2.2.1))), (47, E n4 32), (48, A (vals .u64 16 (F.dg q.2.2.1))), (49, A (vals .u64 16 (F.dg (mm p.2.2.1 q.2.2.1)))), (10, D (ν 5))]) (OI w (Sq _ (fun ν => [id, ap ((ν 5), vals .u64 16 (F.dg 0), 58), se 7 ((ν 5), vals .u64 16 (F.dg (mm p.2.2.1 q.2.2.1)), 58)]))) (fun _ => 0) hO (Rg.ac nV (Rg.ac (npt 0 0 0 32 (fun _ => n3) 111 (fun _ => part_wd2 p.1 p.2.1 p.2.2.1 p.2.2.2) (t1 0) Tryz.underlying58) (Rg.ac nV (Rg.ac (npt 0 0 1 32 (fun _ => n4) 111 (fun _ => part_wd2 q.1 q.2.1 q.2.2.1 q.2.2.2) (t1 0) Tryz.underlying58) (Rg.ac (sC 0 67 _ _ (fun _ => rmul_c p.2.2.1 q.2.2.1 hp.z hq.z)) (Rg.ac (sn 1 (fun _ => vals .u64 16 (F.dg 0)) 58 (fun _ w => al33 rfl w) (fun _ => ft (fit_rn _))) (Rg.ac (sr 2 7 (fun _ => vals .u64 16 (F.dg (mm p.2.2.1 q.2.2.1))) (fun _ => ft (fit_rn _))) Rg.an))))))) ?_
  intro ν w5 hO
  simp only [OI, Sq, Sg, ap, se, id, qA, qB, qC, qD, qE, qF, qG, Rg.putL, Act.put] at hO ⊢
  generalize ν 5 = n10 at hO ⊢
  clear ν
  go_upto_region 5 with (fail)
  refine Rg.ps [2, 3, 4] (fun ν => [(50, A (vals .u64 16 (F.dg (mm p.2.2.1 q.2.2.1)))), (51, A (vals .u64 16 (F.dg (mm p.2.2.1 q.2.2.1)))), (52, A (vals .u64 16 (F.dg (am (mm p.2.2.1 q.2.2.1) (mm p.2.2.1 q.2.2.1))))), (11, D (ν 3))]) (OI w (Sq _ (fun ν => [id, ap ((ν 3), vals .u64 16 (F.dg 0), 58), se 8 ((ν 3), vals .u64 16 (F.dg (am (mm p.2.2.1 q.2.2.1) (mm p.2.2.1 q.2.2.1))), 58)]))) (fun _ => 0) hO (Rg.ac (nld 0 0 7 (fun _ => n10) (fun _ => vals .u64 16 (F.dg (mm p.2.2.1 q.2.2.1))) (t1 0) Tryz.underlying58) (Rg.ac (nld 0 0 7 (fun _ => n10) (fun _ => vals .u64 16 (F.dg (mm p.2.2.1 q.2.2.1))) (t1 0) Tryz.underlying58) (Rg.ac (sC 0 70 _ _ (fun _ => radd_c (mm p.2.2.1 q.2.2.1) (mm p.2.2.1 q.2.2.1) (mm_lt _ _) (mm_lt _ _))) (Rg.ac (sn 1 (fun _ => vals .u64 16 (F.dg 0)) 58 (fun _ w => al33 rfl w) (fun _ => ft (fit_rn _))) (Rg.ac (sr 2 8 (fun _ => vals .u64 16 (F.dg (am (mm p.2.2.1 q.2.2.1) (mm p.2.2.1 q.2.2.1)))) (fun _ => ft (fit_rn _))) Rg.an))))) ?_
  intro ν w6 hO
  simp only [OI, Sq, Sg, ap, se, id, qA, qB, qC, qD, qE, qF, qG, Rg.putL, Act.put] at hO ⊢
  generalize ν 3 = n11 at hO ⊢
  clear ν
  go_upto_region 6 with (fail)
  refine Rg.ps [2, 3, 4] (fun ν => [(53, A (vals .u64 16 (F.dg (mm (am p.2.1 p.1) (am q.2.1 q.1))))), (54, A (vals .u64 16 (F.dg (mm (sm p.2.1 p.1) (sm q.2.1 q.1))))), (55, A (vals .u64 16 (F.dg (sm (mm (am p.2.1 p.1) (am q.2.1 q.1)) (mm (sm p.2.1 p.1) (sm q.2.1 q.1)))))), (12, D (ν 3))]) (OI w (Sq _ (fun ν => [id, ap ((ν 3), vals .u64 16 (F.dg 0), 58), se 9 ((ν 3), vals .u64 16 (F.dg (sm (mm (am p.2.1 p.1) (am q.2.1 q.1)) (mm (sm p.2.1 p.1) (sm q.2.1 q.1)))), 58)]))) (fun _ => 0) hO (Rg.ac (nld 0 0 5 (fun _ => n8) (fun _ => vals .u64 16 (F.dg (mm (am p.2.1 p.1) (am q.2.1 q.1)))) (t1 0) Tryz.underlying58) (Rg.ac (nld 0 0 4 (fun _ => n7) (fun _ => vals .u64 16 (F.dg (mm (sm p.2.1 p.1) (sm q.2.1 q.1)))) (t1 0) Tryz.underlying58) (Rg.ac (sC 0 68 _ _ (fun _ => rsub_c (mm (am p.2.1 p.1) (am q.2.1 q.1)) (mm (sm p.2.1 p.1) (sm q.2.1 q.1)) (mm_lt _ _) (mm_lt _ _))) (Rg.ac (sn 1 (fun _ => vals .u64 16 (F.dg 0)) 58 (fun _ w => al33 rfl w) (fun _ => ft (fit_rn _))) (Rg.ac (sr 2 9 (fun _ => vals .u64 16 (F.dg (sm (mm (am p.2.1 p.1) (am q.2.1 q.1)) (mm (sm p.2.1 p.1) (sm q.2.1 q.1))))) (fun _ => ft (fit_rn _))) Rg.an))))) ?_
  intro ν w7 hO
  simp only [OI, Sq, Sg, ap, se, id, qA, qB, qC, qD, qE, qF, qG, Rg.putL, Act.put] at hO ⊢
  generalize ν 3 = n12 at hO ⊢
  clear ν
  go_upto_region 7 with (fail)
  refine Rg.ps [2, 3, 4] (fun ν => [(56, A (vals .u64 16 (F.dg (am (mm p.2.2.1 q.2.2.1) (mm p.2.2.1 q.2.2.1))))), (57, A (vals .u64 16 (F.dg (mm (mm p.2.2.2 dd7) q.2.2.2)))), (58, A (vals .u64 16 (F.dg (sm (am (mm p.2.2.1 q.2.2.1) (mm p.2.2.1 q.2.2.1)) (mm (mm p.2.2.2 dd7) q.2.2.2))))), (13, D (ν 3))]) (OI w (Sq _ (fun ν => [id, ap ((ν 3), vals .u64 16 (F.dg 0), 58), se 10 ((ν 3), vals .u64 16 (F.dg (sm (am (mm p.2.2.1 q.2.2.1) (mm p.2.2.1 q.2.2.1)) (mm (mm p.2.2.2 dd7) q.2.2.2))), 58)]))) (fun _ => 0) hO (Rg.ac (nld 0 0 8 (fun _ => n11) (fun _ => vals .u64 16 (F.dg (am (mm p.2.2.1 q.2.2.1) (mm p.2.2.1 q.2.2.1)))) (t1 0) Tryz.underlying58) (Rg.ac (nld 0 0 6 (fun _ => n9) (fun _ => vals .u64 16 (F.dg (mm (mm p.2.2.2 dd7) q.2.2.2))) (t1 0) Tryz.underlying58) (Rg.ac (sC 0 68 _ _ (fun _ => rsub_c (am (mm p.2.2.1 q.2.2.1) (mm p.2.2.1 q.2.2.1)) (mm (mm p.2.2.2 dd7) q.2.2.2) (am_lt _ _) (mm_lt _ _))) (Rg.ac (sn 1 (fun _ => vals .u64 16 (F.dg 0)) 58 (fun _ w => al33 rfl w) (fun _ => ft (fit_rn _))) (Rg.ac (sr 2 10 (fun _ => vals .u64 16 (F.dg (sm (am (mm p.2.2.1 q.2.2.1) (mm p.2.2.1 q.2.2.1)) (mm (mm p.2.2.2 dd7) q.2.2.2)))) (fun _ => ft (fit_rn _))) Rg.an))))) ?_
  intro ν w8 hO
  simp only [OI, Sq, Sg, ap, se, id, qA, qB, qC, qD, qE, qF, qG, Rg.putL, Act.put] at hO ⊢
  generalize ν 3 = n13 at hO ⊢
  clear ν
  go_upto_region 8 with (fail)
  refine Rg.ps [2, 3, 4] (fun ν => [(59, A (vals .u64 16 (F.dg (am (mm p.2.2.1 q.2.2.1) (mm p.2.2.1 q.2.2.1))))), (60, A (vals .u64 16 (F.dg (mm (mm p.2.2.2 dd7) q.2.2.2)))), (61, A (vals .u64 16 (F.dg (am (am (mm p.2.2.1 q.2.2.1) (mm p.2.2.1 q.2.2.1)) (mm (mm p.2.2.2 dd7) q.2.2.2))))), (14, D (ν 3))]) (OI w (Sq _ (fun ν => [id, ap ((ν 3), vals .u64 16 (F.dg 0), 58), se 11 ((ν 3), vals .u64 16 (F.dg (am (am (mm p.2.2.1 q.2.2.1) (mm p.2.2.1 q.2.2.1)) (mm (mm p.2.2.2 dd7) q.2.2.2))), 58)]))) (fun _ => 0) hO (Rg.ac (nld 0 0 8 (fun _ => n11) (fun _ => vals .u64 16 (F.dg (am (mm p.2.2.1 q.2.2.1) (mm p.2.2.1 q.2.2.1)))) (t1 0) Tryz.underlying58) (Rg.ac (nld 0 0 6 (fun _ => n9) (fun _ => vals .u64 16 (F.dg (mm (mm p.2.2.2 dd7) q.2.2.2))) (t1 0) Tryz.underlying58) (Rg.ac (sC 0 70 _ _ (fun _ => radd_c (am (mm p.2.2.1 q.2.2.1) (mm p.2.2.1 q.2.2.1)) (mm (mm p.2.2.2 dd7) q.2.2.2) (am_lt _ _) (mm_lt _ _))) (Rg.ac (sn 1 (fun _ => vals .u64 16 (F.dg 0)) 58 (fun _ w => al33 rfl w) (fun _ => ft (fit_rn _))) (Rg.ac (sr 2 11 (fun _ => vals .u64 16 (F.dg (am (am (mm p.2.2.1 q.2.2.1) (mm p.2.2.1 q.2.2.1)) (mm (mm p.2.2.2 dd7) q.2.2.2)))) (fun _ => ft (fit_rn _))) Rg.an))))) ?_
  intro ν w9 hO
  simp only [OI, Sq, Sg, ap, se, id, qA, qB, qC, qD, qE, qF, qG, Rg.putL, Act.put] at hO ⊢
  generalize ν 3 = n14 at hO ⊢
  clear ν
  go_upto_region 9 with (fail)
  refine Rg.ps [2, 3, 4] (fun ν => [(62, A (vals .u64 16 (F.dg (mm (am p.2.1 p.1) (am q.2.1 q.1))))), (63, A (vals .u64 16 (F.dg (mm (sm p.2.1 p.1) (sm q.2.1 q.1))))), (64, A (vals .u64 16 (F.dg (am (mm (am p.2.1 p.1) (am q.2.1 q.1)) (mm (sm p.2.1 p.1) (sm q.2.1 q.1)))))), (15, D (ν 3))]) (OI w (Sq _ (fun ν => [id, ap ((ν 3), vals .u64 16 (F.dg 0), 58), se 12 ((ν 3), vals .u64 16 (F.dg (am (mm (am p.2.1 p.1) (am q.2.1 q.1)) (mm (sm p.2.1 p.1) (sm q.2.1 q.1)))), 58)]))) (fun _ => 0) hO (Rg.ac (nld 0 0 5 (fun _ => n8) (fun _ => vals .u64 16 (F.dg (mm (am p.2.1 p.1) (am q.2.1 q.1)))) (t1 0) Tryz.underlying58) (Rg.ac (nld 0 0 4 (fun _ => n7) (fun _ => vals .u64 16 (F.dg (mm (sm p.2.1 p.1) (sm q.2.1 q.1)))) (t1 0) Tryz.underlying58) (Rg.ac (sC 0 70 _ _ (fun _ => radd_c (mm (am p.2.1 p.1) (am q.2.1 q.1)) (mm (sm p.2.1 p.1) (sm q.2.1 q.1)) (mm_lt _ _) (mm_lt _ _))) (Rg.ac (sn 1 (fun _ => vals .u64 16 (F.dg 0)) 58 (fun _ w => al33 rfl w) (fun _ => ft (fit_rn _))) (Rg.ac (sr 2 12 (fun _ => vals .u64 16 (F.dg (am (mm (am p.2.1 p.1) (am q.2.1 q.1)) (mm (sm p.2.1 p.1) (sm q.2.1 q.1))))) (fun _ => ft (fit_rn _))) Rg.an))))) ?_
  intro ν w10 hO
  simp only [OI, Sq, Sg, ap, se, id, qA, qB, qC, qD, qE, qF, qG, Rg.putL, Act.put] at hO ⊢
  generalize ν 3 = n15 at hO ⊢
  clear ν
  go_upto_region 10 with (fail)
  refine Rg.pd [2, 5, 8, 11, 13] (fun _ => [(65, A (vals .u64 16 (F.dg (sm (mm (am p.2.1 p.1) (am q.2.1 q.1)) (mm (sm p.2.1 p.1) (sm q.2.1 q.1)))))), (66, A (vals .u64 16 (F.dg (sm (am (mm p.2.2.1 q.2.2.1) (mm p.2.2.1 q.2.2.1)) (mm (mm p.2.2.2 dd7) q.2.2.2))))), (67, A (vals .u64 16 (F.dg (mm (sm (mm (am p.2.1 p.1) (am q.2.1 q.1)) (mm (sm p.2.1 p.1) (sm q.2.1 q.1))) (sm (am (mm p.2.2.1 q.2.2.1) (mm p.2.2.1 q.2.2.1)) (mm (mm p.2.2.2 dd7) q.2.2.2)))))), (68, A (vals .u64 16 (F.dg (am (am (mm p.2.2.1 q.2.2.1) (mm p.2.2.1 q.2.2.1)) (mm (mm p.2.2.2 dd7) q.2.2.2))))), (69, A (vals .u64 16 (F.dg (am (mm (am p.2.1 p.1) (am q.2.1 q.1)) (mm (sm p.2.1 p.1) (sm q.2.1 q.1)))))), (70, A (vals .u64 16 (F.dg (mm (am (am (mm p.2.2.1 q.2.2.1) (mm p.2.2.1 q.2.2.1)) (mm (mm p.2.2.2 dd7) q.2.2.2)) (am (mm (am p.2.1 p.1) (am q.2.1 q.1)) (mm (sm p.2.1 p.1) (sm q.2.1 q.1))))))), (71, A (vals .u64 16 (F.dg (sm (am (mm p.2.2.1 q.2.2.1) (mm p.2.2.1 q.2.2.1)) (mm (mm p.2.2.2 dd7) q.2.2.2))))), (72, A (vals .u64 16 (F.dg (am (am (mm p.2.2.1 q.2.2.1) (mm p.2.2.1 q.2.2.1)) (mm (mm p.2.2.2 dd7) q.2.2.2))))), (73, A (vals .u64 16 (F.dg (mm (sm (am (mm p.2.2.1 q.2.2.1) (mm p.2.2.1 q.2.2.1)) (mm (mm p.2.2.2 dd7) q.2.2.2)) (am (am (mm p.2.2.1 q.2.2.1) (mm p.2.2.1 q.2.2.1)) (mm (mm p.2.2.2 dd7) q.2.2.2)))))), (74, A (vals .u64 16 (F.dg (sm (mm (am p.2.1 p.1) (am q.2.1 q.1)) (mm (sm p.2.1 p.1) (sm q.2.1 q.1)))))), (75, A (vals .u64 16 (F.dg (am (mm (am p.2.1 p.1) (am q.2.1 q.1)) (mm (sm p.2.1 p.1) (sm q.2.1 q.1)))))), (76, A (vals .u64 16 (F.dg (mm (sm (mm (am p.2.1 p.1) (am q.2.1 q.1)) (mm (sm p.2.1 p.1) (sm q.2.1 q.1))) (am (mm (am p.2.1 p.1) (am q.2.1 q.1)) (mm (sm p.2.1 p.1) (sm q.2.1 q.1))))))), (77, A (qn [mm (sm (mm (am p.2.1 p.1) (am q.2.1 q.1)) (mm (sm p.2.1 p.1) (sm q.2.1 q.1))) (sm (am (mm p.2.2.1 q.2.2.1) (mm p.2.2.1 q.2.2.1)) (mm (mm p.2.2.2 dd7) q.2.2.2)), mm (am (am (mm p.2.2.1 q.2.2.1) (mm p.2.2.1 q.2.2.1)) (mm (mm p.2.2.2 dd7) q.2.2.2)) (am (mm (am p.2.1 p.1) (am q.2.1 q.1)) (mm (sm p.2.1 p.1) (sm q.2.1 q.1))), mm (sm (am (mm p.2.2.1 q.2.2.1) (mm p.2.2.1 q.2.2.1)) (mm (mm p.2.2.2 dd7) q.2.2.2)) (am (am (mm p.2.2.1 q.2.2.1) (mm p.2.2.1 q.2.2.1)) (mm (mm p.2.2.2 dd7) q.2.2.2)), mm (sm (mm (am p.2.1 p.1) (am q.2.1 q.1)) (mm (sm p.2.1 p.1) (sm q.2.1 q.1))) (am (mm (am p.2.1 p.1) (am q.2.1 q.1)) (mm (sm p.2.1 p.1) (sm q.2.1 q.1)))]))]) (OI w (Sq _ (fun _ => [id, id, id, id, se 3 (n6, qn [mm (sm (mm (am p.2.1 p.1) (am q.2.1 q.1)) (mm (sm p.2.1 p.1) (sm q.2.1 q.1))) (sm (am (mm p.2.2.1 q.2.2.1) (mm p.2.2.1 q.2.2.1)) (mm (mm p.2.2.2 dd7) q.2.2.2)), mm (am (am (mm p.2.2.1 q.2.2.1) (mm p.2.2.1 q.2.2.1)) (mm (mm p.2.2.2 dd7) q.2.2.2)) (am (mm (am p.2.1 p.1) (am q.2.1 q.1)) (mm (sm p.2.1 p.1) (sm q.2.1 q.1))), mm (sm (am (mm p.2.2.1 q.2.2.1) (mm p.2.2.1 q.2.2.1)) (mm (mm p.2.2.2 dd7) q.2.2.2)) (am (am (mm p.2.2.1 q.2.2.1) (mm p.2.2.1 q.2.2.1)) (mm (mm p.2.2.2 dd7) q.2.2.2)), mm (sm (mm (am p.2.1 p.1) (am q.2.1 q.1)) (mm (sm p.2.1 p.1) (sm q.2.1 q.1))) (am (mm (am p.2.1 p.1) (am q.2.1 q.1)) (mm (sm p.2.1 p.1) (sm q.2.1 q.1)))], 111)]))) (fun _ => 0) hO.drew (Rg.ac (nld 0 0 9 (fun _ => n12) (fun _ => vals .u64 16 (F.dg (sm (mm (am p.2.1 p.1) (am q.2.1 q.1)) (mm (sm p.2.1 p.1) (sm q.2.1 q.1))))) (t1 0) Tryz.underlying58) (Rg.ac (nld 0 0 10 (fun _ => n13) (fun _ => vals .u64 16 (F.dg (sm (am (mm p.2.2.1 q.2.2.1) (mm p.2.2.1 q.2.2.1)) (mm (mm p.2.2.2 dd7) q.2.2.2)))) (t1 0) Tryz.underlying58) (Rg.ac (sC 0 67 _ _ (fun _ => rmul_c (sm (mm (am p.2.1 p.1) (am q.2.1 q.1)) (mm (sm p.2.1 p.1) (sm q.2.1 q.1))) (sm (am (mm p.2.2.1 q.2.2.1) (mm p.2.2.1 q.2.2.1)) (mm (mm p.2.2.2 dd7) q.2.2.2)) (sm_lt _ _) (sm_lt _ _))) (Rg.ac (nld 0 1 11 (fun _ => n14) (fun _ => vals .u64 16 (F.dg (am (am (mm p.2.2.1 q.2.2.1) (mm p.2.2.1 q.2.2.1)) (mm (mm p.2.2.2 dd7) q.2.2.2)))) (t2 0 1 (t1 1)) Tryz.underlying58) (Rg.ac (nld 0 1 12 (fun _ => n15) (fun _ => vals .u64 16 (F.dg (am (mm (am p.2.1 p.1) (am q.2.1 q.1)) (mm (sm p.2.1 p.1) (sm q.2.1 q.1))))) (t2 0 1 (t1 1)) Tryz.underlying58) (Rg.ac (sC 1 67 _ _ (fun _ => rmul_c (am (am (mm p.2.2.1 q.2.2.1) (mm p.2.2.1 q.2.2.1)) (mm (mm p.2.2.2 dd7) q.2.2.2)) (am (mm (am p.2.1 p.1) (am q.2.1 q.1)) (mm (sm p.2.1 p.1) (sm q.2.1 q.1))) (am_lt _ _) (am_lt _ _))) (Rg.ac (nld 0 2 10 (fun _ => n13) (fun _ => vals .u64 16 (F.dg (sm (am (mm p.2.2.1 q.2.2.1) (mm p.2.2.1 q.2.2.1)) (mm (mm p.2.2.2 dd7) q.2.2.2)))) (t2 0 2 (t2 1 2 (t1 2))) Tryz.underlying58) (Rg.ac (nld 0 2 11 (fun _ => n14) (fun _ => vals .u64 16 (F.dg (am (am (mm p.2.2.1 q.2.2.1) (mm p.2.2.1 q.2.2.1)) (mm (mm p.2.2.2 dd7) q.2.2.2)))) (t2 0 2 (t2 1 2 (t1 2))) Tryz.underlying58) (Rg.ac (sC 2 67 _ _ (fun _ => rmul_c (sm (am (mm p.2.2.1 q.2.2.1) (mm p.2.2.1 q.2.2.1)) (mm (mm p.2.2.2 dd7) q.2.2.2)) (am (am (mm p.2.2.1 q.2.2.1) (mm p.2.2.1 q.2.2.1)) (mm (mm p.2.2.2 dd7) q.2.2.2)) (sm_lt _ _) (am_lt _ _))) (Rg.ac (nld 0 3 9 (fun _ => n12) (fun _ => vals .u64 16 (F.dg (sm (mm (am p.2.1 p.1) (am q.2.1 q.1)) (mm (sm p.2.1 p.1) (sm q.2.1 q.1))))) (t2 0 3 (t2 1 3 (t2 2 3 (t1 3)))) Tryz.underlying58) (Rg.ac (nld 0 3 12 (fun _ => n15) (fun _ => vals .u64 16 (F.dg (am (mm (am p.2.1 p.1) (am q.2.1 q.1)) (mm (sm p.2.1 p.1) (sm q.2.1 q.1))))) (t2 0 3 (t2 1 3 (t2 2 3 (t1 3)))) Tryz.underlying58) (Rg.ac (sC 3 67 _ _ (fun _ => rmul_c (sm (mm (am p.2.1 p.1) (am q.2.1 q.1)) (mm (sm p.2.1 p.1) (sm q.2.1 q.1))) (am (mm (am p.2.1 p.1) (am q.2.1 q.1)) (mm (sm p.2.1 p.1) (sm q.2.1 q.1))) (sm_lt _ _) (am_lt _ _))) (Rg.ac (nx (fun _ => A (qn [mm (sm (mm (am p.2.1 p.1) (am q.2.1 q.1)) (mm (sm p.2.1 p.1) (sm q.2.1 q.1))) (sm (am (mm p.2.2.1 q.2.2.1) (mm p.2.2.1 q.2.2.1)) (mm (mm p.2.2.2 dd7) q.2.2.2)), mm (am (am (mm p.2.2.1 q.2.2.1) (mm p.2.2.1 q.2.2.1)) (mm (mm p.2.2.2 dd7) q.2.2.2)) (am (mm (am p.2.1 p.1) (am q.2.1 q.1)) (mm (sm p.2.1 p.1) (sm q.2.1 q.1))), mm (sm (am (mm p.2.2.1 q.2.2.1) (mm p.2.2.1 q.2.2.1)) (mm (mm p.2.2.2 dd7) q.2.2.2)) (am (am (mm p.2.2.1 q.2.2.1) (mm p.2.2.1 q.2.2.1)) (mm (mm p.2.2.2 dd7) q.2.2.2)), mm (sm (mm (am p.2.1 p.1) (am q.2.1 q.1)) (mm (sm p.2.1 p.1) (sm q.2.1 q.1))) (am (mm (am p.2.1 p.1) (am q.2.1 q.1)) (mm (sm p.2.1 p.1) (sm q.2.1 q.1)))])) (fun _ w => run_bd 111 _ rfl [(0, A (vals .u64 16 (F.dg (mm (sm (mm (am p.2.1 p.1) (am q.2.1 q.1)) (mm (sm p.2.1 p.1) (sm q.2.1 q.1))) (sm (am (mm p.2.2.1 q.2.2.1) (mm p.2.2.1 q.2.2.1)) (mm (mm p.2.2.2 dd7) q.2.2.2)))))), (1, A (vals .u64 16 (F.dg (mm (am (am (mm p.2.2.1 q.2.2.1) (mm p.2.2.1 q.2.2.1)) (mm (mm p.2.2.2 dd7) q.2.2.2)) (am (mm (am p.2.1 p.1) (am q.2.1 q.1)) (mm (sm p.2.1 p.1) (sm q.2.1 q.1))))))), (2, A (vals .u64 16 (F.dg (mm (sm (am (mm p.2.2.1 q.2.2.1) (mm p.2.2.1 q.2.2.1)) (mm (mm p.2.2.2 dd7) q.2.2.2)) (am (am (mm p.2.2.1 q.2.2.1) (mm p.2.2.1 q.2.2.1)) (mm (mm p.2.2.2 dd7) q.2.2.2)))))), (3, A (vals .u64 16 (F.dg (mm (sm (mm (am p.2.1 p.1) (am q.2.1 q.1)) (mm (sm p.2.1 p.1) (sm q.2.1 q.1))) (am (mm (am p.2.1 p.1) (am q.2.1 q.1)) (mm (sm p.2.1 p.1) (sm q.2.1 q.1)))))))] (by kernel_rfl) _ (bd_wd _ _ _ _) w)) (Rg.ac (sr 4 3 (fun _ => qn [mm (sm (mm (am p.2.1 p.1) (am q.2.1 q.1)) (mm (sm p.2.1 p.1) (sm q.2.1 q.1))) (sm (am (mm p.2.2.1 q.2.2.1) (mm p.2.2.1 q.2.2.1)) (mm (mm p.2.2.2 dd7) q.2.2.2)), mm (am (am (mm p.2.2.1 q.2.2.1) (mm p.2.2.1 q.2.2.1)) (mm (mm p.2.2.2 dd7) q.2.2.2)) (am (mm (am p.2.1 p.1) (am q.2.1 q.1)) (mm (sm p.2.1 p.1) (sm q.2.1 q.1))), mm (sm (am (mm p.2.2.1 q.2.2.1) (mm p.2.2.1 q.2.2.1)) (mm (mm p.2.2.2 dd7) q.2.2.2)) (am (am (mm p.2.2.1 q.2.2.1) (mm p.2.2.1 q.2.2.1)) (mm (mm p.2.2.2 dd7) q.2.2.2)), mm (sm (mm (am p.2.1 p.1) (am q.2.1 q.1)) (mm (sm p.2.1 p.1) (sm q.2.1 q.1))) (am (mm (am p.2.1 p.1) (am q.2.1 q.1)) (mm (sm p.2.1 p.1) (sm q.2.1 q.1)))]) (fun _ => ft (fit_wd _ _ _ _))) Rg.an)))))))))))))) ?_
  intro ν w11 hO
  simp only [OI, Sq, Sg, se, id, qC, qD, qE, qF, qG, Rg.putL, Act.put] at hO ⊢
  clear ν
  go_wp2_with fail
  refine bodyPost_ret (v := .agg (qn [mm (sm (mm (am p.2.1 p.1) (am q.2.1 q.1)) (mm (sm p.2.1 p.1) (sm q.2.1 q.1))) (sm (am (mm p.2.2.1 q.2.2.1) (mm p.2.2.1 q.2.2.1)) (mm (mm p.2.2.2 dd7) q.2.2.2)), mm (am (am (mm p.2.2.1 q.2.2.1) (mm p.2.2.1 q.2.2.1)) (mm (mm p.2.2.2 dd7) q.2.2.2)) (am (mm (am p.2.1 p.1) (am q.2.1 q.1)) (mm (sm p.2.1 p.1) (sm q.2.1 q.1))), mm (sm (am (mm p.2.2.1 q.2.2.1) (mm p.2.2.1 q.2.2.1)) (mm (mm p.2.2.2 dd7) q.2.2.2)) (am (am (mm p.2.2.1 q.2.2.1) (mm p.2.2.1 q.2.2.1)) (mm (mm p.2.2.2 dd7) q.2.2.2)), mm (sm (mm (am p.2.1 p.1) (am q.2.1 q.1)) (mm (sm p.2.1 p.1) (sm q.2.1 q.1))) (am (mm (am p.2.1 p.1) (am q.2.1 q.1)) (mm (sm p.2.1 p.1) (sm q.2.1 q.1)))])) (results_cell_row Tryz.results76 _ _ n6 111 _ (0, 0) _ rfl (hO.row 3 rfl) Tryz.underlying111 rfl (fit_wd _ _ _ _).size) rfl ⟨rfl, hO.low⟩
end Go.Proofs.YtbpmakegimgbpaaGreatDoor
namespace Go.Proofs.YtbpmakegimgbpaaGreatDoor
set_option maxRecDepth 100000
open F Go.RowKit Rg

theorem bit_down (n k : Nat) : 2 * (n / 2 ^ (k + 1)) + (n.testBit k).toNat = n / 2 ^ k := by
  rw [Nat.toNat_testBit, Nat.pow_succ, ← Nat.div_div_eq_div_mul]
  omega
theorem bit_top (f : Nat → Nat) (hf : ∀ i, f i < 256) : (nb f 32).testBit 255 = decide (128 ≤ f 31) := by
  rw [nb_bit f hf 32 255 (by omega)]
  have := (by decide +kernel : ∀ i : Fin 256, i.val.testBit 7 = decide (128 ≤ i.val)) ⟨f 31, hf 31⟩
  exact this
set_option maxHeartbeats 8000000 in
theorem rmul_p (f : Nat → Nat) {P : Nat × Nat} (hf : ∀ i, f i < 256) (hP : Ok7 P) (w : World) : Ret 31 #[.agg (vals .u8 32 f), .agg (rp P)] w (.agg (rp (mul7 P (nb f 32)))) := by
  go_enter Tryz.func31, Tryz.ntmps31
  have hO := Wn.start w
  go_upto_region 0 with (fail)
  refine Rg.ps [0, 1, 2] (fun ν => [(2, D (ν 0)), (3, D (ν 1)), (4, D (ν 2))]) (OI w (Sq _ (fun ν => [ap ((ν 0), vals .u8 32 f, 22), ap ((ν 1), rp P, 60), ap ((ν 2), qn [0, 0], 60)]))) (fun _ => 0) hO (Rg.ac (sn 0 (fun _ => vals .u8 32 f) 22 (fun _ w => run_box 22 _ rfl _ (by kernel_rfl) w) (fun _ => ft (fit_by _))) (Rg.ac (sn 1 (fun _ => rp P) 60 (fun _ w => run_box 60 _ rfl _ (by kernel_rfl) w) (fun _ => ft (fit_rp _ _))) (Rg.ac (sn 2 (fun _ => qn [0, 0]) 60 (fun _ w => al35 rfl w) (fun _ => ft (fit_rp _ _))) Rg.an))) ?_
  intro ν w1 hO
  simp only [OI, Sq, Sg, ap, qA, qB, qC, qD, qE, qF, qG, Rg.putL, Act.put] at hO ⊢
  generalize ν 0 = n2 at hO ⊢
  generalize ν 1 = n3 at hO ⊢
  generalize ν 2 = n4 at hO ⊢
  clear ν
  go_upto_region 1 with (fail)
  refine Rg.ps [0, 1, 2, 3, 4] (fun ν => [(11, A (vals .u64 16 (F.dg d7N))), (12, A (vals .u64 16 (F.dg d7N))), (13, A (vals .u64 16 (F.dg (am d7N d7N)))), (5, D (ν 3))]) (OI w (Sq _ (fun ν => [id, id, id, ap ((ν 3), vals .u64 16 (F.dg 0), 58), se 3 ((ν 3), vals .u64 16 (F.dg (am d7N d7N)), 58)]))) (fun _ => 0) hO (Rg.ac (sC 0 71 _ _ (fun _ => rd_c)) (Rg.ac (sC 1 71 _ _ (fun _ => rd_c)) (Rg.ac (sC 2 70 _ _ (fun _ => radd_c d7N d7N d7_lt d7_lt)) (Rg.ac (sn 3 (fun _ => vals .u64 16 (F.dg 0)) 58 (fun _ w => al33 rfl w) (fun _ => ft (fit_rn _))) (Rg.ac (sr 4 3 (fun _ => vals .u64 16 (F.dg (am d7N d7N))) (fun _ => ft (fit_rn _))) Rg.an))))) ?_
  intro ν w2 hO
  simp only [OI, Sq, Sg, ap, se, id, qA, qB, qC, qD, qE, qF, qG, Rg.putL, Act.put] at hO ⊢
  generalize ν 3 = n5 at hO ⊢
  clear ν
  replace hO : Wn w w2 [(n2, vals .u8 32 f, 22), (n3, rp P, 60), (n4, qn [0, 0], 60), (n5, vals .u64 16 (F.dg dd7), 58)] := hO
  go_upto_region 2 with (fail)
  refine Rg.ps [0, 1, 2] (fun ν => [(14, A (vals .u64 16 (F.dg 1))), (6, D (ν 1))]) (OI w (Sq _ (fun ν => [id, ap ((ν 1), vals .u64 16 (F.dg 0), 58), se 4 ((ν 1), vals .u64 16 (F.dg 1), 58)]))) (fun _ => 0) hO (Rg.ac (sC 0 69 _ _ (fun _ => rof_c 1 (by omega))) (Rg.ac (sn 1 (fun _ => vals .u64 16 (F.dg 0)) 58 (fun _ w => al33 rfl w) (fun _ => ft (fit_rn _))) (Rg.ac (sr 2 4 (fun _ => vals .u64 16 (F.dg 1)) (fun _ => ft (fit_rn _))) Rg.an))) ?_
  intro ν w3 hO
  simp only [OI, Sq, Sg, ap, se, id, qA, qB, qC, qD, qE, qF, qG, Rg.putL, Act.put] at hO ⊢
  generalize ν 1 = n6 at hO ⊢
  clear ν
  go_upto_region 3 with (fail)
  refine Rf.pg (fun ν => [(15, E n3 0), (16, A (vals .u64 16 (F.dg P.1))), (17, E n3 16), (18, A (vals .u64 16 (F.dg P.2))), (19, A (vals .u64 16 (F.dg 1))), (20, E n3 0), (21, A (vals .u64 16 (F.dg P.1))), (22, E n3 16), (23, A (vals .u64 16 (F.dg P.2))), (24, A (vals .u64 16 (F.dg (mm P.1 P.2)))), (25, A (qn [P.1, P.2, 1, mm P.1 P.2])), (7, D (ν 11))]) [(n2, vals .u8 32 f, 22, none), (n3, rp P, 60, none), (n4, qn [0, 0], 60, none), (n5, vals .u64 16 (F.dg dd7), 58, none), (n6, vals .u64 16 (F.dg 1), 58, none)] (fun _ => [(11, qn [0, 0, 0, 0], 111, some (12, qn [P.1, P.2, 1, mm P.1 P.2]))]) (fun _ => 0) hO.drew (Rg.ac Rf.fv (Rg.ac (Rf.fpt 1 0 (fun _ => n3) 60 (fun _ => part_rp0 P.1 P.2) (fun D ν _ => rfl) Tryz.underlying58) (Rg.ac Rf.fv (Rg.ac (Rf.fpt 1 16 (fun _ => n3) 60 (fun _ => part_rp1 P.1 P.2) (fun D ν _ => rfl) Tryz.underlying58) (Rg.ac (Rf.fld 4 (fun _ => n6) (fun _ => vals .u64 16 (F.dg 1)) (fun D ν _ => rfl) Tryz.underlying58) (Rg.ac Rf.fv (Rg.ac (Rf.fpt 1 0 (fun _ => n3) 60 (fun _ => part_rp0 P.1 P.2) (fun D ν _ => rfl) Tryz.underlying58) (Rg.ac Rf.fv (Rg.ac (Rf.fpt 1 16 (fun _ => n3) 60 (fun _ => part_rp1 P.1 P.2) (fun D ν _ => rfl) Tryz.underlying58) (Rg.ac (Rf.fq 67 _ _ (fun D ν w my hO => (rmul_c P.1 P.2 hP.x hP.y) w)) (Rg.ac (Rf.fx (fun _ => A (qn [P.1, P.2, 1, mm P.1 P.2])) (fun _ w => run_bd 111 _ rfl [(0, A (vals .u64 16 (F.dg P.1))), (1, A (vals .u64 16 (F.dg P.2))), (2, A (vals .u64 16 (F.dg 1))), (3, A (vals .u64 16 (F.dg (mm P.1 P.2))))] (by kernel_rfl) _ (bd_wd _ _ _ _) w)) (Rg.ac (Rf.ga 0 (fun _ _ => rfl) (fun _ _ => rfl) (fun _ w => al91 rfl w) (fun _ => ft (fit_wd _ _ _ _))) (Rg.ac (Rf.gm 0 11 (fun _ => rfl) (ft (fit_wd _ _ _ _))) Rg.an))))))))))))) ?_
  intro ν w4 hO
  replace hO : Wn w w4 [(n2, vals .u8 32 f, 22), (n3, rp P, 60), (n4, qn [0, 0], 60), (n5, vals .u64 16 (F.dg dd7), 58), (n6, vals .u64 16 (F.dg 1), 58), ((ν 11), qn [P.1, P.2, 1, mm P.1 P.2], 111)] := hO
  simp only [qC, qD, qE, Rg.putL, Act.put]
  generalize ν 11 = n7 at hO ⊢
  clear ν
  replace hO : Wn w w4 [(n2, vals .u8 32 f, 22), (n3, rp P, 60), (n4, qn [0, 0], 60), (n5, vals .u64 16 (F.dg dd7), 58), (n6, vals .u64 16 (F.dg 1), 58), (n7, wq (q4 P), 111)] := hO
  go_upto_region 4 with (fail)
  refine Rf.pg (fun ν => [(26, A (vals .u64 16 (F.dg 0))), (27, A (vals .u64 16 (F.dg 1))), (28, A (vals .u64 16 (F.dg 1))), (29, A (vals .u64 16 (F.dg 0))), (30, A (qn [0, 1, 1, 0])), (8, D (ν 5))]) [(n2, vals .u8 32 f, 22, none), (n3, rp P, 60, none), (n4, qn [0, 0], 60, none), (n5, vals .u64 16 (F.dg dd7), 58, none), (n6, vals .u64 16 (F.dg 1), 58, none), (n7, wq (q4 P), 111, none)] (fun _ => [(5, qn [0, 0, 0, 0], 111, some (6, qn [0, 1, 1, 0]))]) (fun _ => 0) hO.drew (Rg.ac (Rf.fq 69 _ _ (fun D ν w my hO => (rof_c 0 (by omega)) w)) (Rg.ac (Rf.fld 4 (fun _ => n6) (fun _ => vals .u64 16 (F.dg 1)) (fun D ν _ => rfl) Tryz.underlying58) (Rg.ac (Rf.fld 4 (fun _ => n6) (fun _ => vals .u64 16 (F.dg 1)) (fun D ν _ => rfl) Tryz.underlying58) (Rg.ac (Rf.fq 69 _ _ (fun D ν w my hO => (rof_c 0 (by omega)) w)) (Rg.ac (Rf.fx (fun _ => A (qn [0, 1, 1, 0])) (fun _ w => run_bd 111 _ rfl [(0, A (vals .u64 16 (F.dg 0))), (1, A (vals .u64 16 (F.dg 1))), (2, A (vals .u64 16 (F.dg 1))), (3, A (vals .u64 16 (F.dg 0)))] (by kernel_rfl) _ (bd_wd _ _ _ _) w)) (Rg.ac (Rf.ga 0 (fun _ _ => rfl) (fun _ _ => rfl) (fun _ w => al91 rfl w) (fun _ => ft (fit_wd _ _ _ _))) (Rg.ac (Rf.gm 0 5 (fun _ => rfl) (ft (fit_wd _ _ _ _))) Rg.an))))))) ?_
  intro ν w5 hO
  replace hO : Wn w w5 [(n2, vals .u8 32 f, 22), (n3, rp P, 60), (n4, qn [0, 0], 60), (n5, vals .u64 16 (F.dg dd7), 58), (n6, vals .u64 16 (F.dg 1), 58), (n7, wq (q4 P), 111), ((ν 5), qn [0, 1, 1, 0], 111)] := hO
  simp only [qC, qD, qE, Rg.putL, Act.put]
  generalize ν 5 = n8 at hO ⊢
  clear ν
  replace hO : Wn w w5 [(n2, vals .u8 32 f, 22), (n3, rp P, 60), (n4, qn [0, 0], 60), (n5, vals .u64 16 (F.dg dd7), 58), (n6, vals .u64 16 (F.dg 1), 58), (n7, wq (q4 P), 111), (n8, wq (0, 1, 1, 0), 111)] := hO
  go_wp2_with fail
  go_loopw [9] (fun i wr => ∃ (k : Nat) (r : Q4), k ≤ 256 ∧ i = .int .i64 ((k : Int) - 1) ∧ Rp (mul7 P (nb f 32 / 2 ^ k)) r ∧ Wn w wr [(n2, vals .u8 32 f, 22), (n3, rp P, 60), (n4, qn [0, 0], 60), (n5, vals .u64 16 (F.dg dd7), 58), (n6, vals .u64 16 (F.dg 1), 58), (n7, wq (q4 P), 111), (n8, wq r, 111)]) (fun i _ => (intOf i + 1).toNat)
  case atStart => exact ⟨256, (0, 1, 1, 0), by omega, rfl, by rw [Nat.div_eq_of_lt (nb_lt32 f hf), mul7_zero]; exact rp_zero, hO⟩
  case round =>
    clear hO
    obtain ⟨k, r, hk, rfl, hR, hO⟩ := hrel
    rcases Nat.eq_zero_or_pos k with h0 | h0
    · subst h0
      rw [Nat.pow_zero, Nat.div_one] at hR
      rw [show ((0 : Nat) : Int) - 1 = -1 from rfl]
      go_upto_region 11 with (fail)
      refine Rg.ps [2, 3, 4] (fun ν => [(53, E n8 32), (54, A (vals .u64 16 (F.dg r.2.2.1))), (55, A (vals .u64 16 (F.dg (iN r.2.2.1)))), (10, D (ν 3))]) (OI w (Sq _ (fun ν => [id, ap ((ν 3), vals .u64 16 (F.dg 0), 58), se 7 ((ν 3), vals .u64 16 (F.dg (iN r.2.2.1)), 58)]))) (fun _ => 0) hO (Rg.ac nV (Rg.ac (npt 0 0 6 32 (fun _ => n8) 111 (fun _ => part_wd2 r.1 r.2.1 r.2.2.1 r.2.2.2) (t1 0) Tryz.underlying58) (Rg.ac (sC 0 75 _ _ (fun _ => rinv_c r.2.2.1 hR.z)) (Rg.ac (sn 1 (fun _ => vals .u64 16 (F.dg 0)) 58 (fun _ w => al33 rfl w) (fun _ => ft (fit_rn _))) (Rg.ac (sr 2 7 (fun _ => vals .u64 16 (F.dg (iN r.2.2.1))) (fun _ => ft (fit_rn _))) Rg.an))))) ?_
      intro ν w6 hO
      simp only [OI, Sq, Sg, ap, se, id, qA, qB, qC, qD, qE, qF, qG, Rg.putL, Act.put] at hO ⊢
      generalize ν 3 = n10 at hO ⊢
      clear ν
      go_upto_region 12 with (fail)
      refine Rg.pd [3, 7, 9] (fun _ => [(56, E n8 0), (57, A (vals .u64 16 (F.dg r.1))), (58, A (vals .u64 16 (F.dg (iN r.2.2.1)))), (59, A (vals .u64 16 (F.dg (mm r.1 (iN r.2.2.1))))), (60, E n8 16), (61, A (vals .u64 16 (F.dg r.2.1))), (62, A (vals .u64 16 (F.dg (iN r.2.2.1)))), (63, A (vals .u64 16 (F.dg (mm r.2.1 (iN r.2.2.1))))), (64, A (qn [mm r.1 (iN r.2.2.1), mm r.2.1 (iN r.2.2.1)]))]) (OI w (Sq _ (fun _ => [id, id, se 2 (n4, qn [mm r.1 (iN r.2.2.1), mm r.2.1 (iN r.2.2.1)], 60)]))) (fun _ => 0) hO.drew (Rg.ac nV (Rg.ac (npt 0 0 6 0 (fun _ => n8) 111 (fun _ => part_wd0 r.1 r.2.1 r.2.2.1 r.2.2.2) (t1 0) Tryz.underlying58) (Rg.ac (nld 0 0 7 (fun _ => n10) (fun _ => vals .u64 16 (F.dg (iN r.2.2.1))) (t1 0) Tryz.underlying58) (Rg.ac (sC 0 67 _ _ (fun _ => rmul_c r.1 (iN r.2.2.1) hR.x (iN_lt _))) (Rg.ac nV (Rg.ac (npt 0 1 6 16 (fun _ => n8) 111 (fun _ => part_wd1 r.1 r.2.1 r.2.2.1 r.2.2.2) (t2 0 1 (t1 1)) Tryz.underlying58) (Rg.ac (nld 0 1 7 (fun _ => n10) (fun _ => vals .u64 16 (F.dg (iN r.2.2.1))) (t2 0 1 (t1 1)) Tryz.underlying58) (Rg.ac (sC 1 67 _ _ (fun _ => rmul_c r.2.1 (iN r.2.2.1) hR.y (iN_lt _))) (Rg.ac (nx (fun _ => A (qn [mm r.1 (iN r.2.2.1), mm r.2.1 (iN r.2.2.1)])) (fun _ w => run_bd 60 _ rfl [(0, A (vals .u64 16 (F.dg (mm r.1 (iN r.2.2.1))))), (1, A (vals .u64 16 (F.dg (mm r.2.1 (iN r.2.2.1)))))] (by kernel_rfl) _ (bd_rp _ _) w)) (Rg.ac (sr 2 2 (fun _ => qn [mm r.1 (iN r.2.2.1), mm r.2.1 (iN r.2.2.1)]) (fun _ => ft (fit_rp _ _))) Rg.an)))))))))) ?_
      intro ν w7 hO
      simp only [OI, Sq, Sg, se, id, qC, qD, qE, qF, qG, Rg.putL, Act.put] at hO ⊢
      clear ν
      have ho := rp_out (ok_mul hP _) hR
      go_wp2_with fail
      refine bodyPost_ret (v := .agg (qn [mm r.1 (iN r.2.2.1), mm r.2.1 (iN r.2.2.1)])) (results_cell_row Tryz.results31 _ _ n4 60 _ (0, 0) _ rfl (hO.row 2 rfl) Tryz.underlying60 rfl (fit_rp _ _).size) rfl ⟨by rw [← ho], hO.low⟩
    · obtain ⟨i, rfl⟩ : ∃ i, k = i + 1 := ⟨k - 1, by omega⟩
      rw [show ((i + 1 : Nat) : Int) - 1 = (i : Int) by omega]
      have hm0 : (0 : Int) ≤ (i : Int) := by omega
      have hm4 : (i : Int) < 256 := by omega
      have hq0 : (0 : Int) ≤ (i : Int) / 8 := by omega
      have hq4 : (i : Int) / 8 < 32 := by omega
      have hq : IntKind.i64.wrap ((i : Int).tdiv 8) = (i : Int) / 8 := quo8 i (by omega)
      have hq' : IntKind.i64.wrap ((i : Int) / 8) = (i : Int) / 8 := quo8' i (by omega)
      have hr : IntKind.i64.wrap ((i : Int).tmod 8) = (i : Int) % 8 := rem8 i
      have hr' : (i : Int).tmod 8 = (i : Int) % 8 := by rw [Int.tmod_eq_emod_of_nonneg (by omega)]
      have hqn : ((i : Int) / 8).toNat = i / 8 := by omega
      have hrn : ((i : Int) % 8).toNat = i % 8 := by omega
      have hr0 : (0 : Int) ≤ (i : Int) % 8 := by omega
      have hr4 : (i : Int) % 8 < 8 := by omega
      have hdl2 : f (i / 8) / 2 ^ (i % 8) < 256 := Nat.lt_of_le_of_lt (Nat.div_le_self _ _) (hf _)
      have hand := and8_one _ hdl2
      rw [show ((f (i / 8) / 2 ^ (i % 8) : Nat) : Int) = ((f (i / 8) : Nat) : Int) / 2 ^ (i % 8) by simp] at hand
      have hbit : (nb f 32).testBit i = (f (i / 8) / 2 ^ (i % 8) % 2 == 1) := by rw [nb_bit f hf 32 i (by omega), bit_num]
      have hdn := bit_down (nb f 32) i
      have Hd := hide hdn
      have Hb := hide hbit
      clear hbit hdn hdl2
      go_upto_region 8 with (fail)
      refine Rg.ps [3, 4] (fun _ => [(35, A (wq r)), (36, A (wq r)), (37, A (vals .u64 16 (F.dg dd7))), (38, A (wq (sum4 r r)))]) (OI w (Sq _ (fun _ => [id, se 6 (n8, wq (sum4 r r), 111)]))) (fun _ => 0) hO (Rg.ac (nld 0 0 6 (fun _ => n8) (fun _ => wq r) (t1 0) Tryz.underlying111) (Rg.ac (nld 0 0 6 (fun _ => n8) (fun _ => wq r) (t1 0) Tryz.underlying111) (Rg.ac (nld 0 0 3 (fun _ => n5) (fun _ => vals .u64 16 (F.dg dd7)) (t1 0) Tryz.underlying58) (Rg.ac (sC 0 76 _ _ (fun _ => rsum_p hR hR)) (Rg.ac (sr 1 6 (fun _ => wq (sum4 r r)) (fun _ => ft (fit_wd _ _ _ _))) Rg.an))))) ?_
      intro ν w6 hO
      simp only [OI, Sq, Sg, se, id, qC, qD, qE, qF, qG, Rg.putL, Act.put] at hO ⊢
      clear ν
      have c0 := ((hO.row 0 rfl).cell (i / 8)).trans (vals_get _ _ _ _ (by omega))
      have hR2 := rp_bit hP (rp_of hP) _ hR ((nb f 32).testBit i)
      rw [Hd.out] at hR2
      have hS2 := rp_sum (ok_mul hP _) (ok_mul hP _) hR hR
      rcases Nat.mod_two_eq_zero_or_one (f (i / 8) / 2 ^ (i % 8)) with hx | hx
      · skip
        rw [hx] at hand
        have hb : (nb f 32).testBit i = false := by rw [Hb.out, hx]; rfl
        rw [hb] at hR2
        have HR := hide hR2
        clear hx hb hR hR2 hS2 Hd Hb
        go_wp2_with fail
        go_roundw
        case rel => exact ⟨i, sum4 r r, by omega, by go_num, HR.out, hO⟩
        case measure => simp [intOf]
      · skip
        rw [hx] at hand
        have hb : (nb f 32).testBit i = true := by rw [Hb.out, hx]; rfl
        rw [hb] at hR2
        have HR := hide hR2
        have HS := hide hS2
        clear hx hb hR hR2 hS2 Hd Hb
        go_upto_region 10 with (fail)
        refine Rg.ps [3, 4] (fun _ => [(49, A (wq (sum4 r r))), (50, A (wq (q4 P))), (51, A (vals .u64 16 (F.dg dd7))), (52, A (wq (sum4 (sum4 r r) (q4 P))))]) (OI w (Sq _ (fun _ => [id, se 6 (n8, wq (sum4 (sum4 r r) (q4 P)), 111)]))) (fun _ => 0) hO (Rg.ac (nld 0 0 6 (fun _ => n8) (fun _ => wq (sum4 r r)) (t1 0) Tryz.underlying111) (Rg.ac (nld 0 0 5 (fun _ => n7) (fun _ => wq (q4 P)) (t1 0) Tryz.underlying111) (Rg.ac (nld 0 0 3 (fun _ => n5) (fun _ => vals .u64 16 (F.dg dd7)) (t1 0) Tryz.underlying58) (Rg.ac (sC 0 76 _ _ (fun _ => rsum_p HS.out (rp_of hP))) (Rg.ac (sr 1 6 (fun _ => wq (sum4 (sum4 r r) (q4 P))) (fun _ => ft (fit_wd _ _ _ _))) Rg.an))))) ?_
        intro ν w7 hO
        simp only [OI, Sq, Sg, se, id, qC, qD, qE, qF, qG, Rg.putL, Act.put] at hO ⊢
        clear ν
        go_wp2_with fail
        go_roundw
        case rel => exact ⟨i, sum4 (sum4 r r) (q4 P), by omega, by go_num, HR.out, hO⟩
        case measure => simp [intOf]
theorem geq_run13 {o : Oper} (a : Act) (w : World) (g : Nat) (h0 : a.eval (.tmp 14) = .int .u8 ((g : Nat) : Int)) (ho : o.op = .binOp .geq 5 (.tmp 14) (.const (.int .u8 128)) 5 := by rfl) : (execOp a.eval o).run Tryz.prog w = .ok (.value (.bool (decide (128 ≤ g)))) w := by
  unfold execOp
  simp only [ho, h0]
  have e0 : a.eval (.const (.int .u8 128)) = .int .u8 128 := rfl
  have e : decide ((128 : Int) ≤ ((g : Nat) : Int)) = decide (128 ≤ g) := by rw [Bool.eq_iff_iff]; simp; omega
  go_simp
theorem clr_run13 {o : Oper} (a : Act) (w : World) (g : Nat) (hg : g < 256) (h0 : a.eval (.tmp 18) = .int .u8 ((g : Nat) : Int)) (ho : o.op = .binOp .andNot 5 (.tmp 18) (.const (.int .u8 128)) 5 := by rfl) : (execOp a.eval o).run Tryz.prog w = .ok (.value (.int .u8 ((g % 128 : Nat) : Int))) w := by
  unfold execOp
  simp only [ho, h0]
  have e0 : a.eval (.const (.int .u8 128)) = .int .u8 128 := rfl
  have e := clr128 g hg
  go_simp
set_option maxHeartbeats 4000000 in
theorem rdecode_p (f : Nat → Nat) (hf : ∀ i, f i < 256) (w : World) : Ret 28 #[.agg (vals .u8 32 f)] w (.tuple #[.agg (rp (decR (nb f 32)).1), .bool (decR (nb f 32)).2]) := by
  go_enter Tryz.func28, Tryz.ntmps28
  have hO := Wn.start w
  obtain ⟨n, hn⟩ : ∃ n, n = nb f 32 := ⟨_, rfl⟩
  obtain ⟨odd, hodd⟩ : ∃ b, b = n.testBit 255 := ⟨_, rfl⟩
  have hge : decide (128 ≤ f 31) = odd := by rw [hodd, hn, bit_top f hf]
  have hm : nb (cob f) 32 = n % 2 ^ 255 := by rw [hn]; exact nb_cob f hf
  have hm2 : n % 2 ^ 255 < 2 ^ 256 := by omega
  obtain ⟨m, em⟩ : ∃ m, m = n % 2 ^ 255 := ⟨_, rfl⟩
  rw [← em] at hm hm2
  have Hn := hide hn
  have Ho := hide hodd
  have Hg := hide hge
  have Hm := hide hm
  have Em := hide em
  rw [← hn]
  clear hn hodd hge hm em
  go_upto_region 0 with (fail)
  refine Rg.ps [0, 1] (fun ν => [(1, D (ν 0)), (2, D (ν 1)), (3, .bool false)]) (OI w (Sq _ (fun ν => [ap ((ν 0), vals .u8 32 f, 22), ap ((ν 1), qn [0, 0], 60)]))) (fun _ => 0) hO (Rg.ac (sn 0 (fun _ => vals .u8 32 f) 22 (fun _ w => run_box 22 _ rfl _ (by kernel_rfl) w) (fun _ => ft (fit_by _))) (Rg.ac (sn 1 (fun _ => qn [0, 0]) 60 (fun _ w => al35 rfl w) (fun _ => ft (fit_rp _ _))) (Rg.ac nV Rg.an))) ?_
  intro ν w1 hO
  simp only [OI, Sq, Sg, ap, qA, qB, qC, qD, qE, qF, qG, Rg.putL, Act.put] at hO ⊢
  generalize ν 0 = n1 at hO ⊢
  generalize ν 1 = n2 at hO ⊢
  clear ν
  go_upto_region 1 with (fail)
  refine Rg.ps [] (fun _ => [(13, E n1 31), (14, Nv .u8 (f 31)), (15, .bool odd), (4, .bool odd)]) (OI w (Sq _ (fun _ => []))) (fun _ => 0) hO (Rg.ac nV (Rg.ac (nc 0 0 0 (fun _ => n1) 22 (fun _ => vals .u8 32 f) (fun _ => 31) (fun _ => Nv .u8 (f 31)) agg_u8 (fun _ => (vals_get _ _ _ _ (by omega))) (t1 0)) (Rg.ac (nx (fun _ => .bool odd) (fun _ w => Hg.out ▸ geq_run13 _ w _ (by kernel_rfl))) (Rg.ac nV Rg.an)))) ?_
  intro ν w2 hO
  simp only [OI, Sq, Sg, qC, qD, qE, Rg.putL, Act.put] at hO ⊢
  clear ν
  go_upto_region 2 with (fail)
  refine Rg.ps [1, 2] (fun ν => [(16, A (vals .u8 32 f)), (5, D (ν 1))]) (OI w (Sq _ (fun ν => [ap ((ν 1), vals .u8 32 (fun _ => 0), 22), se 2 ((ν 1), vals .u8 32 f, 22)]))) (fun _ => 0) hO (Rg.ac (nld 0 0 0 (fun _ => n1) (fun _ => vals .u8 32 f) (t1 0) Tryz.underlying22) (Rg.ac (sn 0 (fun _ => vals .u8 32 (fun _ => 0)) 22 (fun _ w => al22 rfl w) (fun _ => ft (fit_by _))) (Rg.ac (sr 1 2 (fun _ => vals .u8 32 f) (fun _ => ft (fit_by _))) Rg.an))) ?_
  intro ν w3 hO
  simp only [OI, Sq, Sg, ap, se, qA, qB, qC, qD, qE, qF, qG, Rg.putL, Act.put] at hO ⊢
  generalize ν 1 = n5 at hO ⊢
  clear ν
  go_upto_region 3 with (fail)
  refine Rg.ps [4] (fun _ => [(17, E n5 31), (18, Nv .u8 (f 31)), (19, Nv .u8 (f 31 % 128)), (20, E n5 31)]) (OI w (Sq _ (fun _ => [se 2 (n5, vals .u8 32 (fun j => if j = 31 then f 31 % 128 else f j), 22)]))) (fun _ => 0) hO (Rg.ac nV (Rg.ac (nc 0 0 2 (fun _ => n5) 22 (fun _ => vals .u8 32 f) (fun _ => 31) (fun _ => Nv .u8 (f 31)) agg_u8 (fun _ => (vals_get _ _ _ _ (by omega))) (t1 0)) (Rg.ac (nx (fun _ => Nv .u8 (f 31 % 128)) (fun _ w => clr_run13 _ w _ (hf 31) (by kernel_rfl))) (Rg.ac nV (Rg.ac (sL 0 2 (fun _ => 31) (fun _ => Nv .u8 (f 31)) (fun _ => ((f 31 % 128 : Nat) : Int)) sz_u8 (fun _ => (vals_get _ _ _ _ (by omega))) (fun _ => (set_by _ _ _)) (fun _ => ft (fit_by _))) Rg.an))))) ?_
  intro ν w4 hO
  simp only [OI, Sq, Sg, se, qC, qD, qE, qF, qG, Rg.putL, Act.put] at hO ⊢
  clear ν
  replace hO : Wn w w4 [(n1, vals .u8 32 f, 22), (n2, qn [0, 0], 60), (n5, vals .u8 32 (cob f), 22)] := hO
  have hl := rload_c (cob f) (cob_lt f hf)
  rw [Hm.out] at hl
  have Hl := hide hl
  clear hl
  go_upto_region 4 with (fail)
  refine Rg.ps [1, 2, 3] (fun ν => [(21, A (vals .u8 32 (cob f))), (22, A (vals .u64 16 (F.dg (m % pP)))), (6, D (ν 2))]) (OI w (Sq _ (fun ν => [id, ap ((ν 2), vals .u64 16 (F.dg 0), 58), se 3 ((ν 2), vals .u64 16 (F.dg (m % pP)), 58)]))) (fun _ => 0) hO (Rg.ac (nld 0 0 2 (fun _ => n5) (fun _ => vals .u8 32 (cob f)) (t1 0) Tryz.underlying22) (Rg.ac (sC 0 64 _ _ (fun _ => Hl.out)) (Rg.ac (sn 1 (fun _ => vals .u64 16 (F.dg 0)) 58 (fun _ w => al33 rfl w) (fun _ => ft (fit_rn _))) (Rg.ac (sr 2 3 (fun _ => vals .u64 16 (F.dg (m % pP))) (fun _ => ft (fit_rn _))) Rg.an)))) ?_
  intro ν w5 hO
  simp only [OI, Sq, Sg, ap, se, id, qA, qB, qC, qD, qE, qF, qG, Rg.putL, Act.put] at hO ⊢
  generalize ν 2 = n6 at hO ⊢
  clear ν
  go_upto_region 5 with (fail)
  by_cases hbig : pP ≤ m
  · skip
    have hs : sameB (byt (m % pP)) (cob f) = false := by rw [same_num (byt_lt _) (cob_lt f hf), nb_byt32 (Nat.lt_of_le_of_lt (Nat.mod_le _ _) hm2), Hm.out]; exact decide_eq_false (by have := Nat.mod_lt m pP_pos; omega)
    refine Rg.pd [1] (fun _ => [(23, A (vals .u64 16 (F.dg (m % pP)))), (24, A (vals .u8 32 (byt (m % pP)))), (25, A (vals .u8 32 (cob f))), (26, .bool true)]) (OI w (Sq _ (fun _ => [id]))) (fun _ => 0) hO.drew (Rg.ac (nld 0 0 3 (fun _ => n6) (fun _ => vals .u64 16 (F.dg (m % pP))) (t1 0) Tryz.underlying58) (Rg.ac (sC 0 65 _ _ (fun _ => rbytes_c (m % pP))) (Rg.ac (nld 0 1 2 (fun _ => n5) (fun _ => vals .u8 32 (cob f)) (t2 0 1 (t1 1)) Tryz.underlying22) (Rg.ac (nx (fun _ => .bool true) (fun _ w => neq_c _ _ _ _ false hs w rfl (by kernel_rfl) (by kernel_rfl))) Rg.an)))) ?_
    intro ν w6 hO
    simp only [OI, Sq, Sg, id, qC, qD, qE, qF, qG, Rg.putL, Act.put] at hO ⊢
    clear ν
    have Hs := hide hs
    clear hs
    go_upto_region 6 with (fail)
    refine Rg.ps [0, 1] (fun _ => [(27, A (rp zero7)), (3, .bool false)]) (OI w (Sq _ (fun _ => [id, se 1 (n2, rp zero7, 60)]))) (fun _ => 0) hO (Rg.ac (sC 0 66 _ _ (fun _ => rzero_c)) (Rg.ac (sr 1 1 (fun _ => rp zero7) (fun _ => ft (fit_rp _ _))) (Rg.ac nV Rg.an))) ?_
    intro ν w7 hO
    simp only [OI, Sq, Sg, se, id, qC, qD, qE, qF, qG, Rg.putL, Act.put] at hO ⊢
    clear ν
    go_wp2_with fail
    have hd := dec_big (Em.out ▸ hbig)
    refine bodyPost_ret (v := .tuple #[.agg (rp zero7), .bool false]) (results_and Tryz.results28 _ _ n2 60 _ (0, 0) _ _ rfl (hO.row 1 rfl) Tryz.underlying60 rfl (fit_rp _ _).size rfl) rfl ⟨?_, hO.low⟩
    rw [hd]
  · skip
    have hlt : m < pP := by omega
    have hs : sameB (byt (m % pP)) (cob f) = true := by rw [same_num (byt_lt _) (cob_lt f hf), nb_byt32 (Nat.lt_of_le_of_lt (Nat.mod_le _ _) hm2), Hm.out]; exact decide_eq_true (Nat.mod_eq_of_lt hlt)
    refine Rg.pd [1] (fun _ => [(23, A (vals .u64 16 (F.dg (m % pP)))), (24, A (vals .u8 32 (byt (m % pP)))), (25, A (vals .u8 32 (cob f))), (26, .bool false)]) (OI w (Sq _ (fun _ => [id]))) (fun _ => 0) hO.drew (Rg.ac (nld 0 0 3 (fun _ => n6) (fun _ => vals .u64 16 (F.dg (m % pP))) (t1 0) Tryz.underlying58) (Rg.ac (sC 0 65 _ _ (fun _ => rbytes_c (m % pP))) (Rg.ac (nld 0 1 2 (fun _ => n5) (fun _ => vals .u8 32 (cob f)) (t2 0 1 (t1 1)) Tryz.underlying22) (Rg.ac (nx (fun _ => .bool false) (fun _ w => neq_c _ _ _ _ true hs w rfl (by kernel_rfl) (by kernel_rfl))) Rg.an)))) ?_
    intro ν w6 hO
    simp only [OI, Sq, Sg, id, qC, qD, qE, qF, qG, Rg.putL, Act.put] at hO ⊢
    clear ν
    have Hs := hide hs
    clear hs hbig
    rw [Nat.mod_eq_of_lt hlt] at hO
    have hL : n % 2 ^ 255 < pP := Em.out ▸ hlt
    go_upto_region 7 with (fail)
    refine Rg.ps [2, 3, 4] (fun ν => [(28, A (vals .u64 16 (F.dg m))), (29, A (vals .u64 16 (F.dg m))), (30, A (vals .u64 16 (F.dg (mm m m)))), (7, D (ν 3))]) (OI w (Sq _ (fun ν => [id, ap ((ν 3), vals .u64 16 (F.dg 0), 58), se 4 ((ν 3), vals .u64 16 (F.dg (mm m m)), 58)]))) (fun _ => 0) hO (Rg.ac (nld 0 0 3 (fun _ => n6) (fun _ => vals .u64 16 (F.dg m)) (t1 0) Tryz.underlying58) (Rg.ac (nld 0 0 3 (fun _ => n6) (fun _ => vals .u64 16 (F.dg m)) (t1 0) Tryz.underlying58) (Rg.ac (sC 0 67 _ _ (fun _ => rmul_c m m hlt hlt)) (Rg.ac (sn 1 (fun _ => vals .u64 16 (F.dg 0)) 58 (fun _ w => al33 rfl w) (fun _ => ft (fit_rn _))) (Rg.ac (sr 2 4 (fun _ => vals .u64 16 (F.dg (mm m m))) (fun _ => ft (fit_rn _))) Rg.an))))) ?_
    intro ν w7 hO
    simp only [OI, Sq, Sg, ap, se, id, qA, qB, qC, qD, qE, qF, qG, Rg.putL, Act.put] at hO ⊢
    generalize ν 3 = n7 at hO ⊢
    clear ν
    go_upto_region 8 with (fail)
    refine Rf.pg (fun ν => [(31, A (vals .u64 16 (F.dg (mm m m)))), (32, A (vals .u64 16 (F.dg 1))), (33, A (vals .u64 16 (F.dg (sm (mm m m) 1)))), (8, D (ν 3))]) [(n1, vals .u8 32 f, 22, none), (n2, qn [0, 0], 60, none), (n5, vals .u8 32 (cob f), 22, none), (n6, vals .u64 16 (F.dg m), 58, none), (n7, vals .u64 16 (F.dg (mm m m)), 58, none)] (fun _ => [(3, vals .u64 16 (F.dg 0), 58, some (4, vals .u64 16 (F.dg (sm (mm m m) 1))))]) (fun _ => 0) hO.drew (Rg.ac (Rf.fld 4 (fun _ => n7) (fun _ => vals .u64 16 (F.dg (mm m m))) (fun D ν _ => rfl) Tryz.underlying58) (Rg.ac (Rf.fq 69 _ _ (fun D ν w my hO => (rof_c 1 (by omega)) w)) (Rg.ac (Rf.fq 68 _ _ (fun D ν w my hO => (rsub_c (mm m m) 1 (mm_lt _ _) (of_lt (by omega))) w)) (Rg.ac (Rf.ga 0 (fun _ _ => rfl) (fun _ _ => rfl) (fun _ w => al33 rfl w) (fun _ => ft (fit_rn _))) (Rg.ac (Rf.gm 0 3 (fun _ => rfl) (ft (fit_rn _))) Rg.an))))) ?_
    intro ν w8 hO
    replace hO : Wn w w8 [(n1, vals .u8 32 f, 22), (n2, qn [0, 0], 60), (n5, vals .u8 32 (cob f), 22), (n6, vals .u64 16 (F.dg m), 58), (n7, vals .u64 16 (F.dg (mm m m)), 58), ((ν 3), vals .u64 16 (F.dg (sm (mm m m) 1)), 58)] := hO
    simp only [qC, qD, qE, Rg.putL, Act.put]
    generalize ν 3 = n8 at hO ⊢
    clear ν
    go_upto_region 9 with (fail)
    refine Rf.pg (fun ν => [(34, A (vals .u64 16 (F.dg d7N))), (35, A (vals .u64 16 (F.dg (mm m m)))), (36, A (vals .u64 16 (F.dg (mm d7N (mm m m))))), (37, A (vals .u64 16 (F.dg 1))), (38, A (vals .u64 16 (F.dg (am (mm d7N (mm m m)) 1)))), (9, D (ν 5))]) [(n1, vals .u8 32 f, 22, none), (n2, qn [0, 0], 60, none), (n5, vals .u8 32 (cob f), 22, none), (n6, vals .u64 16 (F.dg m), 58, none), (n7, vals .u64 16 (F.dg (mm m m)), 58, none), (n8, vals .u64 16 (F.dg (sm (mm m m) 1)), 58, none)] (fun _ => [(5, vals .u64 16 (F.dg 0), 58, some (6, vals .u64 16 (F.dg (am (mm d7N (mm m m)) 1))))]) (fun _ => 0) hO.drew (Rg.ac (Rf.fq 71 _ _ (fun D ν w my hO => (rd_c) w)) (Rg.ac (Rf.fld 4 (fun _ => n7) (fun _ => vals .u64 16 (F.dg (mm m m))) (fun D ν _ => rfl) Tryz.underlying58) (Rg.ac (Rf.fq 67 _ _ (fun D ν w my hO => (rmul_c d7N (mm m m) d7_lt (mm_lt _ _)) w)) (Rg.ac (Rf.fq 69 _ _ (fun D ν w my hO => (rof_c 1 (by omega)) w)) (Rg.ac (Rf.fq 70 _ _ (fun D ν w my hO => (radd_c (mm d7N (mm m m)) 1 (mm_lt _ _) (of_lt (by omega))) w)) (Rg.ac (Rf.ga 0 (fun _ _ => rfl) (fun _ _ => rfl) (fun _ w => al33 rfl w) (fun _ => ft (fit_rn _))) (Rg.ac (Rf.gm 0 5 (fun _ => rfl) (ft (fit_rn _))) Rg.an))))))) ?_
    intro ν w9 hO
    replace hO : Wn w w9 [(n1, vals .u8 32 f, 22), (n2, qn [0, 0], 60), (n5, vals .u8 32 (cob f), 22), (n6, vals .u64 16 (F.dg m), 58), (n7, vals .u64 16 (F.dg (mm m m)), 58), (n8, vals .u64 16 (F.dg (sm (mm m m) 1)), 58), ((ν 5), vals .u64 16 (F.dg (am (mm d7N (mm m m)) 1)), 58)] := hO
    simp only [qC, qD, qE, Rg.putL, Act.put]
    generalize ν 5 = n9 at hO ⊢
    clear ν
    have hr := rratio_c (u7 m) (v7 m) (u7_lt m) (v7_lt m)
    obtain ⟨X, hX⟩ : ∃ X, X = rVal (u7 m) (v7 m) := ⟨_, rfl⟩
    obtain ⟨ok, hok⟩ : ∃ b, b = rOk (u7 m) (v7 m) := ⟨_, rfl⟩
    have hXl : X < pP := hX ▸ val_lt _ _
    rw [← hX, ← hok] at hr
    have Hr := hide hr
    have HX := hide hX
    have Hk := hide hok
    clear hr hX hok
    go_upto_region 10 with (fail)
    refine Rg.ps [2, 6, 7] (fun ν => [(40, A (vals .u64 16 (F.dg (sm (mm m m) 1)))), (41, A (vals .u64 16 (F.dg (am (mm d7N (mm m m)) 1)))), (42, .tuple #[A (vals .u64 16 (F.dg X)), .bool ok]), (39, .tuple #[A (vals .u64 16 (F.dg X)), .bool ok]), (43, A (vals .u64 16 (F.dg X))), (44, .bool ok), (10, D (ν 6)), (11, .bool ok)]) (OI w (Sq _ (fun ν => [id, ap ((ν 6), vals .u64 16 (F.dg 0), 58), se 7 ((ν 6), vals .u64 16 (F.dg X), 58)]))) (fun _ => 0) hO (Rg.ac (nld 0 0 5 (fun _ => n8) (fun _ => vals .u64 16 (F.dg (sm (mm m m) 1))) (t1 0) Tryz.underlying58) (Rg.ac (nld 0 0 6 (fun _ => n9) (fun _ => vals .u64 16 (F.dg (am (mm d7N (mm m m)) 1))) (t1 0) Tryz.underlying58) (Rg.ac (sC 0 72 _ _ (fun _ => Hr.out)) (Rg.ac nV (Rg.ac nV (Rg.ac nV (Rg.ac (sn 1 (fun _ => vals .u64 16 (F.dg 0)) 58 (fun _ w => al33 rfl w) (fun _ => ft (fit_rn _))) (Rg.ac (sr 2 7 (fun _ => vals .u64 16 (F.dg X)) (fun _ => ft (fit_rn _))) (Rg.ac nV Rg.an))))))))) ?_
    intro ν w10 hO
    simp only [OI, Sq, Sg, ap, se, id, qA, qB, qC, qD, qE, qF, qG, Rg.putL, Act.put] at hO ⊢
    generalize ν 6 = n10 at hO ⊢
    clear ν
    by_cases h0 : X = 0
    · skip
      go_upto_region 11 with (fail)
      refine Rg.pd [1] (fun _ => [(45, A (vals .u64 16 (F.dg X))), (46, A (vals .u64 16 (F.dg 0))), (47, .bool true), (12, .bool true)]) (OI w (Sq _ (fun _ => [id]))) (fun _ => 0) hO.drew (Rg.ac (nld 0 1 7 (fun _ => n10) (fun _ => vals .u64 16 (F.dg X)) (t2 0 1 (t1 1)) Tryz.underlying58) (Rg.ac (sC 0 69 _ _ (fun _ => rof_c 0 (by omega))) (Rg.ac (nx (fun _ => .bool true) (fun _ w => eqlN_c _ _ _ _ true (lt256 hXl) (by omega) (decide_eq_true h0) w rfl (by kernel_rfl) (by kernel_rfl))) (Rg.ac nV Rg.an)))) ?_
      intro ν w11 hO
      simp only [OI, Sq, Sg, id, qC, qD, qE, qF, qG, Rg.putL, Act.put] at hO ⊢
      clear ν
      cases ok
      · skip
        go_upto_region 12 with (fail)
        refine Rg.ps [] (fun _ => [(48, .bool false), (49, .bool true), (50, .bool true), (51, U), (52, U), (53, U), (54, U), (55, .bool true)]) (OI w (Sq _ (fun _ => []))) (fun _ => 0) hO (Rg.ac nV (Rg.ac nV (Rg.ac nV (Rg.ac nk (Rg.ac nk (Rg.ac nk (Rg.ac nk (Rg.ac nV Rg.an)))))))) ?_
        intro ν w12 hO
        simp only [OI, Sq, Sg, qC, qD, qE, Rg.putL, Act.put] at hO ⊢
        clear ν
        go_upto_region 13 with (fail)
        refine Rg.ps [0, 1] (fun _ => [(56, A (rp zero7)), (3, .bool false)]) (OI w (Sq _ (fun _ => [id, se 1 (n2, rp zero7, 60)]))) (fun _ => 0) hO (Rg.ac (sC 0 66 _ _ (fun _ => rzero_c)) (Rg.ac (sr 1 1 (fun _ => rp zero7) (fun _ => ft (fit_rp _ _))) (Rg.ac nV Rg.an))) ?_
        intro ν w13 hO
        simp only [OI, Sq, Sg, se, id, qC, qD, qE, qF, qG, Rg.putL, Act.put] at hO ⊢
        clear ν
        go_wp2_with fail
        have hd := dec_bad hL (Em.out ▸ Hk.out)
        refine bodyPost_ret (v := .tuple #[.agg (rp zero7), .bool false]) (results_and Tryz.results28 _ _ n2 60 _ (0, 0) _ _ rfl (hO.row 1 rfl) Tryz.underlying60 rfl (fit_rp _ _).size rfl) rfl ⟨?_, hO.low⟩
        rw [hd]
      · skip
        cases odd
        · skip
          go_upto_region 12 with (fail)
          refine Rg.ps [] (fun _ => [(48, .bool true), (49, .bool false), (50, .bool false), (51, .bool true), (52, .bool true), (53, .bool false), (54, .bool false), (55, .bool false)]) (OI w (Sq _ (fun _ => []))) (fun _ => 0) hO (Rg.ac nV (Rg.ac nV (Rg.ac nV (Rg.ac nV (Rg.ac nV (Rg.ac nV (Rg.ac nV (Rg.ac nV Rg.an)))))))) ?_
          intro ν w12 hO
          simp only [OI, Sq, Sg, qC, qD, qE, Rg.putL, Act.put] at hO ⊢
          clear ν
          go_upto_region 16 with (fail)
          refine Rg.ps [3] (fun _ => [(61, A (vals .u64 16 (F.dg X))), (62, A (vals .u64 16 (F.dg m))), (63, A (qn [X, m])), (3, .bool true)]) (OI w (Sq _ (fun _ => [se 1 (n2, qn [X, m], 60)]))) (fun _ => 0) hO (Rg.ac (nld 0 0 7 (fun _ => n10) (fun _ => vals .u64 16 (F.dg X)) (t1 0) Tryz.underlying58) (Rg.ac (nld 0 0 3 (fun _ => n6) (fun _ => vals .u64 16 (F.dg m)) (t1 0) Tryz.underlying58) (Rg.ac (nx (fun _ => A (qn [X, m])) (fun _ w => run_bd 60 _ rfl [(0, A (vals .u64 16 (F.dg X))), (1, A (vals .u64 16 (F.dg m)))] (by kernel_rfl) _ (bd_rp _ _) w)) (Rg.ac (sr 0 1 (fun _ => qn [X, m]) (fun _ => ft (fit_rp _ _))) (Rg.ac nV Rg.an))))) ?_
          intro ν w13 hO
          simp only [OI, Sq, Sg, se, qC, qD, qE, qF, qG, Rg.putL, Act.put] at hO ⊢
          clear ν
          go_wp2_with fail
          have hd := dec_even hL (Em.out ▸ HX.out) (Em.out ▸ Hk.out) Ho.out
          refine bodyPost_ret (v := .tuple #[.agg (qn [X, m]), .bool true]) (results_and Tryz.results28 _ _ n2 60 _ (0, 0) _ _ rfl (hO.row 1 rfl) Tryz.underlying60 rfl (fit_rp _ _).size rfl) rfl ⟨?_, hO.low⟩
          rw [hd, ← Em.out]
        · skip
          go_upto_region 12 with (fail)
          refine Rg.ps [] (fun _ => [(48, .bool true), (49, .bool false), (50, .bool false), (51, .bool true), (52, .bool true), (53, .bool true), (54, .bool true), (55, .bool true)]) (OI w (Sq _ (fun _ => []))) (fun _ => 0) hO (Rg.ac nV (Rg.ac nV (Rg.ac nV (Rg.ac nV (Rg.ac nV (Rg.ac nV (Rg.ac nV (Rg.ac nV Rg.an)))))))) ?_
          intro ν w12 hO
          simp only [OI, Sq, Sg, qC, qD, qE, Rg.putL, Act.put] at hO ⊢
          clear ν
          go_upto_region 13 with (fail)
          refine Rg.ps [0, 1] (fun _ => [(56, A (rp zero7)), (3, .bool false)]) (OI w (Sq _ (fun _ => [id, se 1 (n2, rp zero7, 60)]))) (fun _ => 0) hO (Rg.ac (sC 0 66 _ _ (fun _ => rzero_c)) (Rg.ac (sr 1 1 (fun _ => rp zero7) (fun _ => ft (fit_rp _ _))) (Rg.ac nV Rg.an))) ?_
          intro ν w13 hO
          simp only [OI, Sq, Sg, se, id, qC, qD, qE, qF, qG, Rg.putL, Act.put] at hO ⊢
          clear ν
          go_wp2_with fail
          have hd := dec_flat hL (Em.out ▸ HX.out) h0 Ho.out
          refine bodyPost_ret (v := .tuple #[.agg (rp zero7), .bool false]) (results_and Tryz.results28 _ _ n2 60 _ (0, 0) _ _ rfl (hO.row 1 rfl) Tryz.underlying60 rfl (fit_rp _ _).size rfl) rfl ⟨?_, hO.low⟩
          rw [hd]
    · skip
      go_upto_region 11 with (fail)
      refine Rg.pd [1] (fun _ => [(45, A (vals .u64 16 (F.dg X))), (46, A (vals .u64 16 (F.dg 0))), (47, .bool false), (12, .bool false)]) (OI w (Sq _ (fun _ => [id]))) (fun _ => 0) hO.drew (Rg.ac (nld 0 1 7 (fun _ => n10) (fun _ => vals .u64 16 (F.dg X)) (t2 0 1 (t1 1)) Tryz.underlying58) (Rg.ac (sC 0 69 _ _ (fun _ => rof_c 0 (by omega))) (Rg.ac (nx (fun _ => .bool false) (fun _ w => eqlN_c _ _ _ _ false (lt256 hXl) (by omega) (decide_eq_false h0) w rfl (by kernel_rfl) (by kernel_rfl))) (Rg.ac nV Rg.an)))) ?_
      intro ν w11 hO
      simp only [OI, Sq, Sg, id, qC, qD, qE, qF, qG, Rg.putL, Act.put] at hO ⊢
      clear ν
      cases ok
      · skip
        go_upto_region 12 with (fail)
        refine Rg.ps [] (fun _ => [(48, .bool false), (49, .bool true), (50, .bool true), (51, U), (52, U), (53, U), (54, U), (55, .bool true)]) (OI w (Sq _ (fun _ => []))) (fun _ => 0) hO (Rg.ac nV (Rg.ac nV (Rg.ac nV (Rg.ac nk (Rg.ac nk (Rg.ac nk (Rg.ac nk (Rg.ac nV Rg.an)))))))) ?_
        intro ν w12 hO
        simp only [OI, Sq, Sg, qC, qD, qE, Rg.putL, Act.put] at hO ⊢
        clear ν
        go_upto_region 13 with (fail)
        refine Rg.ps [0, 1] (fun _ => [(56, A (rp zero7)), (3, .bool false)]) (OI w (Sq _ (fun _ => [id, se 1 (n2, rp zero7, 60)]))) (fun _ => 0) hO (Rg.ac (sC 0 66 _ _ (fun _ => rzero_c)) (Rg.ac (sr 1 1 (fun _ => rp zero7) (fun _ => ft (fit_rp _ _))) (Rg.ac nV Rg.an))) ?_
        intro ν w13 hO
        simp only [OI, Sq, Sg, se, id, qC, qD, qE, qF, qG, Rg.putL, Act.put] at hO ⊢
        clear ν
        go_wp2_with fail
        have hd := dec_bad hL (Em.out ▸ Hk.out)
        refine bodyPost_ret (v := .tuple #[.agg (rp zero7), .bool false]) (results_and Tryz.results28 _ _ n2 60 _ (0, 0) _ _ rfl (hO.row 1 rfl) Tryz.underlying60 rfl (fit_rp _ _).size rfl) rfl ⟨?_, hO.low⟩
        rw [hd]
      · skip
        cases odd
        · skip
          go_upto_region 12 with (fail)
          refine Rg.ps [] (fun _ => [(48, .bool true), (49, .bool false), (50, .bool false), (51, .bool false), (52, .bool false), (53, U), (54, .bool false), (55, .bool false)]) (OI w (Sq _ (fun _ => []))) (fun _ => 0) hO (Rg.ac nV (Rg.ac nV (Rg.ac nV (Rg.ac nV (Rg.ac nV (Rg.ac nk (Rg.ac nV (Rg.ac nV Rg.an)))))))) ?_
          intro ν w12 hO
          simp only [OI, Sq, Sg, qC, qD, qE, Rg.putL, Act.put] at hO ⊢
          clear ν
          go_upto_region 16 with (fail)
          refine Rg.ps [3] (fun _ => [(61, A (vals .u64 16 (F.dg X))), (62, A (vals .u64 16 (F.dg m))), (63, A (qn [X, m])), (3, .bool true)]) (OI w (Sq _ (fun _ => [se 1 (n2, qn [X, m], 60)]))) (fun _ => 0) hO (Rg.ac (nld 0 0 7 (fun _ => n10) (fun _ => vals .u64 16 (F.dg X)) (t1 0) Tryz.underlying58) (Rg.ac (nld 0 0 3 (fun _ => n6) (fun _ => vals .u64 16 (F.dg m)) (t1 0) Tryz.underlying58) (Rg.ac (nx (fun _ => A (qn [X, m])) (fun _ w => run_bd 60 _ rfl [(0, A (vals .u64 16 (F.dg X))), (1, A (vals .u64 16 (F.dg m)))] (by kernel_rfl) _ (bd_rp _ _) w)) (Rg.ac (sr 0 1 (fun _ => qn [X, m]) (fun _ => ft (fit_rp _ _))) (Rg.ac nV Rg.an))))) ?_
          intro ν w13 hO
          simp only [OI, Sq, Sg, se, qC, qD, qE, qF, qG, Rg.putL, Act.put] at hO ⊢
          clear ν
          go_wp2_with fail
          have hd := dec_even hL (Em.out ▸ HX.out) (Em.out ▸ Hk.out) Ho.out
          refine bodyPost_ret (v := .tuple #[.agg (qn [X, m]), .bool true]) (results_and Tryz.results28 _ _ n2 60 _ (0, 0) _ _ rfl (hO.row 1 rfl) Tryz.underlying60 rfl (fit_rp _ _).size rfl) rfl ⟨?_, hO.low⟩
          rw [hd, ← Em.out]
        · skip
          go_upto_region 12 with (fail)
          refine Rg.ps [] (fun _ => [(48, .bool true), (49, .bool false), (50, .bool false), (51, .bool false), (52, .bool false), (53, U), (54, .bool false), (55, .bool false)]) (OI w (Sq _ (fun _ => []))) (fun _ => 0) hO (Rg.ac nV (Rg.ac nV (Rg.ac nV (Rg.ac nV (Rg.ac nV (Rg.ac nk (Rg.ac nV (Rg.ac nV Rg.an)))))))) ?_
          intro ν w12 hO
          simp only [OI, Sq, Sg, qC, qD, qE, Rg.putL, Act.put] at hO ⊢
          clear ν
          go_upto_region 15 with (fail)
          refine Rg.pd [0, 2, 3] (fun _ => [(58, A (vals .u64 16 (F.dg 0))), (59, A (vals .u64 16 (F.dg X))), (60, A (vals .u64 16 (F.dg (sm 0 X))))]) (OI w (Sq _ (fun _ => [id, id, se 7 (n10, vals .u64 16 (F.dg (sm 0 X)), 58)]))) (fun _ => 0) hO.drew (Rg.ac (sC 0 69 _ _ (fun _ => rof_c 0 (by omega))) (Rg.ac (nld 0 1 7 (fun _ => n10) (fun _ => vals .u64 16 (F.dg X)) (t2 0 1 (t1 1)) Tryz.underlying58) (Rg.ac (sC 1 68 _ _ (fun _ => rsub_c 0 X (of_lt (by omega)) hXl)) (Rg.ac (sr 2 7 (fun _ => vals .u64 16 (F.dg (sm 0 X))) (fun _ => ft (fit_rn _))) Rg.an)))) ?_
          intro ν w13 hO
          simp only [OI, Sq, Sg, se, id, qC, qD, qE, qF, qG, Rg.putL, Act.put] at hO ⊢
          clear ν
          go_upto_region 16 with (fail)
          refine Rg.ps [3] (fun _ => [(61, A (vals .u64 16 (F.dg (sm 0 X)))), (62, A (vals .u64 16 (F.dg m))), (63, A (qn [sm 0 X, m])), (3, .bool true)]) (OI w (Sq _ (fun _ => [se 1 (n2, qn [sm 0 X, m], 60)]))) (fun _ => 0) hO (Rg.ac (nld 0 0 7 (fun _ => n10) (fun _ => vals .u64 16 (F.dg (sm 0 X))) (t1 0) Tryz.underlying58) (Rg.ac (nld 0 0 3 (fun _ => n6) (fun _ => vals .u64 16 (F.dg m)) (t1 0) Tryz.underlying58) (Rg.ac (nx (fun _ => A (qn [sm 0 X, m])) (fun _ w => run_bd 60 _ rfl [(0, A (vals .u64 16 (F.dg (sm 0 X)))), (1, A (vals .u64 16 (F.dg m)))] (by kernel_rfl) _ (bd_rp _ _) w)) (Rg.ac (sr 0 1 (fun _ => qn [sm 0 X, m]) (fun _ => ft (fit_rp _ _))) (Rg.ac nV Rg.an))))) ?_
          intro ν w14 hO
          simp only [OI, Sq, Sg, se, qC, qD, qE, qF, qG, Rg.putL, Act.put] at hO ⊢
          clear ν
          go_wp2_with fail
          have hd := dec_odd hL (Em.out ▸ HX.out) (Em.out ▸ Hk.out) h0 Ho.out
          refine bodyPost_ret (v := .tuple #[.agg (qn [sm 0 X, m]), .bool true]) (results_and Tryz.results28 _ _ n2 60 _ (0, 0) _ _ rfl (hO.row 1 rfl) Tryz.underlying60 rfl (fit_rp _ _).size rfl) rfl ⟨?_, hO.low⟩
          rw [hd, ← Em.out, sm_zero]
theorem decR_some {n : Nat} {P : Nat × Nat} (h : dec7 n = some P) : decR n = (P, true) := by unfold decR; rw [h]
theorem decR_base : decR yN = (base7, true) := decR_some dec_base
theorem rdec_base (w : World) : Ret 28 #[.agg (vals .u8 32 (byt yN))] w (.tuple #[.agg (rp base7), .bool true]) := by
  have h := rdecode_p (byt yN) (byt_lt _) w
  rw [nb_byt32 (n := yN) (lt256 ok_base.y), decR_base] at h
  exact h
set_option maxHeartbeats 4000000 in
theorem rbase_p (w : World) : Ret 32 #[] w (.agg (rp base7)) := by
  go_enter Tryz.func32, Tryz.ntmps32
  have hO := Wn.start w
  go_upto_region 0 with (fail)
  refine Rg.ps [0] (fun ν => [(0, D (ν 0))]) (OI w (Sq _ (fun ν => [ap ((ν 0), qn [0, 0], 60)]))) (fun _ => 0) hO (Rg.ac (sn 0 (fun _ => qn [0, 0]) 60 (fun _ w => al35 rfl w) (fun _ => ft (fit_rp _ _))) Rg.an) ?_
  intro ν w1 hO
  simp only [OI, Sq, Sg, ap, qB, qD, qE, qF, qG, Rg.putL, Act.put] at hO ⊢
  generalize ν 0 = n0 at hO ⊢
  clear ν
  go_upto_region 1 with (fail)
  refine Rg.ps [0, 1, 2, 3, 4, 5] (fun ν => [(4, A (vals .u64 16 (F.dg 4))), (5, A (vals .u64 16 (F.dg 5))), (6, A (vals .u64 16 (F.dg (iN 5)))), (7, A (vals .u64 16 (F.dg (mm 4 (iN 5))))), (1, D (ν 4))]) (OI w (Sq _ (fun ν => [id, id, id, id, ap ((ν 4), vals .u64 16 (F.dg 0), 58), se 1 ((ν 4), vals .u64 16 (F.dg (mm 4 (iN 5))), 58)]))) (fun _ => 0) hO (Rg.ac (sC 0 69 _ _ (fun _ => rof_c 4 (by omega))) (Rg.ac (sC 1 69 _ _ (fun _ => rof_c 5 (by omega))) (Rg.ac (sC 2 75 _ _ (fun _ => rinv_c 5 (of_lt (by omega)))) (Rg.ac (sC 3 67 _ _ (fun _ => rmul_c 4 (iN 5) (of_lt (by omega)) (iN_lt _))) (Rg.ac (sn 4 (fun _ => vals .u64 16 (F.dg 0)) 58 (fun _ w => al33 rfl w) (fun _ => ft (fit_rn _))) (Rg.ac (sr 5 1 (fun _ => vals .u64 16 (F.dg (mm 4 (iN 5)))) (fun _ => ft (fit_rn _))) Rg.an)))))) ?_
  intro ν w2 hO
  simp only [OI, Sq, Sg, ap, se, id, qA, qB, qC, qD, qE, qF, qG, Rg.putL, Act.put] at hO ⊢
  generalize ν 4 = n1 at hO ⊢
  clear ν
  rw [base_y] at hO
  replace hO : Wn w w2 [(n0, qn [0, 0], 60), (n1, vals .u64 16 (F.dg yN), 58)] := hO
  go_upto_region 2 with (fail)
  refine Rg.ps [1, 2, 6, 7] (fun ν => [(9, A (vals .u64 16 (F.dg yN))), (10, A (vals .u8 32 (byt yN))), (11, .tuple #[A (rp base7), .bool true]), (8, .tuple #[A (rp base7), .bool true]), (12, A (rp base7)), (13, .bool true), (2, D (ν 6)), (3, .bool true)]) (OI w (Sq _ (fun ν => [id, id, ap ((ν 6), qn [0, 0], 60), se 2 ((ν 6), rp base7, 60)]))) (fun _ => 0) hO (Rg.ac (nld 0 0 1 (fun _ => n1) (fun _ => vals .u64 16 (F.dg yN)) (t1 0) Tryz.underlying58) (Rg.ac (sC 0 65 _ _ (fun _ => rbytes_c yN)) (Rg.ac (sC 1 28 _ _ (fun _ => rdec_base)) (Rg.ac nV (Rg.ac nV (Rg.ac nV (Rg.ac (sn 2 (fun _ => qn [0, 0]) 60 (fun _ w => al35 rfl w) (fun _ => ft (fit_rp _ _))) (Rg.ac (sr 3 2 (fun _ => rp base7) (fun _ => ft (fit_rp _ _))) (Rg.ac nV Rg.an))))))))) ?_
  intro ν w3 hO
  simp only [OI, Sq, Sg, ap, se, id, qA, qB, qC, qD, qE, qF, qG, Rg.putL, Act.put] at hO ⊢
  generalize ν 6 = n2 at hO ⊢
  clear ν
  go_upto_region 3 with (fail)
  refine Rg.ps [1] (fun _ => [(14, A (rp base7))]) (OI w (Sq _ (fun _ => [se 0 (n0, rp base7, 60)]))) (fun _ => 0) hO (Rg.ac (nld 0 0 2 (fun _ => n2) (fun _ => rp base7) (t1 0) Tryz.underlying60) (Rg.ac (sr 0 0 (fun _ => rp base7) (fun _ => ft (fit_rp _ _))) Rg.an)) ?_
  intro ν w4 hO
  simp only [OI, Sq, Sg, se, qC, qD, qE, qF, qG, Rg.putL, Act.put] at hO ⊢
  clear ν
  go_wp2_with fail
  refine bodyPost_ret (v := .agg (rp base7)) (results_cell_row Tryz.results32 _ _ n0 60 _ (0, 0) _ rfl (hO.row 0 rfl) Tryz.underlying60 rfl (fit_rp _ _).size) rfl ⟨rfl, hO.low⟩
end Go.Proofs.YtbpmakegimgbpaaGreatDoor

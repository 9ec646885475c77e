/- Walks: bitOf, Same, twice, plus, at. Numbers below p, thirty-two bytes; the bit's place is below 256. -/
import Derived.Test.YtbpmakegimgbpaaGreatDoorGd
namespace Go.Proofs.YtbpmakegimgbpaaGreatDoor
set_option maxRecDepth 100000
open F Go.RowKit Rg

theorem quo8 (k : Nat) (h : k < 256) : IntKind.i64.wrap ((k : Int).tdiv 8) = (k : Int) / 8 := by
  rw [Int.tdiv_eq_ediv_of_nonneg (by omega), wrap_i64_small' _ (by omega) (by omega)]
theorem quo8' (k : Nat) (h : k < 256) : IntKind.i64.wrap ((k : Int) / 8) = (k : Int) / 8 := by
  rw [wrap_i64_small' _ (by omega) (by omega)]
theorem rem8 (k : Nat) : IntKind.i64.wrap ((k : Int).tmod 8) = (k : Int) % 8 := by
  rw [Int.tmod_eq_emod_of_nonneg (by omega), wrap_i64_small' _ (by omega) (by omega)]
theorem and8_one (n : Nat) (h : n < 256) : bits .and .u8 (n : Int) 1 = ((n % 2 : Nat) : Int) := by
  have := (by decide +kernel : ∀ i : Fin 256, bits .and .u8 ((i.val : Nat) : Int) 1 = ((i.val % 2 : Nat) : Int)) ⟨n, h⟩
  exact this
set_option maxHeartbeats 1000000 in
theorem bitOf_n (f : Nat → Nat) (i : Nat) (hf : ∀ i, f i < 256) (hi : i < 256) (w : World) : Ret 47 #[.agg (vals .u8 32 f), .int .i64 ((i : Nat) : Int)] w (.bool (f (i / 8) / 2 ^ (i % 8) % 2 == 1)) := by
  have hm0 : (0 : Int) ≤ (i : Int) := by omega
  have hm4 : (i : Int) < 256 := by omega
  have hq0 : (0 : Int) ≤ (i : Int) / 8 := by omega
  have hq4 : (i : Int) / 8 < 32 := by omega
  have hq : IntKind.i64.wrap ((i : Int).tdiv 8) = (i : Int) / 8 := quo8 i (by omega)
  have hq' : IntKind.i64.wrap ((i : Int) / 8) = (i : Int) / 8 := quo8' i (by omega)
  have hr : IntKind.i64.wrap ((i : Int).tmod 8) = (i : Int) % 8 := rem8 i
  have hr' : (i : Int).tmod 8 = (i : Int) % 8 := by rw [Int.tmod_eq_emod_of_nonneg (by omega)]
  have hqn : ((i : Int) / 8).toNat = i / 8 := by omega
  have hrn : ((i : Int) % 8).toNat = i % 8 := by omega
  have hr0 : (0 : Int) ≤ (i : Int) % 8 := by omega
  have hr4 : (i : Int) % 8 < 8 := by omega
  have hdl2 : f (i / 8) / 2 ^ (i % 8) < 256 := Nat.lt_of_le_of_lt (Nat.div_le_self _ _) (hf _)
  have hand := and8_one _ hdl2
  rw [show ((f (i / 8) / 2 ^ (i % 8) : Nat) : Int) = ((f (i / 8) : Nat) : Int) / 2 ^ (i % 8) by simp] at hand
  obtain ⟨x, hx⟩ : ∃ x, x = f (i / 8) / 2 ^ (i % 8) % 2 := ⟨_, rfl⟩
  rw [← hx] at hand ⊢
  clear hf hx hdl2
  have hO := Wn.start w
  go_enter Tryz.func47, Tryz.ntmps47
  go_upto_region 0 with (fail)
  refine Rg.ps [0] (fun ν => [(2, D (ν 0)), (4, .bool false)]) (OI w (Sq _ (fun ν => [ap ((ν 0), vals .u8 32 f, 22)]))) (fun _ => 0) hO (Rg.ac (sn 0 (fun _ => vals .u8 32 f) 22 (fun _ w => run_box 22 _ rfl _ (by kernel_rfl) w) (fun _ => ft (fit_by _))) (Rg.ac nV Rg.an)) ?_
  intro ν w1 hO
  simp only [OI, Sq, Sg, ap, qB, qC, qD, qE, qF, qG, Rg.putL, Act.put] at hO ⊢
  generalize ν 0 = n2 at hO ⊢
  clear ν
  have hL := hide hO.low
  have c0 := ((hO.row 0 rfl).cell (i / 8)).trans (vals_get _ _ _ _ (by omega))
  clear hO
  go_wp2
  go_ret
  exact ⟨ret_bool (by rw [Bool.eq_iff_iff]; simp; omega), hL.out⟩
theorem bitOf_c (f : Nat → Nat) (i : Nat) (hf : ∀ i, f i < 256) (hi : i < 256) (w : World) : Ret 47 #[.agg (vals .u8 32 f), .int .i64 ((i : Nat) : Int)] w (.bool ((nb f 32).testBit i)) := by
  rw [nb_bit f hf 32 i (by omega), bit_num]
  exact bitOf_n f i hf hi w
set_option maxHeartbeats 4000000 in
theorem same7_c (x y x2 y2 : Nat) (hx : x < pP) (hy : y < pP) (hx2 : x2 < pP) (hy2 : y2 < pP) (w : World) : Ret 24 #[.agg (ps [x, y]), .agg (ps [x2, y2])] w (.bool (decide (x = x2) && decide (y = y2))) := by
  go_enter Tryz.func24, Tryz.ntmps24
  have hO := Wn.start w
  go_upto_region 0 with (fail)
  refine Rg.ps [0, 1] (fun ν => [(2, D (ν 0)), (3, D (ν 1)), (4, .bool false)]) (OI w (Sq _ (fun ν => [ap ((ν 0), ps [x, y], 49), ap ((ν 1), ps [x2, y2], 49)]))) (fun _ => 0) hO (Rg.ac (sn 0 (fun _ => ps [x, y]) 49 (fun _ w => run_box 49 _ rfl _ (by kernel_rfl) w) (fun _ => ft (fit_pt _ _))) (Rg.ac (sn 1 (fun _ => ps [x2, y2]) 49 (fun _ w => run_box 49 _ rfl _ (by kernel_rfl) w) (fun _ => ft (fit_pt _ _))) (Rg.ac nV Rg.an))) ?_
  intro ν w1 hO
  simp only [OI, Sq, Sg, ap, qA, qB, qC, qD, qE, qF, qG, Rg.putL, Act.put] at hO ⊢
  generalize ν 0 = n2 at hO ⊢
  generalize ν 1 = n3 at hO ⊢
  clear ν
  go_upto_region 1 with (fail)
  by_cases hs : x = x2
  · skip
    have hc := same_c x x2 hx hx2
    rw [decide_eq_true hs] at hc
    refine Rg.ps [4, 10] (fun _ => [(5, E n2 0), (6, A (arr 4 (limb x))), (7, E n3 0), (8, A (arr 4 (limb x2))), (9, .bool true), (10, .bool true), (11, E n2 4), (12, A (arr 4 (limb y))), (13, E n3 4), (14, A (arr 4 (limb y2))), (15, .bool (decide (y = y2))), (16, .bool (decide (y = y2))), (4, .bool (decide (y = y2)))]) (OI w (Sq _ (fun _ => [id, id]))) (fun _ => 0) hO (Rg.ac nV (Rg.ac (npt 0 0 0 0 (fun _ => n2) 49 (fun _ => part_pt0 x y) (t1 0) Tryz.underlying47) (Rg.ac nV (Rg.ac (npt 0 0 1 0 (fun _ => n3) 49 (fun _ => part_pt0 x2 y2) (t1 0) Tryz.underlying47) (Rg.ac (sC 0 57 _ _ (fun _ => hc)) (Rg.ac nV (Rg.ac nV (Rg.ac (npt 1 1 0 4 (fun _ => n2) 49 (fun _ => part_pt1 x y) (t1 1) Tryz.underlying47) (Rg.ac nV (Rg.ac (npt 1 1 1 4 (fun _ => n3) 49 (fun _ => part_pt1 x2 y2) (t1 1) Tryz.underlying47) (Rg.ac (sC 1 57 _ _ (fun _ => same_c y y2 hy hy2)) (Rg.ac nV (Rg.ac nV Rg.an))))))))))))) ?_
    intro ν w2 hO
    simp only [OI, Sq, Sg, id, qC, qD, qE, qF, qG, Rg.putL, Act.put] at hO ⊢
    clear ν
    go_wp2_with fail
    refine bodyPost_ret (v := .bool (decide (y = y2))) (results_tmp Tryz.results24 _ _ _) rfl ⟨by rw [decide_eq_true hs]; rfl, hO.low⟩
  · skip
    have hc := same_c x x2 hx hx2
    rw [decide_eq_false hs] at hc
    refine Rg.ps [4] (fun _ => [(5, E n2 0), (6, A (arr 4 (limb x))), (7, E n3 0), (8, A (arr 4 (limb x2))), (9, .bool false), (10, .bool false), (11, U), (12, U), (13, U), (14, U), (15, U), (16, .bool false), (4, .bool false)]) (OI w (Sq _ (fun _ => [id]))) (fun _ => 0) hO (Rg.ac nV (Rg.ac (npt 0 0 0 0 (fun _ => n2) 49 (fun _ => part_pt0 x y) (t1 0) Tryz.underlying47) (Rg.ac nV (Rg.ac (npt 0 0 1 0 (fun _ => n3) 49 (fun _ => part_pt0 x2 y2) (t1 0) Tryz.underlying47) (Rg.ac (sC 0 57 _ _ (fun _ => hc)) (Rg.ac nV (Rg.ac nk (Rg.ac nk (Rg.ac nk (Rg.ac nk (Rg.ac nk (Rg.ac nV (Rg.ac nV Rg.an))))))))))))) ?_
    intro ν w2 hO
    simp only [OI, Sq, Sg, id, qC, qD, qE, qF, qG, Rg.putL, Act.put] at hO ⊢
    clear ν
    go_wp2_with fail
    refine bodyPost_ret (v := .bool false) (results_tmp Tryz.results24 _ _ _) rfl ⟨by rw [decide_eq_false hs]; rfl, hO.low⟩
def dE (x y : Nat) : Nat := sm (sm (mm (am x y) (am x y)) (mm x x)) (mm y y)
def dG (x y : Nat) : Nat := sm (mm y y) (mm x x)
def dF (x y z : Nat) : Nat := sm (dG x y) (am (mm z z) (mm z z))
def dH (x y : Nat) : Nat := ng (am (mm x x) (mm y y))
/-- A point and itself. -/
def dbl4 (x y z : Nat) : Q4 := (mm (dE x y) (dF x y z), mm (dG x y) (dH x y), mm (dF x y z) (dG x y), mm (dE x y) (dH x y))
abbrev pq (r : Q4) : Array Value := ps [r.1, r.2.1, r.2.2.1, r.2.2.2]
set_option maxHeartbeats 4000000 in
theorem twice_c (x y z : Nat) (hx : x < pP) (hy : y < pP) (hz : z < pP) (w : World) : Ret 101 #[.agg (ps [x, y, z])] w (.agg (pq (dbl4 x y z))) := by
  go_enter Tryz.func101, Tryz.ntmps101
  have hO := Wn.start w
  go_upto_region 0 with (fail)
  refine Rg.ps [0, 1] (fun ν => [(1, D (ν 0)), (2, D (ν 1))]) (OI w (Sq _ (fun ν => [ap ((ν 0), ps [x, y, z], 141), ap ((ν 1), ps [0, 0, 0, 0], 143)]))) (fun _ => 0) hO (Rg.ac (sn 0 (fun _ => ps [x, y, z]) 141 (fun _ w => run_box 141 _ rfl _ (by kernel_rfl) w) (fun _ => ft (fit_co _ _ _))) (Rg.ac (sn 1 (fun _ => ps [0, 0, 0, 0]) 143 (fun _ w => al83 rfl w) (fun _ => ft (fit_ru _ _ _ _))) Rg.an)) ?_
  intro ν w1 hO
  simp only [OI, Sq, Sg, ap, qA, qB, qC, qD, qE, qF, qG, Rg.putL, Act.put] at hO ⊢
  generalize ν 0 = n1 at hO ⊢
  generalize ν 1 = n2 at hO ⊢
  clear ν
  go_upto_region 1 with (fail)
  refine Rf.pg (fun ν => [(8, E n1 0), (9, A (arr 4 (limb x))), (10, A (arr 4 (limb (mm x x)))), (11, E n1 4), (12, A (arr 4 (limb y))), (13, A (arr 4 (limb (mm y y)))), (14, E n1 8), (15, A (arr 4 (limb z))), (16, A (arr 4 (limb (mm z z)))), (3, D (ν 9)), (4, D (ν 10)), (5, D (ν 11))]) [(n1, ps [x, y, z], 141, none), (n2, ps [0, 0, 0, 0], 143, none)] (fun _ => [(9, arr 4 (limb 0), 47, some (12, arr 4 (limb (mm x x)))), (10, arr 4 (limb 0), 47, some (13, arr 4 (limb (mm y y)))), (11, arr 4 (limb 0), 47, some (14, arr 4 (limb (mm z z))))]) (fun _ => 0) hO.drew (Rg.ac Rf.fv (Rg.ac (Rf.fpt 0 0 (fun _ => n1) 141 (fun _ => part_co0 x y z) (fun D ν _ => rfl) Tryz.underlying47) (Rg.ac (Rf.fq 50 _ _ (fun D ν w my hO => (sq_c x hx) w)) (Rg.ac Rf.fv (Rg.ac (Rf.fpt 0 4 (fun _ => n1) 141 (fun _ => part_co1 x y z) (fun D ν _ => rfl) Tryz.underlying47) (Rg.ac (Rf.fq 50 _ _ (fun D ν w my hO => (sq_c y hy) w)) (Rg.ac Rf.fv (Rg.ac (Rf.fpt 0 8 (fun _ => n1) 141 (fun _ => part_co2 x y z) (fun D ν _ => rfl) Tryz.underlying47) (Rg.ac (Rf.fq 50 _ _ (fun D ν w my hO => (sq_c z hz) w)) (Rg.ac (Rf.ga 0 (fun _ _ => rfl) (fun _ _ => rfl) (fun _ w => al27 rfl w) (fun _ => ft (fit_fe _))) (Rg.ac (Rf.ga 1 (fun _ _ => rfl) (fun _ _ => rfl) (fun _ w => al27 rfl w) (fun _ => ft (fit_fe _))) (Rg.ac (Rf.ga 2 (fun _ _ => rfl) (fun _ _ => rfl) (fun _ w => al27 rfl w) (fun _ => ft (fit_fe _))) (Rg.ac (Rf.gm 0 9 (fun _ => rfl) (ft (fit_fe _))) (Rg.ac (Rf.gm 1 10 (fun _ => rfl) (ft (fit_fe _))) (Rg.ac (Rf.gm 2 11 (fun _ => rfl) (ft (fit_fe _))) Rg.an))))))))))))))) ?_
  intro ν w2 hO
  replace hO : Wn w w2 [(n1, ps [x, y, z], 141), (n2, ps [0, 0, 0, 0], 143), ((ν 9), arr 4 (limb (mm x x)), 47), ((ν 10), arr 4 (limb (mm y y)), 47), ((ν 11), arr 4 (limb (mm z z)), 47)] := hO
  simp only [qC, qD, qE, Rg.putL, Act.put]
  generalize ν 9 = n3 at hO ⊢
  generalize ν 10 = n4 at hO ⊢
  generalize ν 11 = n5 at hO ⊢
  clear ν
  go_upto_region 2 with (fail)
  refine Rf.pg (fun ν => [(17, E n1 0), (18, A (arr 4 (limb x))), (19, E n1 4), (20, A (arr 4 (limb y))), (21, A (arr 4 (limb (am x y)))), (22, A (arr 4 (limb (mm (am x y) (am x y))))), (23, A (arr 4 (limb (mm x x)))), (24, A (arr 4 (limb (sm (mm (am x y) (am x y)) (mm x x))))), (25, A (arr 4 (limb (mm y y)))), (26, A (arr 4 (limb (sm (sm (mm (am x y) (am x y)) (mm x x)) (mm y y))))), (6, D (ν 10))]) [(n1, ps [x, y, z], 141, none), (n2, ps [0, 0, 0, 0], 143, none), (n3, arr 4 (limb (mm x x)), 47, none), (n4, arr 4 (limb (mm y y)), 47, none), (n5, arr 4 (limb (mm z z)), 47, none)] (fun _ => [(10, arr 4 (limb 0), 47, some (11, arr 4 (limb (sm (sm (mm (am x y) (am x y)) (mm x x)) (mm y y)))))]) (fun _ => 0) hO.drew (Rg.ac Rf.fv (Rg.ac (Rf.fpt 0 0 (fun _ => n1) 141 (fun _ => part_co0 x y z) (fun D ν _ => rfl) Tryz.underlying47) (Rg.ac Rf.fv (Rg.ac (Rf.fpt 0 4 (fun _ => n1) 141 (fun _ => part_co1 x y z) (fun D ν _ => rfl) Tryz.underlying47) (Rg.ac (Rf.fq 54 _ _ (fun D ν w my hO => (add_c x y hx hy) w)) (Rg.ac (Rf.fq 50 _ _ (fun D ν w my hO => (sq_c (am x y) (am_lt _ _)) w)) (Rg.ac (Rf.fld 2 (fun _ => n3) (fun _ => arr 4 (limb (mm x x))) (fun D ν _ => rfl) Tryz.underlying47) (Rg.ac (Rf.fq 52 _ _ (fun D ν w my hO => (sub_c (mm (am x y) (am x y)) (mm x x) (mm_lt _ _) (mm_lt _ _)) w)) (Rg.ac (Rf.fld 3 (fun _ => n4) (fun _ => arr 4 (limb (mm y y))) (fun D ν _ => rfl) Tryz.underlying47) (Rg.ac (Rf.fq 52 _ _ (fun D ν w my hO => (sub_c (sm (mm (am x y) (am x y)) (mm x x)) (mm y y) (sm_lt _ _) (mm_lt _ _)) w)) (Rg.ac (Rf.ga 0 (fun _ _ => rfl) (fun _ _ => rfl) (fun _ w => al27 rfl w) (fun _ => ft (fit_fe _))) (Rg.ac (Rf.gm 0 10 (fun _ => rfl) (ft (fit_fe _))) Rg.an)))))))))))) ?_
  intro ν w3 hO
  replace hO : Wn w w3 [(n1, ps [x, y, z], 141), (n2, ps [0, 0, 0, 0], 143), (n3, arr 4 (limb (mm x x)), 47), (n4, arr 4 (limb (mm y y)), 47), (n5, arr 4 (limb (mm z z)), 47), ((ν 10), arr 4 (limb (sm (sm (mm (am x y) (am x y)) (mm x x)) (mm y y))), 47)] := hO
  simp only [qC, qD, qE, Rg.putL, Act.put]
  generalize ν 10 = n6 at hO ⊢
  clear ν
  go_upto_region 3 with (fail)
  refine Rg.ps [2, 3, 4] (fun ν => [(27, A (arr 4 (limb (mm y y)))), (28, A (arr 4 (limb (mm x x)))), (29, A (arr 4 (limb (sm (mm y y) (mm x x))))), (7, D (ν 3))]) (OI w (Sq _ (fun ν => [id, ap ((ν 3), arr 4 (limb 0), 47), se 6 ((ν 3), arr 4 (limb (sm (mm y y) (mm x x))), 47)]))) (fun _ => 0) hO (Rg.ac (nld 0 0 3 (fun _ => n4) (fun _ => arr 4 (limb (mm y y))) (t1 0) Tryz.underlying47) (Rg.ac (nld 0 0 2 (fun _ => n3) (fun _ => arr 4 (limb (mm x x))) (t1 0) Tryz.underlying47) (Rg.ac (sC 0 52 _ _ (fun _ => sub_c (mm y y) (mm x x) (mm_lt _ _) (mm_lt _ _))) (Rg.ac (sn 1 (fun _ => arr 4 (limb 0)) 47 (fun _ w => al27 rfl w) (fun _ => ft (fit_fe _))) (Rg.ac (sr 2 6 (fun _ => arr 4 (limb (sm (mm y y) (mm x x)))) (fun _ => ft (fit_fe _))) Rg.an))))) ?_
  intro ν w4 hO
  simp only [OI, Sq, Sg, ap, se, id, qA, qB, qC, qD, qE, qF, qG, Rg.putL, Act.put] at hO ⊢
  generalize ν 3 = n7 at hO ⊢
  clear ν
  go_upto_region 4 with (fail)
  refine Rg.pd [4, 5, 9, 10, 11, 12] (fun _ => [(30, A (arr 4 (limb (sm (sm (mm (am x y) (am x y)) (mm x x)) (mm y y))))), (31, A (arr 4 (limb (sm (mm y y) (mm x x))))), (32, A (arr 4 (limb (mm z z)))), (33, A (arr 4 (limb (mm z z)))), (34, A (arr 4 (limb (am (mm z z) (mm z z))))), (35, A (arr 4 (limb (sm (sm (mm y y) (mm x x)) (am (mm z z) (mm z z)))))), (36, A (arr 4 (limb (sm (mm y y) (mm x x))))), (37, A (arr 4 (limb (mm x x)))), (38, A (arr 4 (limb (mm y y)))), (39, A (arr 4 (limb (am (mm x x) (mm y y))))), (40, A (arr 4 (limb (ng (am (mm x x) (mm y y)))))), (41, A (ps [mm (sm (sm (mm (am x y) (am x y)) (mm x x)) (mm y y)) (sm (sm (mm y y) (mm x x)) (am (mm z z) (mm z z))), mm (sm (mm y y) (mm x x)) (ng (am (mm x x) (mm y y))), mm (sm (sm (mm y y) (mm x x)) (am (mm z z) (mm z z))) (sm (mm y y) (mm x x)), mm (sm (sm (mm (am x y) (am x y)) (mm x x)) (mm y y)) (ng (am (mm x x) (mm y y)))]))]) (OI w (Sq _ (fun _ => [id, id, id, id, id, se 1 (n2, ps [mm (sm (sm (mm (am x y) (am x y)) (mm x x)) (mm y y)) (sm (sm (mm y y) (mm x x)) (am (mm z z) (mm z z))), mm (sm (mm y y) (mm x x)) (ng (am (mm x x) (mm y y))), mm (sm (sm (mm y y) (mm x x)) (am (mm z z) (mm z z))) (sm (mm y y) (mm x x)), mm (sm (sm (mm (am x y) (am x y)) (mm x x)) (mm y y)) (ng (am (mm x x) (mm y y)))], 143)]))) (fun _ => 0) hO.drew (Rg.ac (nld 0 4 5 (fun _ => n6) (fun _ => arr 4 (limb (sm (sm (mm (am x y) (am x y)) (mm x x)) (mm y y)))) (t2 0 4 (t2 1 4 (t2 2 4 (t2 3 4 (t1 4))))) Tryz.underlying47) (Rg.ac (nld 0 1 6 (fun _ => n7) (fun _ => arr 4 (limb (sm (mm y y) (mm x x)))) (t2 0 1 (t1 1)) Tryz.underlying47) (Rg.ac (nld 0 0 4 (fun _ => n5) (fun _ => arr 4 (limb (mm z z))) (t1 0) Tryz.underlying47) (Rg.ac (nld 0 0 4 (fun _ => n5) (fun _ => arr 4 (limb (mm z z))) (t1 0) Tryz.underlying47) (Rg.ac (sC 0 54 _ _ (fun _ => add_c (mm z z) (mm z z) (mm_lt _ _) (mm_lt _ _))) (Rg.ac (sC 1 52 _ _ (fun _ => sub_c (sm (mm y y) (mm x x)) (am (mm z z) (mm z z)) (sm_lt _ _) (am_lt _ _))) (Rg.ac (nld 0 4 6 (fun _ => n7) (fun _ => arr 4 (limb (sm (mm y y) (mm x x)))) (t2 0 4 (t2 1 4 (t2 2 4 (t2 3 4 (t1 4))))) Tryz.underlying47) (Rg.ac (nld 0 2 2 (fun _ => n3) (fun _ => arr 4 (limb (mm x x))) (t2 0 2 (t2 1 2 (t1 2))) Tryz.underlying47) (Rg.ac (nld 0 2 3 (fun _ => n4) (fun _ => arr 4 (limb (mm y y))) (t2 0 2 (t2 1 2 (t1 2))) Tryz.underlying47) (Rg.ac (sC 2 54 _ _ (fun _ => add_c (mm x x) (mm y y) (mm_lt _ _) (mm_lt _ _))) (Rg.ac (sC 3 60 _ _ (fun _ => neg_c (am (mm x x) (mm y y)) (am_lt _ _))) (Rg.ac (sC 4 116 _ _ (fun _ => joined_c (sm (sm (mm (am x y) (am x y)) (mm x x)) (mm y y)) (sm (sm (mm y y) (mm x x)) (am (mm z z) (mm z z))) (sm (mm y y) (mm x x)) (ng (am (mm x x) (mm y y))) (sm_lt _ _) (sm_lt _ _) (sm_lt _ _) (ng_lt _))) (Rg.ac (sr 5 1 (fun _ => ps [mm (sm (sm (mm (am x y) (am x y)) (mm x x)) (mm y y)) (sm (sm (mm y y) (mm x x)) (am (mm z z) (mm z z))), mm (sm (mm y y) (mm x x)) (ng (am (mm x x) (mm y y))), mm (sm (sm (mm y y) (mm x x)) (am (mm z z) (mm z z))) (sm (mm y y) (mm x x)), mm (sm (sm (mm (am x y) (am x y)) (mm x x)) (mm y y)) (ng (am (mm x x) (mm y y)))]) (fun _ => ft (fit_ru _ _ _ _))) Rg.an))))))))))))) ?_
  intro ν w5 hO
  simp only [OI, Sq, Sg, se, id, qC, qD, qE, qF, qG, Rg.putL, Act.put] at hO ⊢
  clear ν
  go_wp2_with fail
  refine bodyPost_ret (v := .agg (ps [mm (sm (sm (mm (am x y) (am x y)) (mm x x)) (mm y y)) (sm (sm (mm y y) (mm x x)) (am (mm z z) (mm z z))), mm (sm (mm y y) (mm x x)) (ng (am (mm x x) (mm y y))), mm (sm (sm (mm y y) (mm x x)) (am (mm z z) (mm z z))) (sm (mm y y) (mm x x)), mm (sm (sm (mm (am x y) (am x y)) (mm x x)) (mm y y)) (ng (am (mm x x) (mm y y)))])) (results_cell_row Tryz.results101 _ _ n2 143 _ (0, 0) _ rfl (hO.row 1 rfl) Tryz.underlying143 rfl (fit_ru _ _ _ _).size) rfl ⟨rfl, hO.low⟩
/-- A sum, by what is asked of the second point. -/
def pl4 (x y z t s l b : Nat) : Q4 := (mm (sm (mm (am y x) s) (mm (sm y x) l)) (sm (am z z) (mm t b)), mm (am (am z z) (mm t b)) (am (mm (am y x) s) (mm (sm y x) l)), mm (sm (am z z) (mm t b)) (am (am z z) (mm t b)), mm (sm (mm (am y x) s) (mm (sm y x) l)) (am (mm (am y x) s) (mm (sm y x) l)))
set_option maxHeartbeats 4000000 in
theorem plus_c (x y z t s l b : Nat) (hx : x < pP) (hy : y < pP) (hz : z < pP) (ht : t < pP) (hs : s < pP) (hl : l < pP) (hb : b < pP) (w : World) : Ret 102 #[.agg (ps [x, y, z, t]), .agg (ps [s, l, b])] w (.agg (pq (pl4 x y z t s l b))) := by
  go_enter Tryz.func102, Tryz.ntmps102
  have hO := Wn.start w
  go_upto_region 0 with (fail)
  refine Rg.ps [0, 1, 2] (fun ν => [(2, D (ν 0)), (3, D (ν 1)), (4, D (ν 2))]) (OI w (Sq _ (fun ν => [ap ((ν 0), ps [x, y, z, t], 143), ap ((ν 1), ps [s, l, b], 97), ap ((ν 2), ps [0, 0, 0, 0], 143)]))) (fun _ => 0) hO (Rg.ac (sn 0 (fun _ => ps [x, y, z, t]) 143 (fun _ w => run_box 143 _ rfl _ (by kernel_rfl) w) (fun _ => ft (fit_ru _ _ _ _))) (Rg.ac (sn 1 (fun _ => ps [s, l, b]) 97 (fun _ w => run_box 97 _ rfl _ (by kernel_rfl) w) (fun _ => ft (fit_ad _ _ _))) (Rg.ac (sn 2 (fun _ => ps [0, 0, 0, 0]) 143 (fun _ w => al83 rfl w) (fun _ => ft (fit_ru _ _ _ _))) Rg.an))) ?_
  intro ν w1 hO
  simp only [OI, Sq, Sg, ap, qA, qB, qC, qD, qE, qF, qG, Rg.putL, Act.put] at hO ⊢
  generalize ν 0 = n2 at hO ⊢
  generalize ν 1 = n3 at hO ⊢
  generalize ν 2 = n4 at hO ⊢
  clear ν
  go_upto_region 1 with (fail)
  refine Rg.ps [2, 6, 7, 8, 9] (fun ν => [(12, E n2 0), (13, A (ps [x, y, z])), (14, .tuple #[A (arr 4 (limb (am y x))), A (arr 4 (limb (sm y x)))]), (11, .tuple #[A (arr 4 (limb (am y x))), A (arr 4 (limb (sm y x)))]), (15, A (arr 4 (limb (am y x)))), (16, A (arr 4 (limb (sm y x)))), (5, D (ν 6)), (6, D (ν 7))]) (OI w (Sq _ (fun ν => [id, ap ((ν 6), arr 4 (limb 0), 47), ap ((ν 7), arr 4 (limb 0), 47), se 3 ((ν 6), arr 4 (limb (am y x)), 47), se 4 ((ν 7), arr 4 (limb (sm y x)), 47)]))) (fun _ => 0) hO (Rg.ac nV (Rg.ac (npt 0 0 0 0 (fun _ => n2) 143 (fun _ => part_ruc x y z t) (t1 0) Tryz.underlying141) (Rg.ac (sC 0 105 _ _ (fun _ => sides_c x y z hx hy)) (Rg.ac nV (Rg.ac nV (Rg.ac nV (Rg.ac (sn 1 (fun _ => arr 4 (limb 0)) 47 (fun _ w => al27 rfl w) (fun _ => ft (fit_fe _))) (Rg.ac (sn 2 (fun _ => arr 4 (limb 0)) 47 (fun _ w => al27 rfl w) (fun _ => ft (fit_fe _))) (Rg.ac (sr 3 3 (fun _ => arr 4 (limb (am y x))) (fun _ => ft (fit_fe _))) (Rg.ac (sr 4 4 (fun _ => arr 4 (limb (sm y x))) (fun _ => ft (fit_fe _))) Rg.an)))))))))) ?_
  intro ν w2 hO
  simp only [OI, Sq, Sg, ap, se, id, qA, qB, qC, qD, qE, qF, qG, Rg.putL, Act.put] at hO ⊢
  generalize ν 6 = n5 at hO ⊢
  generalize ν 7 = n6 at hO ⊢
  clear ν
  go_upto_region 2 with (fail)
  refine Rf.pg (fun ν => [(17, A (arr 4 (limb (am y x)))), (18, E n3 0), (19, A (arr 4 (limb s))), (20, A (arr 4 (limb (mm (am y x) s)))), (21, A (arr 4 (limb (sm y x)))), (22, E n3 4), (23, A (arr 4 (limb l))), (24, A (arr 4 (limb (mm (sm y x) l)))), (7, D (ν 8)), (8, D (ν 9))]) [(n2, ps [x, y, z, t], 143, none), (n3, ps [s, l, b], 97, none), (n4, ps [0, 0, 0, 0], 143, none), (n5, arr 4 (limb (am y x)), 47, none), (n6, arr 4 (limb (sm y x)), 47, none)] (fun _ => [(8, arr 4 (limb 0), 47, some (10, arr 4 (limb (mm (am y x) s)))), (9, arr 4 (limb 0), 47, some (11, arr 4 (limb (mm (sm y x) l))))]) (fun _ => 0) hO.drew (Rg.ac (Rf.fld 3 (fun _ => n5) (fun _ => arr 4 (limb (am y x))) (fun D ν _ => rfl) Tryz.underlying47) (Rg.ac Rf.fv (Rg.ac (Rf.fpt 1 0 (fun _ => n3) 97 (fun _ => part_co0 s l b) (fun D ν _ => rfl) Tryz.underlying47) (Rg.ac (Rf.fq 55 _ _ (fun D ν w my hO => (mul_c (am y x) s (am_lt _ _) hs) w)) (Rg.ac (Rf.fld 4 (fun _ => n6) (fun _ => arr 4 (limb (sm y x))) (fun D ν _ => rfl) Tryz.underlying47) (Rg.ac Rf.fv (Rg.ac (Rf.fpt 1 4 (fun _ => n3) 97 (fun _ => part_co1 s l b) (fun D ν _ => rfl) Tryz.underlying47) (Rg.ac (Rf.fq 55 _ _ (fun D ν w my hO => (mul_c (sm y x) l (sm_lt _ _) hl) w)) (Rg.ac (Rf.ga 0 (fun _ _ => rfl) (fun _ _ => rfl) (fun _ w => al27 rfl w) (fun _ => ft (fit_fe _))) (Rg.ac (Rf.ga 1 (fun _ _ => rfl) (fun _ _ => rfl) (fun _ w => al27 rfl w) (fun _ => ft (fit_fe _))) (Rg.ac (Rf.gm 0 8 (fun _ => rfl) (ft (fit_fe _))) (Rg.ac (Rf.gm 1 9 (fun _ => rfl) (ft (fit_fe _))) Rg.an)))))))))))) ?_
  intro ν w3 hO
  replace hO : Wn w w3 [(n2, ps [x, y, z, t], 143), (n3, ps [s, l, b], 97), (n4, ps [0, 0, 0, 0], 143), (n5, arr 4 (limb (am y x)), 47), (n6, arr 4 (limb (sm y x)), 47), ((ν 8), arr 4 (limb (mm (am y x) s)), 47), ((ν 9), arr 4 (limb (mm (sm y x) l)), 47)] := hO
  simp only [qC, qD, qE, Rg.putL, Act.put]
  generalize ν 8 = n7 at hO ⊢
  generalize ν 9 = n8 at hO ⊢
  clear ν
  go_upto_region 3 with (fail)
  refine Rf.pg (fun ν => [(25, E n2 0), (26, E n2 8), (27, A (arr 4 (limb z))), (28, E n2 0), (29, E n2 8), (30, A (arr 4 (limb z))), (31, A (arr 4 (limb (am z z)))), (32, E n2 12), (33, A (arr 4 (limb t))), (34, E n3 8), (35, A (arr 4 (limb b))), (36, A (arr 4 (limb (mm t b)))), (9, D (ν 12)), (10, D (ν 13))]) [(n2, ps [x, y, z, t], 143, none), (n3, ps [s, l, b], 97, none), (n4, ps [0, 0, 0, 0], 143, none), (n5, arr 4 (limb (am y x)), 47, none), (n6, arr 4 (limb (sm y x)), 47, none), (n7, arr 4 (limb (mm (am y x) s)), 47, none), (n8, arr 4 (limb (mm (sm y x) l)), 47, none)] (fun _ => [(12, arr 4 (limb 0), 47, some (14, arr 4 (limb (am z z)))), (13, arr 4 (limb 0), 47, some (15, arr 4 (limb (mm t b))))]) (fun _ => 0) hO.drew (Rg.ac Rf.fv (Rg.ac Rf.fv (Rg.ac (Rf.fpt 0 8 (fun _ => n2) 143 (fun _ => part_ru2 x y z t) (fun D ν _ => rfl) Tryz.underlying47) (Rg.ac Rf.fv (Rg.ac Rf.fv (Rg.ac (Rf.fpt 0 8 (fun _ => n2) 143 (fun _ => part_ru2 x y z t) (fun D ν _ => rfl) Tryz.underlying47) (Rg.ac (Rf.fq 54 _ _ (fun D ν w my hO => (add_c z z hz hz) w)) (Rg.ac Rf.fv (Rg.ac (Rf.fpt 0 12 (fun _ => n2) 143 (fun _ => part_ru3 x y z t) (fun D ν _ => rfl) Tryz.underlying47) (Rg.ac Rf.fv (Rg.ac (Rf.fpt 1 8 (fun _ => n3) 97 (fun _ => part_co2 s l b) (fun D ν _ => rfl) Tryz.underlying47) (Rg.ac (Rf.fq 55 _ _ (fun D ν w my hO => (mul_c t b ht hb) w)) (Rg.ac (Rf.ga 0 (fun _ _ => rfl) (fun _ _ => rfl) (fun _ w => al27 rfl w) (fun _ => ft (fit_fe _))) (Rg.ac (Rf.ga 1 (fun _ _ => rfl) (fun _ _ => rfl) (fun _ w => al27 rfl w) (fun _ => ft (fit_fe _))) (Rg.ac (Rf.gm 0 12 (fun _ => rfl) (ft (fit_fe _))) (Rg.ac (Rf.gm 1 13 (fun _ => rfl) (ft (fit_fe _))) Rg.an)))))))))))))))) ?_
  intro ν w4 hO
  replace hO : Wn w w4 [(n2, ps [x, y, z, t], 143), (n3, ps [s, l, b], 97), (n4, ps [0, 0, 0, 0], 143), (n5, arr 4 (limb (am y x)), 47), (n6, arr 4 (limb (sm y x)), 47), (n7, arr 4 (limb (mm (am y x) s)), 47), (n8, arr 4 (limb (mm (sm y x) l)), 47), ((ν 12), arr 4 (limb (am z z)), 47), ((ν 13), arr 4 (limb (mm t b)), 47)] := hO
  simp only [qC, qD, qE, Rg.putL, Act.put]
  generalize ν 12 = n9 at hO ⊢
  generalize ν 13 = n10 at hO ⊢
  clear ν
  go_upto_region 4 with (fail)
  refine Rg.pd [2, 5, 8, 11, 12, 13] (fun _ => [(37, A (arr 4 (limb (mm (am y x) s)))), (38, A (arr 4 (limb (mm (sm y x) l)))), (39, A (arr 4 (limb (sm (mm (am y x) s) (mm (sm y x) l))))), (40, A (arr 4 (limb (am z z)))), (41, A (arr 4 (limb (mm t b)))), (42, A (arr 4 (limb (sm (am z z) (mm t b))))), (43, A (arr 4 (limb (am z z)))), (44, A (arr 4 (limb (mm t b)))), (45, A (arr 4 (limb (am (am z z) (mm t b))))), (46, A (arr 4 (limb (mm (am y x) s)))), (47, A (arr 4 (limb (mm (sm y x) l)))), (48, A (arr 4 (limb (am (mm (am y x) s) (mm (sm y x) l))))), (49, A (ps [mm (sm (mm (am y x) s) (mm (sm y x) l)) (sm (am z z) (mm t b)), mm (am (am z z) (mm t b)) (am (mm (am y x) s) (mm (sm y x) l)), mm (sm (am z z) (mm t b)) (am (am z z) (mm t b)), mm (sm (mm (am y x) s) (mm (sm y x) l)) (am (mm (am y x) s) (mm (sm y x) l))]))]) (OI w (Sq _ (fun _ => [id, id, id, id, id, se 2 (n4, ps [mm (sm (mm (am y x) s) (mm (sm y x) l)) (sm (am z z) (mm t b)), mm (am (am z z) (mm t b)) (am (mm (am y x) s) (mm (sm y x) l)), mm (sm (am z z) (mm t b)) (am (am z z) (mm t b)), mm (sm (mm (am y x) s) (mm (sm y x) l)) (am (mm (am y x) s) (mm (sm y x) l))], 143)]))) (fun _ => 0) hO.drew (Rg.ac (nld 0 0 5 (fun _ => n7) (fun _ => arr 4 (limb (mm (am y x) s))) (t1 0) Tryz.underlying47) (Rg.ac (nld 0 0 6 (fun _ => n8) (fun _ => arr 4 (limb (mm (sm y x) l))) (t1 0) Tryz.underlying47) (Rg.ac (sC 0 52 _ _ (fun _ => sub_c (mm (am y x) s) (mm (sm y x) l) (mm_lt _ _) (mm_lt _ _))) (Rg.ac (nld 0 1 7 (fun _ => n9) (fun _ => arr 4 (limb (am z z))) (t2 0 1 (t1 1)) Tryz.underlying47) (Rg.ac (nld 0 1 8 (fun _ => n10) (fun _ => arr 4 (limb (mm t b))) (t2 0 1 (t1 1)) Tryz.underlying47) (Rg.ac (sC 1 52 _ _ (fun _ => sub_c (am z z) (mm t b) (am_lt _ _) (mm_lt _ _))) (Rg.ac (nld 0 2 7 (fun _ => n9) (fun _ => arr 4 (limb (am z z))) (t2 0 2 (t2 1 2 (t1 2))) Tryz.underlying47) (Rg.ac (nld 0 2 8 (fun _ => n10) (fun _ => arr 4 (limb (mm t b))) (t2 0 2 (t2 1 2 (t1 2))) Tryz.underlying47) (Rg.ac (sC 2 54 _ _ (fun _ => add_c (am z z) (mm t b) (am_lt _ _) (mm_lt _ _))) (Rg.ac (nld 0 3 5 (fun _ => n7) (fun _ => arr 4 (limb (mm (am y x) s))) (t2 0 3 (t2 1 3 (t2 2 3 (t1 3)))) Tryz.underlying47) (Rg.ac (nld 0 3 6 (fun _ => n8) (fun _ => arr 4 (limb (mm (sm y x) l))) (t2 0 3 (t2 1 3 (t2 2 3 (t1 3)))) Tryz.underlying47) (Rg.ac (sC 3 54 _ _ (fun _ => add_c (mm (am y x) s) (mm (sm y x) l) (mm_lt _ _) (mm_lt _ _))) (Rg.ac (sC 4 116 _ _ (fun _ => joined_c (sm (mm (am y x) s) (mm (sm y x) l)) (sm (am z z) (mm t b)) (am (am z z) (mm t b)) (am (mm (am y x) s) (mm (sm y x) l)) (sm_lt _ _) (sm_lt _ _) (am_lt _ _) (am_lt _ _))) (Rg.ac (sr 5 2 (fun _ => ps [mm (sm (mm (am y x) s) (mm (sm y x) l)) (sm (am z z) (mm t b)), mm (am (am z z) (mm t b)) (am (mm (am y x) s) (mm (sm y x) l)), mm (sm (am z z) (mm t b)) (am (am z z) (mm t b)), mm (sm (mm (am y x) s) (mm (sm y x) l)) (am (mm (am y x) s) (mm (sm y x) l))]) (fun _ => ft (fit_ru _ _ _ _))) Rg.an)))))))))))))) ?_
  intro ν w5 hO
  simp only [OI, Sq, Sg, se, id, qC, qD, qE, qF, qG, Rg.putL, Act.put] at hO ⊢
  clear ν
  go_wp2_with fail
  refine bodyPost_ret (v := .agg (ps [mm (sm (mm (am y x) s) (mm (sm y x) l)) (sm (am z z) (mm t b)), mm (am (am z z) (mm t b)) (am (mm (am y x) s) (mm (sm y x) l)), mm (sm (am z z) (mm t b)) (am (am z z) (mm t b)), mm (sm (mm (am y x) s) (mm (sm y x) l)) (am (mm (am y x) s) (mm (sm y x) l))])) (results_cell_row Tryz.results102 _ _ n4 143 _ (0, 0) _ rfl (hO.row 2 rfl) Tryz.underlying143 rfl (fit_ru _ _ _ _).size) rfl ⟨rfl, hO.low⟩
set_option maxHeartbeats 4000000 in
theorem at_c (f : Nat → Nat) (i s l b s2 l2 b2 : Nat) (hf : ∀ i, f i < 256) (hi : i < 256) (w : World) : Ret 103 #[.agg (mu f [s, l, b]), .int .i64 ((i : Nat) : Int), .agg (ps [s2, l2, b2])] w (.agg (ps [cond ((nb f 32).testBit i) s s2, cond ((nb f 32).testBit i) l l2, cond ((nb f 32).testBit i) b b2])) := by
  go_enter Tryz.func103, Tryz.ntmps103
  have hO := Wn.start w
  go_upto_region 0 with (fail)
  refine Rg.ps [0, 1, 2] (fun ν => [(3, D (ν 0)), (5, D (ν 1)), (6, D (ν 2))]) (OI w (Sq _ (fun ν => [ap ((ν 0), mu f [s, l, b], 100), ap ((ν 1), ps [s2, l2, b2], 97), ap ((ν 2), ps [0, 0, 0], 97)]))) (fun _ => 0) hO (Rg.ac (sn 0 (fun _ => mu f [s, l, b]) 100 (fun _ w => run_box 100 _ rfl _ (by kernel_rfl) w) (fun _ => ft (fit_mu _ _ _ _))) (Rg.ac (sn 1 (fun _ => ps [s2, l2, b2]) 97 (fun _ w => run_box 97 _ rfl _ (by kernel_rfl) w) (fun _ => ft (fit_ad _ _ _))) (Rg.ac (sn 2 (fun _ => ps [0, 0, 0]) 97 (fun _ w => al87 rfl w) (fun _ => ft (fit_ad _ _ _))) Rg.an))) ?_
  intro ν w1 hO
  simp only [OI, Sq, Sg, ap, qA, qB, qC, qD, qE, qF, qG, Rg.putL, Act.put] at hO ⊢
  generalize ν 0 = n3 at hO ⊢
  generalize ν 1 = n5 at hO ⊢
  generalize ν 2 = n6 at hO ⊢
  clear ν
  go_upto_region 1 with (fail)
  refine Rg.ps [3] (fun _ => [(8, E n3 0), (9, A (vals .u8 32 f)), (10, .int .i64 ((i : Nat) : Int)), (11, .bool ((nb f 32).testBit i)), (7, .bool ((nb f 32).testBit i))]) (OI w (Sq _ (fun _ => [id]))) (fun _ => 0) hO (Rg.ac nV (Rg.ac (npt 0 0 0 0 (fun _ => n3) 100 (fun _ => part_mub f s l b) (t1 0) Tryz.underlying22) (Rg.ac nV (Rg.ac (sC 0 47 _ _ (fun _ => bitOf_c f i hf hi)) (Rg.ac nV Rg.an))))) ?_
  intro ν w2 hO
  simp only [OI, Sq, Sg, id, qC, qD, qE, qF, qG, Rg.putL, Act.put] at hO ⊢
  clear ν
  go_upto_region 2 with (fail)
  refine Rg.pd [6, 13, 20, 22] (fun _ => [(12, E n3 32), (13, E n3 32), (14, A (arr 4 (limb s))), (15, E n5 0), (16, A (arr 4 (limb s2))), (17, .bool ((nb f 32).testBit i)), (18, A (arr 4 (limb (cond ((nb f 32).testBit i) s s2)))), (19, E n3 32), (20, E n3 36), (21, A (arr 4 (limb l))), (22, E n5 4), (23, A (arr 4 (limb l2))), (24, .bool ((nb f 32).testBit i)), (25, A (arr 4 (limb (cond ((nb f 32).testBit i) l l2)))), (26, E n3 32), (27, E n3 40), (28, A (arr 4 (limb b))), (29, E n5 8), (30, A (arr 4 (limb b2))), (31, .bool ((nb f 32).testBit i)), (32, A (arr 4 (limb (cond ((nb f 32).testBit i) b b2)))), (33, A (ps [cond ((nb f 32).testBit i) s s2, cond ((nb f 32).testBit i) l l2, cond ((nb f 32).testBit i) b b2]))]) (OI w (Sq _ (fun _ => [id, id, id, se 2 (n6, ps [cond ((nb f 32).testBit i) s s2, cond ((nb f 32).testBit i) l l2, cond ((nb f 32).testBit i) b b2], 97)]))) (fun _ => 0) hO.drew (Rg.ac nV (Rg.ac nV (Rg.ac (npt 0 0 0 32 (fun _ => n3) 100 (fun _ => part_mu0 f s l b) (t1 0) Tryz.underlying47) (Rg.ac nV (Rg.ac (npt 0 0 1 0 (fun _ => n5) 97 (fun _ => part_co0 s2 l2 b2) (t1 0) Tryz.underlying47) (Rg.ac nV (Rg.ac (sC 0 59 _ _ (fun _ => pick_c s s2 ((nb f 32).testBit i))) (Rg.ac nV (Rg.ac nV (Rg.ac (npt 0 1 0 36 (fun _ => n3) 100 (fun _ => part_mu1 f s l b) (t2 0 1 (t1 1)) Tryz.underlying47) (Rg.ac nV (Rg.ac (npt 0 1 1 4 (fun _ => n5) 97 (fun _ => part_co1 s2 l2 b2) (t2 0 1 (t1 1)) Tryz.underlying47) (Rg.ac nV (Rg.ac (sC 1 59 _ _ (fun _ => pick_c l l2 ((nb f 32).testBit i))) (Rg.ac nV (Rg.ac nV (Rg.ac (npt 0 2 0 40 (fun _ => n3) 100 (fun _ => part_mu2 f s l b) (t2 0 2 (t2 1 2 (t1 2))) Tryz.underlying47) (Rg.ac nV (Rg.ac (npt 0 2 1 8 (fun _ => n5) 97 (fun _ => part_co2 s2 l2 b2) (t2 0 2 (t2 1 2 (t1 2))) Tryz.underlying47) (Rg.ac nV (Rg.ac (sC 2 59 _ _ (fun _ => pick_c b b2 ((nb f 32).testBit i))) (Rg.ac (nx (fun _ => A (ps [cond ((nb f 32).testBit i) s s2, cond ((nb f 32).testBit i) l l2, cond ((nb f 32).testBit i) b b2])) (fun _ w => run_bd 97 _ rfl [(0, A (arr 4 (limb (cond ((nb f 32).testBit i) s s2)))), (1, A (arr 4 (limb (cond ((nb f 32).testBit i) l l2)))), (2, A (arr 4 (limb (cond ((nb f 32).testBit i) b b2))))] (by kernel_rfl) _ (bd_ad _ _ _) w)) (Rg.ac (sr 3 2 (fun _ => ps [cond ((nb f 32).testBit i) s s2, cond ((nb f 32).testBit i) l l2, cond ((nb f 32).testBit i) b b2]) (fun _ => ft (fit_ad _ _ _))) Rg.an))))))))))))))))))))))) ?_
  intro ν w3 hO
  simp only [OI, Sq, Sg, se, id, qC, qD, qE, qF, qG, Rg.putL, Act.put] at hO ⊢
  clear ν
  go_wp2_with fail
  refine bodyPost_ret (v := .agg (ps [cond ((nb f 32).testBit i) s s2, cond ((nb f 32).testBit i) l l2, cond ((nb f 32).testBit i) b b2])) (results_cell_row Tryz.results103 _ _ n6 97 _ (0, 0) _ rfl (hO.row 2 rfl) Tryz.underlying97 rfl (fit_ad _ _ _).size) rfl ⟨rfl, hO.low⟩
end Go.Proofs.YtbpmakegimgbpaaGreatDoor

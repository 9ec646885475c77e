/- Texts in one: Hy Hd. -/
import Derived.Test.YtbpmakegimgbpaaGreatDoorJx
import Derived.Test.YtbpmakegimgbpaaGreatDoorJq
import Derived.Test.YtbpmakegimgbpaaGreatDoorJz
namespace Go.Proofs.YtbpmakegimgbpaaGreatDoor
set_option maxRecDepth 100000
open F Go.RowKit Rg
theorem verB_eq (g s : Nat → Nat) (m : List Nat) (hg : ∀ i, g i < 256) (hs : ∀ i, s i < 256) (b : Bool) (hb : ((decR (nb s 32)).2 && (decR (nb g 32)).2 && decide (nb (fun j => s (32 + j)) 32 < S.qL) && decide (mul7 base7 (nb (fun j => s (32 + j)) 32) = add7 (decR (nb s 32)).1 (mul7 (decR (nb g 32)).1 (dgn (bl s ++ bl g ++ m))))) = b) : b = verB g s m := by
  rw [← hb]
  unfold verB
  rw [decide_eq_decide.2 (verify7 (decR_ok _ (nb_lt32 g hg)) (decR_ok _ (nb_lt32 s hs)) (ok_mul ok_base _) _)]
set_option maxHeartbeats 4000000 in
theorem rverify_g (g s s2 : Nat → Nat) (R A M S1 B0 B1 : Nat × Nat) (br ba bf : Bool) (k : Nat) (P : Option Addr) (m : List Nat) (pc : Nat) (hg : ∀ i, g i < 256) (hs : ∀ i, s i < 256) (hs2 : Hid (s2 = fun j => s (32 + j))) (hR : ∀ w, Ret 28 #[.agg (vals .u8 32 s)] w (.tuple #[.agg (rp R), .bool br])) (hA : ∀ w, Ret 28 #[.agg (vals .u8 32 g)] w (.tuple #[.agg (rp A), .bool ba])) (hF : ∀ w, Ret 29 #[.agg (vals .u8 32 s2)] w (.bool bf)) (hM : ∀ w, Ret 31 #[.agg (vals .u8 32 (byt k)), .agg (rp A)] w (.agg (rp M))) (hS : ∀ w, Ret 30 #[.agg (rp R), .agg (rp M)] w (.agg (rp S1)))
    (hB : ∀ w, Ret 32 #[] w (.agg (rp B0))) (hN : ∀ w, Ret 31 #[.agg (vals .u8 32 s2), .agg (rp B0)] w (.agg (rp B1))) (hoS : Ok7 S1) (hoB : Ok7 B1) (Hk : Hid (dgn (bl s ++ bl g ++ m) = k)) (w : World) (hP : T.Rds w P m) (hm : ∀ x ∈ m, x < 256) (hml : m.length < 2 ^ 28) : Ret 11 #[.agg (vals .u8 32 g), .agg (vals .u8 64 s), .slice P m.length pc] w (.bool (br && ba && bf && decide (B1 = S1))) := by
  go_enter Tryz.func11, Tryz.ntmps11
  have HP := hide hP
  have Hm := hide hm
  have Hl := hide hml
  clear hP hm hml
  have hO := Wn.start w
  go_upto_region 0 with (fail)
  refine Rg.ps [0, 1] (fun ν => [(3, D (ν 0)), (4, D (ν 1)), (6, .bool false)]) (OI w (Sq _ (fun ν => [ap ((ν 0), vals .u8 32 g, 22), ap ((ν 1), vals .u8 64 s, 24)]))) (fun _ => 0) hO (Rg.ac (sn 0 (fun _ => vals .u8 32 g) 22 (fun _ w => run_box 22 _ rfl _ (by kernel_rfl) w) (fun _ => ft (fit_by _))) (Rg.ac (sn 1 (fun _ => vals .u8 64 s) 24 (fun _ w => run_box 24 _ rfl _ (by kernel_rfl) w) (fun _ => ft (fit_b6 _))) (Rg.ac nV Rg.an))) ?_
  intro ν w1 hO
  simp only [OI, Sq, Sg, ap, qA, qB, qC, qD, qE, qF, qG, Rg.putL, Act.put] at hO ⊢
  generalize ν 0 = n3 at hO ⊢
  generalize ν 1 = n4 at hO ⊢
  clear ν
  go_upto_region 1 with (fail)
  refine Rg.ps [1, 2] (fun ν => [(17, .agg (vals .u8 32 (fun _ => 0))), (7, D (ν 1))]) (OI w (Sq _ (fun ν => [ap ((ν 1), vals .u8 32 (fun _ => 0), 22), id]))) (fun _ => 0) hO (Rg.ac (nx (fun _ => .agg (vals .u8 32 (fun _ => 0))) (fun _ w => run_bd 22 _ rfl [] (by kernel_rfl) _ bd_by0 w)) (Rg.ac (sn 0 (fun _ => vals .u8 32 (fun _ => 0)) 22 (fun _ w => al22 rfl w) (fun _ => ft (fit_by _))) (Rg.ac (sr 1 2 (fun _ => vals .u8 32 (fun _ => 0)) (fun _ => ft (fit_by _))) Rg.an))) ?_
  intro ν w2 hO
  simp only [OI, Sq, Sg, ap, id, qA, qB, qC, qD, qE, qF, qG, Rg.putL, Act.put] at hO ⊢
  generalize ν 1 = n7 at hO ⊢
  clear ν
  go_upto_region 2 with (fail)
  refine Rg.ps [1, 2] (fun ν => [(18, .agg (vals .u8 32 (fun _ => 0))), (8, D (ν 1))]) (OI w (Sq _ (fun ν => [ap ((ν 1), vals .u8 32 (fun _ => 0), 22), id]))) (fun _ => 0) hO (Rg.ac (nx (fun _ => .agg (vals .u8 32 (fun _ => 0))) (fun _ w => run_bd 22 _ rfl [] (by kernel_rfl) _ bd_by0 w)) (Rg.ac (sn 0 (fun _ => vals .u8 32 (fun _ => 0)) 22 (fun _ w => al22 rfl w) (fun _ => ft (fit_by _))) (Rg.ac (sr 1 3 (fun _ => vals .u8 32 (fun _ => 0)) (fun _ => ft (fit_by _))) Rg.an))) ?_
  intro ν w3 hO
  simp only [OI, Sq, Sg, ap, id, qA, qB, qC, qD, qE, qF, qG, Rg.putL, Act.put] at hO ⊢
  generalize ν 1 = n8 at hO ⊢
  clear ν
  have hO2 : Wn w w3 [(n3, vals .u8 32 g, 22), (n4, vals .u8 64 s, 24), (n7, vals .u8 32 (cutb s 0), 22), (n8, vals .u8 32 (cutb (fun j => s (32 + j)) 0), 22)] := by rw [← cutb_zero 32 s, ← cutb_zero 32 (fun j => s (32 + j))]; exact hO
  clear hO
  go_wp2_with fail
  go_loopw [9] (fun i wr => ∃ q : Nat, q ≤ 32 ∧ i = .int .i64 q ∧ Wn w wr [(n3, vals .u8 32 g, 22), (n4, vals .u8 64 s, 24), (n7, vals .u8 32 (cutb s q), 22), (n8, vals .u8 32 (cutb (fun j => s (32 + j)) q), 22)]) (fun i _ => (32 - intOf i).toNat)
  case atStart => exact ⟨0, by omega, rfl, hO2⟩
  case round =>
    clear hO2
    obtain ⟨q, hq, rfl, hO⟩ := hrel
    by_cases hlt : q < 32
    · have hlt' : (q : Int) < 32 := by omega
      have hkm : IntKind.i64.wrap ((q : Int) + 1) = (q : Int) + 1 := T.wrap_big _ (by omega) (by omega)
      go_upto_region 6 with (fail)
      refine Rg.ps [5] (fun _ => [(23, Nv .i64 q), (24, Nv .i64 q), (25, E n4 q), (26, Nv .u8 (s q)), (27, E n7 q)]) (OI w (Sq _ (fun _ => [se 2 (n7, vals .u8 32 (fun j => if j = q then s q else (cutb s q) j), 22)]))) (fun _ => 0) hO (Rg.ac nV (Rg.ac nV (Rg.ac (nx (fun _ => E n4 q) (fun _ w => idx28 rfl (by omega) (by kernel_rfl) (by kernel_rfl) w)) (Rg.ac (nc 0 0 1 (fun _ => n4) 24 (fun _ => vals .u8 64 s) (fun _ => q) (fun _ => Nv .u8 (s q)) agg_u8 (fun _ => (vals_get _ _ _ _ (by omega))) (t1 0)) (Rg.ac (nx (fun _ => E n7 q) (fun _ w => idx22 rfl hlt (by kernel_rfl) (by kernel_rfl) w)) (Rg.ac (sL 0 2 (fun _ => q) (fun _ => Nv .u8 ((cutb s q) q)) (fun _ => ((s q : Nat) : Int)) sz_u8 (fun _ => (vals_get _ _ _ _ (by omega))) (fun _ => (set_by _ _ _)) (fun _ => ft (fit_by _))) Rg.an)))))) ?_
      intro ν w4 hO
      simp only [OI, Sq, Sg, se, qC, qD, qE, qF, qG, Rg.putL, Act.put] at hO ⊢
      clear ν
      go_upto_region 7 with (fail)
      refine Rg.ps [6] (fun _ => [(28, Nv .i64 q), (29, Nv .i64 q), (30, Nv .i64 (32 + q)), (31, E n4 (32 + q)), (32, Nv .u8 (s (32 + q))), (33, E n8 q)]) (OI w (Sq _ (fun _ => [se 3 (n8, vals .u8 32 (fun j => if j = q then s (32 + q) else (cutb (fun j => s (32 + j)) q) j), 22)]))) (fun _ => 0) hO (Rg.ac nV (Rg.ac nV (Rg.ac (nx (fun _ => Nv .i64 (32 + q)) (fun _ w => add32 rfl hlt rfl (by kernel_rfl) w)) (Rg.ac (nx (fun _ => E n4 (32 + q)) (fun _ w => idx28 rfl (by omega) (by kernel_rfl) (by kernel_rfl) w)) (Rg.ac (nc 0 0 1 (fun _ => n4) 24 (fun _ => vals .u8 64 s) (fun _ => (32 + q)) (fun _ => Nv .u8 (s (32 + q))) agg_u8 (fun _ => (vals_get _ _ _ _ (by omega))) (t1 0)) (Rg.ac (nx (fun _ => E n8 q) (fun _ w => idx22 rfl hlt (by kernel_rfl) (by kernel_rfl) w)) (Rg.ac (sL 0 3 (fun _ => q) (fun _ => Nv .u8 ((cutb (fun j => s (32 + j)) q) q)) (fun _ => ((s (32 + q) : Nat) : Int)) sz_u8 (fun _ => (vals_get _ _ _ _ (by omega))) (fun _ => (set_by _ _ _)) (fun _ => ft (fit_by _))) Rg.an))))))) ?_
      intro ν w5 hO
      simp only [OI, Sq, Sg, se, qC, qD, qE, qF, qG, Rg.putL, Act.put] at hO ⊢
      clear ν
      rw [cutb_next 32 s q, cutb_next 32 (fun j => s (32 + j)) q] at hO
      have HO9 := hide hO
      clear hO
      go_wp2_with fail
      go_roundw
      case rel => exact ⟨q + 1, by omega, by go_num, HO9.out⟩
      case measure => simp [intOf]; omega
    · have hk6 : q = 32 := by omega
      subst hk6
      rw [cutb_all, cutb_all, ← hs2.out] at hO
      go_upto_region 8 with (fail)
      refine Rg.ps [1, 5, 6] (fun ν => [(35, .agg (vals .u8 32 s)), (36, .tuple #[.agg (rp R), .bool br]), (34, .tuple #[.agg (rp R), .bool br]), (37, .agg (rp R)), (38, .bool br), (10, D (ν 5)), (11, .bool br)]) (OI w (Sq _ (fun ν => [id, ap ((ν 5), qn [0, 0], 60), se 4 ((ν 5), rp R, 60)]))) (fun _ => 0) hO (Rg.ac (nld 0 0 2 (fun _ => n7) (fun _ => vals .u8 32 s) (t1 0) Tryz.underlying22) (Rg.ac (sC 0 28 _ _ (fun _ => hR)) (Rg.ac nV (Rg.ac nV (Rg.ac nV (Rg.ac (sn 1 (fun _ => qn [0, 0]) 60 (fun _ w => al35 rfl w) (fun _ => ft (fit_rp _ _))) (Rg.ac (sr 2 4 (fun _ => rp R) (fun _ => ft (fit_rp _ _))) (Rg.ac nV Rg.an)))))))) ?_
      intro ν w6 hO
      simp only [OI, Sq, Sg, ap, se, id, qA, qB, qC, qD, qE, qF, qG, Rg.putL, Act.put] at hO ⊢
      generalize ν 5 = n10 at hO ⊢
      clear ν
      go_upto_region 9 with (fail)
      refine Rg.ps [1, 5, 6] (fun ν => [(40, .agg (vals .u8 32 g)), (41, .tuple #[.agg (rp A), .bool ba]), (39, .tuple #[.agg (rp A), .bool ba]), (42, .agg (rp A)), (43, .bool ba), (12, D (ν 5)), (13, .bool ba)]) (OI w (Sq _ (fun ν => [id, ap ((ν 5), qn [0, 0], 60), se 5 ((ν 5), rp A, 60)]))) (fun _ => 0) hO (Rg.ac (nld 0 0 0 (fun _ => n3) (fun _ => vals .u8 32 g) (t1 0) Tryz.underlying22) (Rg.ac (sC 0 28 _ _ (fun _ => hA)) (Rg.ac nV (Rg.ac nV (Rg.ac nV (Rg.ac (sn 1 (fun _ => qn [0, 0]) 60 (fun _ w => al35 rfl w) (fun _ => ft (fit_rp _ _))) (Rg.ac (sr 2 5 (fun _ => rp A) (fun _ => ft (fit_rp _ _))) (Rg.ac nV Rg.an)))))))) ?_
      intro ν w7 hO
      simp only [OI, Sq, Sg, ap, se, id, qA, qB, qC, qD, qE, qF, qG, Rg.putL, Act.put] at hO ⊢
      generalize ν 5 = n12 at hO ⊢
      clear ν
      go_upto_region 10 with (fail)
      refine Rg.ps [1] (fun _ => [(44, .agg (vals .u8 32 s2)), (45, .bool bf), (14, .bool bf)]) (OI w (Sq _ (fun _ => [id]))) (fun _ => 0) hO (Rg.ac (nld 0 0 3 (fun _ => n8) (fun _ => vals .u8 32 s2) (t1 0) Tryz.underlying22) (Rg.ac (sC 0 29 _ _ (fun _ => hF)) (Rg.ac nV Rg.an))) ?_
      intro ν w8 hO
      simp only [OI, Sq, Sg, id, qC, qD, qE, qF, qG, Rg.putL, Act.put] at hO ⊢
      clear ν
      cases br
      · skip
        go_upto_region 11 with (fail)
        refine Rg.ps [] (fun _ => [(46, .bool false), (47, .bool true), (48, .bool true), (49, U), (50, U), (51, .bool true), (52, .bool true), (53, U), (54, U), (55, .bool true)]) (OI w (Sq _ (fun _ => []))) (fun _ => 0) hO (Rg.ac nV (Rg.ac nV (Rg.ac nV (Rg.ac nk (Rg.ac nk (Rg.ac nV (Rg.ac nV (Rg.ac nk (Rg.ac nk (Rg.ac nV Rg.an)))))))))) ?_
        intro ν w9 hO
        simp only [OI, Sq, Sg, qC, qD, qE, Rg.putL, Act.put] at hO ⊢
        clear ν
        go_upto_region 12 with (fail)
        refine Rg.ps [] (fun _ => [(6, .bool false)]) (OI w (Sq _ (fun _ => []))) (fun _ => 0) hO (Rg.ac nV Rg.an) ?_
        intro ν w10 hO
        simp only [OI, Sq, Sg, qC, qD, qE, Rg.putL, Act.put] at hO ⊢
        clear ν
        go_wp2_with fail
        exact bodyPost_ret (v := .bool false) (results_tmp Tryz.results11 _ _ _) rfl ⟨rfl, hO.low⟩
      · cases ba
        · skip
          go_upto_region 11 with (fail)
          refine Rg.ps [] (fun _ => [(46, .bool true), (47, .bool false), (48, .bool false), (49, .bool false), (50, .bool true), (51, .bool true), (52, .bool true), (53, U), (54, U), (55, .bool true)]) (OI w (Sq _ (fun _ => []))) (fun _ => 0) hO (Rg.ac nV (Rg.ac nV (Rg.ac nV (Rg.ac nV (Rg.ac nV (Rg.ac nV (Rg.ac nV (Rg.ac nk (Rg.ac nk (Rg.ac nV Rg.an)))))))))) ?_
          intro ν w9 hO
          simp only [OI, Sq, Sg, qC, qD, qE, Rg.putL, Act.put] at hO ⊢
          clear ν
          go_upto_region 12 with (fail)
          refine Rg.ps [] (fun _ => [(6, .bool false)]) (OI w (Sq _ (fun _ => []))) (fun _ => 0) hO (Rg.ac nV Rg.an) ?_
          intro ν w10 hO
          simp only [OI, Sq, Sg, qC, qD, qE, Rg.putL, Act.put] at hO ⊢
          clear ν
          go_wp2_with fail
          exact bodyPost_ret (v := .bool false) (results_tmp Tryz.results11 _ _ _) rfl ⟨rfl, hO.low⟩
        · cases bf
          · skip
            go_upto_region 11 with (fail)
            refine Rg.ps [] (fun _ => [(46, .bool true), (47, .bool false), (48, .bool false), (49, .bool true), (50, .bool false), (51, .bool false), (52, .bool false), (53, .bool false), (54, .bool true), (55, .bool true)]) (OI w (Sq _ (fun _ => []))) (fun _ => 0) hO (Rg.ac nV (Rg.ac nV (Rg.ac nV (Rg.ac nV (Rg.ac nV (Rg.ac nV (Rg.ac nV (Rg.ac nV (Rg.ac nV (Rg.ac nV Rg.an)))))))))) ?_
            intro ν w9 hO
            simp only [OI, Sq, Sg, qC, qD, qE, Rg.putL, Act.put] at hO ⊢
            clear ν
            go_upto_region 12 with (fail)
            refine Rg.ps [] (fun _ => [(6, .bool false)]) (OI w (Sq _ (fun _ => []))) (fun _ => 0) hO (Rg.ac nV Rg.an) ?_
            intro ν w10 hO
            simp only [OI, Sq, Sg, qC, qD, qE, Rg.putL, Act.put] at hO ⊢
            clear ν
            go_wp2_with fail
            exact bodyPost_ret (v := .bool false) (results_tmp Tryz.results11 _ _ _) rfl ⟨rfl, hO.low⟩
          · skip
            go_upto_region 11 with (fail)
            refine Rg.ps [] (fun _ => [(46, .bool true), (47, .bool false), (48, .bool false), (49, .bool true), (50, .bool false), (51, .bool false), (52, .bool false), (53, .bool true), (54, .bool false), (55, .bool false)]) (OI w (Sq _ (fun _ => []))) (fun _ => 0) hO (Rg.ac nV (Rg.ac nV (Rg.ac nV (Rg.ac nV (Rg.ac nV (Rg.ac nV (Rg.ac nV (Rg.ac nV (Rg.ac nV (Rg.ac nV Rg.an)))))))))) ?_
            intro ν w9 hO
            simp only [OI, Sq, Sg, qC, qD, qE, Rg.putL, Act.put] at hO ⊢
            clear ν
            go_upto_region 13 with (fail)
            refine Rf.pg (fun ν => [(56, .slice (some ⟨n7, 0, none⟩) 32 32), (57, .slice (some ⟨n3, 0, none⟩) 32 32), (58, .slice P m.length pc), (59, .agg (vals .u8 32 (byt k))), (15, D (ν 4))]) [(n3, vals .u8 32 g, 22, none), (n4, vals .u8 64 s, 24, none), (n7, vals .u8 32 s, 22, none), (n8, vals .u8 32 s2, 22, none), (n10, rp R, 60, none), (n12, rp A, 60, none)] (fun _ => [(4, vals .u8 32 (fun _ => 0), 22, some (5, vals .u8 32 (byt k)))]) (fun _ => 0) hO.drew (Rg.ac Rf.fv (Rg.ac Rf.fv (Rg.ac Rf.fv (Rg.ac (Rf.fq 19 (fun _ => #[.slice (some ⟨n7, 0, none⟩) 32 32, .slice (some ⟨n3, 0, none⟩) 32 32, .slice P m.length pc]) (fun _ => .agg (vals .u8 32 (byt k))) (fun D ν w my hO => dig_b (Rf.rl_ hO 2 rfl) (Rf.rl_ hO 0 rfl) (HP.out.low hO.low) hs hg Hm.out Hl.out Hk.out)) (Rg.ac (Rf.ga 0 (fun _ _ => rfl) (fun _ _ => rfl) (fun _ w => al22 rfl w) (fun _ => ft (fit_by _))) (Rg.ac (Rf.gm 0 4 (fun _ => rfl) (ft (fit_by _))) Rg.an)))))) ?_
            intro ν w10 hO
            replace hO : Wn w w10 [(n3, vals .u8 32 g, 22), (n4, vals .u8 64 s, 24), (n7, vals .u8 32 s, 22), (n8, vals .u8 32 s2, 22), (n10, rp R, 60), (n12, rp A, 60), ((ν 4), vals .u8 32 (byt k), 22)] := hO
            simp only [qC, qD, qE, Rg.putL, Act.put]
            generalize ν 4 = n15 at hO ⊢
            clear ν
            go_upto_region 14 with (fail)
            refine Rf.pg (fun ν => [(60, .agg (rp R)), (61, .agg (vals .u8 32 (byt k))), (62, .agg (rp A)), (63, .agg (rp M)), (64, .agg (rp S1)), (16, D (ν 5))]) [(n3, vals .u8 32 g, 22, none), (n4, vals .u8 64 s, 24, none), (n7, vals .u8 32 s, 22, none), (n8, vals .u8 32 s2, 22, none), (n10, rp R, 60, none), (n12, rp A, 60, none), (n15, vals .u8 32 (byt k), 22, none)] (fun _ => [(5, qn [0, 0], 60, some (6, rp S1))]) (fun _ => 0) hO.drew (Rg.ac (Rf.fld 4 (fun _ => n10) (fun _ => rp R) (fun D ν _ => rfl) Tryz.underlying60) (Rg.ac (Rf.fld 6 (fun _ => n15) (fun _ => vals .u8 32 (byt k)) (fun D ν _ => rfl) Tryz.underlying22) (Rg.ac (Rf.fld 5 (fun _ => n12) (fun _ => rp A) (fun D ν _ => rfl) Tryz.underlying60) (Rg.ac (Rf.fq 31 _ _ (fun D ν w my hO => (hM) w)) (Rg.ac (Rf.fq 30 _ _ (fun D ν w my hO => (hS) w)) (Rg.ac (Rf.ga 0 (fun _ _ => rfl) (fun _ _ => rfl) (fun _ w => al35 rfl w) (fun _ => ft (fit_rp _ _))) (Rg.ac (Rf.gm 0 5 (fun _ => rfl) (ft (fit_rp _ _))) Rg.an))))))) ?_
            intro ν w11 hO
            replace hO : Wn w w11 [(n3, vals .u8 32 g, 22), (n4, vals .u8 64 s, 24), (n7, vals .u8 32 s, 22), (n8, vals .u8 32 s2, 22), (n10, rp R, 60), (n12, rp A, 60), (n15, vals .u8 32 (byt k), 22), ((ν 5), rp S1, 60)] := hO
            simp only [qC, qD, qE, Rg.putL, Act.put]
            generalize ν 5 = n16 at hO ⊢
            clear ν
            go_upto_region 15 with (fail)
            refine Rg.pd [1, 2] (fun _ => [(65, .agg (vals .u8 32 s2)), (66, .agg (rp B0)), (67, .agg (rp B1)), (68, .agg (rp S1)), (69, .bool (decide (B1 = S1))), (6, .bool (decide (B1 = S1)))]) (OI w (Sq _ (fun _ => [id, id]))) (fun _ => 0) hO.drew (Rg.ac (nld 0 1 3 (fun _ => n8) (fun _ => vals .u8 32 s2) (t2 0 1 (t1 1)) Tryz.underlying22) (Rg.ac (sC 0 32 _ _ (fun _ => hB)) (Rg.ac (sC 1 31 _ _ (fun _ => hN)) (Rg.ac (nld 0 2 7 (fun _ => n16) (fun _ => rp S1) (t2 0 2 (t2 1 2 (t1 2))) Tryz.underlying60) (Rg.ac (nx (fun _ => .bool (decide (B1 = S1))) (fun _ w => eqR_c (.tmp 67) (.tmp 68) hoB hoS w rfl (by kernel_rfl) (by kernel_rfl))) (Rg.ac nV Rg.an)))))) ?_
            intro ν w12 hO
            simp only [OI, Sq, Sg, id, qC, qD, qE, qF, qG, Rg.putL, Act.put] at hO ⊢
            clear ν
            go_wp2_with fail
            exact bodyPost_ret (v := .bool (decide (B1 = S1))) (results_tmp Tryz.results11 _ _ _) rfl ⟨rfl, hO.low⟩
theorem rfine_c (f : Nat → Nat) (hf : ∀ i, f i < 256) (w : World) : Ret 29 #[.agg (vals .u8 32 f)] w (.bool (decide (nb f 32 < S.qL))) := S.rFine_n f _ _ w rfl hf rfl
theorem rverify_p (g s : Nat → Nat) (R A M S1 B1 : Nat × Nat) (br ba : Bool) (k : Nat) (P : Option Addr) (m : List Nat) (pc : Nat) (hg : ∀ i, g i < 256) (hs : ∀ i, s i < 256) (hk : Hid (dgn (bl s ++ bl g ++ m) = k)) (hR : decR (nb s 32) = (R, br)) (hA : decR (nb g 32) = (A, ba)) (hM : mul7 A k = M) (hS : add7 R M = S1) (hB : mul7 base7 (nb (fun j => s (32 + j)) 32) = B1) (w : World) (hP : T.Rds w P m) (hm : ∀ x ∈ m, x < 256) (hml : m.length < 2 ^ 28) : Ret 11 #[.agg (vals .u8 32 g), .agg (vals .u8 64 s), .slice P m.length pc] w (.bool (br && ba && decide (nb (fun j => s (32 + j)) 32 < S.qL) && decide (B1 = S1))) := by
  have hkl : k < 2 ^ 256 := hk.out ▸ dgn_lt _
  have hoR : Ok7 R := by have h := decR_ok _ (nb_lt32 s hs); rw [hR] at h; exact h
  have hoA : Ok7 A := by have h := decR_ok _ (nb_lt32 g hg); rw [hA] at h; exact h
  have hoM : Ok7 M := hM ▸ ok_mul hoA k
  have hoS : Ok7 S1 := hS ▸ ok_add hoR hoM
  have hoB : Ok7 B1 := hB ▸ ok_mul ok_base _
  refine rverify_g g s (fun j => s (32 + j)) R A M S1 base7 B1 br ba _ k P m pc hg hs (hide rfl) (fun w => ?_) (fun w => ?_) (rfine_c _ (fun _ => hs _)) (fun w => ?_) (fun w => ?_) rbase_p (fun w => ?_) hoS hoB hk w hP hm hml
  · have h := rdecode_p s hs w; rw [hR] at h; exact h
  · have h := rdecode_p g hg w; rw [hA] at h; exact h
  · have h := rmul_p (byt k) (byt_lt k) hoA w; rw [byt_n hkl, hM] at h; exact h
  · have h := radd_p hoR hoM w; rw [hS] at h; exact h
  · have h := rmul_p (fun j => s (32 + j)) (fun _ => hs _) ok_base w; rw [hB] at h; exact h
theorem rverify_c (g s : Nat → Nat) (P : Option Addr) (m : List Nat) (pc : Nat) (b : Bool) (hb : Hid (verB g s m = b)) (hg : ∀ i, g i < 256) (hs : ∀ i, s i < 256) (w : World) (hP : T.Rds w P m) (hm : ∀ x ∈ m, x < 256) (hml : m.length < 2 ^ 28) : Ret 11 #[.agg (vals .u8 32 g), .agg (vals .u8 64 s), .slice P m.length pc] w (.bool b) := by
  obtain ⟨b', hb'⟩ : ∃ b', ((decR (nb s 32)).2 && (decR (nb g 32)).2 && decide (nb (fun j => s (32 + j)) 32 < S.qL) && decide (mul7 base7 (nb (fun j => s (32 + j)) 32) = add7 (decR (nb s 32)).1 (mul7 (decR (nb g 32)).1 (dgn (bl s ++ bl g ++ m))))) = b' := ⟨_, rfl⟩
  have h1 := verB_eq g s m hg hs b' hb'
  rw [hb.out] at h1
  subst h1
  have h := rverify_p g s _ _ _ _ _ _ _ _ P m pc hg hs (hide rfl) (Prod.eta _).symm (Prod.eta _).symm rfl rfl rfl w hP hm hml
  rw [hb'] at h
  exact h
end Go.Proofs.YtbpmakegimgbpaaGreatDoor
namespace Go.Proofs.YtbpmakegimgbpaaGreatDoor
set_option maxRecDepth 100000
open F Go.RowKit Rg

end Go.Proofs.YtbpmakegimgbpaaGreatDoor

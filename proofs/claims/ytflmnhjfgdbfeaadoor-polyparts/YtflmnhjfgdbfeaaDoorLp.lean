/- Walks: PolyParts. The variable kept as it is laid; bytes below 256. -/
import Derived.Test.YtflmnhjfgdbfeaaDoorLq
namespace Go.Proofs.YtflmnhjfgdbfeaaDoor
set_option maxRecDepth 100000
open Go.RowKit Rg

theorem upn_here (o : Nat → Nat) (k x : Nat) : upn o k x k = x := if_pos rfl
set_option maxHeartbeats 8000000 in
theorem parts_walk (key : Nat → Nat) (hk : ∀ i, key i < 256) (S : Option Addr) (n c : Nat) (g : Nat → Nat) (hg : ∀ i, g i < 256) (hc : n ≤ c) (C : Option Addr) (mc cc : Nat) (cu : Nat → Nat) (hcu : ∀ i, cu i < 256) (w : World) (hG : Gl w 0 (vals .u64 2 kp)) (hS : Rd w S n g) (hC : Rd w C mc cu) : Ret 4 #[A (vals .u8 32 key), .slice S n c, .slice C mc cc] w (.bool true) := by
  have HA : Hid (∀ w1 : World, Below w.heap.size w w1 → Ret 8 #[] w1 (.bool true)) := hide fun w1 h => awake_c w1 (hG.low h)
  obtain ⟨T, hT⟩ : ∃ T, Hid (tg key g n = T) := ⟨_, hide rfl⟩
  have H1 : Hid (∀ (q : Nat) (w1 : World), Below w.heap.size w w1 → Blk w1 q #[.slice S n c] 23 → Ret 9 #[A (vals .u8 32 key), .slice (some ⟨q, 0, none⟩) 1 1] w1 (A (vals .u8 16 T))) := hide fun q w1 h hb => hT.out ▸ tag1_c key hk S n c q g hg hc w1 (hG.low h) hb (hS.low h)
  have H2 : Hid (∀ (q kk cap : Nat) (o : Nat → Nat) (w1 : World), Below w.heap.size w w1 → kk ≤ 1000 → o kk = n → Pts w1 (some ⟨q, 0, none⟩) kk g o → Ret 9 #[A (vals .u8 32 key), .slice (some ⟨q, 0, none⟩) kk cap] w1 (A (vals .u8 16 T))) := hide fun q kk cap o w1 h h1 h2 h3 => by
    rw [← hT.out, ← h2]
    exact tag_c key hk _ kk cap g o hg h1 w1 (hG.low h) h3
  have HP0 : Hid (PV w g n 0 (fun _ => .slice none 0 0) (fun _ => 0) S c) := hide (PV.start _ hc hS)
  have HC := hide hC
  clear hS hG hC hT hc
  go_enter Tryd.func4, Tryd.ntmps4
  have hO := Own.start w
  go_upto_region 0 with (fail)
  refine Rg.ps [0] (fun ν => [(3, D (ν 0)), (6, .bool false)]) (OI w (fun s ν => [[], [((ν 0), vals .u8 32 key, 22)]].getD s [])) (fun _ => 0) hO (Rg.ac (sn 0 (fun _ => vals .u8 32 key) 22 (fun _ w => run_box 22 _ rfl _ (by kernel_rfl) w) (fun _ => fit_b32 _)) (Rg.ac nv Rg.an)) ?_
  intro ν w1 hO
  replace hO : Own w w1 [((ν 0), vals .u8 32 key, 22)] := hO
  simp only [Rg.putL, Act.put, List.setIfInBounds_toArray, List.set_cons_succ, List.set_cons_zero]
  generalize ν 0 = n3 at hO ⊢
  clear ν
  go_upto_region 1 with (fail)
  refine Rg.ps [0] (fun _ => [(12, .bool true), (7, .bool true)]) (OI w (fun s ν => [[(n3, vals .u8 32 key, 22)], [(n3, vals .u8 32 key, 22)]].getD s [])) (fun _ => 0) hO (Rg.ac (sq 0 8 (fun _ => #[]) (fun _ => .bool true) (fun ν w hO => HA.out w hO.low)) (Rg.ac nv Rg.an)) ?_
  intro ν w2 hO
  replace hO : Own w w2 [(n3, vals .u8 32 key, 22)] := hO
  simp only [Rg.putL, Act.put, List.setIfInBounds_toArray, List.set_cons_succ, List.set_cons_zero]
  clear ν
  by_cases hq : n ≤ 1000
  · have h1 : ¬ (1000 : Int) < (n : Int) := by omega
    clear hq
    have HO : Hid (Own w w2 [(n3, vals .u8 32 key, 22)]) := hide hO
    clear hO
    go_wp2_with (fail)
    go_loopw [8, 9, 10] (fun x8 x9 x10 wr => ∃ (k m : Nat) (pt : Nat → Value) (o : Nat → Nat) (R : Option Addr) (rc : Nat), k ≤ 20 ∧ x10 = .int .i64 k ∧ x9 = .slice R m rc ∧ m = n - o k ∧ PV w g n k pt o R rc ∧ ((k = 0 ∧ x8 = .slice none 0 0 ∧ Own w wr [(n3, vals .u8 32 key, 22)]) ∨ (∃ q d : Nat, x8 = .slice (some ⟨q, 0, none⟩) k (k + d) ∧ Own w wr [(n3, vals .u8 32 key, 22), (q, pcs (k + d) k pt, 23)]))) (fun _ _ x10 _ => 20 - (intOf x10).toNat)
    case atStart => exact ⟨0, n, _, _, S, c, Nat.zero_le _, rfl, rfl, rfl, HP0.out, .inl ⟨rfl, rfl, HO.out⟩⟩
    case round =>
      clear HO HP0
      obtain ⟨k, m, pt, o, R, rc, hk20, rfl, rfl, hm, hPV, hdis⟩ := hrel
      have hmr : m ≤ rc := by have := hPV.room; omega
      have HP := hide hPV
      have Hm := hide hm
      have hk1000 : k ≤ 1000 := by omega
      have hone := hPV.one
      clear hPV hm
      have hq0 : (0 : Int) ≤ (k : Int) := Int.natCast_nonneg k
      have hw1 := wr1 k (by omega)
      have hw0 := wr0 k (by omega)
      by_cases hlt : k < mc ∧ k < 20
      · have hq1 : (k : Int) < (mc : Int) := by omega
        have hq2 : (k : Int) < 20 := by omega
        have hltk := hlt.1
        have hlt2 := hlt.2
        obtain ⟨a, rfl, hcx⟩ := HC.out.cell hlt.1
        obtain ⟨q, hq⟩ : ∃ q, Hid (min (cu k % 50) m = q) := ⟨_, hide rfl⟩
        have hqm : q ≤ m := by rw [← hq.out]; exact Nat.min_le_right _ _
        have hqk : q ≤ n - o k := by rw [← Hm.out]; exact hqm
        clear hlt
        rcases hdis with ⟨hk0, rfl, hO⟩ | ⟨q8, d8, rfl, hO⟩
        · replace hk0 := hide hk0
          go_upto_region 9 with (fail)
          refine Rg.ps [] (fun _ => [(28, .slice (some a) mc cc), (29, Nv .i64 k), (30, .pointer (some (a.add k))), (31, Nv .u8 (cu k)), (32, Nv .i64 (cu k)), (33, Nv .i64 (cu k % 50)), (34, .slice R m rc), (35, Nv .i64 m), (36, Nv .i64 q), (11, Nv .i64 q)]) (OI w (fun _ _ => [(n3, vals .u8 32 key, 22)])) (fun _ => 0) hO (Rg.ac nv (Rg.ac nv (Rg.ac (nx (fun _ => .pointer (some (a.add k))) (fun _ w => b_iaA (c := cc) hltk w)) (Rg.ac (nca (Nv .u8 (cu k)) hcx agg_u8) (Rg.ac (nx (fun _ => Nv .i64 (cu k)) (fun _ w => b_c53 (hcu k) w)) (Rg.ac (nx (fun _ => Nv .i64 (cu k % 50)) (fun _ w => b_rem50 w)) (Rg.ac nv (Rg.ac nv (Rg.ac (nx (fun _ => Nv .i64 q) (fun _ w => b_minE hq.out w)) (Rg.ac nv Rg.an)))))))))) ?_
          intro ν w3 hO
          replace hO : Own w w3 [(n3, vals .u8 32 key, 22)] := hO
          simp only [Rg.putL, Act.put, List.setIfInBounds_toArray, List.set_cons_succ, List.set_cons_zero]
          clear ν
          go_upto_region 10 with (fail)
          refine wp_region_list (WL.out ?_)
          refine g_val (.slice none 0 0) ?_
          refine g_val (.slice R m rc) ?_
          refine g_val (Nv .i64 q) ?_
          refine g_run (.slice R q rc) w3 (b_hi hqm hmr w3) ?_
          refine g_new hO (fun b => .slice (some ⟨b, 0, none⟩) 1 1) #[.slice R q rc] 23 (fit_ss (by kernel_rfl)) (b_pt1 w3) ?_
          intro b wb _ hO
          refine g_apn k hk0.out pt (.slice R q rc) hO (by kernel_rfl) ?_
          intro q9 d9 w9 hO
          refine g_val (.slice (some ⟨q9, 0, none⟩) (k + 1) (k + 1 + d9)) ?_
          refine g_nil ?_
          simp only [Act.put, List.setIfInBounds_toArray, List.set_cons_succ, List.set_cons_zero]
          go_upto_region 11 with (fail)
          refine wp_region_list (WL.out ?_)
          refine g_val (.slice R m rc) ?_
          refine g_val (Nv .i64 q) ?_
          refine g_run (.slice (cutA R q rc) (m - q) (rc - q)) w9 (b_lo hqm w9) ?_
          refine g_val (.slice (cutA R q rc) (m - q) (rc - q)) ?_
          refine g_nil ?_
          simp only [Act.put, List.setIfInBounds_toArray, List.set_cons_succ, List.set_cons_zero]
          have HO2 := hide hO
          clear hO hone
          go_wp2_with (fail)
          go_roundw
          case rel => exact ⟨k + 1, m - q, upv pt k (.slice R q rc), upn o (k + 1) (o k + q), cutA R q rc, rc - q, hlt2, in_succ k, rfl, by rw [upn_here, Hm.out, Nat.sub_sub], HP.out.next q hqk, .inr ⟨q9, d9, rfl, HO2.out⟩⟩
          case measure => exact ms_lt hlt2
        · have HX := hide hk1000
          go_upto_region 9 with (fail)
          refine Rg.ps [] (fun _ => [(28, .slice (some a) mc cc), (29, Nv .i64 k), (30, .pointer (some (a.add k))), (31, Nv .u8 (cu k)), (32, Nv .i64 (cu k)), (33, Nv .i64 (cu k % 50)), (34, .slice R m rc), (35, Nv .i64 m), (36, Nv .i64 q), (11, Nv .i64 q)]) (OI w (fun _ _ => [(n3, vals .u8 32 key, 22), (q8, pcs (k + d8) k pt, 23)])) (fun _ => 0) hO (Rg.ac nv (Rg.ac nv (Rg.ac (nx (fun _ => .pointer (some (a.add k))) (fun _ w => b_iaA (c := cc) hltk w)) (Rg.ac (nca (Nv .u8 (cu k)) hcx agg_u8) (Rg.ac (nx (fun _ => Nv .i64 (cu k)) (fun _ w => b_c53 (hcu k) w)) (Rg.ac (nx (fun _ => Nv .i64 (cu k % 50)) (fun _ w => b_rem50 w)) (Rg.ac nv (Rg.ac nv (Rg.ac (nx (fun _ => Nv .i64 q) (fun _ w => b_minE hq.out w)) (Rg.ac nv Rg.an)))))))))) ?_
          intro ν w4 hO
          replace hO : Own w w4 [(n3, vals .u8 32 key, 22), (q8, pcs (k + d8) k pt, 23)] := hO
          simp only [Rg.putL, Act.put, List.setIfInBounds_toArray, List.set_cons_succ, List.set_cons_zero]
          clear ν
          go_upto_region 10 with (fail)
          refine wp_region_list (WL.out ?_)
          refine g_val (.slice (some ⟨q8, 0, none⟩) k (k + d8)) ?_
          refine g_val (.slice R m rc) ?_
          refine g_val (Nv .i64 q) ?_
          refine g_run (.slice R q rc) w4 (b_hi hqm hmr w4) ?_
          refine g_new hO (fun b => .slice (some ⟨b, 0, none⟩) 1 1) #[.slice R q rc] 23 (fit_ss (by kernel_rfl)) (b_pt1 w4) ?_
          intro b wb _ hO
          refine g_app (.slice R q rc) hO hone (by kernel_rfl) (Nat.le_add_right _ _) hk1000 ?_
          intro q9 d9 w9 hO
          refine g_val (.slice (some ⟨q9, 0, none⟩) (k + 1) (k + 1 + d9)) ?_
          refine g_nil ?_
          simp only [Act.put, List.setIfInBounds_toArray, List.set_cons_succ, List.set_cons_zero]
          go_upto_region 11 with (fail)
          refine wp_region_list (WL.out ?_)
          refine g_val (.slice R m rc) ?_
          refine g_val (Nv .i64 q) ?_
          refine g_run (.slice (cutA R q rc) (m - q) (rc - q)) w9 (b_lo hqm w9) ?_
          refine g_val (.slice (cutA R q rc) (m - q) (rc - q)) ?_
          refine g_nil ?_
          simp only [Act.put, List.setIfInBounds_toArray, List.set_cons_succ, List.set_cons_zero]
          have HO2 := hide hO
          clear hO hone
          go_wp2_with (fail)
          go_roundw
          case rel => exact ⟨k + 1, m - q, upv pt k (.slice R q rc), upn o (k + 1) (o k + q), cutA R q rc, rc - q, hlt2, in_succ k, rfl, by rw [upn_here, Hm.out, Nat.sub_sub], HP.out.next q hqk, .inr ⟨q9, d9, rfl, HO2.out⟩⟩
          case measure => exact ms_lt hlt2
      · have hqk : m ≤ n - o k := by rw [Hm.out]; exact Nat.le_refl _
        have hend : upn o (k + 1) (o k + m) (k + 1) = n := by rw [upn_here]; have := HP.out.le; have := Hm.out; omega
        have HPn := hide (HP.out.next m hqk)
        have Hend := hide hend
        clear hend hqk
        rcases hdis with ⟨hk0, rfl, hO⟩ | ⟨q8, d8, rfl, hO⟩
        · replace hk0 := hide hk0
          by_cases hm1 : k < mc
          · have hq1 : (k : Int) < (mc : Int) := by omega
            have hq2 : ¬ (k : Int) < 20 := by omega
            clear hlt hm1
            go_upto_region 12 with (fail)
            refine wp_region_list (WL.out ?_)
            refine g_val (.slice none 0 0) ?_
            refine g_val (.slice R m rc) ?_
            refine g_new hO (fun b => .slice (some ⟨b, 0, none⟩) 1 1) #[.slice R m rc] 23 (fit_ss (by kernel_rfl)) (b_pt1 wr) ?_
            intro b wb _ hO
            refine g_apn k hk0.out pt (.slice R m rc) hO (by kernel_rfl) ?_
            intro q9 d9 w9 hO
            refine g_val (.slice (some ⟨q9, 0, none⟩) (k + 1) (k + 1 + d9)) ?_
            refine g_nil ?_
            simp only [Act.put, List.setIfInBounds_toArray, List.set_cons_succ, List.set_cons_zero]
            obtain ⟨pp, hpp⟩ : ∃ pp, Hid (upv pt k (.slice R m rc) = pp) := ⟨_, hide rfl⟩
            have HPq : Hid (PV w g n (k + 1) pp (upn o (k + 1) (o k + m)) (cutA R m rc) (rc - m)) := hide (hpp.out ▸ HPn.out)
            rw [hpp.out] at hO
            clear hone hq1 hq2
            go_upto_region 13 with (fail)
            refine Rf.pf (fun ν => [(50, .bool true), (51, .bool true), (52, A (vals .u8 32 key)), (53, .slice (some ⟨q9, 0, none⟩) (k + 1) (k + 1 + d9)), (54, A (vals .u8 16 T)), (55, A (vals .u8 32 key)), (56, .slice S n c), (57, .slice (some ⟨(ν 7), 0, none⟩) 1 1), (58, A (vals .u8 16 T)), (59, .bool true), (60, .bool true), (6, .bool true)]) (Rf.OD w (fun D ν => (n3, vals .u8 32 key, 22) :: (q9, pcs (k + 1 + d9) (k + 1) pp, 23) :: ((bif D 7 then [((ν 7), #[.slice S n c], 23)] else [] : List Row)))) (fun _ => 0) hO.drew (Rg.ac Rf.fv (Rg.ac Rf.fv (Rg.ac (Rf.fld 0 (fun ν => n3) (fun ν => vals .u8 32 key) (fun D ν _ => rfl) Tryd.underlying22) (Rg.ac Rf.fv (Rg.ac (Rf.fq 9 (fun ν => #[A (vals .u8 32 key), .slice (some ⟨q9, 0, none⟩) (k + 1) (k + 1 + d9)]) (fun ν => A (vals .u8 16 T)) (fun D ν w my hO => H2.out q9 (k + 1) (k + 1 + d9) _ w hO.low (by omega) Hend.out (HPq.out.pts hO.low (hO.row 1 rfl) (Nat.le_add_right _ _)))) (Rg.ac (Rf.fld 0 (fun ν => n3) (fun ν => vals .u8 32 key) (fun D ν _ => rfl) Tryd.underlying22) (Rg.ac Rf.fv (Rg.ac (Rf.fnw (fun ν q => .slice (some ⟨q, 0, none⟩) 1 1) (fun ν => #[.slice S n c]) 23 (fun ν w => b_pt1 w) (fun ν => fit_ss (by kernel_rfl)) (fun D ν nw my => by have f7 := my.not; have e : ∀ b7 : Bool, b7 = false → (((n3, vals .u8 32 key, 22) :: (q9, pcs (k + 1 + d9) (k + 1) pp, 23) :: ((bif b7 then [((ν 7), #[.slice S n c], 23)] else [] : List Row)) : List Row) ++ ([(nw, #[.slice S n c], 23)] : List Row)).Perm ((n3, vals .u8 32 key, 22) :: (q9, pcs (k + 1 + d9) (k + 1) pp, 23) :: ((bif true then [(nw, #[.slice S n c], 23)] else [] : List Row))) := (by intro b7; intros; subst_vars; (exact List.Perm.refl _)); exact e _ f7)) (Rg.ac (Rf.fq 9 (fun ν => #[A (vals .u8 32 key), .slice (some ⟨(ν 7), 0, none⟩) 1 1]) (fun ν => A (vals .u8 16 T)) (fun D ν w my hO => H1.out _ w hO.low (hO.row 2 (by have e : ∀ b7 : Bool, b7 = true → ((n3, vals .u8 32 key, 22) :: (q9, pcs (k + 1 + d9) (k + 1) pp, 23) :: ((bif b7 then [((ν 7), #[.slice S n c], 23)] else [])) : List Row)[2]? = some ((ν 7), #[.slice S n c], 23) := (by intros; subst_vars; rfl); exact e _ (my.pre 7 (by kernel_rfl)))))) (Rg.ac (Rf.fx (fun ν => .bool true) (fun ν w => b_eqa (f := T) w)) (Rg.ac Rf.fv (Rg.ac Rf.fv Rg.an)))))))))))) ?_
            intro D ν w5 hall hO
            have f7 : D 7 = true := hall 7 (by decide)
            replace hO : Own w w5 [(n3, vals .u8 32 key, 22), (q9, pcs (k + 1 + d9) (k + 1) pp, 23), ((ν 7), #[.slice S n c], 23)] := by
              have e : ∀ b7 : Bool, b7 = true → Own w w5 ((n3, vals .u8 32 key, 22) :: (q9, pcs (k + 1 + d9) (k + 1) pp, 23) :: ((bif b7 then [((ν 7), #[.slice S n c], 23)] else [] : List Row))) → Own w w5 [(n3, vals .u8 32 key, 22), (q9, pcs (k + 1 + d9) (k + 1) pp, 23), ((ν 7), #[.slice S n c], 23)] := by (intros; subst_vars; assumption)
              exact e _ f7 hO
            clear hall f7
            simp only [Rg.putL, Act.put, List.setIfInBounds_toArray, List.set_cons_succ, List.set_cons_zero]
            generalize ν 7 = n57 at hO ⊢
            clear ν D
            have HF := hide hO.low
            clear hO H1 H2
            go_wp2_with (fail)
            go_ret
            exact ⟨rfl, HF.out⟩
          · have hq1 : ¬ (k : Int) < (mc : Int) := by omega
            clear hlt hm1
            go_upto_region 12 with (fail)
            refine wp_region_list (WL.out ?_)
            refine g_val (.slice none 0 0) ?_
            refine g_val (.slice R m rc) ?_
            refine g_new hO (fun b => .slice (some ⟨b, 0, none⟩) 1 1) #[.slice R m rc] 23 (fit_ss (by kernel_rfl)) (b_pt1 wr) ?_
            intro b wb _ hO
            refine g_apn k hk0.out pt (.slice R m rc) hO (by kernel_rfl) ?_
            intro q9 d9 w9 hO
            refine g_val (.slice (some ⟨q9, 0, none⟩) (k + 1) (k + 1 + d9)) ?_
            refine g_nil ?_
            simp only [Act.put, List.setIfInBounds_toArray, List.set_cons_succ, List.set_cons_zero]
            obtain ⟨pp, hpp⟩ : ∃ pp, Hid (upv pt k (.slice R m rc) = pp) := ⟨_, hide rfl⟩
            have HPq : Hid (PV w g n (k + 1) pp (upn o (k + 1) (o k + m)) (cutA R m rc) (rc - m)) := hide (hpp.out ▸ HPn.out)
            rw [hpp.out] at hO
            clear hone hq1
            go_upto_region 13 with (fail)
            refine Rf.pf (fun ν => [(50, .bool true), (51, .bool true), (52, A (vals .u8 32 key)), (53, .slice (some ⟨q9, 0, none⟩) (k + 1) (k + 1 + d9)), (54, A (vals .u8 16 T)), (55, A (vals .u8 32 key)), (56, .slice S n c), (57, .slice (some ⟨(ν 7), 0, none⟩) 1 1), (58, A (vals .u8 16 T)), (59, .bool true), (60, .bool true), (6, .bool true)]) (Rf.OD w (fun D ν => (n3, vals .u8 32 key, 22) :: (q9, pcs (k + 1 + d9) (k + 1) pp, 23) :: ((bif D 7 then [((ν 7), #[.slice S n c], 23)] else [] : List Row)))) (fun _ => 0) hO.drew (Rg.ac Rf.fv (Rg.ac Rf.fv (Rg.ac (Rf.fld 0 (fun ν => n3) (fun ν => vals .u8 32 key) (fun D ν _ => rfl) Tryd.underlying22) (Rg.ac Rf.fv (Rg.ac (Rf.fq 9 (fun ν => #[A (vals .u8 32 key), .slice (some ⟨q9, 0, none⟩) (k + 1) (k + 1 + d9)]) (fun ν => A (vals .u8 16 T)) (fun D ν w my hO => H2.out q9 (k + 1) (k + 1 + d9) _ w hO.low (by omega) Hend.out (HPq.out.pts hO.low (hO.row 1 rfl) (Nat.le_add_right _ _)))) (Rg.ac (Rf.fld 0 (fun ν => n3) (fun ν => vals .u8 32 key) (fun D ν _ => rfl) Tryd.underlying22) (Rg.ac Rf.fv (Rg.ac (Rf.fnw (fun ν q => .slice (some ⟨q, 0, none⟩) 1 1) (fun ν => #[.slice S n c]) 23 (fun ν w => b_pt1 w) (fun ν => fit_ss (by kernel_rfl)) (fun D ν nw my => by have f7 := my.not; have e : ∀ b7 : Bool, b7 = false → (((n3, vals .u8 32 key, 22) :: (q9, pcs (k + 1 + d9) (k + 1) pp, 23) :: ((bif b7 then [((ν 7), #[.slice S n c], 23)] else [] : List Row)) : List Row) ++ ([(nw, #[.slice S n c], 23)] : List Row)).Perm ((n3, vals .u8 32 key, 22) :: (q9, pcs (k + 1 + d9) (k + 1) pp, 23) :: ((bif true then [(nw, #[.slice S n c], 23)] else [] : List Row))) := (by intro b7; intros; subst_vars; (exact List.Perm.refl _)); exact e _ f7)) (Rg.ac (Rf.fq 9 (fun ν => #[A (vals .u8 32 key), .slice (some ⟨(ν 7), 0, none⟩) 1 1]) (fun ν => A (vals .u8 16 T)) (fun D ν w my hO => H1.out _ w hO.low (hO.row 2 (by have e : ∀ b7 : Bool, b7 = true → ((n3, vals .u8 32 key, 22) :: (q9, pcs (k + 1 + d9) (k + 1) pp, 23) :: ((bif b7 then [((ν 7), #[.slice S n c], 23)] else [])) : List Row)[2]? = some ((ν 7), #[.slice S n c], 23) := (by intros; subst_vars; rfl); exact e _ (my.pre 7 (by kernel_rfl)))))) (Rg.ac (Rf.fx (fun ν => .bool true) (fun ν w => b_eqa (f := T) w)) (Rg.ac Rf.fv (Rg.ac Rf.fv Rg.an)))))))))))) ?_
            intro D ν w6 hall hO
            have f7 : D 7 = true := hall 7 (by decide)
            replace hO : Own w w6 [(n3, vals .u8 32 key, 22), (q9, pcs (k + 1 + d9) (k + 1) pp, 23), ((ν 7), #[.slice S n c], 23)] := by
              have e : ∀ b7 : Bool, b7 = true → Own w w6 ((n3, vals .u8 32 key, 22) :: (q9, pcs (k + 1 + d9) (k + 1) pp, 23) :: ((bif b7 then [((ν 7), #[.slice S n c], 23)] else [] : List Row))) → Own w w6 [(n3, vals .u8 32 key, 22), (q9, pcs (k + 1 + d9) (k + 1) pp, 23), ((ν 7), #[.slice S n c], 23)] := by (intros; subst_vars; assumption)
              exact e _ f7 hO
            clear hall f7
            simp only [Rg.putL, Act.put, List.setIfInBounds_toArray, List.set_cons_succ, List.set_cons_zero]
            generalize ν 7 = n57 at hO ⊢
            clear ν D
            have HF := hide hO.low
            clear hO H1 H2
            go_wp2_with (fail)
            go_ret
            exact ⟨rfl, HF.out⟩
        · have HX := hide hk1000
          by_cases hm1 : k < mc
          · have hq1 : (k : Int) < (mc : Int) := by omega
            have hq2 : ¬ (k : Int) < 20 := by omega
            clear hlt hm1
            go_upto_region 12 with (fail)
            refine wp_region_list (WL.out ?_)
            refine g_val (.slice (some ⟨q8, 0, none⟩) k (k + d8)) ?_
            refine g_val (.slice R m rc) ?_
            refine g_new hO (fun b => .slice (some ⟨b, 0, none⟩) 1 1) #[.slice R m rc] 23 (fit_ss (by kernel_rfl)) (b_pt1 wr) ?_
            intro b wb _ hO
            refine g_app (.slice R m rc) hO hone (by kernel_rfl) (Nat.le_add_right _ _) hk1000 ?_
            intro q9 d9 w9 hO
            refine g_val (.slice (some ⟨q9, 0, none⟩) (k + 1) (k + 1 + d9)) ?_
            refine g_nil ?_
            simp only [Act.put, List.setIfInBounds_toArray, List.set_cons_succ, List.set_cons_zero]
            obtain ⟨pp, hpp⟩ : ∃ pp, Hid (upv pt k (.slice R m rc) = pp) := ⟨_, hide rfl⟩
            have HPq : Hid (PV w g n (k + 1) pp (upn o (k + 1) (o k + m)) (cutA R m rc) (rc - m)) := hide (hpp.out ▸ HPn.out)
            rw [hpp.out] at hO
            clear hone hq1 hq2
            go_upto_region 13 with (fail)
            refine Rf.pf (fun ν => [(50, .bool true), (51, .bool true), (52, A (vals .u8 32 key)), (53, .slice (some ⟨q9, 0, none⟩) (k + 1) (k + 1 + d9)), (54, A (vals .u8 16 T)), (55, A (vals .u8 32 key)), (56, .slice S n c), (57, .slice (some ⟨(ν 7), 0, none⟩) 1 1), (58, A (vals .u8 16 T)), (59, .bool true), (60, .bool true), (6, .bool true)]) (Rf.OD w (fun D ν => (n3, vals .u8 32 key, 22) :: (q9, pcs (k + 1 + d9) (k + 1) pp, 23) :: ((bif D 7 then [((ν 7), #[.slice S n c], 23)] else [] : List Row)))) (fun _ => 0) hO.drew (Rg.ac Rf.fv (Rg.ac Rf.fv (Rg.ac (Rf.fld 0 (fun ν => n3) (fun ν => vals .u8 32 key) (fun D ν _ => rfl) Tryd.underlying22) (Rg.ac Rf.fv (Rg.ac (Rf.fq 9 (fun ν => #[A (vals .u8 32 key), .slice (some ⟨q9, 0, none⟩) (k + 1) (k + 1 + d9)]) (fun ν => A (vals .u8 16 T)) (fun D ν w my hO => H2.out q9 (k + 1) (k + 1 + d9) _ w hO.low (by omega) Hend.out (HPq.out.pts hO.low (hO.row 1 rfl) (Nat.le_add_right _ _)))) (Rg.ac (Rf.fld 0 (fun ν => n3) (fun ν => vals .u8 32 key) (fun D ν _ => rfl) Tryd.underlying22) (Rg.ac Rf.fv (Rg.ac (Rf.fnw (fun ν q => .slice (some ⟨q, 0, none⟩) 1 1) (fun ν => #[.slice S n c]) 23 (fun ν w => b_pt1 w) (fun ν => fit_ss (by kernel_rfl)) (fun D ν nw my => by have f7 := my.not; have e : ∀ b7 : Bool, b7 = false → (((n3, vals .u8 32 key, 22) :: (q9, pcs (k + 1 + d9) (k + 1) pp, 23) :: ((bif b7 then [((ν 7), #[.slice S n c], 23)] else [] : List Row)) : List Row) ++ ([(nw, #[.slice S n c], 23)] : List Row)).Perm ((n3, vals .u8 32 key, 22) :: (q9, pcs (k + 1 + d9) (k + 1) pp, 23) :: ((bif true then [(nw, #[.slice S n c], 23)] else [] : List Row))) := (by intro b7; intros; subst_vars; (exact List.Perm.refl _)); exact e _ f7)) (Rg.ac (Rf.fq 9 (fun ν => #[A (vals .u8 32 key), .slice (some ⟨(ν 7), 0, none⟩) 1 1]) (fun ν => A (vals .u8 16 T)) (fun D ν w my hO => H1.out _ w hO.low (hO.row 2 (by have e : ∀ b7 : Bool, b7 = true → ((n3, vals .u8 32 key, 22) :: (q9, pcs (k + 1 + d9) (k + 1) pp, 23) :: ((bif b7 then [((ν 7), #[.slice S n c], 23)] else [])) : List Row)[2]? = some ((ν 7), #[.slice S n c], 23) := (by intros; subst_vars; rfl); exact e _ (my.pre 7 (by kernel_rfl)))))) (Rg.ac (Rf.fx (fun ν => .bool true) (fun ν w => b_eqa (f := T) w)) (Rg.ac Rf.fv (Rg.ac Rf.fv Rg.an)))))))))))) ?_
            intro D ν w7 hall hO
            have f7 : D 7 = true := hall 7 (by decide)
            replace hO : Own w w7 [(n3, vals .u8 32 key, 22), (q9, pcs (k + 1 + d9) (k + 1) pp, 23), ((ν 7), #[.slice S n c], 23)] := by
              have e : ∀ b7 : Bool, b7 = true → Own w w7 ((n3, vals .u8 32 key, 22) :: (q9, pcs (k + 1 + d9) (k + 1) pp, 23) :: ((bif b7 then [((ν 7), #[.slice S n c], 23)] else [] : List Row))) → Own w w7 [(n3, vals .u8 32 key, 22), (q9, pcs (k + 1 + d9) (k + 1) pp, 23), ((ν 7), #[.slice S n c], 23)] := by (intros; subst_vars; assumption)
              exact e _ f7 hO
            clear hall f7
            simp only [Rg.putL, Act.put, List.setIfInBounds_toArray, List.set_cons_succ, List.set_cons_zero]
            generalize ν 7 = n57 at hO ⊢
            clear ν D
            have HF := hide hO.low
            clear hO H1 H2
            go_wp2_with (fail)
            go_ret
            exact ⟨rfl, HF.out⟩
          · have hq1 : ¬ (k : Int) < (mc : Int) := by omega
            clear hlt hm1
            go_upto_region 12 with (fail)
            refine wp_region_list (WL.out ?_)
            refine g_val (.slice (some ⟨q8, 0, none⟩) k (k + d8)) ?_
            refine g_val (.slice R m rc) ?_
            refine g_new hO (fun b => .slice (some ⟨b, 0, none⟩) 1 1) #[.slice R m rc] 23 (fit_ss (by kernel_rfl)) (b_pt1 wr) ?_
            intro b wb _ hO
            refine g_app (.slice R m rc) hO hone (by kernel_rfl) (Nat.le_add_right _ _) hk1000 ?_
            intro q9 d9 w9 hO
            refine g_val (.slice (some ⟨q9, 0, none⟩) (k + 1) (k + 1 + d9)) ?_
            refine g_nil ?_
            simp only [Act.put, List.setIfInBounds_toArray, List.set_cons_succ, List.set_cons_zero]
            obtain ⟨pp, hpp⟩ : ∃ pp, Hid (upv pt k (.slice R m rc) = pp) := ⟨_, hide rfl⟩
            have HPq : Hid (PV w g n (k + 1) pp (upn o (k + 1) (o k + m)) (cutA R m rc) (rc - m)) := hide (hpp.out ▸ HPn.out)
            rw [hpp.out] at hO
            clear hone hq1
            go_upto_region 13 with (fail)
            refine Rf.pf (fun ν => [(50, .bool true), (51, .bool true), (52, A (vals .u8 32 key)), (53, .slice (some ⟨q9, 0, none⟩) (k + 1) (k + 1 + d9)), (54, A (vals .u8 16 T)), (55, A (vals .u8 32 key)), (56, .slice S n c), (57, .slice (some ⟨(ν 7), 0, none⟩) 1 1), (58, A (vals .u8 16 T)), (59, .bool true), (60, .bool true), (6, .bool true)]) (Rf.OD w (fun D ν => (n3, vals .u8 32 key, 22) :: (q9, pcs (k + 1 + d9) (k + 1) pp, 23) :: ((bif D 7 then [((ν 7), #[.slice S n c], 23)] else [] : List Row)))) (fun _ => 0) hO.drew (Rg.ac Rf.fv (Rg.ac Rf.fv (Rg.ac (Rf.fld 0 (fun ν => n3) (fun ν => vals .u8 32 key) (fun D ν _ => rfl) Tryd.underlying22) (Rg.ac Rf.fv (Rg.ac (Rf.fq 9 (fun ν => #[A (vals .u8 32 key), .slice (some ⟨q9, 0, none⟩) (k + 1) (k + 1 + d9)]) (fun ν => A (vals .u8 16 T)) (fun D ν w my hO => H2.out q9 (k + 1) (k + 1 + d9) _ w hO.low (by omega) Hend.out (HPq.out.pts hO.low (hO.row 1 rfl) (Nat.le_add_right _ _)))) (Rg.ac (Rf.fld 0 (fun ν => n3) (fun ν => vals .u8 32 key) (fun D ν _ => rfl) Tryd.underlying22) (Rg.ac Rf.fv (Rg.ac (Rf.fnw (fun ν q => .slice (some ⟨q, 0, none⟩) 1 1) (fun ν => #[.slice S n c]) 23 (fun ν w => b_pt1 w) (fun ν => fit_ss (by kernel_rfl)) (fun D ν nw my => by have f7 := my.not; have e : ∀ b7 : Bool, b7 = false → (((n3, vals .u8 32 key, 22) :: (q9, pcs (k + 1 + d9) (k + 1) pp, 23) :: ((bif b7 then [((ν 7), #[.slice S n c], 23)] else [] : List Row)) : List Row) ++ ([(nw, #[.slice S n c], 23)] : List Row)).Perm ((n3, vals .u8 32 key, 22) :: (q9, pcs (k + 1 + d9) (k + 1) pp, 23) :: ((bif true then [(nw, #[.slice S n c], 23)] else [] : List Row))) := (by intro b7; intros; subst_vars; (exact List.Perm.refl _)); exact e _ f7)) (Rg.ac (Rf.fq 9 (fun ν => #[A (vals .u8 32 key), .slice (some ⟨(ν 7), 0, none⟩) 1 1]) (fun ν => A (vals .u8 16 T)) (fun D ν w my hO => H1.out _ w hO.low (hO.row 2 (by have e : ∀ b7 : Bool, b7 = true → ((n3, vals .u8 32 key, 22) :: (q9, pcs (k + 1 + d9) (k + 1) pp, 23) :: ((bif b7 then [((ν 7), #[.slice S n c], 23)] else [])) : List Row)[2]? = some ((ν 7), #[.slice S n c], 23) := (by intros; subst_vars; rfl); exact e _ (my.pre 7 (by kernel_rfl)))))) (Rg.ac (Rf.fx (fun ν => .bool true) (fun ν w => b_eqa (f := T) w)) (Rg.ac Rf.fv (Rg.ac Rf.fv Rg.an)))))))))))) ?_
            intro D ν w8 hall hO
            have f7 : D 7 = true := hall 7 (by decide)
            replace hO : Own w w8 [(n3, vals .u8 32 key, 22), (q9, pcs (k + 1 + d9) (k + 1) pp, 23), ((ν 7), #[.slice S n c], 23)] := by
              have e : ∀ b7 : Bool, b7 = true → Own w w8 ((n3, vals .u8 32 key, 22) :: (q9, pcs (k + 1 + d9) (k + 1) pp, 23) :: ((bif b7 then [((ν 7), #[.slice S n c], 23)] else [] : List Row))) → Own w w8 [(n3, vals .u8 32 key, 22), (q9, pcs (k + 1 + d9) (k + 1) pp, 23), ((ν 7), #[.slice S n c], 23)] := by (intros; subst_vars; assumption)
              exact e _ f7 hO
            clear hall f7
            simp only [Rg.putL, Act.put, List.setIfInBounds_toArray, List.set_cons_succ, List.set_cons_zero]
            generalize ν 7 = n57 at hO ⊢
            clear ν D
            have HF := hide hO.low
            clear hO H1 H2
            go_wp2_with (fail)
            go_ret
            exact ⟨rfl, HF.out⟩
  · have h1 : (1000 : Int) < (n : Int) := by omega
    have HF := hide hO.low
    clear hO hq H1 H2 HP0
    go_wp2_with (fail)
    go_ret
    exact ⟨rfl, HF.out⟩
end Go.Proofs.YtflmnhjfgdbfeaaDoor

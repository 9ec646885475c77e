/- Walks: Stream's error; awake. The variable places as it is laid. -/
import Derived.Test.YtceaiclkpgbmaaaDoorKg
namespace Go.Proofs.YtceaiclkpgbmaaaDoor
set_option maxRecDepth 100000
open Go.RowKit Rg

set_option maxHeartbeats 4000000 in
theorem stream_e (key nonce : Nat → Nat) (cnt : Nat) (hc : cnt < 4294967296) (S : Option Addr) (n c : Nat) (hl : n ≤ 2000) (w : World) (hcn : ¬ cnt + (n + 63) / 64 ≤ 4294967296) :
    Ret 9 #[A (vals .u8 32 key), Nv .u32 cnt, A (vals .u8 12 nonce), .slice S n c] w (.tuple #[.slice none 0 0, .int .i64 90]) := by
  have Hl := hide hl
  have Hcn := hide hcn
  have Hc := hide hc
  clear hl hcn
  go_enter Tryd.func9, Tryd.ntmps9
  have hO := Own.start w
  go_upto_region 0 with (fail)
  refine Rg.ps [0, 1] (fun ν => [(4, D (ν 0)), (6, D (ν 1)), (8, .slice none 0 0), (9, Nv .i64 0)]) (OI w (fun s ν => [[], [((ν 0), vals .u8 32 key, 23)], [((ν 0), vals .u8 32 key, 23), ((ν 1), vals .u8 12 nonce, 25)]].getD s [])) (fun _ => 0) hO (Rg.ac (sn 0 (fun _ => vals .u8 32 key) 23 (fun _ w => run_box 23 _ rfl _ (by kernel_rfl) w) (fun _ => fit_b32 _)) (Rg.ac (sn 1 (fun _ => vals .u8 12 nonce) 25 (fun _ w => run_box 25 _ rfl _ (by kernel_rfl) w) (fun _ => fit_b12 _)) (Rg.ac nv (Rg.ac nv Rg.an)))) ?_
  intro ν w1 hO
  replace hO : Own w w1 [((ν 0), vals .u8 32 key, 23), ((ν 1), vals .u8 12 nonce, 25)] := hO
  simp only [Rg.putL, Act.put, List.setIfInBounds_toArray, List.set_cons_succ, List.set_cons_zero]
  generalize ν 0 = n4 at hO ⊢
  generalize ν 1 = n6 at hO ⊢
  clear ν
  have hl := Hl.out
  have hcn := Hcn.out
  have hc := Hc.out
  obtain ⟨bn, hbn⟩ : ∃ m, m = (n + 63) / 64 := ⟨_, rfl⟩
  have g1 : IntKind.u64.wrap (n : Int) = (n : Int) := by rw [wrap_u64']; omega
  have g2 : IntKind.u64.wrap ((n : Int) + 64) = (n : Int) + 64 := by rw [wrap_u64']; omega
  have g3 : IntKind.u64.wrap ((n : Int) + 64 - 1) = (n : Int) + 63 := by rw [wrap_u64']; omega
  have g9 : IntKind.u64.wrap ((n : Int) + 63) = (n : Int) + 63 := by rw [wrap_u64']; omega
  have g4 : ((n : Int) + 63).tdiv 64 = (bn : Int) := by rw [Int.tdiv_eq_ediv_of_nonneg (by omega)]; omega
  have g7 : IntKind.u64.wrap (bn : Int) = (bn : Int) := by rw [wrap_u64']; omega
  have g5 : IntKind.u64.wrap (cnt : Int) = (cnt : Int) := by rw [wrap_u64']; omega
  have g6 : IntKind.u64.wrap ((cnt : Int) + (bn : Int)) = (cnt : Int) + (bn : Int) := by rw [wrap_u64']; omega
  have g8 : 4294967296 < (cnt : Int) + (bn : Int) := by omega
  clear hl hcn hc hbn
  have hlow := hO.low
  go_wp2_with (fail)
  go_ret2
  exact ⟨rfl, hlow⟩
theorem bd_23 : Tryd.prog.built 23 [] = some (vals .u8 32 (fun _ => 0)) := by kernel_rfl
theorem bd_25 : Tryd.prog.built 25 [] = some (vals .u8 12 (fun _ => 0)) := by kernel_rfl
theorem bd_nt : Tryd.prog.built 25 [(3, .int .u8 9), (7, .int .u8 74)] = some (vals .u8 12 nt) := by kernel_rfl
theorem kt_next (k : Nat) : vals .u8 32 (fun j => if j = k then k else mx kt k j) = vals .u8 32 (mx kt (k + 1)) := vals_congr _ _ _ _ fun j hj => by
  unfold mx kt
  by_cases h : j = k
  · subst h; rw [if_pos rfl, if_pos (show j < j + 1 by omega), if_pos hj]
  · rw [if_neg h]
    by_cases h2 : j < k
    · rw [if_pos h2, if_pos (show j < k + 1 by omega)]
    · rw [if_neg h2, if_neg (show ¬ j < k + 1 by omega)]
theorem kt_lt (i : Nat) : kt i < 256 := by unfold kt; split <;> omega
theorem nt_lt (i : Nat) : nt i < 256 := by unfold nt; split <;> (try split) <;> omega
theorem kt_end : vals .u8 32 (mx kt 32) = vals .u8 32 kt := vals_congr _ _ _ _ fun j hj => by unfold mx; rw [if_pos hj]
theorem b_ia32 {ρ : Operand → Value} {o : Oper} {x y : Operand} {n a : Nat} (ha : a < 32) (w : World) (ho : o.op = .indexAddr 23 x y := by rfl) (hx : ρ x = D n := by kernel_rfl) (hy : ρ y = Nv .i64 a := by kernel_rfl) : (execOp ρ o).run Tryd.prog w = .ok (.value (E n a)) w := by
  have h1 : (0 : Int) ≤ (a : Int) := by omega
  have h2 : (a : Int) < 32 := by omega
  unfold execOp
  simp only [ho, hx, hy]
  go_simp
theorem b_c8 {ρ : Operand → Value} {o : Oper} {x : Operand} {k : Nat} (hk : k < 256) (w : World) (ho : o.op = .convert 3 5 x := by rfl) (hx : ρ x = Nv .i64 k := by kernel_rfl) : (execOp ρ o).run Tryd.prog w = .ok (.value (Nv .u8 k)) w := by
  have h1 : IntKind.u8.wrap (k : Int) = (k : Int) := by rw [IntKind.wrap_u8']; omega
  unfold execOp
  simp only [ho, hx]
  go_simp
theorem li_zero (n : Nat) : ge (li n fun _ => 0) = fun _ => 0 := funext fun i => by
  unfold ge li
  rw [List.getD_eq_getElem?_getD, List.getElem?_map]
  cases (List.range n)[i]? <;> rfl
theorem st64 {u : World} {L : List Row} (w : World) (key nonce : Nat → Nat) (hk : ∀ i, key i < 256) (hn : ∀ i, nonce i < 256) (cnt n q j : Nat) (hc : cnt < 4294967296) (h9 : n ≤ 2000) (hcn : cnt + (n + 63) / 64 ≤ 4294967296) (hG : Gl u 0 (vals .i64 32 pl)) (hO : Own u w L) (hj : L[j]? = some (q, vals .u8 n (fun _ => 0), 5)) : RetN 9 #[A (vals .u8 32 key), Nv .u32 cnt, A (vals .u8 12 nonce), .slice (some ⟨q, 0, none⟩) n n] w (fun q => .tuple #[.slice (some ⟨q, 0, none⟩) n n, .int .i64 0]) (vals .u8 n (sx key cnt nonce (fun _ => 0))) 5 := by
  have h := stream_c key nonce hk hn cnt hc (some ⟨q, 0, none⟩) (li n fun _ => 0) n (by rw [li_len]; exact h9) (li_lt _ _ fun _ => Nat.zero_lt_succ _) w (hG.low hO.low) (rds_row (hO.row j hj)) (by rw [li_len]; exact hcn)
  rw [li_len, li_zero] at h
  exact h
set_option maxHeartbeats 8000000 in
theorem awake_c (w : World) (hG : Gl w 0 (vals .i64 32 pl)) : Ret 8 #[] w (.bool true) := by
  go_enter Tryd.func8, Tryd.ntmps8
  have hO := Own.start w
  have hG2 := hG
  clear hG
  go_upto_region 1 with (fail)
  refine Rg.ps [1, 2] (fun ν => [(8, A (vals .u8 32 (fun _ => 0))), (1, D (ν 1))]) (OI w (fun s ν => [[], [((ν 1), vals .u8 32 (fun _ => 0), 23)], [((ν 1), vals .u8 32 (fun _ => 0), 23)]].getD s [])) (fun _ => 0) hO (Rg.ac (nx (fun _ => A (vals .u8 32 (fun _ => 0))) (fun _ w => run_bd 23 _ rfl [] (by kernel_rfl) _ bd_23 w)) (Rg.ac (sn 0 (fun _ => vals .u8 32 (fun _ => 0)) 23 (fun _ w => al23 rfl w) (fun _ => fit_b32 _)) (Rg.ac (sr 1 0 (fun _ => vals .u8 32 (fun _ => 0)) (fun _ => fit_b32 _)) Rg.an))) ?_
  intro ν w1 hO
  replace hO : Own w w1 [((ν 1), vals .u8 32 (fun _ => 0), 23)] := hO
  simp only [Rg.putL, Act.put, List.setIfInBounds_toArray, List.set_cons_succ, List.set_cons_zero]
  generalize ν 1 = n1 at hO ⊢
  clear ν
  have HO : Hid (Own w w1 [(n1, vals .u8 32 (mx kt 0), 23)]) := hide (by rw [mx_zero]; exact hO)
  clear hO
  go_wp2_with (fail)
  go_loopw [2] (fun i wr => ∃ k : Nat, k ≤ 32 ∧ i = .int .i64 k ∧ Own w wr [(n1, vals .u8 32 (mx kt k), 23)]) (fun i _ => 32 - (intOf i).toNat)
  case atStart => exact ⟨0, by omega, rfl, HO.out⟩
  case round =>
    obtain ⟨k, hk, rfl, hO⟩ := hrel
    by_cases hlt : k < 32
    · have hq0 : (0 : Int) ≤ (k : Int) := by omega
      have hq1 : (k : Int) < 32 := by omega
      have hk8 : k < 256 := by omega
      go_upto_region 5 with (fail)
      refine Rg.ps [4] (fun _ => [(13, Nv .i64 k), (14, Nv .i64 k), (15, Nv .u8 k), (16, E n1 k)]) (OI w (fun s ν => [[(n1, vals .u8 32 (mx kt k), 23)], [(n1, vals .u8 32 (fun j => if j = k then k else mx kt k j), 23)]].getD s [])) (fun _ => 0) hO (Rg.ac nv (Rg.ac nv (Rg.ac (nx (fun _ => Nv .u8 k) (fun _ w => b_c8 hk8 w)) (Rg.ac (nx (fun _ => E n1 k) (fun _ w => b_ia32 hlt w)) (Rg.ac (sl 0 0 (fun _ => k) (fun _ => Nv .u8 (mx kt k k)) (fun _ => ((k : Nat) : Int)) sz_u8 (fun _ => vals_get _ _ _ _ hlt) (fun _ => vals_set _ _ _ _ _) (fun _ => fit_b32 _)) Rg.an))))) ?_
      intro ν w2 hO
      replace hO : Own w w2 [(n1, vals .u8 32 (fun j => if j = k then k else mx kt k j), 23)] := hO
      simp only [Rg.putL, Act.put, List.setIfInBounds_toArray, List.set_cons_succ, List.set_cons_zero]
      clear ν
      rw [kt_next] at hO
      have HO2 := hide hO
      clear hO
      go_wp2_with (fail)
      go_roundw
      case rel => exact ⟨k + 1, by omega, by go_num, HO2.out⟩
      case measure => simp [intOf]; omega
    · have ek : k = 32 := by omega
      subst ek
      rw [kt_end] at hO
      have hb := bk_told
      obtain ⟨B, hB⟩ : ∃ B, Hid (B = bk kt 1 nt) := ⟨_, hide rfl⟩
      rw [← hB.out] at hb
      obtain ⟨t0, t1, t2, t3⟩ := hb
      have hbl := fun w' (h : Below w.heap.size w w') => hB.out ▸ block_c kt nt kt_lt nt_lt 1 (by omega) w' (hG2.low h)
      go_upto_region 6 with (fail)
      refine Rg.ps [2, 3, 4] (fun ν => [(17, A (vals .u8 32 kt)), (18, A (vals .u8 12 nt)), (19, A (vals .u8 64 B)), (3, D (ν 3))]) (OI w (fun s ν => [[(n1, vals .u8 32 kt, 23)], [(n1, vals .u8 32 kt, 23)], [(n1, vals .u8 32 kt, 23), ((ν 3), vals .u8 64 (fun _ => 0), 30)], [(n1, vals .u8 32 kt, 23), ((ν 3), vals .u8 64 B, 30)]].getD s [])) (fun _ => 0) hO (Rg.ac (nld 0 0 0 (at1 0 fun _ => by kernel_rfl) Tryd.underlying23) (Rg.ac (nx (fun _ => A (vals .u8 12 nt)) (fun _ w => run_bd 25 _ rfl [(3, Nv .u8 9), (7, Nv .u8 74)] (by kernel_rfl) _ bd_nt w)) (Rg.ac (sq 0 11 (fun _ => #[A (vals .u8 32 kt), Nv .u32 1, A (vals .u8 12 nt)]) (fun _ => A (vals .u8 64 B)) (fun ν w hO => hbl w hO.low)) (Rg.ac (sn 1 (fun _ => vals .u8 64 (fun _ => 0)) 30 (fun _ w => al30 rfl w) (fun _ => fit_b64 _)) (Rg.ac (sr 2 1 (fun _ => vals .u8 64 B) (fun _ => fit_b64 _)) Rg.an))))) ?_
      intro ν w3 hO
      replace hO : Own w w3 [(n1, vals .u8 32 kt, 23), ((ν 3), vals .u8 64 B, 30)] := hO
      simp only [Rg.putL, Act.put, List.setIfInBounds_toArray, List.set_cons_succ, List.set_cons_zero]
      generalize ν 3 = n3 at hO ⊢
      clear ν
      have hkz : ∀ i, (fun _ => 0 : Nat → Nat) i < 256 := fun _ => Nat.zero_lt_succ _
      go_upto_region 7 with (fail)
      refine Rg.pd [2, 3] (fun ν => [(21, A (vals .u8 32 kt)), (22, A (vals .u8 12 (fun _ => 0))), (23, .slice (some ⟨(ν 2), 0, none⟩) 65 65), (24, .tuple #[.slice none 0 0, .int .i64 90]), (20, .tuple #[.slice none 0 0, .int .i64 90]), (25, .slice none 0 0), (26, .int .i64 90), (4, .slice none 0 0), (5, .int .i64 90)]) (OI w (fun s ν => [[(n1, vals .u8 32 kt, 23), (n3, vals .u8 64 B, 30)], [(n1, vals .u8 32 kt, 23), (n3, vals .u8 64 B, 30), ((ν 2), vals .u8 65 (fun _ => 0), 5)], [(n1, vals .u8 32 kt, 23), (n3, vals .u8 64 B, 30), ((ν 2), vals .u8 65 (fun _ => 0), 5)]].getD s [])) (fun _ => 0) hO.drew (Rg.ac (nld 0 1 0 (at2 0 1 (fun _ => by kernel_rfl) (at1 1 fun _ => by kernel_rfl)) Tryd.underlying23) (Rg.ac (nx (fun _ => A (vals .u8 12 (fun _ => 0))) (fun _ w => run_bd 25 _ rfl [] (by kernel_rfl) _ bd_25 w)) (Rg.ac (sv 0 (fun _ q => .slice (some ⟨q, 0, none⟩) 65 65) (fun _ => vals .u8 65 (fun _ => 0)) 5 (fun _ w => b_mk (by omega) w) (fun _ => fit_sl _ _)) (Rg.ac (sc 1 9 (fun ν => #[A (vals .u8 32 kt), Nv .u32 4294967295, A (vals .u8 12 (fun _ => 0)), .slice (some ⟨(ν 2), 0, none⟩) 65 65]) (fun _ => .tuple #[.slice none 0 0, .int .i64 90]) (fun ν => fun w => stream_e kt (fun _ => 0) 4294967295 (by omega) (some ⟨ν 2, 0, none⟩) 65 65 (by omega) w (by omega))) (Rg.ac nv (Rg.ac nv (Rg.ac nv (Rg.ac nv (Rg.ac nv Rg.an))))))))) ?_
      intro ν w4 hO
      replace hO : Own w w4 [(n1, vals .u8 32 kt, 23), (n3, vals .u8 64 B, 30), ((ν 2), vals .u8 65 (fun _ => 0), 5)] := hO
      simp only [Rg.putL, Act.put, List.setIfInBounds_toArray, List.set_cons_succ, List.set_cons_zero]
      generalize ν 2 = n23 at hO ⊢
      clear ν
      go_upto_region 8 with (fail)
      refine Rg.pd [2, 3] (fun ν => [(28, A (vals .u8 32 kt)), (29, A (vals .u8 12 (fun _ => 0))), (30, .slice (some ⟨(ν 2), 0, none⟩) 64 64), (31, .tuple #[.slice (some ⟨(ν 3), 0, none⟩) 64 64, .int .i64 0]), (27, .tuple #[.slice (some ⟨(ν 3), 0, none⟩) 64 64, .int .i64 0]), (32, .slice (some ⟨(ν 3), 0, none⟩) 64 64), (33, .int .i64 0), (6, .slice (some ⟨(ν 3), 0, none⟩) 64 64), (7, .int .i64 0)]) (OI w (fun s ν => [[(n1, vals .u8 32 kt, 23), (n3, vals .u8 64 B, 30), (n23, vals .u8 65 (fun _ => 0), 5)], [(n1, vals .u8 32 kt, 23), (n3, vals .u8 64 B, 30), (n23, vals .u8 65 (fun _ => 0), 5), ((ν 2), vals .u8 64 (fun _ => 0), 5)], [(n1, vals .u8 32 kt, 23), (n3, vals .u8 64 B, 30), (n23, vals .u8 65 (fun _ => 0), 5), ((ν 2), vals .u8 64 (fun _ => 0), 5), ((ν 3), vals .u8 64 (sx kt 4294967295 (fun _ => 0) (fun _ => 0)), 5)]].getD s [])) (fun _ => 0) hO.drew (Rg.ac (nld 0 1 0 (at2 0 1 (fun _ => by kernel_rfl) (at1 1 fun _ => by kernel_rfl)) Tryd.underlying23) (Rg.ac (nx (fun _ => A (vals .u8 12 (fun _ => 0))) (fun _ w => run_bd 25 _ rfl [] (by kernel_rfl) _ bd_25 w)) (Rg.ac (sv 0 (fun _ q => .slice (some ⟨q, 0, none⟩) 64 64) (fun _ => vals .u8 64 (fun _ => 0)) 5 (fun _ w => b_mk (by omega) w) (fun _ => fit_sl _ _)) (Rg.ac (sf 1 9 (fun ν => #[A (vals .u8 32 kt), Nv .u32 4294967295, A (vals .u8 12 (fun _ => 0)), .slice (some ⟨(ν 2), 0, none⟩) 64 64]) (fun ν q => .tuple #[.slice (some ⟨q, 0, none⟩) 64 64, .int .i64 0]) (fun _ => vals .u8 64 (sx kt 4294967295 (fun _ => 0) (fun _ => 0))) 5 (fun ν w hO => st64 w kt (fun _ => 0) kt_lt hkz 4294967295 64 (ν 2) 3 (by omega) (by omega) (by omega) hG2 hO (by kernel_rfl)) (fun _ => fit_sl _ _)) (Rg.ac nv (Rg.ac nv (Rg.ac nv (Rg.ac nv (Rg.ac nv Rg.an))))))))) ?_
      intro ν w5 hO
      replace hO : Own w w5 [(n1, vals .u8 32 kt, 23), (n3, vals .u8 64 B, 30), (n23, vals .u8 65 (fun _ => 0), 5), ((ν 2), vals .u8 64 (fun _ => 0), 5), ((ν 3), vals .u8 64 (sx kt 4294967295 (fun _ => 0) (fun _ => 0)), 5)] := hO
      simp only [Rg.putL, Act.put, List.setIfInBounds_toArray, List.set_cons_succ, List.set_cons_zero]
      generalize ν 2 = n30 at hO ⊢
      generalize ν 3 = n31 at hO ⊢
      clear ν
      go_upto_region 9 with (fail)
      refine Rg.ps [] (fun _ => [(34, D n3), (35, Nv .u8 16), (36, .bool true), (37, .bool true), (38, E n3 1), (39, Nv .u8 241), (40, .bool true), (41, .bool true), (42, .bool true), (43, E n3 2), (44, Nv .u8 231), (45, .bool true), (46, .bool true), (47, .bool true), (48, E n3 3), (49, Nv .u8 228), (50, .bool true), (51, .bool true), (52, .bool true), (53, .int .i64 90), (54, .bool true), (55, .bool true), (56, .bool true), (57, .slice (some ⟨n31, 0, none⟩) 64 64), (58, Nv .i64 64), (59, .bool true), (60, .bool true), (61, .bool true), (62, .int .i64 0), (63, .bool true), (64, .bool true), (0, .bool true)]) (OI w (fun _ _ => [(n1, vals .u8 32 kt, 23), (n3, vals .u8 64 B, 30), (n23, vals .u8 65 (fun _ => 0), 5), (n30, vals .u8 64 (fun _ => 0), 5), (n31, vals .u8 64 (sx kt 4294967295 (fun _ => 0) (fun _ => 0)), 5)])) (fun _ => 0) hO (Rg.ac nv (Rg.ac (nc 0 0 1 (fun _ => 0) (fun _ => Nv .u8 16) agg_u8 (fun _ => (vals_get _ _ _ _ (by omega)).trans (by rw [t0])) (at1 0 fun _ => by kernel_rfl)) (Rg.ac nv (Rg.ac nv (Rg.ac nv (Rg.ac (nc 0 0 1 (fun _ => 1) (fun _ => Nv .u8 241) agg_u8 (fun _ => (vals_get _ _ _ _ (by omega)).trans (by rw [t1])) (at1 0 fun _ => by kernel_rfl)) (Rg.ac nv (Rg.ac nv (Rg.ac nv (Rg.ac nv (Rg.ac (nc 0 0 1 (fun _ => 2) (fun _ => Nv .u8 231) agg_u8 (fun _ => (vals_get _ _ _ _ (by omega)).trans (by rw [t2])) (at1 0 fun _ => by kernel_rfl)) (Rg.ac nv (Rg.ac nv (Rg.ac nv (Rg.ac nv (Rg.ac (nc 0 0 1 (fun _ => 3) (fun _ => Nv .u8 228) agg_u8 (fun _ => (vals_get _ _ _ _ (by omega)).trans (by rw [t3])) (at1 0 fun _ => by kernel_rfl)) (Rg.ac nv (Rg.ac nv (Rg.ac nv (Rg.ac nv (Rg.ac nv (Rg.ac nv (Rg.ac nv (Rg.ac nv (Rg.ac nv (Rg.ac nv (Rg.ac nv (Rg.ac nv (Rg.ac nv (Rg.ac nv (Rg.ac nv (Rg.ac nv Rg.an)))))))))))))))))))))))))))))))) ?_
      intro ν w6 hO
      replace hO : Own w w6 [(n1, vals .u8 32 kt, 23), (n3, vals .u8 64 B, 30), (n23, vals .u8 65 (fun _ => 0), 5), (n30, vals .u8 64 (fun _ => 0), 5), (n31, vals .u8 64 (sx kt 4294967295 (fun _ => 0) (fun _ => 0)), 5)] := hO
      simp only [Rg.putL, Act.put, List.setIfInBounds_toArray, List.set_cons_succ, List.set_cons_zero]
      clear ν
      have hlow := hO.low
      clear hO
      go_wp2_with (fail)
      go_ret
      exact ⟨rfl, hlow⟩
end Go.Proofs.YtceaiclkpgbmaaaDoor

/- Walks: PolyNone. The variable kept as it is laid; bytes below 256. -/
import Derived.Test.YtflmnhjfgdbfeaaDoorKg
namespace Go.Proofs.YtflmnhjfgdbfeaaDoor
set_option maxRecDepth 100000
open Go.RowKit Rg

theorem b_pt2 {a : Act} {o : Oper} (w : World) (ho : o.op = .buildSlice 29 2 #[(0, .const (.slice none 0 0)), (1, .const (.slice none 0 0))] := by rfl) : (execOp a.eval o).run Tryd.prog w = .ok (.value (.slice (some ⟨w.heap.size, 0, none⟩) 2 2)) (w.alloc (.cells #[.slice none 0 0, .slice none 0 0] 23)) := by
  unfold execOp
  simp only [ho]
  kernel_rfl
theorem pts_nils {w : World} {q : Nat} {t : TypeId} (g : Nat → Nat) (hB : Blk w q #[.slice none 0 0, .slice none 0 0] t) : Pts w (some ⟨q, 0, none⟩) 2 g (fun _ => 0) := by
  refine ⟨rfl, fun _ _ => Nat.le_refl _, Or.inr ⟨⟨q, 0, none⟩, rfl, hB.lt, fun i hi => ⟨none, 0, ?_, Nat.le_refl _, Or.inl rfl⟩⟩⟩
  rw [Addr.add_mid, hB.cell]
  obtain rfl | rfl : i = 0 ∨ i = 1 := by omega
  · rfl
  · rfl
theorem sw_cast (n : Nat) (a b : Nat → Nat) (j : Nat) (h : j < n) : sw a b n j = a j := by unfold sw; rw [if_pos h]
set_option maxHeartbeats 8000000 in
theorem none_walk (key : Nat → Nat) (hk : ∀ i, key i < 256) (S : Option Addr) (n c : Nat) (g : Nat → Nat) (hg : ∀ i, g i < 256) (hc : n ≤ c) (w : World) (hG : Gl w 0 (vals .u64 2 kp)) (hS : Rd w S n g) : Ret 6 #[A (vals .u8 32 key), .slice S n c] w (.bool true) := by
  have HA : Hid (∀ w1 : World, Below w.heap.size w w1 → Ret 8 #[] w1 (.bool true)) := hide fun w1 h => awake_c w1 (hG.low h)
  obtain ⟨s0, hs0⟩ : ∃ s0, Hid ((fun j => key (16 + j)) = s0) := ⟨_, hide rfl⟩
  obtain ⟨z, hz⟩ : ∃ z, Hid (sw (fun _ => 0) key 16 = z) := ⟨_, hide rfl⟩
  have hzl : ∀ i, z i < 256 := fun i => by
    rw [← hz.out]
    unfold sw
    split
    · exact Nat.zero_lt_succ _
    · exact hk i
  have e0 : vals .u8 16 (tg key g 0) = vals .u8 16 s0 := vals_congr _ _ _ _ fun i hi => by rw [tg_none key g hk i hi, ← hs0.out]
  have ez : vals .u8 16 (tg z g n) = vals .u8 16 s0 := vals_congr _ _ _ _ fun i hi => by
    rw [tg_null z g hzl n (fun j hj => by rw [← hz.out]; exact sw_cast 16 _ _ j hj) i hi, ← hz.out, ← hs0.out]
    unfold sw
    rw [if_neg (by omega)]
  have H1 : Hid (∀ w1 : World, Below w.heap.size w w1 → Ret 9 #[A (vals .u8 32 key), .slice none 0 0] w1 (A (vals .u8 16 s0))) := hide fun w1 h => e0 ▸ tag_c key hk none 0 0 g (fun _ => 0) hg (by decide) w1 (hG.low h) (pts_none w1 none g)
  have H2 : Hid (∀ (q : Nat) (w1 : World), Below w.heap.size w w1 → Blk w1 q #[.slice none 0 0, .slice none 0 0] 23 → Ret 9 #[A (vals .u8 32 key), .slice (some ⟨q, 0, none⟩) 2 2] w1 (A (vals .u8 16 s0))) := hide fun q w1 h hB => e0 ▸ tag_c key hk (some ⟨q, 0, none⟩) 2 2 g (fun _ => 0) hg (by decide) w1 (hG.low h) (pts_nils g hB)
  have H3 : Hid (∀ (q : Nat) (w1 : World), Below w.heap.size w w1 → Blk w1 q #[.slice S n c] 23 → Ret 9 #[A (vals .u8 32 z), .slice (some ⟨q, 0, none⟩) 1 1] w1 (A (vals .u8 16 s0))) := hide fun q w1 h hB => ez ▸ tag1_c z hzl S n c q g hg hc w1 (hG.low h) hB (hS.low h)
  clear hS hG e0 ez hzl
  go_enter Tryd.func6, Tryd.ntmps6
  have hO := Own.start w
  go_upto_region 0 with (fail)
  refine Rg.ps [0] (fun ν => [(2, D (ν 0)), (4, .bool false)]) (OI w (fun s ν => [[], [((ν 0), vals .u8 32 key, 22)]].getD s [])) (fun _ => 0) hO (Rg.ac (sn 0 (fun _ => vals .u8 32 key) 22 (fun _ w => run_box 22 _ rfl _ (by kernel_rfl) w) (fun _ => fit_b32 _)) (Rg.ac nv Rg.an)) ?_
  intro ν w1 hO
  replace hO : Own w w1 [((ν 0), vals .u8 32 key, 22)] := hO
  simp only [Rg.putL, Act.put, List.setIfInBounds_toArray, List.set_cons_succ, List.set_cons_zero]
  generalize ν 0 = n2 at hO ⊢
  clear ν
  go_upto_region 1 with (fail)
  refine Rg.ps [0] (fun _ => [(10, .bool true), (5, .bool true)]) (OI w (fun s ν => [[(n2, vals .u8 32 key, 22)], [(n2, vals .u8 32 key, 22)]].getD s [])) (fun _ => 0) hO (Rg.ac (sq 0 8 (fun _ => #[]) (fun _ => .bool true) (fun ν w hO => HA.out w hO.low)) (Rg.ac nv Rg.an)) ?_
  intro ν w2 hO
  replace hO : Own w w2 [(n2, vals .u8 32 key, 22)] := hO
  simp only [Rg.putL, Act.put, List.setIfInBounds_toArray, List.set_cons_succ, List.set_cons_zero]
  clear ν
  by_cases hq : n ≤ 1000
  · have h1 : ¬ (1000 : Int) < (n : Int) := by omega
    clear hq
    go_upto_region 4 with (fail)
    clear h1
    refine Rg.ps [1, 2] (fun ν => [(15, A (vals .u8 32 key)), (6, D (ν 1))]) (OI w (fun s ν => [[(n2, vals .u8 32 key, 22)], [(n2, vals .u8 32 key, 22), ((ν 1), vals .u8 32 (fun _ => 0), 22)], [(n2, vals .u8 32 key, 22), ((ν 1), vals .u8 32 key, 22)]].getD s [])) (fun _ => 0) hO (Rg.ac (nld 0 0 0 (at1 0 fun _ => by kernel_rfl) Tryd.underlying22) (Rg.ac (sn 0 (fun _ => vals .u8 32 (fun _ => 0)) 22 (fun _ w => al_b32 rfl w) (fun _ => fit_b32 _)) (Rg.ac (sr 1 1 (fun _ => vals .u8 32 key) (fun _ => fit_b32 _)) Rg.an))) ?_
    intro ν w3 hO
    replace hO : Own w w3 [(n2, vals .u8 32 key, 22), ((ν 1), vals .u8 32 key, 22)] := hO
    simp only [Rg.putL, Act.put, List.setIfInBounds_toArray, List.set_cons_succ, List.set_cons_zero]
    generalize ν 1 = n6 at hO ⊢
    clear ν
    have HO : Hid (Own w w3 [(n2, vals .u8 32 key, 22), (n6, vals .u8 32 (sw (fun _ => 0) key 0), 22)]) := hide (by rw [sw_zero]; exact hO)
    clear hO
    go_wp2_with (fail)
    go_loopw [7] (fun x7 wr => ∃ k : Nat, k ≤ 16 ∧ x7 = .int .i64 k ∧ Own w wr [(n2, vals .u8 32 key, 22), (n6, vals .u8 32 (sw (fun _ => 0) key k), 22)]) (fun x7 _ => 16 - (intOf x7).toNat)
    case atStart => exact ⟨0, Nat.zero_le _, rfl, HO.out⟩
    case round =>
      clear HO
      obtain ⟨k, hk9, rfl, hO⟩ := hrel
      by_cases hlt : k < 16
      · have hq0 : (0 : Int) ≤ (k : Int) := Int.natCast_nonneg k
        have hq1 : (k : Int) < 16 := by omega
        have hw1 := wr1 k (by omega)
        have hw0 := wr0 k (by omega)
        have hk32 : k < 32 := by omega
        go_upto_region 8 with (fail)
        refine Rg.ps [2] (fun _ => [(20, Nv .i64 k), (21, E n6 k)]) (OI w (fun s ν => [[(n2, vals .u8 32 key, 22), (n6, vals .u8 32 (sw (fun _ => 0) key k), 22)], [(n2, vals .u8 32 key, 22), (n6, vals .u8 32 (sw (fun _ => 0) key (k + 1)), 22)]].getD s [])) (fun _ => 0) hO (Rg.ac nv (Rg.ac (nx (fun _ => E n6 k) (fun _ w => b_ia_b32 hk32 w)) (Rg.ac (sl 0 1 (fun _ => k) (fun _ => Nv .u8 (key k)) (fun _ => 0) sz_u8 (fun _ => (vals_get _ _ _ _ hk32).trans (by rw [sw_here])) (fun _ => sw_set _ _ _ _ k 0 rfl) (fun _ => fit_b32 _)) Rg.an))) ?_
        intro ν w4 hO
        replace hO : Own w w4 [(n2, vals .u8 32 key, 22), (n6, vals .u8 32 (sw (fun _ => 0) key (k + 1)), 22)] := hO
        simp only [Rg.putL, Act.put, List.setIfInBounds_toArray, List.set_cons_succ, List.set_cons_zero]
        clear ν
        have HO2 : Hid (Own w w4 [(n2, vals .u8 32 key, 22), (n6, vals .u8 32 (sw (fun _ => 0) key (k + 1)), 22)]) := hide hO
        clear hO
        go_wp2_with (fail)
        go_roundw
        case rel => exact ⟨k + 1, hlt, in_succ k, HO2.out⟩
        case measure => exact ms_lt hlt
      · have ek : k = 16 := by omega
        subst ek
        clear hlt hk9
        rw [hz.out] at hO
        go_upto_region 9 with (fail)
        refine Rg.ps [1, 2] (fun ν => [(22, A (vals .u8 16 (fun _ => 0))), (8, D (ν 1))]) (OI w (fun s ν => [[(n2, vals .u8 32 key, 22), (n6, vals .u8 32 z, 22)], [(n2, vals .u8 32 key, 22), (n6, vals .u8 32 z, 22), ((ν 1), vals .u8 16 (fun _ => 0), 25)], [(n2, vals .u8 32 key, 22), (n6, vals .u8 32 z, 22), ((ν 1), vals .u8 16 (fun _ => 0), 25)]].getD s [])) (fun _ => 0) hO (Rg.ac (nx (fun _ => A (vals .u8 16 (fun _ => 0))) (fun _ w => run_bd 25 _ rfl [] (by kernel_rfl) _ bd_b16 w)) (Rg.ac (sn 0 (fun _ => vals .u8 16 (fun _ => 0)) 25 (fun _ w => al_b16 rfl w) (fun _ => fit_b16 _)) (Rg.ac (sr 1 2 (fun _ => vals .u8 16 (fun _ => 0)) (fun _ => fit_b16 _)) Rg.an))) ?_
        intro ν w5 hO
        replace hO : Own w w5 [(n2, vals .u8 32 key, 22), (n6, vals .u8 32 z, 22), ((ν 1), vals .u8 16 (fun _ => 0), 25)] := hO
        simp only [Rg.putL, Act.put, List.setIfInBounds_toArray, List.set_cons_succ, List.set_cons_zero]
        generalize ν 1 = n8 at hO ⊢
        clear ν
        have HO : Hid (Own w w5 [(n2, vals .u8 32 key, 22), (n6, vals .u8 32 z, 22), (n8, vals .u8 16 (sw s0 (fun _ => 0) 0), 25)]) := hide (by rw [sw_zero]; exact hO)
        clear hO
        go_wp2_with (fail)
        go_loopw [9] (fun x9 wr => ∃ k : Nat, k ≤ 16 ∧ x9 = .int .i64 k ∧ Own w wr [(n2, vals .u8 32 key, 22), (n6, vals .u8 32 z, 22), (n8, vals .u8 16 (sw s0 (fun _ => 0) k), 25)]) (fun x9 _ => 16 - (intOf x9).toNat)
        case atStart => exact ⟨0, Nat.zero_le _, rfl, HO.out⟩
        case round =>
          clear HO
          obtain ⟨k, hk9, rfl, hO⟩ := hrel
          by_cases hlt : k < 16
          · have hq0 : (0 : Int) ≤ (k : Int) := Int.natCast_nonneg k
            have hq1 : (k : Int) < 16 := by omega
            have hw1 := wr1 k (by omega)
            have hw0 := wr0 k (by omega)
            have hk32 : 16 + k < 32 := by omega
            have h16 : 16 < 2 ^ 40 := by decide
            have hk40 : k < 2 ^ 40 := by omega
            go_upto_region 13 with (fail)
            refine Rg.ps [6] (fun _ => [(27, Nv .i64 k), (28, Nv .i64 k), (29, Nv .i64 (16 + k)), (30, E n2 (16 + k)), (31, Nv .u8 (key (16 + k))), (32, E n8 k)]) (OI w (fun s ν => [[(n2, vals .u8 32 key, 22), (n6, vals .u8 32 z, 22), (n8, vals .u8 16 (sw s0 (fun _ => 0) k), 25)], [(n2, vals .u8 32 key, 22), (n6, vals .u8 32 z, 22), (n8, vals .u8 16 (sw s0 (fun _ => 0) (k + 1)), 25)]].getD s [])) (fun _ => 0) hO (Rg.ac nv (Rg.ac nv (Rg.ac (nx (fun _ => Nv .i64 (16 + k)) (fun _ w => b_add h16 hk40 w)) (Rg.ac (nx (fun _ => E n2 (16 + k)) (fun _ w => b_ia_b32 hk32 w)) (Rg.ac (nc 0 0 0 (fun _ => (16 + k)) (fun _ => Nv .u8 (key (16 + k))) agg_u8 (fun _ => vals_get _ _ _ _ hk32) (at1 0 fun _ => by kernel_rfl)) (Rg.ac (nx (fun _ => E n8 k) (fun _ w => b_ia_b16 hlt w)) (Rg.ac (sl 0 2 (fun _ => k) (fun _ => Nv .u8 0) (fun _ => ((key (16 + k) : Nat) : Int)) sz_u8 (fun _ => (vals_get _ _ _ _ hlt).trans (by rw [sw_here])) (fun _ => sw_set _ _ _ _ _ _ (by rw [← hs0.out])) (fun _ => fit_b16 _)) Rg.an))))))) ?_
            intro ν w6 hO
            replace hO : Own w w6 [(n2, vals .u8 32 key, 22), (n6, vals .u8 32 z, 22), (n8, vals .u8 16 (sw s0 (fun _ => 0) (k + 1)), 25)] := hO
            simp only [Rg.putL, Act.put, List.setIfInBounds_toArray, List.set_cons_succ, List.set_cons_zero]
            clear ν
            have HO2 : Hid (Own w w6 [(n2, vals .u8 32 key, 22), (n6, vals .u8 32 z, 22), (n8, vals .u8 16 (sw s0 (fun _ => 0) (k + 1)), 25)]) := hide hO
            clear hO
            go_wp2_with (fail)
            go_roundw
            case rel => exact ⟨k + 1, hlt, in_succ k, HO2.out⟩
            case measure => exact ms_lt hlt
          · have ek : k = 16 := by omega
            subst ek
            clear hlt hk9
            rw [sw_end] at hO
            go_upto_region 14 with (fail)
            refine Rg.pd [3, 9, 10, 17, 18] (fun ν => [(33, .bool true), (34, .bool true), (35, A (vals .u8 32 key)), (36, A (vals .u8 16 s0)), (37, A (vals .u8 16 s0)), (38, .bool true), (39, .bool true), (40, .bool true), (41, A (vals .u8 32 key)), (42, .slice (some ⟨(ν 9), 0, none⟩) 2 2), (43, A (vals .u8 16 s0)), (44, A (vals .u8 16 s0)), (45, .bool true), (46, .bool true), (47, .bool true), (48, A (vals .u8 32 z)), (49, .slice S n c), (50, .slice (some ⟨(ν 17), 0, none⟩) 1 1), (51, A (vals .u8 16 s0)), (52, A (vals .u8 16 s0)), (53, .bool true), (54, .bool true), (4, .bool true)]) (OI w (fun s ν => [[(n2, vals .u8 32 key, 22), (n6, vals .u8 32 z, 22), (n8, vals .u8 16 s0, 25)], [(n2, vals .u8 32 key, 22), (n6, vals .u8 32 z, 22), (n8, vals .u8 16 s0, 25)], [(n2, vals .u8 32 key, 22), (n6, vals .u8 32 z, 22), (n8, vals .u8 16 s0, 25), ((ν 9), #[.slice none 0 0, .slice none 0 0], 23)], [(n2, vals .u8 32 key, 22), (n6, vals .u8 32 z, 22), (n8, vals .u8 16 s0, 25), ((ν 9), #[.slice none 0 0, .slice none 0 0], 23)], [(n2, vals .u8 32 key, 22), (n6, vals .u8 32 z, 22), (n8, vals .u8 16 s0, 25), ((ν 9), #[.slice none 0 0, .slice none 0 0], 23), ((ν 17), #[.slice S n c], 23)], [(n2, vals .u8 32 key, 22), (n6, vals .u8 32 z, 22), (n8, vals .u8 16 s0, 25), ((ν 9), #[.slice none 0 0, .slice none 0 0], 23), ((ν 17), #[.slice S n c], 23)]].getD s [])) (fun _ => 0) hO.drew (Rg.ac nv (Rg.ac nv (Rg.ac (nld 0 0 0 (at1 0 fun _ => by kernel_rfl) Tryd.underlying22) (Rg.ac (sq 0 9 (fun _ => #[A (vals .u8 32 key), .slice none 0 0]) (fun _ => A (vals .u8 16 s0)) (fun ν w hO => H1.out w hO.low)) (Rg.ac (nld 0 5 2 (at2 0 5 (fun _ => by kernel_rfl) (at2 1 5 (fun _ => by kernel_rfl) (at2 2 5 (fun _ => by kernel_rfl) (at2 3 5 (fun _ => by kernel_rfl) (at2 4 5 (fun _ => by kernel_rfl) (at1 5 fun _ => by kernel_rfl)))))) Tryd.underlying25) (Rg.ac (nx (fun _ => .bool true) (fun _ w => b_eqa (f := s0) w)) (Rg.ac nv (Rg.ac nv (Rg.ac (nld 0 2 0 (at2 0 2 (fun _ => by kernel_rfl) (at2 1 2 (fun _ => by kernel_rfl) (at1 2 fun _ => by kernel_rfl))) Tryd.underlying22) (Rg.ac (sv 1 (fun _ q => .slice (some ⟨q, 0, none⟩) 2 2) (fun _ => #[.slice none 0 0, .slice none 0 0]) 23 (fun _ w => b_pt2 w) (fun _ => fit_ss (by kernel_rfl))) (Rg.ac (sq 2 9 (fun ν => #[A (vals .u8 32 key), .slice (some ⟨(ν 9), 0, none⟩) 2 2]) (fun _ => A (vals .u8 16 s0)) (fun ν w hO => H2.out _ w hO.low (hO.row 3 rfl))) (Rg.ac (nld 0 5 2 (at2 0 5 (fun _ => by kernel_rfl) (at2 1 5 (fun _ => by kernel_rfl) (at2 2 5 (fun _ => by kernel_rfl) (at2 3 5 (fun _ => by kernel_rfl) (at2 4 5 (fun _ => by kernel_rfl) (at1 5 fun _ => by kernel_rfl)))))) Tryd.underlying25) (Rg.ac (nx (fun _ => .bool true) (fun _ w => b_eqa (f := s0) w)) (Rg.ac nv (Rg.ac nv (Rg.ac (nld 0 4 1 (at2 0 4 (fun _ => by kernel_rfl) (at2 1 4 (fun _ => by kernel_rfl) (at2 2 4 (fun _ => by kernel_rfl) (at2 3 4 (fun _ => by kernel_rfl) (at1 4 fun _ => by kernel_rfl))))) Tryd.underlying22) (Rg.ac nv (Rg.ac (sv 3 (fun _ q => .slice (some ⟨q, 0, none⟩) 1 1) (fun _ => #[.slice S n c]) 23 (fun _ w => b_pt1 w) (fun _ => fit_ss (by kernel_rfl))) (Rg.ac (sq 4 9 (fun ν => #[A (vals .u8 32 z), .slice (some ⟨(ν 17), 0, none⟩) 1 1]) (fun _ => A (vals .u8 16 s0)) (fun ν w hO => H3.out _ w hO.low (hO.row 4 rfl))) (Rg.ac (nld 0 5 2 (at2 0 5 (fun _ => by kernel_rfl) (at2 1 5 (fun _ => by kernel_rfl) (at2 2 5 (fun _ => by kernel_rfl) (at2 3 5 (fun _ => by kernel_rfl) (at2 4 5 (fun _ => by kernel_rfl) (at1 5 fun _ => by kernel_rfl)))))) Tryd.underlying25) (Rg.ac (nx (fun _ => .bool true) (fun _ w => b_eqa (f := s0) w)) (Rg.ac nv (Rg.ac nv Rg.an))))))))))))))))))))))) ?_
            intro ν w7 hO
            replace hO : Own w w7 [(n2, vals .u8 32 key, 22), (n6, vals .u8 32 z, 22), (n8, vals .u8 16 s0, 25), ((ν 9), #[.slice none 0 0, .slice none 0 0], 23), ((ν 17), #[.slice S n c], 23)] := hO
            simp only [Rg.putL, Act.put, List.setIfInBounds_toArray, List.set_cons_succ, List.set_cons_zero]
            generalize ν 9 = n42 at hO ⊢
            generalize ν 17 = n50 at hO ⊢
            clear ν
            have HF := hide hO.low
            clear hO H1 H2 H3
            go_wp2_with (fail)
            go_ret
            exact ⟨rfl, HF.out⟩
  · have h1 : (1000 : Int) < (n : Int) := by omega
    have HF := hide hO.low
    clear hO hq H1 H2 H3
    go_wp2_with (fail)
    go_ret
    exact ⟨rfl, HF.out⟩
end Go.Proofs.YtflmnhjfgdbfeaaDoor

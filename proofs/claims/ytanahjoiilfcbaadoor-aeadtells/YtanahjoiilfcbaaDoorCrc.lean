/- Walks: the reference's Block. Bytes below 256, a count below 2^32. -/
import Derived.Test.YtanahjoiilfcbaaDoorCrb
namespace Go.Proofs.YtanahjoiilfcbaaDoor.C
set_option maxRecDepth 100000
open Go.RowKit Rg

theorem b_add4 {ρ : Operand → Value} {o : Oper} {x y : Operand} {k : Nat} (hk : k < 1000) (w : World) (ho : o.op = .binOp .add 3 x y 3 := by rfl) (hx : ρ x = Nv .i64 k := by kernel_rfl) (hy : ρ y = .int .i64 4 := by kernel_rfl) : (execOp ρ o).run Tryd.prog w = .ok (.value (Nv .i64 (k + 4))) w := by
  have h1 : IntKind.i64.wrap ((k : Int) + 4) = (k : Int) + 4 := by unfold IntKind.wrap; simp [IntKind.bits, IntKind.signed]; omega
  unfold execOp
  simp only [ho, hx, hy]
  go_simp
theorem bd_30 : Tryd.prog.built 39 [] = some (vals .u8 64 (fun _ => 0)) := by kernel_rfl
theorem rdw_next' (f : Nat → Nat) (o : Nat) (g : Nat → Nat) (k : Nat) : vals .u32 16 (fun j => if j = o + k then le4 g (4 * k) else rdw f o g k j) = vals .u32 16 (rdw f o g (k + 1)) := vals_congr _ _ _ _ fun j _ => rdw_next f o g k j
theorem pq8 (f : Nat → Nat) : qr (qr (qr (qr (qr (qr (qr (qr f 0 4 8 12) 1 5 9 13) 2 6 10 14) 3 7 11 15) 0 5 10 15) 1 6 11 12) 2 7 8 13) 3 4 9 14 = pq f 8 := by
  simp only [pq]
  rfl
theorem mx_next' (f : Nat → Nat) (n k v : Nat) (hv : v = f k) : vals .u8 n (fun j => if j = k then v else mx f k j) = vals .u8 n (mx f (k + 1)) := by
  subst hv; exact vals_congr _ _ _ _ fun j _ => mx_next f k j
set_option maxHeartbeats 8000000 in
theorem rblock_c (key nonce : Nat → Nat) (hk : ∀ i, key i < 256) (hn : ∀ i, nonce i < 256) (cnt : Nat) (hc : cnt < 4294967296) (w : World) : Ret 22 #[A (vals .u8 32 key), Nv .u32 cnt, A (vals .u8 12 nonce)] w (A (vals .u8 64 (bk key cnt nonce))) := by
  obtain ⟨f0, hf0⟩ : ∃ f0, Hid (f0 = iw key cnt nonce) := ⟨_, hide rfl⟩
  have hw32 : W32 f0 := hf0.out ▸ iw_lt hk hn hc
  go_enter Tryd.func22, Tryd.ntmps22
  have hO := Own.start w
  go_upto_region 0 with (fail)
  refine Rg.ps [0, 1, 2] (fun ν => [(3, D (ν 0)), (5, D (ν 1)), (6, D (ν 2))]) (OI w (fun s ν => [[], [((ν 0), vals .u8 32 key, 23)], [((ν 0), vals .u8 32 key, 23), ((ν 1), vals .u8 12 nonce, 24)], [((ν 0), vals .u8 32 key, 23), ((ν 1), vals .u8 12 nonce, 24), ((ν 2), vals .u8 64 (fun _ => 0), 39)]].getD s [])) (fun _ => 0) hO (Rg.ac (sn 0 (fun _ => vals .u8 32 key) 23 (fun _ w => run_box 23 _ rfl _ (by kernel_rfl) w) (fun _ => fit_b32 _)) (Rg.ac (sn 1 (fun _ => vals .u8 12 nonce) 24 (fun _ w => run_box 24 _ rfl _ (by kernel_rfl) w) (fun _ => fit_b12 _)) (Rg.ac (sn 2 (fun _ => vals .u8 64 (fun _ => 0)) 39 (fun _ w => al30 rfl w) (fun _ => fit_b64 _)) Rg.an))) ?_
  intro ν w1 hO
  replace hO : Own w w1 [((ν 0), vals .u8 32 key, 23), ((ν 1), vals .u8 12 nonce, 24), ((ν 2), vals .u8 64 (fun _ => 0), 39)] := hO
  simp only [Rg.putL, Act.put, List.setIfInBounds_toArray, List.set_cons_succ, List.set_cons_zero]
  generalize ν 0 = n3 at hO ⊢
  generalize ν 1 = n5 at hO ⊢
  generalize ν 2 = n6 at hO ⊢
  clear ν
  go_upto_region 1 with (fail)
  refine Rg.ps [1, 2] (fun ν => [(14, A (vals .u32 16 c0)), (7, D (ν 1))]) (OI w (fun s ν => [[(n3, vals .u8 32 key, 23), (n5, vals .u8 12 nonce, 24), (n6, vals .u8 64 (fun _ => 0), 39)], [(n3, vals .u8 32 key, 23), (n5, vals .u8 12 nonce, 24), (n6, vals .u8 64 (fun _ => 0), 39), ((ν 1), vals .u32 16 (fun _ => 0), 46)], [(n3, vals .u8 32 key, 23), (n5, vals .u8 12 nonce, 24), (n6, vals .u8 64 (fun _ => 0), 39), ((ν 1), vals .u32 16 c0, 46)]].getD s [])) (fun _ => 0) hO (Rg.ac (nx (fun _ => A (vals .u32 16 c0)) (fun _ w => run_bd 46 _ rfl [(0, Nv .u32 1634760805), (1, Nv .u32 857760878), (2, Nv .u32 2036477234), (3, Nv .u32 1797285236)] (by kernel_rfl) _ bd_c0 w)) (Rg.ac (sn 0 (fun _ => vals .u32 16 (fun _ => 0)) 46 (fun _ w => al36 rfl w) (fun _ => fit_w16 _)) (Rg.ac (sr 1 3 (fun _ => vals .u32 16 c0) (fun _ => fit_w16 _)) Rg.an))) ?_
  intro ν w2 hO
  replace hO : Own w w2 [(n3, vals .u8 32 key, 23), (n5, vals .u8 12 nonce, 24), (n6, vals .u8 64 (fun _ => 0), 39), ((ν 1), vals .u32 16 c0, 46)] := hO
  simp only [Rg.putL, Act.put, List.setIfInBounds_toArray, List.set_cons_succ, List.set_cons_zero]
  generalize ν 1 = n7 at hO ⊢
  clear ν
  have HO : Hid (Own w w2 [(n3, vals .u8 32 key, 23), (n5, vals .u8 12 nonce, 24), (n6, vals .u8 64 (fun _ => 0), 39), (n7, vals .u32 16 (rdw c0 4 key 0), 46)]) := hide (by rw [vals_congr _ _ _ _ fun j _ => rdw_zero c0 4 key j]; exact hO)
  clear hO
  go_wp2_with (fail)
  go_loopw [8] (fun i wr => ∃ k : Nat, k ≤ 8 ∧ i = .int .i64 k ∧ Own w wr [(n3, vals .u8 32 key, 23), (n5, vals .u8 12 nonce, 24), (n6, vals .u8 64 (fun _ => 0), 39), (n7, vals .u32 16 (rdw c0 4 key k), 46)]) (fun i _ => 8 - (intOf i).toNat)
  case atStart => exact ⟨0, by omega, rfl, HO.out⟩
  case round =>
    clear HO
    obtain ⟨k, hk9, rfl, hO⟩ := hrel
    by_cases hlt : k < 8
    · have hq0 : (0 : Int) ≤ (k : Int) := by omega
      have hq1 : (k : Int) < 8 := by omega
      have hw1 := wr1 k (by omega)
      have hw0 := wr0 k (by omega)
      have hk1000 : k < 1000 := by omega
      have h416 : 4 + k < 16 := by omega
      have h32 : 4 * k + 4 ≤ 32 := by omega
      have hk100 : k < 100 := by omega
      have hk1k : 4 * k < 1000 := by omega
      go_upto_region 5 with (fail)
      refine Rg.ps [8, 10] (fun _ => [(19, Nv .i64 k), (20, Nv .i64 (4 + k)), (21, Nv .i64 k), (22, Nv .i64 (4 * k)), (23, Nv .i64 k), (24, Nv .i64 (4 * k)), (25, Nv .i64 (4 * k + 4)), (26, .slice (some ⟨n3, 4 * k, none⟩) 4 (32 - 4 * k)), (27, Nv .u32 (le4 key (4 * k))), (28, E n7 (4 + k))]) (OI w (fun s ν => [[(n3, vals .u8 32 key, 23), (n5, vals .u8 12 nonce, 24), (n6, vals .u8 64 (fun _ => 0), 39), (n7, vals .u32 16 (rdw c0 4 key k), 46)], [(n3, vals .u8 32 key, 23), (n5, vals .u8 12 nonce, 24), (n6, vals .u8 64 (fun _ => 0), 39), (n7, vals .u32 16 (rdw c0 4 key k), 46)], [(n3, vals .u8 32 key, 23), (n5, vals .u8 12 nonce, 24), (n6, vals .u8 64 (fun _ => 0), 39), (n7, vals .u32 16 (fun j => if j = 4 + k then le4 key (4 * k) else rdw c0 4 key k j), 46)]].getD s [])) (fun _ => 0) hO (Rg.ac nv (Rg.ac (nx (fun _ => Nv .i64 (4 + k)) (fun _ w => b_kadd hk1000 (by decide) w)) (Rg.ac nv (Rg.ac (nx (fun _ => Nv .i64 (4 * k)) (fun _ w => b_m4 hk100 w)) (Rg.ac nv (Rg.ac (nx (fun _ => Nv .i64 (4 * k)) (fun _ w => b_m4 hk100 w)) (Rg.ac (nx (fun _ => Nv .i64 (4 * k + 4)) (fun _ w => b_add4 hk1k w)) (Rg.ac (nx (fun _ => .slice (some ⟨n3, 4 * k, none⟩) 4 (32 - 4 * k)) (fun _ w => b_sla23 h32 (by decide) w)) (Rg.ac (sq 0 36 (fun _ => #[.slice (some ⟨n3, 4 * k, none⟩) 4 (32 - 4 * k)]) (fun _ => Nv .u32 (le4 key (4 * k))) (fun ν w hO => word_c key hk n3 (4 * k) (32 - 4 * k) 32 23 w (hO.row 0 (by kernel_rfl)) h32)) (Rg.ac (nx (fun _ => E n7 (4 + k)) (fun _ w => b_ia16 h416 w)) (Rg.ac (sl 1 3 (fun _ => (4 + k)) (fun _ => Nv .u32 (rdw c0 4 key k (4 + k))) (fun _ => ((le4 key (4 * k) : Nat) : Int)) sz_u32 (fun _ => vals_get _ _ _ _ h416) (fun _ => vals_set _ _ _ _ _) (fun _ => fit_w16 _)) Rg.an))))))))))) ?_
      intro ν w3 hO
      replace hO : Own w w3 [(n3, vals .u8 32 key, 23), (n5, vals .u8 12 nonce, 24), (n6, vals .u8 64 (fun _ => 0), 39), (n7, vals .u32 16 (fun j => if j = 4 + k then le4 key (4 * k) else rdw c0 4 key k j), 46)] := hO
      simp only [Rg.putL, Act.put, List.setIfInBounds_toArray, List.set_cons_succ, List.set_cons_zero]
      clear ν
      rw [rdw_next'] at hO
      have HO2 : Hid (Own w w3 [(n3, vals .u8 32 key, 23), (n5, vals .u8 12 nonce, 24), (n6, vals .u8 64 (fun _ => 0), 39), (n7, vals .u32 16 (rdw c0 4 key (k + 1)), 46)]) := hide hO
      clear hO
      go_wp2_with (fail)
      go_roundw
      case rel => exact ⟨k + 1, hlt, in_succ k, HO2.out⟩
      case measure => exact ms_lt hlt
    · have ek : k = 8 := by omega
      subst ek
      clear hlt hk9
      go_upto_region 6 with (fail)
      refine Rg.ps [2] (fun _ => [(29, Nv .u32 cnt), (30, E n7 12)]) (OI w (fun s ν => [[(n3, vals .u8 32 key, 23), (n5, vals .u8 12 nonce, 24), (n6, vals .u8 64 (fun _ => 0), 39), (n7, vals .u32 16 (rdw c0 4 key 8), 46)], [(n3, vals .u8 32 key, 23), (n5, vals .u8 12 nonce, 24), (n6, vals .u8 64 (fun _ => 0), 39), (n7, vals .u32 16 (fun j => if j = 12 then cnt else rdw c0 4 key 8 j), 46)]].getD s [])) (fun _ => 0) hO (Rg.ac nv (Rg.ac nv (Rg.ac (sl 0 3 (fun _ => 12) (fun _ => Nv .u32 (rdw c0 4 key 8 12)) (fun _ => ((cnt : Nat) : Int)) sz_u32 (fun _ => vals_get _ _ _ _ (by omega)) (fun _ => vals_set _ _ _ _ _) (fun _ => fit_w16 _)) Rg.an))) ?_
      intro ν w4 hO
      replace hO : Own w w4 [(n3, vals .u8 32 key, 23), (n5, vals .u8 12 nonce, 24), (n6, vals .u8 64 (fun _ => 0), 39), (n7, vals .u32 16 (fun j => if j = 12 then cnt else rdw c0 4 key 8 j), 46)] := hO
      simp only [Rg.putL, Act.put, List.setIfInBounds_toArray, List.set_cons_succ, List.set_cons_zero]
      clear ν
      obtain ⟨q2, hq2⟩ : ∃ q2, Hid (q2 = (fun j => if j = 12 then cnt else rdw c0 4 key 8 j)) := ⟨_, hide rfl⟩
      rw [← hq2.out] at hO
      have HO : Hid (Own w w4 [(n3, vals .u8 32 key, 23), (n5, vals .u8 12 nonce, 24), (n6, vals .u8 64 (fun _ => 0), 39), (n7, vals .u32 16 (rdw q2 13 nonce 0), 46)]) := hide (by rw [vals_congr _ _ _ _ fun j _ => rdw_zero q2 13 nonce j]; exact hO)
      clear hO
      go_wp2_with (fail)
      go_loopw [9] (fun i wr => ∃ k : Nat, k ≤ 3 ∧ i = .int .i64 k ∧ Own w wr [(n3, vals .u8 32 key, 23), (n5, vals .u8 12 nonce, 24), (n6, vals .u8 64 (fun _ => 0), 39), (n7, vals .u32 16 (rdw q2 13 nonce k), 46)]) (fun i _ => 3 - (intOf i).toNat)
      case atStart => exact ⟨0, by omega, rfl, HO.out⟩
      case round =>
        clear HO
        obtain ⟨k, hk9, rfl, hO⟩ := hrel
        by_cases hlt : k < 3
        · have hq0 : (0 : Int) ≤ (k : Int) := by omega
          have hq1 : (k : Int) < 3 := by omega
          have hw1 := wr1 k (by omega)
          have hw0 := wr0 k (by omega)
          have hk1000 : k < 1000 := by omega
          have h416 : 13 + k < 16 := by omega
          have h32 : 4 * k + 4 ≤ 12 := by omega
          have hk100 : k < 100 := by omega
          have hk1k : 4 * k < 1000 := by omega
          go_upto_region 10 with (fail)
          refine Rg.ps [8, 10] (fun _ => [(35, Nv .i64 k), (36, Nv .i64 (13 + k)), (37, Nv .i64 k), (38, Nv .i64 (4 * k)), (39, Nv .i64 k), (40, Nv .i64 (4 * k)), (41, Nv .i64 (4 * k + 4)), (42, .slice (some ⟨n5, 4 * k, none⟩) 4 (12 - 4 * k)), (43, Nv .u32 (le4 nonce (4 * k))), (44, E n7 (13 + k))]) (OI w (fun s ν => [[(n3, vals .u8 32 key, 23), (n5, vals .u8 12 nonce, 24), (n6, vals .u8 64 (fun _ => 0), 39), (n7, vals .u32 16 (rdw q2 13 nonce k), 46)], [(n3, vals .u8 32 key, 23), (n5, vals .u8 12 nonce, 24), (n6, vals .u8 64 (fun _ => 0), 39), (n7, vals .u32 16 (rdw q2 13 nonce k), 46)], [(n3, vals .u8 32 key, 23), (n5, vals .u8 12 nonce, 24), (n6, vals .u8 64 (fun _ => 0), 39), (n7, vals .u32 16 (fun j => if j = 13 + k then le4 nonce (4 * k) else rdw q2 13 nonce k j), 46)]].getD s [])) (fun _ => 0) hO (Rg.ac nv (Rg.ac (nx (fun _ => Nv .i64 (13 + k)) (fun _ w => b_kadd hk1000 (by decide) w)) (Rg.ac nv (Rg.ac (nx (fun _ => Nv .i64 (4 * k)) (fun _ w => b_m4 hk100 w)) (Rg.ac nv (Rg.ac (nx (fun _ => Nv .i64 (4 * k)) (fun _ w => b_m4 hk100 w)) (Rg.ac (nx (fun _ => Nv .i64 (4 * k + 4)) (fun _ w => b_add4 hk1k w)) (Rg.ac (nx (fun _ => .slice (some ⟨n5, 4 * k, none⟩) 4 (12 - 4 * k)) (fun _ w => b_sla25 h32 (by decide) w)) (Rg.ac (sq 0 36 (fun _ => #[.slice (some ⟨n5, 4 * k, none⟩) 4 (12 - 4 * k)]) (fun _ => Nv .u32 (le4 nonce (4 * k))) (fun ν w hO => word_c nonce hn n5 (4 * k) (12 - 4 * k) 12 24 w (hO.row 1 (by kernel_rfl)) h32)) (Rg.ac (nx (fun _ => E n7 (13 + k)) (fun _ w => b_ia16 h416 w)) (Rg.ac (sl 1 3 (fun _ => (13 + k)) (fun _ => Nv .u32 (rdw q2 13 nonce k (13 + k))) (fun _ => ((le4 nonce (4 * k) : Nat) : Int)) sz_u32 (fun _ => vals_get _ _ _ _ h416) (fun _ => vals_set _ _ _ _ _) (fun _ => fit_w16 _)) Rg.an))))))))))) ?_
          intro ν w5 hO
          replace hO : Own w w5 [(n3, vals .u8 32 key, 23), (n5, vals .u8 12 nonce, 24), (n6, vals .u8 64 (fun _ => 0), 39), (n7, vals .u32 16 (fun j => if j = 13 + k then le4 nonce (4 * k) else rdw q2 13 nonce k j), 46)] := hO
          simp only [Rg.putL, Act.put, List.setIfInBounds_toArray, List.set_cons_succ, List.set_cons_zero]
          clear ν
          rw [rdw_next'] at hO
          have HO2 : Hid (Own w w5 [(n3, vals .u8 32 key, 23), (n5, vals .u8 12 nonce, 24), (n6, vals .u8 64 (fun _ => 0), 39), (n7, vals .u32 16 (rdw q2 13 nonce (k + 1)), 46)]) := hide hO
          clear hO
          go_wp2_with (fail)
          go_roundw
          case rel => exact ⟨k + 1, hlt, in_succ k, HO2.out⟩
          case measure => exact ms_lt hlt
        · have ek : k = 3 := by omega
          subst ek
          clear hlt hk9
          rw [hq2.out, vals_congr _ _ _ _ (iw_eq key nonce cnt), ← hf0.out] at hO
          clear hq2
          go_upto_region 11 with (fail)
          refine Rg.ps [1, 2] (fun ν => [(45, A (vals .u32 16 f0)), (10, D (ν 1))]) (OI w (fun s ν => [[(n3, vals .u8 32 key, 23), (n5, vals .u8 12 nonce, 24), (n6, vals .u8 64 (fun _ => 0), 39), (n7, vals .u32 16 f0, 46)], [(n3, vals .u8 32 key, 23), (n5, vals .u8 12 nonce, 24), (n6, vals .u8 64 (fun _ => 0), 39), (n7, vals .u32 16 f0, 46), ((ν 1), vals .u32 16 (fun _ => 0), 46)], [(n3, vals .u8 32 key, 23), (n5, vals .u8 12 nonce, 24), (n6, vals .u8 64 (fun _ => 0), 39), (n7, vals .u32 16 f0, 46), ((ν 1), vals .u32 16 f0, 46)]].getD s [])) (fun _ => 0) hO (Rg.ac (nld 0 0 3 (at1 0 fun _ => by kernel_rfl) Tryd.underlying46) (Rg.ac (sn 0 (fun _ => vals .u32 16 (fun _ => 0)) 46 (fun _ w => al36 rfl w) (fun _ => fit_w16 _)) (Rg.ac (sr 1 4 (fun _ => vals .u32 16 f0) (fun _ => fit_w16 _)) Rg.an))) ?_
          intro ν w6 hO
          replace hO : Own w w6 [(n3, vals .u8 32 key, 23), (n5, vals .u8 12 nonce, 24), (n6, vals .u8 64 (fun _ => 0), 39), (n7, vals .u32 16 f0, 46), ((ν 1), vals .u32 16 f0, 46)] := hO
          simp only [Rg.putL, Act.put, List.setIfInBounds_toArray, List.set_cons_succ, List.set_cons_zero]
          generalize ν 1 = n10 at hO ⊢
          clear ν
          have HO : Hid (Own w w6 [(n3, vals .u8 32 key, 23), (n5, vals .u8 12 nonce, 24), (n6, vals .u8 64 (fun _ => 0), 39), (n7, vals .u32 16 f0, 46), (n10, vals .u32 16 (rn f0 0), 46)]) := hide (hO)
          clear hO
          go_wp2_with (fail)
          go_loopw [11] (fun i wr => ∃ k : Nat, k ≤ 10 ∧ i = .int .i64 k ∧ Own w wr [(n3, vals .u8 32 key, 23), (n5, vals .u8 12 nonce, 24), (n6, vals .u8 64 (fun _ => 0), 39), (n7, vals .u32 16 f0, 46), (n10, vals .u32 16 (rn f0 k), 46)]) (fun i _ => 10 - (intOf i).toNat)
          case atStart => exact ⟨0, by omega, rfl, HO.out⟩
          case round =>
            clear HO
            obtain ⟨k, hk9, rfl, hO⟩ := hrel
            by_cases hlt : k < 10
            · have hq0 : (0 : Int) ≤ (k : Int) := by omega
              have hq1 : (k : Int) < 10 := by omega
              have hw1 := wr1 k (by omega)
              have hw0 := wr0 k (by omega)
              obtain ⟨p0, hp0⟩ : ∃ p0, Hid (p0 = rn f0 k) := ⟨_, hide rfl⟩
              have g0 : W32 p0 := hp0.out ▸ rn_lt hw32 k
              rw [← hp0.out] at hO
              go_upto_region 15 with (fail)
              refine Rg.ps [1, 2] (fun _ => [(50, A (vals .u32 16 p0)), (51, A (vals .u32 16 (qr p0 0 4 8 12)))]) (OI w (fun s ν => [[(n3, vals .u8 32 key, 23), (n5, vals .u8 12 nonce, 24), (n6, vals .u8 64 (fun _ => 0), 39), (n7, vals .u32 16 f0, 46), (n10, vals .u32 16 p0, 46)], [(n3, vals .u8 32 key, 23), (n5, vals .u8 12 nonce, 24), (n6, vals .u8 64 (fun _ => 0), 39), (n7, vals .u32 16 f0, 46), (n10, vals .u32 16 p0, 46)], [(n3, vals .u8 32 key, 23), (n5, vals .u8 12 nonce, 24), (n6, vals .u8 64 (fun _ => 0), 39), (n7, vals .u32 16 f0, 46), (n10, vals .u32 16 (qr p0 0 4 8 12), 46)]].getD s [])) (fun _ => 0) hO (Rg.ac (nld 0 0 4 (at1 0 fun _ => by kernel_rfl) Tryd.underlying46) (Rg.ac (sc 0 37 (fun _ => #[A (vals .u32 16 p0), Nv .i64 0, Nv .i64 4, Nv .i64 8, Nv .i64 12]) (fun _ => A (vals .u32 16 (qr p0 0 4 8 12))) (fun _ => rquarter_c p0 g0 0 4 8 12 (by decide) (by decide) (by decide) (by decide) (by decide) (by decide))) (Rg.ac (sr 1 4 (fun _ => vals .u32 16 (qr p0 0 4 8 12)) (fun _ => fit_w16 _)) Rg.an))) ?_
              intro ν w7 hO
              replace hO : Own w w7 [(n3, vals .u8 32 key, 23), (n5, vals .u8 12 nonce, 24), (n6, vals .u8 64 (fun _ => 0), 39), (n7, vals .u32 16 f0, 46), (n10, vals .u32 16 (qr p0 0 4 8 12), 46)] := hO
              simp only [Rg.putL, Act.put, List.setIfInBounds_toArray, List.set_cons_succ, List.set_cons_zero]
              clear ν
              obtain ⟨p1, hp1⟩ : ∃ x, Hid (x = qr p0 0 4 8 12) := ⟨_, hide rfl⟩
              have g1 : W32 p1 := hp1.out ▸ qr_lt g0 _ _ _ _
              rw [← hp1.out] at hO
              go_upto_region 16 with (fail)
              refine Rg.ps [1, 2] (fun _ => [(52, A (vals .u32 16 p1)), (53, A (vals .u32 16 (qr p1 1 5 9 13)))]) (OI w (fun s ν => [[(n3, vals .u8 32 key, 23), (n5, vals .u8 12 nonce, 24), (n6, vals .u8 64 (fun _ => 0), 39), (n7, vals .u32 16 f0, 46), (n10, vals .u32 16 p1, 46)], [(n3, vals .u8 32 key, 23), (n5, vals .u8 12 nonce, 24), (n6, vals .u8 64 (fun _ => 0), 39), (n7, vals .u32 16 f0, 46), (n10, vals .u32 16 p1, 46)], [(n3, vals .u8 32 key, 23), (n5, vals .u8 12 nonce, 24), (n6, vals .u8 64 (fun _ => 0), 39), (n7, vals .u32 16 f0, 46), (n10, vals .u32 16 (qr p1 1 5 9 13), 46)]].getD s [])) (fun _ => 0) hO (Rg.ac (nld 0 0 4 (at1 0 fun _ => by kernel_rfl) Tryd.underlying46) (Rg.ac (sc 0 37 (fun _ => #[A (vals .u32 16 p1), Nv .i64 1, Nv .i64 5, Nv .i64 9, Nv .i64 13]) (fun _ => A (vals .u32 16 (qr p1 1 5 9 13))) (fun _ => rquarter_c p1 g1 1 5 9 13 (by decide) (by decide) (by decide) (by decide) (by decide) (by decide))) (Rg.ac (sr 1 4 (fun _ => vals .u32 16 (qr p1 1 5 9 13)) (fun _ => fit_w16 _)) Rg.an))) ?_
              intro ν w8 hO
              replace hO : Own w w8 [(n3, vals .u8 32 key, 23), (n5, vals .u8 12 nonce, 24), (n6, vals .u8 64 (fun _ => 0), 39), (n7, vals .u32 16 f0, 46), (n10, vals .u32 16 (qr p1 1 5 9 13), 46)] := hO
              simp only [Rg.putL, Act.put, List.setIfInBounds_toArray, List.set_cons_succ, List.set_cons_zero]
              clear ν
              obtain ⟨p2, hp2⟩ : ∃ x, Hid (x = qr p1 1 5 9 13) := ⟨_, hide rfl⟩
              have g2 : W32 p2 := hp2.out ▸ qr_lt g1 _ _ _ _
              rw [← hp2.out] at hO
              go_upto_region 17 with (fail)
              refine Rg.ps [1, 2] (fun _ => [(54, A (vals .u32 16 p2)), (55, A (vals .u32 16 (qr p2 2 6 10 14)))]) (OI w (fun s ν => [[(n3, vals .u8 32 key, 23), (n5, vals .u8 12 nonce, 24), (n6, vals .u8 64 (fun _ => 0), 39), (n7, vals .u32 16 f0, 46), (n10, vals .u32 16 p2, 46)], [(n3, vals .u8 32 key, 23), (n5, vals .u8 12 nonce, 24), (n6, vals .u8 64 (fun _ => 0), 39), (n7, vals .u32 16 f0, 46), (n10, vals .u32 16 p2, 46)], [(n3, vals .u8 32 key, 23), (n5, vals .u8 12 nonce, 24), (n6, vals .u8 64 (fun _ => 0), 39), (n7, vals .u32 16 f0, 46), (n10, vals .u32 16 (qr p2 2 6 10 14), 46)]].getD s [])) (fun _ => 0) hO (Rg.ac (nld 0 0 4 (at1 0 fun _ => by kernel_rfl) Tryd.underlying46) (Rg.ac (sc 0 37 (fun _ => #[A (vals .u32 16 p2), Nv .i64 2, Nv .i64 6, Nv .i64 10, Nv .i64 14]) (fun _ => A (vals .u32 16 (qr p2 2 6 10 14))) (fun _ => rquarter_c p2 g2 2 6 10 14 (by decide) (by decide) (by decide) (by decide) (by decide) (by decide))) (Rg.ac (sr 1 4 (fun _ => vals .u32 16 (qr p2 2 6 10 14)) (fun _ => fit_w16 _)) Rg.an))) ?_
              intro ν w9 hO
              replace hO : Own w w9 [(n3, vals .u8 32 key, 23), (n5, vals .u8 12 nonce, 24), (n6, vals .u8 64 (fun _ => 0), 39), (n7, vals .u32 16 f0, 46), (n10, vals .u32 16 (qr p2 2 6 10 14), 46)] := hO
              simp only [Rg.putL, Act.put, List.setIfInBounds_toArray, List.set_cons_succ, List.set_cons_zero]
              clear ν
              obtain ⟨p3, hp3⟩ : ∃ x, Hid (x = qr p2 2 6 10 14) := ⟨_, hide rfl⟩
              have g3 : W32 p3 := hp3.out ▸ qr_lt g2 _ _ _ _
              rw [← hp3.out] at hO
              go_upto_region 18 with (fail)
              refine Rg.ps [1, 2] (fun _ => [(56, A (vals .u32 16 p3)), (57, A (vals .u32 16 (qr p3 3 7 11 15)))]) (OI w (fun s ν => [[(n3, vals .u8 32 key, 23), (n5, vals .u8 12 nonce, 24), (n6, vals .u8 64 (fun _ => 0), 39), (n7, vals .u32 16 f0, 46), (n10, vals .u32 16 p3, 46)], [(n3, vals .u8 32 key, 23), (n5, vals .u8 12 nonce, 24), (n6, vals .u8 64 (fun _ => 0), 39), (n7, vals .u32 16 f0, 46), (n10, vals .u32 16 p3, 46)], [(n3, vals .u8 32 key, 23), (n5, vals .u8 12 nonce, 24), (n6, vals .u8 64 (fun _ => 0), 39), (n7, vals .u32 16 f0, 46), (n10, vals .u32 16 (qr p3 3 7 11 15), 46)]].getD s [])) (fun _ => 0) hO (Rg.ac (nld 0 0 4 (at1 0 fun _ => by kernel_rfl) Tryd.underlying46) (Rg.ac (sc 0 37 (fun _ => #[A (vals .u32 16 p3), Nv .i64 3, Nv .i64 7, Nv .i64 11, Nv .i64 15]) (fun _ => A (vals .u32 16 (qr p3 3 7 11 15))) (fun _ => rquarter_c p3 g3 3 7 11 15 (by decide) (by decide) (by decide) (by decide) (by decide) (by decide))) (Rg.ac (sr 1 4 (fun _ => vals .u32 16 (qr p3 3 7 11 15)) (fun _ => fit_w16 _)) Rg.an))) ?_
              intro ν w10 hO
              replace hO : Own w w10 [(n3, vals .u8 32 key, 23), (n5, vals .u8 12 nonce, 24), (n6, vals .u8 64 (fun _ => 0), 39), (n7, vals .u32 16 f0, 46), (n10, vals .u32 16 (qr p3 3 7 11 15), 46)] := hO
              simp only [Rg.putL, Act.put, List.setIfInBounds_toArray, List.set_cons_succ, List.set_cons_zero]
              clear ν
              obtain ⟨p4, hp4⟩ : ∃ x, Hid (x = qr p3 3 7 11 15) := ⟨_, hide rfl⟩
              have g4 : W32 p4 := hp4.out ▸ qr_lt g3 _ _ _ _
              rw [← hp4.out] at hO
              go_upto_region 19 with (fail)
              refine Rg.ps [1, 2] (fun _ => [(58, A (vals .u32 16 p4)), (59, A (vals .u32 16 (qr p4 0 5 10 15)))]) (OI w (fun s ν => [[(n3, vals .u8 32 key, 23), (n5, vals .u8 12 nonce, 24), (n6, vals .u8 64 (fun _ => 0), 39), (n7, vals .u32 16 f0, 46), (n10, vals .u32 16 p4, 46)], [(n3, vals .u8 32 key, 23), (n5, vals .u8 12 nonce, 24), (n6, vals .u8 64 (fun _ => 0), 39), (n7, vals .u32 16 f0, 46), (n10, vals .u32 16 p4, 46)], [(n3, vals .u8 32 key, 23), (n5, vals .u8 12 nonce, 24), (n6, vals .u8 64 (fun _ => 0), 39), (n7, vals .u32 16 f0, 46), (n10, vals .u32 16 (qr p4 0 5 10 15), 46)]].getD s [])) (fun _ => 0) hO (Rg.ac (nld 0 0 4 (at1 0 fun _ => by kernel_rfl) Tryd.underlying46) (Rg.ac (sc 0 37 (fun _ => #[A (vals .u32 16 p4), Nv .i64 0, Nv .i64 5, Nv .i64 10, Nv .i64 15]) (fun _ => A (vals .u32 16 (qr p4 0 5 10 15))) (fun _ => rquarter_c p4 g4 0 5 10 15 (by decide) (by decide) (by decide) (by decide) (by decide) (by decide))) (Rg.ac (sr 1 4 (fun _ => vals .u32 16 (qr p4 0 5 10 15)) (fun _ => fit_w16 _)) Rg.an))) ?_
              intro ν w11 hO
              replace hO : Own w w11 [(n3, vals .u8 32 key, 23), (n5, vals .u8 12 nonce, 24), (n6, vals .u8 64 (fun _ => 0), 39), (n7, vals .u32 16 f0, 46), (n10, vals .u32 16 (qr p4 0 5 10 15), 46)] := hO
              simp only [Rg.putL, Act.put, List.setIfInBounds_toArray, List.set_cons_succ, List.set_cons_zero]
              clear ν
              obtain ⟨p5, hp5⟩ : ∃ x, Hid (x = qr p4 0 5 10 15) := ⟨_, hide rfl⟩
              have g5 : W32 p5 := hp5.out ▸ qr_lt g4 _ _ _ _
              rw [← hp5.out] at hO
              go_upto_region 20 with (fail)
              refine Rg.ps [1, 2] (fun _ => [(60, A (vals .u32 16 p5)), (61, A (vals .u32 16 (qr p5 1 6 11 12)))]) (OI w (fun s ν => [[(n3, vals .u8 32 key, 23), (n5, vals .u8 12 nonce, 24), (n6, vals .u8 64 (fun _ => 0), 39), (n7, vals .u32 16 f0, 46), (n10, vals .u32 16 p5, 46)], [(n3, vals .u8 32 key, 23), (n5, vals .u8 12 nonce, 24), (n6, vals .u8 64 (fun _ => 0), 39), (n7, vals .u32 16 f0, 46), (n10, vals .u32 16 p5, 46)], [(n3, vals .u8 32 key, 23), (n5, vals .u8 12 nonce, 24), (n6, vals .u8 64 (fun _ => 0), 39), (n7, vals .u32 16 f0, 46), (n10, vals .u32 16 (qr p5 1 6 11 12), 46)]].getD s [])) (fun _ => 0) hO (Rg.ac (nld 0 0 4 (at1 0 fun _ => by kernel_rfl) Tryd.underlying46) (Rg.ac (sc 0 37 (fun _ => #[A (vals .u32 16 p5), Nv .i64 1, Nv .i64 6, Nv .i64 11, Nv .i64 12]) (fun _ => A (vals .u32 16 (qr p5 1 6 11 12))) (fun _ => rquarter_c p5 g5 1 6 11 12 (by decide) (by decide) (by decide) (by decide) (by decide) (by decide))) (Rg.ac (sr 1 4 (fun _ => vals .u32 16 (qr p5 1 6 11 12)) (fun _ => fit_w16 _)) Rg.an))) ?_
              intro ν w12 hO
              replace hO : Own w w12 [(n3, vals .u8 32 key, 23), (n5, vals .u8 12 nonce, 24), (n6, vals .u8 64 (fun _ => 0), 39), (n7, vals .u32 16 f0, 46), (n10, vals .u32 16 (qr p5 1 6 11 12), 46)] := hO
              simp only [Rg.putL, Act.put, List.setIfInBounds_toArray, List.set_cons_succ, List.set_cons_zero]
              clear ν
              obtain ⟨p6, hp6⟩ : ∃ x, Hid (x = qr p5 1 6 11 12) := ⟨_, hide rfl⟩
              have g6 : W32 p6 := hp6.out ▸ qr_lt g5 _ _ _ _
              rw [← hp6.out] at hO
              go_upto_region 21 with (fail)
              refine Rg.ps [1, 2] (fun _ => [(62, A (vals .u32 16 p6)), (63, A (vals .u32 16 (qr p6 2 7 8 13)))]) (OI w (fun s ν => [[(n3, vals .u8 32 key, 23), (n5, vals .u8 12 nonce, 24), (n6, vals .u8 64 (fun _ => 0), 39), (n7, vals .u32 16 f0, 46), (n10, vals .u32 16 p6, 46)], [(n3, vals .u8 32 key, 23), (n5, vals .u8 12 nonce, 24), (n6, vals .u8 64 (fun _ => 0), 39), (n7, vals .u32 16 f0, 46), (n10, vals .u32 16 p6, 46)], [(n3, vals .u8 32 key, 23), (n5, vals .u8 12 nonce, 24), (n6, vals .u8 64 (fun _ => 0), 39), (n7, vals .u32 16 f0, 46), (n10, vals .u32 16 (qr p6 2 7 8 13), 46)]].getD s [])) (fun _ => 0) hO (Rg.ac (nld 0 0 4 (at1 0 fun _ => by kernel_rfl) Tryd.underlying46) (Rg.ac (sc 0 37 (fun _ => #[A (vals .u32 16 p6), Nv .i64 2, Nv .i64 7, Nv .i64 8, Nv .i64 13]) (fun _ => A (vals .u32 16 (qr p6 2 7 8 13))) (fun _ => rquarter_c p6 g6 2 7 8 13 (by decide) (by decide) (by decide) (by decide) (by decide) (by decide))) (Rg.ac (sr 1 4 (fun _ => vals .u32 16 (qr p6 2 7 8 13)) (fun _ => fit_w16 _)) Rg.an))) ?_
              intro ν w13 hO
              replace hO : Own w w13 [(n3, vals .u8 32 key, 23), (n5, vals .u8 12 nonce, 24), (n6, vals .u8 64 (fun _ => 0), 39), (n7, vals .u32 16 f0, 46), (n10, vals .u32 16 (qr p6 2 7 8 13), 46)] := hO
              simp only [Rg.putL, Act.put, List.setIfInBounds_toArray, List.set_cons_succ, List.set_cons_zero]
              clear ν
              obtain ⟨p7, hp7⟩ : ∃ x, Hid (x = qr p6 2 7 8 13) := ⟨_, hide rfl⟩
              have g7 : W32 p7 := hp7.out ▸ qr_lt g6 _ _ _ _
              rw [← hp7.out] at hO
              go_upto_region 22 with (fail)
              refine Rg.ps [1, 2] (fun _ => [(64, A (vals .u32 16 p7)), (65, A (vals .u32 16 (qr p7 3 4 9 14)))]) (OI w (fun s ν => [[(n3, vals .u8 32 key, 23), (n5, vals .u8 12 nonce, 24), (n6, vals .u8 64 (fun _ => 0), 39), (n7, vals .u32 16 f0, 46), (n10, vals .u32 16 p7, 46)], [(n3, vals .u8 32 key, 23), (n5, vals .u8 12 nonce, 24), (n6, vals .u8 64 (fun _ => 0), 39), (n7, vals .u32 16 f0, 46), (n10, vals .u32 16 p7, 46)], [(n3, vals .u8 32 key, 23), (n5, vals .u8 12 nonce, 24), (n6, vals .u8 64 (fun _ => 0), 39), (n7, vals .u32 16 f0, 46), (n10, vals .u32 16 (qr p7 3 4 9 14), 46)]].getD s [])) (fun _ => 0) hO (Rg.ac (nld 0 0 4 (at1 0 fun _ => by kernel_rfl) Tryd.underlying46) (Rg.ac (sc 0 37 (fun _ => #[A (vals .u32 16 p7), Nv .i64 3, Nv .i64 4, Nv .i64 9, Nv .i64 14]) (fun _ => A (vals .u32 16 (qr p7 3 4 9 14))) (fun _ => rquarter_c p7 g7 3 4 9 14 (by decide) (by decide) (by decide) (by decide) (by decide) (by decide))) (Rg.ac (sr 1 4 (fun _ => vals .u32 16 (qr p7 3 4 9 14)) (fun _ => fit_w16 _)) Rg.an))) ?_
              intro ν w14 hO
              replace hO : Own w w14 [(n3, vals .u8 32 key, 23), (n5, vals .u8 12 nonce, 24), (n6, vals .u8 64 (fun _ => 0), 39), (n7, vals .u32 16 f0, 46), (n10, vals .u32 16 (qr p7 3 4 9 14), 46)] := hO
              simp only [Rg.putL, Act.put, List.setIfInBounds_toArray, List.set_cons_succ, List.set_cons_zero]
              clear ν
              obtain ⟨p8, hp8⟩ : ∃ x, Hid (x = qr p7 3 4 9 14) := ⟨_, hide rfl⟩
              have g8 : W32 p8 := hp8.out ▸ qr_lt g7 _ _ _ _
              rw [← hp8.out] at hO
              have hfin : p8 = rn f0 (k + 1) := by rw [hp8.out, hp7.out, hp6.out, hp5.out, hp4.out, hp3.out, hp2.out, hp1.out, pq8, hp0.out]; rfl
              rw [hfin] at hO
              have HO2 : Hid (Own w w14 [(n3, vals .u8 32 key, 23), (n5, vals .u8 12 nonce, 24), (n6, vals .u8 64 (fun _ => 0), 39), (n7, vals .u32 16 f0, 46), (n10, vals .u32 16 (rn f0 (k + 1)), 46)]) := hide hO
              clear hO
              go_wp2_with (fail)
              go_roundw
              case rel => exact ⟨k + 1, hlt, in_succ k, HO2.out⟩
              case measure => exact ms_lt hlt
            · have ek : k = 10 := by omega
              subst ek
              clear hlt hk9
              obtain ⟨f1, hf1⟩ : ∃ f1, Hid (f1 = rn f0 10) := ⟨_, hide rfl⟩
              rw [← hf1.out] at hO
              go_upto_region 23 with (fail)
              refine Rg.ps [1, 2] (fun ν => [(66, A (vals .u8 64 (fun _ => 0))), (12, D (ν 1))]) (OI w (fun s ν => [[(n3, vals .u8 32 key, 23), (n5, vals .u8 12 nonce, 24), (n6, vals .u8 64 (fun _ => 0), 39), (n7, vals .u32 16 f0, 46), (n10, vals .u32 16 f1, 46)], [(n3, vals .u8 32 key, 23), (n5, vals .u8 12 nonce, 24), (n6, vals .u8 64 (fun _ => 0), 39), (n7, vals .u32 16 f0, 46), (n10, vals .u32 16 f1, 46), ((ν 1), vals .u8 64 (fun _ => 0), 39)], [(n3, vals .u8 32 key, 23), (n5, vals .u8 12 nonce, 24), (n6, vals .u8 64 (fun _ => 0), 39), (n7, vals .u32 16 f0, 46), (n10, vals .u32 16 f1, 46), ((ν 1), vals .u8 64 (fun _ => 0), 39)]].getD s [])) (fun _ => 0) hO (Rg.ac (nx (fun _ => A (vals .u8 64 (fun _ => 0))) (fun _ w => run_bd 39 _ rfl [] (by kernel_rfl) _ bd_30 w)) (Rg.ac (sn 0 (fun _ => vals .u8 64 (fun _ => 0)) 39 (fun _ w => al30 rfl w) (fun _ => fit_b64 _)) (Rg.ac (sr 1 5 (fun _ => vals .u8 64 (fun _ => 0)) (fun _ => fit_b64 _)) Rg.an))) ?_
              intro ν w15 hO
              replace hO : Own w w15 [(n3, vals .u8 32 key, 23), (n5, vals .u8 12 nonce, 24), (n6, vals .u8 64 (fun _ => 0), 39), (n7, vals .u32 16 f0, 46), (n10, vals .u32 16 f1, 46), ((ν 1), vals .u8 64 (fun _ => 0), 39)] := hO
              simp only [Rg.putL, Act.put, List.setIfInBounds_toArray, List.set_cons_succ, List.set_cons_zero]
              generalize ν 1 = n12 at hO ⊢
              clear ν
              obtain ⟨bl, hbl⟩ : ∃ bl, Hid (bl = bk key cnt nonce) := ⟨_, hide rfl⟩
              have hbe : ∀ k, ad (f1 (k / 4)) (f0 (k / 4)) / 2 ^ (8 * (k % 4)) % 256 = bl k := fun k => by rw [hbl.out, hf1.out, hf0.out]; rfl
              have HO : Hid (Own w w15 [(n3, vals .u8 32 key, 23), (n5, vals .u8 12 nonce, 24), (n6, vals .u8 64 (fun _ => 0), 39), (n7, vals .u32 16 f0, 46), (n10, vals .u32 16 f1, 46), (n12, vals .u8 64 (mx bl 0), 39)]) := hide (by rw [mx_zero]; exact hO)
              clear hO
              go_wp2_with (fail)
              go_loopw [13] (fun i wr => ∃ k : Nat, k ≤ 64 ∧ i = .int .i64 k ∧ Own w wr [(n3, vals .u8 32 key, 23), (n5, vals .u8 12 nonce, 24), (n6, vals .u8 64 (fun _ => 0), 39), (n7, vals .u32 16 f0, 46), (n10, vals .u32 16 f1, 46), (n12, vals .u8 64 (mx bl k), 39)]) (fun i _ => 64 - (intOf i).toNat)
              case atStart => exact ⟨0, by omega, rfl, HO.out⟩
              case round =>
                clear HO
                obtain ⟨k, hk9, rfl, hO⟩ := hrel
                by_cases hlt : k < 64
                · have hq0 : (0 : Int) ≤ (k : Int) := by omega
                  have hq1 : (k : Int) < 64 := by omega
                  have hw1 := wr1 k (by omega)
                  have hw0 := wr0 k (by omega)
                  have hk1000 : k < 1000 := by omega
                  have hk4 : k / 4 < 16 := by omega
                  have hkm : k % 4 < 1000 := by omega
                  have hk8 : 8 * (k % 4) < 1000 := by omega
                  have hk32 : 8 * (k % 4) < 32 := by omega
                  go_upto_region 27 with (fail)
                  refine Rg.pd [17] (fun _ => [(71, Nv .i64 k), (72, Nv .i64 k), (73, Nv .i64 (k / 4)), (74, E n10 (k / 4)), (75, Nv .u32 (f1 (k / 4))), (76, Nv .i64 k), (77, Nv .i64 (k / 4)), (78, E n7 (k / 4)), (79, Nv .u32 (f0 (k / 4))), (80, Nv .u32 (ad (f1 (k / 4)) (f0 (k / 4)))), (81, Nv .i64 k), (82, Nv .i64 (k % 4)), (83, Nv .i64 (8 * (k % 4))), (84, Nv .u64 (8 * (k % 4))), (85, Nv .u32 (ad (f1 (k / 4)) (f0 (k / 4)) / 2 ^ (8 * (k % 4)))), (86, Nv .u8 (ad (f1 (k / 4)) (f0 (k / 4)) / 2 ^ (8 * (k % 4)) % 256)), (87, E n12 k)]) (OI w (fun s ν => [[(n3, vals .u8 32 key, 23), (n5, vals .u8 12 nonce, 24), (n6, vals .u8 64 (fun _ => 0), 39), (n7, vals .u32 16 f0, 46), (n10, vals .u32 16 f1, 46), (n12, vals .u8 64 (mx bl k), 39)], [(n3, vals .u8 32 key, 23), (n5, vals .u8 12 nonce, 24), (n6, vals .u8 64 (fun _ => 0), 39), (n7, vals .u32 16 f0, 46), (n10, vals .u32 16 f1, 46), (n12, vals .u8 64 (mx bl (k + 1)), 39)]].getD s [])) (fun _ => 0) hO.drew (Rg.ac nv (Rg.ac nv (Rg.ac (nx (fun _ => Nv .i64 (k / 4)) (fun _ w => b_quo4 hk1000 w)) (Rg.ac (nx (fun _ => E n10 (k / 4)) (fun _ w => b_ia16 hk4 w)) (Rg.ac (nc 0 0 4 (fun _ => (k / 4)) (fun _ => Nv .u32 (f1 (k / 4))) agg_u32 (fun _ => vals_get _ _ _ _ hk4) (at1 0 fun _ => by kernel_rfl)) (Rg.ac nv (Rg.ac (nx (fun _ => Nv .i64 (k / 4)) (fun _ w => b_quo4 hk1000 w)) (Rg.ac (nx (fun _ => E n7 (k / 4)) (fun _ w => b_ia16 hk4 w)) (Rg.ac (nc 0 0 3 (fun _ => (k / 4)) (fun _ => Nv .u32 (f0 (k / 4))) agg_u32 (fun _ => vals_get _ _ _ _ hk4) (at1 0 fun _ => by kernel_rfl)) (Rg.ac (nx (fun _ => Nv .u32 (ad (f1 (k / 4)) (f0 (k / 4)))) (fun _ w => b_add32 w)) (Rg.ac nv (Rg.ac (nx (fun _ => Nv .i64 (k % 4)) (fun _ w => b_rem4 w)) (Rg.ac (nx (fun _ => Nv .i64 (8 * (k % 4))) (fun _ w => b_m8 hkm w)) (Rg.ac (nx (fun _ => Nv .u64 (8 * (k % 4))) (fun _ w => b_cu hk8 w)) (Rg.ac (nx (fun _ => Nv .u32 (ad (f1 (k / 4)) (f0 (k / 4)) / 2 ^ (8 * (k % 4)))) (fun _ w => b_shr hk32 w)) (Rg.ac (nx (fun _ => Nv .u8 (ad (f1 (k / 4)) (f0 (k / 4)) / 2 ^ (8 * (k % 4)) % 256)) (fun _ w => b_c248 w)) (Rg.ac (nx (fun _ => E n12 k) (fun _ w => b_ia64 hlt w)) (Rg.ac (sl 0 5 (fun _ => k) (fun _ => Nv .u8 (mx bl k k)) (fun _ => ((ad (f1 (k / 4)) (f0 (k / 4)) / 2 ^ (8 * (k % 4)) % 256 : Nat) : Int)) sz_u8 (fun _ => vals_get _ _ _ _ hlt) (fun _ => mx_set _ _ _ _ (hbe k)) (fun _ => fit_b64 _)) Rg.an)))))))))))))))))) ?_
                  intro ν w16 hO
                  replace hO : Own w w16 [(n3, vals .u8 32 key, 23), (n5, vals .u8 12 nonce, 24), (n6, vals .u8 64 (fun _ => 0), 39), (n7, vals .u32 16 f0, 46), (n10, vals .u32 16 f1, 46), (n12, vals .u8 64 (mx bl (k + 1)), 39)] := hO
                  simp only [Rg.putL, Act.put, List.setIfInBounds_toArray, List.set_cons_succ, List.set_cons_zero]
                  clear ν
                  have HO2 : Hid (Own w w16 [(n3, vals .u8 32 key, 23), (n5, vals .u8 12 nonce, 24), (n6, vals .u8 64 (fun _ => 0), 39), (n7, vals .u32 16 f0, 46), (n10, vals .u32 16 f1, 46), (n12, vals .u8 64 (mx bl (k + 1)), 39)]) := hide hO
                  clear hO
                  go_wp2_with (fail)
                  go_roundw
                  case rel => exact ⟨k + 1, hlt, in_succ k, HO2.out⟩
                  case measure => exact ms_lt hlt
                · have ek : k = 64 := by omega
                  subst ek
                  clear hlt hk9
                  have e64 : vals .u8 64 (mx bl 64) = vals .u8 64 bl := vals_congr _ _ _ _ fun j hj => by unfold mx; rw [if_pos hj]
                  rw [e64] at hO
                  go_upto_region 28 with (fail)
                  refine Rg.ps [1] (fun _ => [(88, A (vals .u8 64 bl))]) (OI w (fun s ν => [[(n3, vals .u8 32 key, 23), (n5, vals .u8 12 nonce, 24), (n6, vals .u8 64 (fun _ => 0), 39), (n7, vals .u32 16 f0, 46), (n10, vals .u32 16 f1, 46), (n12, vals .u8 64 bl, 39)], [(n3, vals .u8 32 key, 23), (n5, vals .u8 12 nonce, 24), (n6, vals .u8 64 bl, 39), (n7, vals .u32 16 f0, 46), (n10, vals .u32 16 f1, 46), (n12, vals .u8 64 bl, 39)]].getD s [])) (fun _ => 0) hO (Rg.ac (nld 0 0 5 (at1 0 fun _ => by kernel_rfl) Tryd.underlying39) (Rg.ac (sr 0 2 (fun _ => vals .u8 64 bl) (fun _ => fit_b64 _)) Rg.an)) ?_
                  intro ν w17 hO
                  replace hO : Own w w17 [(n3, vals .u8 32 key, 23), (n5, vals .u8 12 nonce, 24), (n6, vals .u8 64 bl, 39), (n7, vals .u32 16 f0, 46), (n10, vals .u32 16 f1, 46), (n12, vals .u8 64 bl, 39)] := hO
                  simp only [Rg.putL, Act.put, List.setIfInBounds_toArray, List.set_cons_succ, List.set_cons_zero]
                  clear ν
                  rw [hbl.out] at hO
                  go_wp2_with (fail)
                  refine bodyPost_ret (v := A (vals .u8 64 (bk key cnt nonce))) (results_cell_row Tryd.results22 _ _ n6 39 _ (0, 0) _ rfl (hO.row 2 rfl) Tryd.underlying39 rfl ((fit_b64 _).size rfl)) rfl ⟨rfl, hO.low⟩
end Go.Proofs.YtanahjoiilfcbaaDoor.C

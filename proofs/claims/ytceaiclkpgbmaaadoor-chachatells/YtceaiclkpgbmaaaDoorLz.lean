/- Walks: ChachaZeros. The variable places as it is laid. -/
import Derived.Test.YtceaiclkpgbmaaaDoorSm
namespace Go.Proofs.YtceaiclkpgbmaaaDoor
set_option maxRecDepth 100000
open Go.RowKit Rg

theorem b_ne3 {ρ : Operand → Value} {o : Oper} {x y : Operand} {k : Nat} (w : World) (ho : o.op = .binOp .neq 3 x y 3 := by rfl) (hx : ρ x = Nv .i64 k := by kernel_rfl) (hy : ρ y = Nv .i64 k := by kernel_rfl) : (execOp ρ o).run Tryd.prog w = .ok (.value (.bool false)) w := by
  unfold execOp
  simp only [ho, hx, hy]
  go_simp
theorem sx_zero (key nonce : Nat → Nat) (cnt k j : Nat) (hj : j < 64) : sx key cnt nonce (fun _ => 0) (64 * k + j) = bk key (ad cnt k) nonce (0 + j) := by
  unfold sx ad
  rw [show (64 * k + j) / 64 = k by omega, show (64 * k + j) % 64 = j by omega, Nat.zero_xor, Nat.zero_add]
theorem ms_lt {k n : Nat} (h : k < n) : n - (intOf (.int .i64 ((k : Int) + 1))).toNat < n - (intOf (.int .i64 (k : Int))).toNat := by simp [intOf]; omega
theorem in_succ (k : Nat) : Value.int .i64 ((k : Int) + 1) = .int .i64 ((k + 1 : Nat) : Int) := by simp
theorem tm10 (m : Nat) : (m : Int).tmod 10 = ((m % 10 : Nat) : Int) := by rw [Int.tmod_eq_emod_of_nonneg (by omega)]; omega
theorem wi8 (m : Nat) (h : m < 256) : IntKind.i64.wrap (m : Int) = (m : Int) := by unfold IntKind.wrap; simp [IntKind.bits, IntKind.signed]; omega
set_option maxHeartbeats 8000000 in
theorem zeros_walk (key nonce : Nat → Nat) (hk : ∀ i, key i < 256) (hn : ∀ i, nonce i < 256) (cnt : Nat) (hc : cnt < 4294967296) (m : Nat) (hm : m < 256) (w : World) (hG : Gl w 0 (vals .i64 32 pl)) : Ret 7 #[A (vals .u8 32 key), Nv .u32 cnt, A (vals .u8 12 nonce), Nv .u8 m] w (.bool true) := by
  have hG2 := hG
  have Hc := hide hc
  have Hm := hide hm
  clear hG hc hm
  go_enter Tryd.func7, Tryd.ntmps7
  have hO := Own.start w
  go_upto_region 0 with (fail)
  refine Rg.ps [0, 1] (fun ν => [(4, D (ν 0)), (6, D (ν 1)), (8, .bool false)]) (OI w (fun s ν => [[], [((ν 0), vals .u8 32 key, 23)], [((ν 0), vals .u8 32 key, 23), ((ν 1), vals .u8 12 nonce, 25)]].getD s [])) (fun _ => 0) hO (Rg.ac (sn 0 (fun _ => vals .u8 32 key) 23 (fun _ w => run_box 23 _ rfl _ (by kernel_rfl) w) (fun _ => fit_b32 _)) (Rg.ac (sn 1 (fun _ => vals .u8 12 nonce) 25 (fun _ w => run_box 25 _ rfl _ (by kernel_rfl) w) (fun _ => fit_b12 _)) (Rg.ac nv Rg.an))) ?_
  intro ν w1 hO
  replace hO : Own w w1 [((ν 0), vals .u8 32 key, 23), ((ν 1), vals .u8 12 nonce, 25)] := hO
  simp only [Rg.putL, Act.put, List.setIfInBounds_toArray, List.set_cons_succ, List.set_cons_zero]
  generalize ν 0 = n4 at hO ⊢
  generalize ν 1 = n6 at hO ⊢
  clear ν
  go_upto_region 1 with (fail)
  refine Rg.ps [0] (fun _ => [(15, .bool true), (9, .bool true)]) (OI w (fun s ν => [[(n4, vals .u8 32 key, 23), (n6, vals .u8 12 nonce, 25)], [(n4, vals .u8 32 key, 23), (n6, vals .u8 12 nonce, 25)]].getD s [])) (fun _ => 0) hO (Rg.ac (sq 0 8 (fun _ => #[]) (fun _ => .bool true) (fun ν w hO => awake_c w (hG2.low hO.low))) (Rg.ac nv Rg.an)) ?_
  intro ν w2 hO
  replace hO : Own w w2 [(n4, vals .u8 32 key, 23), (n6, vals .u8 12 nonce, 25)] := hO
  simp only [Rg.putL, Act.put, List.setIfInBounds_toArray, List.set_cons_succ, List.set_cons_zero]
  clear ν
  by_cases hq : cnt < 2147483648
  · have h1 : ¬ 2147483648 ≤ (cnt : Int) := by omega
    obtain ⟨n, hnm⟩ : ∃ n, n = m % 10 := ⟨_, rfl⟩
    have h2 : (m : Int).tmod 10 = (n : Int) := by rw [hnm]; exact tm10 m
    have h3 := wi8 m Hm.out
    have hn10 : n < 10 := by rw [hnm]; exact Nat.mod_lt _ (by omega)
    clear hnm
    have hn9 : n < 1000 := by omega
    have hs1 : 64 * n ≤ 2 ^ 40 := by omega
    have hs2 : 64 * n ≤ 2000 := by omega
    have hs3 : cnt + (64 * n + 63) / 64 ≤ 4294967296 := by omega
    have Hn10 := hide hn10
    obtain ⟨Z, hZ⟩ : ∃ Z, Hid (Z = sx key cnt nonce (fun _ => 0)) := ⟨_, hide rfl⟩
    have hst : ∀ (w' : World) (L' : List Row) (q j : Nat), Own w w' L' → L'[j]? = some (q, vals .u8 (64 * n) (fun _ => 0), 5) → RetN 9 #[A (vals .u8 32 key), Nv .u32 cnt, A (vals .u8 12 nonce), .slice (some ⟨q, 0, none⟩) (64 * n) (64 * n)] w' (fun q => .tuple #[.slice (some ⟨q, 0, none⟩) (64 * n) (64 * n), .int .i64 0]) (vals .u8 (64 * n) Z) 5 := fun w' L' q j hO hj => hZ.out ▸ st64 w' key nonce hk hn cnt (64 * n) q j Hc.out hs2 hs3 hG2 hO hj
    go_upto_region 5 with (fail)
    clear h1 h2 h3
    refine Rg.pd [5, 6] (fun ν => [(23, A (vals .u8 32 key)), (24, Nv .u32 cnt), (25, A (vals .u8 12 nonce)), (26, Nv .i64 n), (27, Nv .i64 (64 * n)), (28, .slice (some ⟨(ν 5), 0, none⟩) (64 * n) (64 * n)), (29, .tuple #[.slice (some ⟨(ν 6), 0, none⟩) (64 * n) (64 * n), .int .i64 0]), (22, .tuple #[.slice (some ⟨(ν 6), 0, none⟩) (64 * n) (64 * n), .int .i64 0]), (30, .slice (some ⟨(ν 6), 0, none⟩) (64 * n) (64 * n)), (31, .int .i64 0), (11, .slice (some ⟨(ν 6), 0, none⟩) (64 * n) (64 * n)), (12, .int .i64 0)]) (OI w (fun s ν => [[(n4, vals .u8 32 key, 23), (n6, vals .u8 12 nonce, 25)], [(n4, vals .u8 32 key, 23), (n6, vals .u8 12 nonce, 25), ((ν 5), vals .u8 (64 * n) (fun _ => 0), 5)], [(n4, vals .u8 32 key, 23), (n6, vals .u8 12 nonce, 25), ((ν 5), vals .u8 (64 * n) (fun _ => 0), 5), ((ν 6), vals .u8 (64 * n) Z, 5)]].getD s [])) (fun _ => 0) hO.drew (Rg.ac (nld 0 1 0 (at2 0 1 (fun _ => by kernel_rfl) (at1 1 fun _ => by kernel_rfl)) Tryd.underlying23) (Rg.ac nv (Rg.ac (nld 0 1 1 (at2 0 1 (fun _ => by kernel_rfl) (at1 1 fun _ => by kernel_rfl)) Tryd.underlying25) (Rg.ac nv (Rg.ac (nx (fun _ => Nv .i64 (64 * n)) (fun _ w => b_m64 hn9 w)) (Rg.ac (sv 0 (fun _ q => .slice (some ⟨q, 0, none⟩) (64 * n) (64 * n)) (fun _ => vals .u8 (64 * n) (fun _ => 0)) 5 (fun _ w => b_mk hs1 w) (fun _ => fit_sl _ _)) (Rg.ac (sf 1 9 (fun ν => #[A (vals .u8 32 key), Nv .u32 cnt, A (vals .u8 12 nonce), .slice (some ⟨(ν 5), 0, none⟩) (64 * n) (64 * n)]) (fun ν q => .tuple #[.slice (some ⟨q, 0, none⟩) (64 * n) (64 * n), .int .i64 0]) (fun _ => vals .u8 (64 * n) Z) 5 (fun ν w hO => hst w _ (ν 5) 2 hO (by kernel_rfl)) (fun _ => fit_sl _ _)) (Rg.ac nv (Rg.ac nv (Rg.ac nv (Rg.ac nv (Rg.ac nv Rg.an)))))))))))) ?_
    intro ν w3 hO
    replace hO : Own w w3 [(n4, vals .u8 32 key, 23), (n6, vals .u8 12 nonce, 25), ((ν 5), vals .u8 (64 * n) (fun _ => 0), 5), ((ν 6), vals .u8 (64 * n) Z, 5)] := hO
    simp only [Rg.putL, Act.put, List.setIfInBounds_toArray, List.set_cons_succ, List.set_cons_zero]
    generalize ν 5 = n28 at hO ⊢
    generalize ν 6 = n29 at hO ⊢
    clear ν
    go_upto_region 6 with (fail)
    refine Rg.ps [] (fun _ => [(32, .int .i64 0), (33, .bool false), (34, .bool false), (35, .slice (some ⟨n29, 0, none⟩) (64 * n) (64 * n)), (36, Nv .i64 (64 * n)), (37, Nv .i64 n), (38, Nv .i64 (64 * n)), (39, .bool false), (40, .bool false)]) (OI w (fun _ _ => [(n4, vals .u8 32 key, 23), (n6, vals .u8 12 nonce, 25), (n28, vals .u8 (64 * n) (fun _ => 0), 5), (n29, vals .u8 (64 * n) Z, 5)])) (fun _ => 0) hO (Rg.ac nv (Rg.ac nv (Rg.ac nv (Rg.ac nv (Rg.ac nv (Rg.ac nv (Rg.ac (nx (fun _ => Nv .i64 (64 * n)) (fun _ w => b_m64 hn9 w)) (Rg.ac (nx (fun _ => .bool false) (fun _ w => b_ne3 (k := 64 * n) w)) (Rg.ac nv Rg.an))))))))) ?_
    intro ν w4 hO
    replace hO : Own w w4 [(n4, vals .u8 32 key, 23), (n6, vals .u8 12 nonce, 25), (n28, vals .u8 (64 * n) (fun _ => 0), 5), (n29, vals .u8 (64 * n) Z, 5)] := hO
    simp only [Rg.putL, Act.put, List.setIfInBounds_toArray, List.set_cons_succ, List.set_cons_zero]
    clear ν
    have HO := hide hO
    clear hO hs1 hs2 hs3 hn10 hn9
    go_wp2_with (fail)
    go_loopw [13] (fun i wr => ∃ k : Nat, k ≤ n ∧ i = .int .i64 k ∧ Own w wr [(n4, vals .u8 32 key, 23), (n6, vals .u8 12 nonce, 25), (n28, vals .u8 (64 * n) (fun _ => 0), 5), (n29, vals .u8 (64 * n) Z, 5)]) (fun i _ => n - (intOf i).toNat)
    case atStart => exact ⟨0, by omega, rfl, HO.out⟩
    case round =>
      obtain ⟨k, hkn, rfl, hO⟩ := hrel
      have hn10 := Hn10.out
      by_cases hlt : k < n
      · have hq0 : (0 : Int) ≤ (k : Int) := by omega
        have hq1 : (k : Int) < (n : Int) := by omega
        have hk9 : k < 1000 := by omega
        have hk32 : k < 4294967296 := by omega
        have hk64 : 64 * k < 100000 := by omega
        have hkl : 64 * k + 64 ≤ 64 * n := by omega
        have hw1 := wr1 k hk32
        have hw0 := wr0 k hk32
        clear hn10
        obtain ⟨B, hB⟩ : ∃ B, Hid (B = bk key (ad cnt k) nonce) := ⟨_, hide rfl⟩
        have hbl : ∀ w' L', Own w w' L' → Ret 11 #[A (vals .u8 32 key), Nv .u32 (ad cnt k), A (vals .u8 12 nonce)] w' (A (vals .u8 64 B)) := fun w' L' hO => hB.out ▸ block_c key nonce hk hn (ad cnt k) (ad_lt _ _) w' (hG2.low hO.low)
        have hBl : ∀ i, B i < 256 := hB.out ▸ blk_lt _
        have hZl : ∀ i, Z i < 256 := hZ.out ▸ sx_lt fun _ => Nat.zero_lt_succ _
        have heq : ∀ j, j < 64 → Z (64 * k + j) = B (0 + j) := fun j hj => by rw [hZ.out, hB.out]; exact sx_zero key nonce cnt k j hj
        go_upto_region 11 with (fail)
        refine Rg.ps [6, 7, 8] (fun ν => [(46, A (vals .u8 32 key)), (47, Nv .u32 cnt), (48, Nv .i64 k), (49, Nv .u32 k), (50, Nv .u32 (ad cnt k)), (51, A (vals .u8 12 nonce)), (52, A (vals .u8 64 B)), (14, D (ν 7))]) (OI w (fun s ν => [[(n4, vals .u8 32 key, 23), (n6, vals .u8 12 nonce, 25), (n28, vals .u8 (64 * n) (fun _ => 0), 5), (n29, vals .u8 (64 * n) Z, 5)], [(n4, vals .u8 32 key, 23), (n6, vals .u8 12 nonce, 25), (n28, vals .u8 (64 * n) (fun _ => 0), 5), (n29, vals .u8 (64 * n) Z, 5)], [(n4, vals .u8 32 key, 23), (n6, vals .u8 12 nonce, 25), (n28, vals .u8 (64 * n) (fun _ => 0), 5), (n29, vals .u8 (64 * n) Z, 5), ((ν 7), vals .u8 64 (fun _ => 0), 30)], [(n4, vals .u8 32 key, 23), (n6, vals .u8 12 nonce, 25), (n28, vals .u8 (64 * n) (fun _ => 0), 5), (n29, vals .u8 (64 * n) Z, 5), ((ν 7), vals .u8 64 B, 30)]].getD s [])) (fun _ => 0) hO (Rg.ac (nld 0 0 0 (at1 0 fun _ => by kernel_rfl) Tryd.underlying23) (Rg.ac nv (Rg.ac nv (Rg.ac (nx (fun _ => Nv .u32 k) (fun _ w => b_c32 hk32 w)) (Rg.ac (nx (fun _ => Nv .u32 (ad cnt k)) (fun _ w => b_add32 w)) (Rg.ac (nld 0 0 1 (at1 0 fun _ => by kernel_rfl) Tryd.underlying25) (Rg.ac (sq 0 11 (fun _ => #[A (vals .u8 32 key), Nv .u32 (ad cnt k), A (vals .u8 12 nonce)]) (fun _ => A (vals .u8 64 B)) (fun ν w hO => hbl w _ hO)) (Rg.ac (sn 1 (fun _ => vals .u8 64 (fun _ => 0)) 30 (fun _ w => al30 rfl w) (fun _ => fit_b64 _)) (Rg.ac (sr 2 4 (fun _ => vals .u8 64 B) (fun _ => fit_b64 _)) Rg.an))))))))) ?_
        intro ν w5 hO
        replace hO : Own w w5 [(n4, vals .u8 32 key, 23), (n6, vals .u8 12 nonce, 25), (n28, vals .u8 (64 * n) (fun _ => 0), 5), (n29, vals .u8 (64 * n) Z, 5), ((ν 7), vals .u8 64 B, 30)] := hO
        simp only [Rg.putL, Act.put, List.setIfInBounds_toArray, List.set_cons_succ, List.set_cons_zero]
        generalize ν 7 = n14 at hO ⊢
        clear ν
        go_upto_region 12 with (fail)
        refine Rg.pd [] (fun _ => [(53, .slice (some ⟨n29, 0, none⟩) (64 * n) (64 * n)), (54, Nv .i64 k), (55, Nv .i64 (64 * k)), (56, Nv .i64 k), (57, Nv .i64 (64 * k)), (58, Nv .i64 (64 * k + 64)), (59, .slice (some ⟨n29, 64 * k, none⟩) 64 (64 * n - 64 * k)), (60, .string (sk (li 64 fun j => Z (64 * k + j)))), (61, .slice (some ⟨n14, 0, none⟩) 64 64), (62, .string (sk (li 64 fun j => B (0 + j)))), (63, .bool false)]) (OI w (fun _ _ => [(n4, vals .u8 32 key, 23), (n6, vals .u8 12 nonce, 25), (n28, vals .u8 (64 * n) (fun _ => 0), 5), (n29, vals .u8 (64 * n) Z, 5), (n14, vals .u8 64 B, 30)])) (fun _ => 0) hO.drew (Rg.ac nv (Rg.ac nv (Rg.ac (nx (fun _ => Nv .i64 (64 * k)) (fun _ w => b_m64 hk9 w)) (Rg.ac nv (Rg.ac (nx (fun _ => Nv .i64 (64 * k)) (fun _ w => b_m64 hk9 w)) (Rg.ac (nx (fun _ => Nv .i64 (64 * k + 64)) (fun _ w => b_p64 hk64 w)) (Rg.ac (nx (fun _ => .slice (some ⟨n29, 64 * k, none⟩) 64 (64 * n - 64 * k)) (fun _ w => b_slm hkl (Nat.le_refl _) (by decide) w)) (Rg.ac (nst 0 0 3 (fun _ => n29) (64 * k) 64 (64 * n - 64 * k) (64 * n) Z hZl hkl (at1 0 fun _ => by kernel_rfl)) (Rg.ac nv (Rg.ac (nst 0 0 4 (fun _ => n14) 0 64 64 64 B hBl (by decide) (at1 0 fun _ => by kernel_rfl)) (Rg.ac (nx (fun _ => .bool false) (fun _ w => b_sne (congrArg sk (li_congr _ _ _ heq)) w)) Rg.an))))))))))) ?_
        intro ν w6 hO
        replace hO : Own w w6 [(n4, vals .u8 32 key, 23), (n6, vals .u8 12 nonce, 25), (n28, vals .u8 (64 * n) (fun _ => 0), 5), (n29, vals .u8 (64 * n) Z, 5), (n14, vals .u8 64 B, 30)] := hO
        simp only [Rg.putL, Act.put, List.setIfInBounds_toArray, List.set_cons_succ, List.set_cons_zero]
        clear ν
        replace hO := hO.take 4
        have HO2 : Hid (Own w w6 [(n4, vals .u8 32 key, 23), (n6, vals .u8 12 nonce, 25), (n28, vals .u8 (64 * n) (fun _ => 0), 5), (n29, vals .u8 (64 * n) Z, 5)]) := hide hO
        clear hO
        go_wp2_with (fail)
        go_roundw
        case rel => exact ⟨k + 1, hlt, in_succ k, HO2.out⟩
        case measure => exact ms_lt hlt
      · have ek : k = n := Nat.le_antisymm hkn (Nat.not_lt.1 hlt)
        subst ek
        have HF := hide hO.low
        clear hO hn10
        go_wp2_with (fail)
        go_ret
        exact ⟨rfl, HF.out⟩
  · have h1 : 2147483648 ≤ (cnt : Int) := by omega
    have HF := hide hO.low
    clear hO
    go_wp2_with (fail)
    go_ret
    exact ⟨rfl, HF.out⟩
end Go.Proofs.YtceaiclkpgbmaaaDoor

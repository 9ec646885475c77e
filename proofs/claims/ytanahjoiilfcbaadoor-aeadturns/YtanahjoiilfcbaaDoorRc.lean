/- Walks: the reference's times. Bytes below 256; a product below 2^256. -/
import Derived.Test.YtanahjoiilfcbaaDoorRb
namespace Go.Proofs.YtanahjoiilfcbaaDoor
set_option maxRecDepth 100000
open Go.RowKit Rg

theorem nb_bump (e : Nat → Nat) (p v : Nat) : ∀ n, p < n → nb (fun i => if i = p then e p + v else e i) n = nb e n + v * 2 ^ (8 * p)
  | 0, h => absurd h (Nat.not_lt_zero p)
  | n + 1, h => by
    rw [nb, nb]
    by_cases hp : p = n
    · subst hp
      rw [if_pos rfl, nb_congr _ e p fun j hj => if_neg (by omega), Nat.add_mul]
      omega
    · rw [if_neg (fun e => hp e.symm), nb_bump e p v n (by omega)]
      omega
/-- Behind k rows and j products of the next one. -/
def Tin (a b e : Nat → Nat) (k j : Nat) : Prop := nb e 40 = nb a k * nb b 20 + a k * 2 ^ (8 * k) * nb b j ∧ ∀ i, e i ≤ 65025 * (20 * k + j)
theorem Tin.start (a b : Nat → Nat) : Tin a b (fun _ => 0) 0 0 := ⟨by rw [nb_zero _ 40 fun _ _ => rfl]; simp [nb], fun _ => Nat.zero_le _⟩
theorem Tin.step {a b e : Nat → Nat} {k j : Nat} (h : Tin a b e k j) (ha : ∀ i, a i < 256) (hb : ∀ i, b i < 256) (hk : k < 20) (hj : j < 20) : Tin a b (fun i => if i = k + j then e (k + j) + a k * b j else e i) k (j + 1) := by
  refine ⟨?_, fun i => ?_⟩
  · rw [nb_bump e (k + j) (a k * b j) 40 (by omega), h.1, show nb b (j + 1) = nb b j + b j * 2 ^ (8 * j) from rfl, Nat.mul_add 8, Nat.pow_add, Nat.mul_add (a k * 2 ^ (8 * k)), Nat.add_assoc]
    congr 2
    rw [Nat.mul_assoc, Nat.mul_assoc]
    congr 1
    rw [← Nat.mul_assoc, ← Nat.mul_assoc, Nat.mul_comm (b j)]
  · have h1 : a k * b j ≤ 255 * 255 := Nat.mul_le_mul (by have := ha k; omega) (by have := hb j; omega)
    have h2 := h.2 (k + j)
    have h3 := h.2 i
    show (if i = k + j then e (k + j) + a k * b j else e i) ≤ _
    split <;> omega
theorem Tin.row {a b e : Nat → Nat} {k : Nat} (h : Tin a b e k 20) : Tin a b e (k + 1) 0 := by
  refine ⟨?_, fun i => ?_⟩
  · rw [h.1, show nb a (k + 1) = nb a k + a k * 2 ^ (8 * k) from rfl, Nat.add_mul, show nb b 0 = 0 from rfl, Nat.mul_zero, Nat.add_zero]
  · have := h.2 i
    omega
theorem Tin.done {a b e : Nat → Nat} (h : Tin a b e 20 0) : nb e 40 = nb a 20 * nb b 20 ∧ ∀ i, e i ≤ 255 * 2 ^ 30 := by
  refine ⟨by rw [h.1, show nb b 0 = 0 from rfl, Nat.mul_zero, Nat.add_zero], fun i => ?_⟩
  have := h.2 i
  omega
set_option maxHeartbeats 4000000 in
theorem rtimes_c (a b : Nat → Nat) (ha : ∀ i, a i < 256) (hb : ∀ i, b i < 256) (Z : Nat) (hZ : nb a 20 * nb b 20 % pP = Z) (h6 : nb a 20 * nb b 20 < 2 ^ 256) (w : World) : Ret 38 #[A (vals .i64 40 a), A (vals .i64 40 b)] w (A (vals .i64 40 (byt Z))) := by
  have HC : Hid (∀ (e : Nat → Nat) (w1 : World), Tin a b e 20 0 → Ret 39 #[A (vals .i64 40 e)] w1 (A (vals .i64 40 (byt Z)))) := hide fun e w1 h => by
    have := modulo_c e h.done.2 _ h.done.1 h6 w1
    rw [hZ] at this
    exact this
  clear hZ h6
  go_enter Tryd.func38, Tryd.ntmps38
  have hO := Own.start w
  go_upto_region 0 with (fail)
  refine Rg.ps [0, 1, 2] (fun ν => [(2, D (ν 0)), (3, D (ν 1)), (4, D (ν 2))]) (OI w (fun s ν => [[], [((ν 0), vals .i64 40 a, 67)], [((ν 0), vals .i64 40 a, 67), ((ν 1), vals .i64 40 b, 67)], [((ν 0), vals .i64 40 a, 67), ((ν 1), vals .i64 40 b, 67), ((ν 2), vals .i64 40 (fun _ => 0), 67)]].getD s [])) (fun _ => 0) hO (Rg.ac (sn 0 (fun _ => vals .i64 40 a) 67 (fun _ w => run_box 67 _ rfl _ (by kernel_rfl) w) (fun _ => fit_n40 _)) (Rg.ac (sn 1 (fun _ => vals .i64 40 b) 67 (fun _ w => run_box 67 _ rfl _ (by kernel_rfl) w) (fun _ => fit_n40 _)) (Rg.ac (sn 2 (fun _ => vals .i64 40 (fun _ => 0)) 67 (fun _ w => al_n40 rfl w) (fun _ => fit_n40 _)) Rg.an))) ?_
  intro ν w1 hO
  replace hO : Own w w1 [((ν 0), vals .i64 40 a, 67), ((ν 1), vals .i64 40 b, 67), ((ν 2), vals .i64 40 (fun _ => 0), 67)] := hO
  simp only [Rg.putL, Act.put, List.setIfInBounds_toArray, List.set_cons_succ, List.set_cons_zero]
  generalize ν 0 = n2 at hO ⊢
  generalize ν 1 = n3 at hO ⊢
  generalize ν 2 = n4 at hO ⊢
  clear ν
  go_upto_region 1 with (fail)
  refine Rg.ps [1, 2] (fun ν => [(8, A (vals .i64 40 (fun _ => 0))), (5, D (ν 1))]) (OI w (fun s ν => [[(n2, vals .i64 40 a, 67), (n3, vals .i64 40 b, 67), (n4, vals .i64 40 (fun _ => 0), 67)], [(n2, vals .i64 40 a, 67), (n3, vals .i64 40 b, 67), (n4, vals .i64 40 (fun _ => 0), 67), ((ν 1), vals .i64 40 (fun _ => 0), 67)], [(n2, vals .i64 40 a, 67), (n3, vals .i64 40 b, 67), (n4, vals .i64 40 (fun _ => 0), 67), ((ν 1), vals .i64 40 (fun _ => 0), 67)]].getD s [])) (fun _ => 0) hO (Rg.ac (nx (fun _ => A (vals .i64 40 (fun _ => 0))) (fun _ w => run_bd 67 _ rfl [] (by kernel_rfl) _ bd_n40 w)) (Rg.ac (sn 0 (fun _ => vals .i64 40 (fun _ => 0)) 67 (fun _ w => al_n40 rfl w) (fun _ => fit_n40 _)) (Rg.ac (sr 1 3 (fun _ => vals .i64 40 (fun _ => 0)) (fun _ => fit_n40 _)) Rg.an))) ?_
  intro ν w2 hO
  replace hO : Own w w2 [(n2, vals .i64 40 a, 67), (n3, vals .i64 40 b, 67), (n4, vals .i64 40 (fun _ => 0), 67), ((ν 1), vals .i64 40 (fun _ => 0), 67)] := hO
  simp only [Rg.putL, Act.put, List.setIfInBounds_toArray, List.set_cons_succ, List.set_cons_zero]
  generalize ν 1 = n5 at hO ⊢
  clear ν
  have HO := hide hO
  clear hO
  go_wp2_with (fail)
  go_loopw [6] (fun x6 wr => ∃ (k : Nat) (e : Nat → Nat), k ≤ 20 ∧ x6 = .int .i64 k ∧ Tin a b e k 0 ∧ Own w wr [(n2, vals .i64 40 a, 67), (n3, vals .i64 40 b, 67), (n4, vals .i64 40 (fun _ => 0), 67), (n5, vals .i64 40 e, 67)]) (fun x6 _ => 20 - (intOf x6).toNat)
  case atStart => exact ⟨0, fun _ => 0, Nat.zero_le _, rfl, Tin.start a b, HO.out⟩
  case round =>
    clear HO
    obtain ⟨k, e, hk9, rfl, hT, hO⟩ := hrel
    have HT := hide hT
    clear hT
    by_cases hlt : k < 20
    · have hq0 : (0 : Int) ≤ (k : Int) := Int.natCast_nonneg k
      have hq1 : (k : Int) < 20 := by omega
      have hw1 := wr1 k (by omega)
      have hw0 := wr0 k (by omega)
      have HO := hide hO
      clear hO
      go_wp2_with (fail)
      go_loopw [7] (fun x7 wr => ∃ (j : Nat) (e : Nat → Nat), j ≤ 20 ∧ x7 = .int .i64 j ∧ Tin a b e k j ∧ Own w wr [(n2, vals .i64 40 a, 67), (n3, vals .i64 40 b, 67), (n4, vals .i64 40 (fun _ => 0), 67), (n5, vals .i64 40 e, 67)]) (fun x7 _ => 20 - (intOf x7).toNat)
      case atStart => exact ⟨0, e, Nat.zero_le _, rfl, HT.out, HO.out⟩
      case round =>
        clear HO HT
        obtain ⟨j, e, hj9, rfl, hT, hO⟩ := hrel
        by_cases hltj : j < 20
        · have hp0 : (0 : Int) ≤ (j : Int) := Int.natCast_nonneg j
          have hp1 : (j : Int) < 20 := by omega
          have hv1 := wr1 j (by omega)
          have hv0 := wr0 j (by omega)
          have hk40 : k < 2 ^ 40 := by omega
          have hj40 : j < 2 ^ 40 := by omega
          have hkj : k + j < 40 := by omega
          have hkn : k < 40 := by omega
          have hjn : j < 40 := by omega
          have hak : a k < 2 ^ 31 := Nat.lt_trans (ha k) (by decide)
          have hbj : b j < 2 ^ 31 := Nat.lt_trans (hb j) (by decide)
          have hpr : a k * b j ≤ 255 * 255 := Nat.mul_le_mul (by have := ha k; omega) (by have := hb j; omega)
          have hel := hT.2 (k + j)
          have hp40 : a k * b j < 2 ^ 40 := by omega
          have he40 : e (k + j) < 2 ^ 40 := by omega
          have HT2 := hide (hT.step ha hb hlt hltj)
          obtain ⟨v, hv⟩ : ∃ v, Hid (e (k + j) + a k * b j = v) := ⟨_, hide rfl⟩
          rw [hv.out] at HT2
          obtain ⟨pr, hprv⟩ : ∃ pr, Hid (a k * b j = pr) := ⟨_, hide rfl⟩
          have hv2 : e (k + j) + pr = v := by rw [← hprv.out]; exact hv.out
          have hpr40 : pr < 2 ^ 40 := by rw [← hprv.out]; exact hp40
          have Hv2 := hide hv2
          clear hT hpr hel hp40 hv2
          go_upto_region 8 with (fail)
          refine Rg.pd [17] (fun _ => [(17, Nv .i64 k), (18, Nv .i64 j), (19, Nv .i64 (k + j)), (20, Nv .i64 k), (21, Nv .i64 j), (22, Nv .i64 (k + j)), (23, E n5 (k + j)), (24, Nv .i64 (e (k + j))), (25, Nv .i64 k), (26, E n2 k), (27, Nv .i64 (a k)), (28, Nv .i64 j), (29, E n3 j), (30, Nv .i64 (b j)), (31, Nv .i64 pr), (32, Nv .i64 v), (33, E n5 (k + j))]) (OI w (fun s ν => [[(n2, vals .i64 40 a, 67), (n3, vals .i64 40 b, 67), (n4, vals .i64 40 (fun _ => 0), 67), (n5, vals .i64 40 e, 67)], [(n2, vals .i64 40 a, 67), (n3, vals .i64 40 b, 67), (n4, vals .i64 40 (fun _ => 0), 67), (n5, vals .i64 40 (fun i => if i = k + j then v else e i), 67)]].getD s [])) (fun _ => 0) hO.drew (Rg.ac nv (Rg.ac nv (Rg.ac (nx (fun _ => Nv .i64 (k + j)) (fun _ w => b_add hk40 hj40 w)) (Rg.ac nv (Rg.ac nv (Rg.ac (nx (fun _ => Nv .i64 (k + j)) (fun _ w => b_add hk40 hj40 w)) (Rg.ac (nx (fun _ => E n5 (k + j)) (fun _ w => b_ia_n40 hkj w)) (Rg.ac (nc 0 0 3 (fun _ => (k + j)) (fun _ => Nv .i64 (e (k + j))) agg_int (fun _ => vals_get _ _ _ _ hkj) (at1 0 fun _ => by kernel_rfl)) (Rg.ac nv (Rg.ac (nx (fun _ => E n2 k) (fun _ w => b_ia_n40 hkn w)) (Rg.ac (nc 0 0 0 (fun _ => k) (fun _ => Nv .i64 (a k)) agg_int (fun _ => vals_get _ _ _ _ hkn) (at1 0 fun _ => by kernel_rfl)) (Rg.ac nv (Rg.ac (nx (fun _ => E n3 j) (fun _ w => b_ia_n40 hjn w)) (Rg.ac (nc 0 0 1 (fun _ => j) (fun _ => Nv .i64 (b j)) agg_int (fun _ => vals_get _ _ _ _ hjn) (at1 0 fun _ => by kernel_rfl)) (Rg.ac (nx (fun _ => Nv .i64 pr) (fun _ w => b_mulE hak hbj hprv.out w)) (Rg.ac (nx (fun _ => Nv .i64 v) (fun _ w => b_addE he40 hpr40 Hv2.out w)) (Rg.ac (nx (fun _ => E n5 (k + j)) (fun _ w => b_ia_n40 hkj w)) (Rg.ac (sl 0 3 (fun _ => (k + j)) (fun _ => Nv .i64 (e (k + j))) (fun _ => ((v : Nat) : Int)) sz_int (fun _ => vals_get _ _ _ _ hkj) (fun _ => vals_set _ _ _ _ _) (fun _ => fit_n40 _)) Rg.an)))))))))))))))))) ?_
          intro ν w3 hO
          replace hO : Own w w3 [(n2, vals .i64 40 a, 67), (n3, vals .i64 40 b, 67), (n4, vals .i64 40 (fun _ => 0), 67), (n5, vals .i64 40 (fun i => if i = k + j then v else e i), 67)] := hO
          simp only [Rg.putL, Act.put, List.setIfInBounds_toArray, List.set_cons_succ, List.set_cons_zero]
          clear ν
          have HO2 := hide hO
          clear hO
          go_wp2_with (fail)
          go_roundw
          case rel => exact ⟨j + 1, _, hltj, in_succ j, HT2.out, HO2.out⟩
          case measure => exact ms_lt hltj
        · have ej : j = 20 := by omega
          subst ej
          have HT2 := hide hT.row
          have HO2 := hide hO
          clear hT hO hltj hj9
          go_wp2_with (fail)
          go_roundw
          case rel => exact ⟨k + 1, e, hlt, in_succ k, HT2.out, HO2.out⟩
          case measure => exact ms_lt hlt
    · have ek : k = 20 := by omega
      subst ek
      clear hlt hk9
      go_upto_region 9 with (fail)
      refine Rg.ps [1, 2] (fun _ => [(34, A (vals .i64 40 e)), (35, A (vals .i64 40 (byt Z)))]) (OI w (fun s ν => [[(n2, vals .i64 40 a, 67), (n3, vals .i64 40 b, 67), (n4, vals .i64 40 (fun _ => 0), 67), (n5, vals .i64 40 e, 67)], [(n2, vals .i64 40 a, 67), (n3, vals .i64 40 b, 67), (n4, vals .i64 40 (fun _ => 0), 67), (n5, vals .i64 40 e, 67)], [(n2, vals .i64 40 a, 67), (n3, vals .i64 40 b, 67), (n4, vals .i64 40 (byt Z), 67), (n5, vals .i64 40 e, 67)]].getD s [])) (fun _ => 0) hO (Rg.ac (nld 0 0 3 (at1 0 fun _ => by kernel_rfl) Tryd.underlying67) (Rg.ac (sc 0 39 (fun _ => #[A (vals .i64 40 e)]) (fun _ => A (vals .i64 40 (byt Z))) (fun _ => fun w => HC.out e w HT.out)) (Rg.ac (sr 1 2 (fun _ => vals .i64 40 (byt Z)) (fun _ => fit_n40 _)) Rg.an))) ?_
      intro ν w4 hO
      replace hO : Own w w4 [(n2, vals .i64 40 a, 67), (n3, vals .i64 40 b, 67), (n4, vals .i64 40 (byt Z), 67), (n5, vals .i64 40 e, 67)] := hO
      simp only [Rg.putL, Act.put, List.setIfInBounds_toArray, List.set_cons_succ, List.set_cons_zero]
      clear ν
      go_wp2_with (fail)
      refine bodyPost_ret (v := A (vals .i64 40 (byt Z))) (results_cell_row Tryd.results38 _ _ n4 67 _ (0, 0) _ rfl (hO.row 2 rfl) Tryd.underlying67 rfl ((fit_n40 _).size rfl)) rfl ⟨rfl, hO.low⟩
end Go.Proofs.YtanahjoiilfcbaaDoor

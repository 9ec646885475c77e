/- Walks: the reference's carried. Digits below 2^38. -/
import Derived.Test.YtanahjoiilfcbaaDoorKg
import Derived.Test.YtanahjoiilfcbaaDoorKg
namespace Go.Proofs.YtanahjoiilfcbaaDoor
set_option maxRecDepth 100000
open Go.RowKit Rg
def dg1 (g : Nat → Nat) (n i : Nat) : Nat := if i < n then g i else if i = n then 1 else 0
theorem b_remE {ρ : Operand → Value} {o : Oper} {x y : Operand} {k d : Nat} (h : k % 256 = d) (w : World) (ho : o.op = .binOp .rem 3 x y 3 := by rfl) (hx : ρ x = Nv .i64 k := by kernel_rfl) (hy : ρ y = .int .i64 256 := by kernel_rfl) : (execOp ρ o).run Tryd.prog w = .ok (.value (Nv .i64 d)) w := by
  subst h; exact b_rem256 w ho hx hy
theorem b_quoE {ρ : Operand → Value} {o : Oper} {x y : Operand} {k d : Nat} (hk : k < 2 ^ 40) (h : k / 256 = d) (w : World) (ho : o.op = .binOp .quo 3 x y 3 := by rfl) (hx : ρ x = Nv .i64 k := by kernel_rfl) (hy : ρ y = .int .i64 256 := by kernel_rfl) : (execOp ρ o).run Tryd.prog w = .ok (.value (Nv .i64 d)) w := by
  subst h; exact b_quo256 hk w ho hx hy

theorem b_mulE {ρ : Operand → Value} {o : Oper} {x y : Operand} {k m d : Nat} (hk : k < 2 ^ 31) (hm : m < 2 ^ 31) (h : k * m = d) (w : World) (ho : o.op = .binOp .mul 3 x y 3 := by rfl) (hx : ρ x = Nv .i64 k := by kernel_rfl) (hy : ρ y = Nv .i64 m := by kernel_rfl) : (execOp ρ o).run Tryd.prog w = .ok (.value (Nv .i64 d)) w := by
  subst h; exact b_mul hk hm w ho hx hy
theorem byt_fun (d : Nat → Nat) : vals .i64 40 (fun i => (d i + cy d i) % 256) = vals .i64 40 (byt (nb d 40)) := vals_congr _ _ _ _ fun i hi => cy_dig' d i 40 hi
set_option maxHeartbeats 2000000 in
theorem carried_c (d : Nat → Nat) (hd : ∀ i, d i ≤ 255 * 2 ^ 30) (N : Nat) (hN : nb d 40 = N) (w : World) : Ret 40 #[A (vals .i64 40 d)] w (A (vals .i64 40 (byt N))) := by
  rw [← hN]
  have Hd := hide hd
  have Hcy : Hid (∀ i, cy d i ≤ 2 ^ 30) := hide (cy_le d _ hd)
  obtain ⟨f, hf⟩ : ∃ f, Hid ((fun i => (d i + cy d i) % 256) = f) := ⟨_, hide rfl⟩
  have Hf : Hid (vals .i64 40 f = vals .i64 40 (byt (nb d 40))) := hide (by rw [← hf.out]; exact byt_fun d)
  have Hs : Hid (∀ i, (d i + cy d i) % 256 = f i) := hide fun i => by rw [← hf.out]
  rw [← Hf.out]
  clear hd hf hN
  go_enter Tryd.func40, Tryd.ntmps40
  have hO := Own.start w
  go_upto_region 0 with (fail)
  refine Rg.ps [0, 1] (fun ν => [(1, D (ν 0)), (2, D (ν 1))]) (OI w (fun s ν => [[], [((ν 0), vals .i64 40 d, 67)], [((ν 0), vals .i64 40 d, 67), ((ν 1), vals .i64 40 (fun _ => 0), 67)]].getD s [])) (fun _ => 0) hO (Rg.ac (sn 0 (fun _ => vals .i64 40 d) 67 (fun _ w => run_box 67 _ rfl _ (by kernel_rfl) w) (fun _ => fit_n40 _)) (Rg.ac (sn 1 (fun _ => vals .i64 40 (fun _ => 0)) 67 (fun _ w => al_n40 rfl w) (fun _ => fit_n40 _)) Rg.an)) ?_
  intro ν w1 hO
  replace hO : Own w w1 [((ν 0), vals .i64 40 d, 67), ((ν 1), vals .i64 40 (fun _ => 0), 67)] := hO
  simp only [Rg.putL, Act.put, List.setIfInBounds_toArray, List.set_cons_succ, List.set_cons_zero]
  generalize ν 0 = n1 at hO ⊢
  generalize ν 1 = n2 at hO ⊢
  clear ν
  have HOi : Hid (Own w w1 [(n1, vals .i64 40 (sw f d 0), 67), (n2, vals .i64 40 (fun _ => 0), 67)]) := hide (by rw [sw_zero]; exact hO)
  clear hO
  go_wp2_with (fail)
  go_loopw [3, 4] (fun x3 x4 wri => ∃ i : Nat, i ≤ 40 ∧ x4 = .int .i64 i ∧ x3 = Nv .i64 (cy d i) ∧ Own w wri [(n1, vals .i64 40 (sw f d i), 67), (n2, vals .i64 40 (fun _ => 0), 67)]) (fun _ x4 _ => 40 - (intOf x4).toNat)
  case atStart => exact ⟨0, Nat.zero_le _, rfl, by rw [cy_zero]; rfl, HOi.out⟩
  case round =>
    clear HOi
    obtain ⟨i, hi9, rfl, rfl, hO⟩ := hrel
    by_cases hlti : i < 40
    · have hq0i : (0 : Int) ≤ (i : Int) := Int.natCast_nonneg i
      have hq1i : (i : Int) < 40 := by omega
      have hw1i := wr1 i (by omega)
      have hw0i := wr0 i (by omega)
      have hdl := Hd.out i
      have hcl := Hcy.out i
      have hb1 : d i < 2 ^ 40 := by omega
      have hb2 : cy d i < 2 ^ 40 := by omega
      obtain ⟨s1, hs1⟩ : ∃ s1, Hid (d i + cy d i = s1) := ⟨_, hide rfl⟩
      have hs40 : s1 < 2 ^ 40 := by rw [← hs1.out]; omega
      have Hs2 : Hid (s1 % 256 = f i) := hide (by rw [← hs1.out]; exact Hs.out i)
      have Hs3 : Hid (s1 / 256 = cy d (i + 1)) := hide (by rw [← hs1.out]; exact cy_step d i)
      clear hdl hcl
      go_upto_region 5 with (fail)
      refine Rg.ps [] (fun _ => [(10, Nv .i64 i), (11, E n1 i), (12, Nv .i64 (d i)), (13, Nv .i64 (cy d i)), (14, Nv .i64 s1), (5, Nv .i64 s1)]) (OI w (fun _ _ => [(n1, vals .i64 40 (sw f d i), 67), (n2, vals .i64 40 (fun _ => 0), 67)])) (fun _ => 0) hO (Rg.ac nv (Rg.ac (nx (fun _ => E n1 i) (fun _ w => b_ia_n40 hlti w)) (Rg.ac (nc 0 0 0 (fun _ => i) (fun _ => Nv .i64 (d i)) agg_int (fun _ => (vals_get _ _ _ _ hlti).trans (by rw [sw_here])) (at1 0 fun _ => by kernel_rfl)) (Rg.ac nv (Rg.ac (nx (fun _ => Nv .i64 s1) (fun _ w => b_addE hb1 hb2 hs1.out w)) (Rg.ac nv Rg.an)))))) ?_
      intro ν w2 hO
      replace hO : Own w w2 [(n1, vals .i64 40 (sw f d i), 67), (n2, vals .i64 40 (fun _ => 0), 67)] := hO
      simp only [Rg.putL, Act.put, List.setIfInBounds_toArray, List.set_cons_succ, List.set_cons_zero]
      clear ν
      go_upto_region 6 with (fail)
      refine Rg.ps [4] (fun _ => [(15, Nv .i64 i), (16, Nv .i64 s1), (17, Nv .i64 (f i)), (18, E n1 i)]) (OI w (fun s ν => [[(n1, vals .i64 40 (sw f d i), 67), (n2, vals .i64 40 (fun _ => 0), 67)], [(n1, vals .i64 40 (sw f d (i + 1)), 67), (n2, vals .i64 40 (fun _ => 0), 67)]].getD s [])) (fun _ => 0) hO (Rg.ac nv (Rg.ac nv (Rg.ac (nx (fun _ => Nv .i64 (f i)) (fun _ w => b_remE Hs2.out w)) (Rg.ac (nx (fun _ => E n1 i) (fun _ w => b_ia_n40 hlti w)) (Rg.ac (sl 0 0 (fun _ => i) (fun _ => Nv .i64 (d i)) (fun _ => ((f i : Nat) : Int)) sz_int (fun _ => (vals_get _ _ _ _ hlti).trans (by rw [sw_here])) (fun _ => sw_set _ _ _ _ _ _ rfl) (fun _ => fit_n40 _)) Rg.an))))) ?_
      intro ν w3 hO
      replace hO : Own w w3 [(n1, vals .i64 40 (sw f d (i + 1)), 67), (n2, vals .i64 40 (fun _ => 0), 67)] := hO
      simp only [Rg.putL, Act.put, List.setIfInBounds_toArray, List.set_cons_succ, List.set_cons_zero]
      clear ν
      go_upto_region 7 with (fail)
      refine Rg.ps [] (fun _ => [(19, Nv .i64 s1), (20, Nv .i64 (cy d (i + 1))), (3, Nv .i64 (cy d (i + 1)))]) (OI w (fun _ _ => [(n1, vals .i64 40 (sw f d (i + 1)), 67), (n2, vals .i64 40 (fun _ => 0), 67)])) (fun _ => 0) hO (Rg.ac nv (Rg.ac (nx (fun _ => Nv .i64 (cy d (i + 1))) (fun _ w => b_quoE hs40 Hs3.out w)) (Rg.ac nv Rg.an))) ?_
      intro ν w4 hO
      replace hO : Own w w4 [(n1, vals .i64 40 (sw f d (i + 1)), 67), (n2, vals .i64 40 (fun _ => 0), 67)] := hO
      simp only [Rg.putL, Act.put, List.setIfInBounds_toArray, List.set_cons_succ, List.set_cons_zero]
      clear ν
      have HO2i : Hid (Own w w4 [(n1, vals .i64 40 (sw f d (i + 1)), 67), (n2, vals .i64 40 (fun _ => 0), 67)]) := hide hO
      clear hO
      go_wp2_with (fail)
      go_roundw
      case rel => exact ⟨i + 1, hlti, in_succ i, rfl, HO2i.out⟩
      case measure => exact ms_lt hlti
    · have ei : i = 40 := by omega
      subst ei
      clear hlti hi9
      rw [sw_end] at hO
      go_upto_region 8 with (fail)
      refine Rg.ps [1] (fun _ => [(21, A (vals .i64 40 f))]) (OI w (fun s ν => [[(n1, vals .i64 40 f, 67), (n2, vals .i64 40 (fun _ => 0), 67)], [(n1, vals .i64 40 f, 67), (n2, vals .i64 40 f, 67)]].getD s [])) (fun _ => 0) hO (Rg.ac (nld 0 0 0 (at1 0 fun _ => by kernel_rfl) Tryd.underlying67) (Rg.ac (sr 0 1 (fun _ => vals .i64 40 f) (fun _ => fit_n40 _)) Rg.an)) ?_
      intro ν w5 hO
      replace hO : Own w w5 [(n1, vals .i64 40 f, 67), (n2, vals .i64 40 f, 67)] := hO
      simp only [Rg.putL, Act.put, List.setIfInBounds_toArray, List.set_cons_succ, List.set_cons_zero]
      clear ν
      go_wp2_with (fail)
      refine bodyPost_ret (v := A (vals .i64 40 f)) (results_cell_row Tryd.results40 _ _ n2 67 _ (0, 0) _ rfl (hO.row 1 rfl) Tryd.underlying67 rfl ((fit_n40 _).size rfl)) rfl ⟨rfl, hO.low⟩
end Go.Proofs.YtanahjoiilfcbaaDoor

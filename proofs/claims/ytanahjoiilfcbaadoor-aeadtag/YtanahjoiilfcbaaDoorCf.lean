/- Walks: Block. The variable places as it is laid; bytes below 256, a count below 2^32. -/
import Derived.Test.YtanahjoiilfcbaaDoorCe
namespace Go.Proofs.YtanahjoiilfcbaaDoor.C
set_option maxRecDepth 100000
open Go.RowKit Rg

theorem fit_p4 (f : Nat → Nat) : Fit 51 (vals .i64 4 f) := ⟨fun _ => by rw [vals_size]; kernel_rfl, vals_one _ _ _⟩
theorem al41 {a : Act} {o : Oper} (ho : o.op = .alloc 51) (w : World) : (execOp a.eval o).run Tryd.prog w = .ok (.value (D w.heap.size)) (w.alloc (.cells (vals .i64 4 fun _ => 0) 51)) := by unfold execOp; simp only [ho]; kernel_rfl
theorem pl_run (w : World) : ∀ k : Nat, k < 8 → (Instr.index 52 (A (vals .i64 32 pl)) (Nv .i64 k)).run Tryd.prog w = .ok (A (vals .i64 4 fun j => pl (4 * k + j))) w
  | 0, _ => by kernel_rfl
  | 1, _ => by kernel_rfl
  | 2, _ => by kernel_rfl
  | 3, _ => by kernel_rfl
  | 4, _ => by kernel_rfl
  | 5, _ => by kernel_rfl
  | 6, _ => by kernel_rfl
  | 7, _ => by kernel_rfl
  | n + 8, h => absurd h (by omega)
theorem b_pl {ρ : Operand → Value} {o : Oper} {x y : Operand} {k : Nat} (hk : k < 8) (w : World) (ho : o.op = .index 52 x y := by rfl) (hx : ρ x = A (vals .i64 32 pl) := by kernel_rfl) (hy : ρ y = Nv .i64 k := by kernel_rfl) : (execOp ρ o).run Tryd.prog w = .ok (.value (A (vals .i64 4 fun j => pl (4 * k + j)))) w := by
  unfold execOp
  simp only [ho, hx, hy, Sem.run_bind, pl_run w k hk, Result.andThen_ok, Sem.run_pure]
theorem ix_run {k : Nat} {f : Nat → Nat} (hk : k < 16) (w : World) : (Instr.index 46 (A (vals .u32 16 f)) (Nv .i64 k)).run Tryd.prog w = .ok (Nv .u32 (f k)) w := by
  have h1 : (0 : Int) ≤ (k : Int) ∧ (k : Int) < ((16 : Nat) : Int) := by omega
  have h3 := vals_get .u32 16 f k hk
  have h4 : Tryd.prog.underlying 46 = some (.array 16 31) := Tryd.underlying46
  generalize vals .u32 16 f = c at *
  unfold Instr.index
  simp only [A, Nv]
  go_simp
theorem b_ix {ρ : Operand → Value} {o : Oper} {x y : Operand} {k : Nat} {f : Nat → Nat} (hk : k < 16) (w : World) (ho : o.op = .index 46 x y := by rfl) (hx : ρ x = A (vals .u32 16 f) := by kernel_rfl) (hy : ρ y = Nv .i64 k := by kernel_rfl) : (execOp ρ o).run Tryd.prog w = .ok (.value (Nv .u32 (f k))) w := by
  unfold execOp
  simp only [ho, hx, hy, Sem.run_bind, ix_run hk w, Result.andThen_ok, Sem.run_pure]
theorem b_m4 {ρ : Operand → Value} {o : Oper} {x y : Operand} {k : Nat} (hk : k < 100) (w : World) (ho : o.op = .binOp .mul 3 x y 3 := by rfl) (hx : ρ x = Nv .i64 4 := by kernel_rfl) (hy : ρ y = Nv .i64 k := by kernel_rfl) : (execOp ρ o).run Tryd.prog w = .ok (.value (Nv .i64 (4 * k))) w := by
  have h1 : IntKind.i64.wrap (4 * (k : Int)) = 4 * (k : Int) := wrap_i64_small' _ (by omega) (by omega)
  unfold execOp
  simp only [ho, hx, hy]
  go_simp
theorem b_sl64 {ρ : Operand → Value} {o : Oper} {x y : Operand} {n k : Nat} (hk : k < 64) (w : World) (ho : o.op = .slice 39 x (some y) none none := by rfl) (hx : ρ x = D n := by kernel_rfl) (hy : ρ y = Nv .i64 k := by kernel_rfl) : (execOp ρ o).run Tryd.prog w = .ok (.value (.slice (some ⟨n, k, none⟩) (64 - k) (64 - k))) w := by
  have h1 : (0 : Int) ≤ (k : Int) := by omega
  have h2 : (k : Int) ≤ 64 := by omega
  have h3 : ¬ 64 = k := by omega
  unfold execOp
  simp only [ho, hx]
  go_simp
theorem plc_size : (Tryd.prog.info? 52).map (·.size) = some (vals .i64 32 pl).size := by kernel_rfl
/-- Bytes of k words laid. -/
def bw (g f : Nat → Nat) (k i : Nat) : Nat := if i < 4 * k then ad (g (i / 4)) (f (i / 4)) / 2 ^ (8 * (i % 4)) % 256 else 0
theorem bw_zero (g f : Nat → Nat) : vals .u8 64 (bw g f 0) = vals .u8 64 (fun _ => 0) := vals_congr _ _ _ _ fun j _ => by unfold bw; rw [if_neg (by omega)]
theorem bw_next (g f : Nat → Nat) (k i : Nat) : lay (bw g f k) (4 * k) (ad (g k) (f k)) 4 i = bw g f (k + 1) i := by
  unfold lay bw
  by_cases h1 : i < 4 * k
  · rw [if_neg (by omega), if_pos h1, if_pos (by omega)]
  · by_cases h2 : i < 4 * (k + 1)
    · have e1 : i / 4 = k := by omega
      have e2 : i % 4 = i - 4 * k := by omega
      rw [if_pos (by omega), if_pos h2, e1, e2]
    · rw [if_neg (by omega), if_neg h1, if_neg h2]
set_option maxHeartbeats 8000000 in
theorem block_c (key nonce : Nat → Nat) (hk : ∀ i, key i < 256) (hn : ∀ i, nonce i < 256) (cnt : Nat) (hc : cnt < 4294967296) (w : World) (hG : Gl w 0 (vals .i64 32 pl)) : Ret 19 #[A (vals .u8 32 key), Nv .u32 cnt, A (vals .u8 12 nonce)] w (A (vals .u8 64 (bk key cnt nonce))) := by
  obtain ⟨f0, hf0⟩ : ∃ f0, Hid (f0 = iw key cnt nonce) := ⟨_, hide rfl⟩
  have hw32 : W32 f0 := hf0.out ▸ iw_lt hk hn hc
  go_enter Tryd.func19, Tryd.ntmps19
  have hO := Own.start w
  go_upto_region 0 with (fail)
  refine Rg.ps [0, 1, 2] (fun ν => [(3, D (ν 0)), (5, D (ν 1)), (6, D (ν 2))]) (OI w (fun s ν => [[], [((ν 0), vals .u8 32 key, 23)], [((ν 0), vals .u8 32 key, 23), ((ν 1), vals .u8 12 nonce, 24)], [((ν 0), vals .u8 32 key, 23), ((ν 1), vals .u8 12 nonce, 24), ((ν 2), vals .u8 64 (fun _ => 0), 39)]].getD s [])) (fun _ => 0) hO (Rg.ac (sn 0 (fun _ => vals .u8 32 key) 23 (fun _ w => run_box 23 _ rfl _ (by kernel_rfl) w) (fun _ => fit_b32 _)) (Rg.ac (sn 1 (fun _ => vals .u8 12 nonce) 24 (fun _ w => run_box 24 _ rfl _ (by kernel_rfl) w) (fun _ => fit_b12 _)) (Rg.ac (sn 2 (fun _ => vals .u8 64 (fun _ => 0)) 39 (fun _ w => al30 rfl w) (fun _ => fit_b64 _)) Rg.an))) ?_
  intro ν w1 hO
  replace hO : Own w w1 [((ν 0), vals .u8 32 key, 23), ((ν 1), vals .u8 12 nonce, 24), ((ν 2), vals .u8 64 (fun _ => 0), 39)] := hO
  simp only [Rg.putL, Act.put, List.setIfInBounds_toArray, List.set_cons_succ, List.set_cons_zero]
  generalize ν 0 = n3 at hO ⊢
  generalize ν 1 = n5 at hO ⊢
  generalize ν 2 = n6 at hO ⊢
  clear ν
  go_upto_region 1 with (fail)
  refine Rg.ps [3, 4, 5] (fun ν => [(15, A (vals .u8 32 key)), (16, Nv .u32 cnt), (17, A (vals .u8 12 nonce)), (18, A (vals .u32 16 f0)), (7, D (ν 4))]) (OI w (fun s ν => [[(n3, vals .u8 32 key, 23), (n5, vals .u8 12 nonce, 24), (n6, vals .u8 64 (fun _ => 0), 39)], [(n3, vals .u8 32 key, 23), (n5, vals .u8 12 nonce, 24), (n6, vals .u8 64 (fun _ => 0), 39)], [(n3, vals .u8 32 key, 23), (n5, vals .u8 12 nonce, 24), (n6, vals .u8 64 (fun _ => 0), 39), ((ν 4), vals .u32 16 (fun _ => 0), 46)], [(n3, vals .u8 32 key, 23), (n5, vals .u8 12 nonce, 24), (n6, vals .u8 64 (fun _ => 0), 39), ((ν 4), vals .u32 16 f0, 46)]].getD s [])) (fun _ => 0) hO (Rg.ac (nld 0 0 0 (at1 0 fun _ => by kernel_rfl) Tryd.underlying23) (Rg.ac nv (Rg.ac (nld 0 0 1 (at1 0 fun _ => by kernel_rfl) Tryd.underlying24) (Rg.ac (sc 0 26 (fun _ => #[A (vals .u8 32 key), Nv .u32 cnt, A (vals .u8 12 nonce)]) (fun _ => A (vals .u32 16 f0)) (fun _ => hf0.out ▸ words_c key nonce hk hn cnt)) (Rg.ac (sn 1 (fun _ => vals .u32 16 (fun _ => 0)) 46 (fun _ w => al36 rfl w) (fun _ => fit_w16 _)) (Rg.ac (sr 2 3 (fun _ => vals .u32 16 f0) (fun _ => fit_w16 _)) Rg.an)))))) ?_
  intro ν w2 hO
  replace hO : Own w w2 [(n3, vals .u8 32 key, 23), (n5, vals .u8 12 nonce, 24), (n6, vals .u8 64 (fun _ => 0), 39), ((ν 4), vals .u32 16 f0, 46)] := hO
  simp only [Rg.putL, Act.put, List.setIfInBounds_toArray, List.set_cons_succ, List.set_cons_zero]
  generalize ν 4 = n7 at hO ⊢
  clear ν
  go_upto_region 2 with (fail)
  refine Rg.ps [1, 2] (fun ν => [(19, A (vals .u32 16 f0)), (8, D (ν 1))]) (OI w (fun s ν => [[(n3, vals .u8 32 key, 23), (n5, vals .u8 12 nonce, 24), (n6, vals .u8 64 (fun _ => 0), 39), (n7, vals .u32 16 f0, 46)], [(n3, vals .u8 32 key, 23), (n5, vals .u8 12 nonce, 24), (n6, vals .u8 64 (fun _ => 0), 39), (n7, vals .u32 16 f0, 46), ((ν 1), vals .u32 16 (fun _ => 0), 46)], [(n3, vals .u8 32 key, 23), (n5, vals .u8 12 nonce, 24), (n6, vals .u8 64 (fun _ => 0), 39), (n7, vals .u32 16 f0, 46), ((ν 1), vals .u32 16 f0, 46)]].getD s [])) (fun _ => 0) hO (Rg.ac (nld 0 0 3 (at1 0 fun _ => by kernel_rfl) Tryd.underlying46) (Rg.ac (sn 0 (fun _ => vals .u32 16 (fun _ => 0)) 46 (fun _ w => al36 rfl w) (fun _ => fit_w16 _)) (Rg.ac (sr 1 4 (fun _ => vals .u32 16 f0) (fun _ => fit_w16 _)) Rg.an))) ?_
  intro ν w3 hO
  replace hO : Own w w3 [(n3, vals .u8 32 key, 23), (n5, vals .u8 12 nonce, 24), (n6, vals .u8 64 (fun _ => 0), 39), (n7, vals .u32 16 f0, 46), ((ν 1), vals .u32 16 f0, 46)] := hO
  simp only [Rg.putL, Act.put, List.setIfInBounds_toArray, List.set_cons_succ, List.set_cons_zero]
  generalize ν 1 = n8 at hO ⊢
  clear ν
  go_upto_region 3 with (fail)
  refine Rg.ps [] (fun _ => [(20, .func (.func 27) #[] #[D n8]), (9, .func (.func 27) #[] #[D n8])]) (OI w (fun _ _ => [(n3, vals .u8 32 key, 23), (n5, vals .u8 12 nonce, 24), (n6, vals .u8 64 (fun _ => 0), 39), (n7, vals .u32 16 f0, 46), (n8, vals .u32 16 f0, 46)])) (fun _ => 0) hO (Rg.ac nv (Rg.ac nv Rg.an)) ?_
  intro ν w4 hO
  replace hO : Own w w4 [(n3, vals .u8 32 key, 23), (n5, vals .u8 12 nonce, 24), (n6, vals .u8 64 (fun _ => 0), 39), (n7, vals .u32 16 f0, 46), (n8, vals .u32 16 f0, 46)] := hO
  simp only [Rg.putL, Act.put, List.setIfInBounds_toArray, List.set_cons_succ, List.set_cons_zero]
  clear ν
  have HO := hide hO
  clear hO
  go_wp2_with (fail)
  go_loopw [21] (fun i wr => ∃ n : Nat, n ≤ 10 ∧ i = .int .i64 n ∧ Own w wr [(n3, vals .u8 32 key, 23), (n5, vals .u8 12 nonce, 24), (n6, vals .u8 64 (fun _ => 0), 39), (n7, vals .u32 16 f0, 46), (n8, vals .u32 16 (rn f0 n), 46)]) (fun i _ => 10 - (intOf i).toNat)
  case atStart => exact ⟨0, by omega, rfl, HO.out⟩
  case round =>
    obtain ⟨n, hn10, rfl, hO⟩ := hrel
    obtain ⟨f1, hf1⟩ : ∃ f1, Hid (f1 = rn f0 n) := ⟨_, hide rfl⟩
    have h132 : W32 f1 := hf1.out ▸ rn_lt hw32 n
    by_cases hlt : n < 10
    · rw [← hf1.out] at hO
      have hq0 : (0 : Int) ≤ (n : Int) := by omega
      have hq1 : (n : Int) < 10 := by omega
      go_upto_region 6 with (fail)
      refine Rg.ps [] (fun _ => [(23, A (vals .i64 32 pl)), (24, Nv .i64 0)]) (OI w (fun _ _ => [(n3, vals .u8 32 key, 23), (n5, vals .u8 12 nonce, 24), (n6, vals .u8 64 (fun _ => 0), 39), (n7, vals .u32 16 f0, 46), (n8, vals .u32 16 (f1), 46)])) (fun _ => 0) hO (Rg.ac (nfr 0 (vals .i64 32 pl) hG plc_size Tryd.underlying52) (Rg.ac nv Rg.an)) ?_
      intro ν w5 hO
      replace hO : Own w w5 [(n3, vals .u8 32 key, 23), (n5, vals .u8 12 nonce, 24), (n6, vals .u8 64 (fun _ => 0), 39), (n7, vals .u32 16 f0, 46), (n8, vals .u32 16 (f1), 46)] := hO
      simp only [Rg.putL, Act.put, List.setIfInBounds_toArray, List.set_cons_succ, List.set_cons_zero]
      clear ν
      have HO2 := hide hO
      clear hO
      go_wp2_with (fail)
      go_loopw [24] (fun i wr => ∃ k : Nat, k ≤ 8 ∧ i = .int .i64 k ∧ Own w wr [(n3, vals .u8 32 key, 23), (n5, vals .u8 12 nonce, 24), (n6, vals .u8 64 (fun _ => 0), 39), (n7, vals .u32 16 f0, 46), (n8, vals .u32 16 (pq f1 k), 46)]) (fun i _ => 8 - (intOf i).toNat)
      case atStart => exact ⟨0, by omega, rfl, HO2.out⟩
      case round =>
        obtain ⟨k, hk8, rfl, hO⟩ := hrel
        by_cases hlk : k < 8
        · have hr0 : (0 : Int) ≤ (k : Int) := by omega
          have hr1 : (k : Int) < 8 := by omega
          obtain ⟨f2, hf2⟩ : ∃ f2, Hid (f2 = pq f1 k) := ⟨_, hide rfl⟩
          have h232 : W32 f2 := hf2.out ▸ pq_lt h132 k
          rw [← hf2.out] at hO
          go_upto_region 8 with (fail)
          refine Rg.ps [1, 2] (fun ν => [(26, A (vals .i64 4 (fun j => pl (4 * k + j)))), (11, D (ν 1))]) (OI w (fun s ν => [[(n3, vals .u8 32 key, 23), (n5, vals .u8 12 nonce, 24), (n6, vals .u8 64 (fun _ => 0), 39), (n7, vals .u32 16 f0, 46), (n8, vals .u32 16 (f2), 46)], [(n3, vals .u8 32 key, 23), (n5, vals .u8 12 nonce, 24), (n6, vals .u8 64 (fun _ => 0), 39), (n7, vals .u32 16 f0, 46), (n8, vals .u32 16 (f2), 46), ((ν 1), vals .i64 4 (fun _ => 0), 51)], [(n3, vals .u8 32 key, 23), (n5, vals .u8 12 nonce, 24), (n6, vals .u8 64 (fun _ => 0), 39), (n7, vals .u32 16 f0, 46), (n8, vals .u32 16 (f2), 46), ((ν 1), vals .i64 4 (fun j => pl (4 * k + j)), 51)]].getD s [])) (fun _ => 0) hO (Rg.ac (nx (fun _ => A (vals .i64 4 (fun j => pl (4 * k + j)))) (fun _ w => b_pl hlk w)) (Rg.ac (sn 0 (fun _ => vals .i64 4 (fun _ => 0)) 51 (fun _ w => al41 rfl w) (fun _ => fit_p4 _)) (Rg.ac (sr 1 5 (fun _ => vals .i64 4 (fun j => pl (4 * k + j))) (fun _ => fit_p4 _)) Rg.an))) ?_
          intro ν w6 hO
          replace hO : Own w w6 [(n3, vals .u8 32 key, 23), (n5, vals .u8 12 nonce, 24), (n6, vals .u8 64 (fun _ => 0), 39), (n7, vals .u32 16 f0, 46), (n8, vals .u32 16 (f2), 46), ((ν 1), vals .i64 4 (fun j => pl (4 * k + j)), 51)] := hO
          simp only [Rg.putL, Act.put, List.setIfInBounds_toArray, List.set_cons_succ, List.set_cons_zero]
          generalize ν 1 = n11 at hO ⊢
          clear ν
          have HQ := quarter_any f2 h232 n8 (pl (4 * k + 0)) (pl (4 * k + 1)) (pl (4 * k + 2)) (pl (4 * k + 3)) (pl_lt _) (pl_lt _) (pl_lt _) (pl_lt _)
          go_upto_region 9 with (fail)
          refine Rg.ps [9] (fun _ => [(27, .func (.func 27) #[] #[D n8]), (28, D n11), (29, Nv .i64 (pl (4 * k + 0))), (30, E n11 1), (31, Nv .i64 (pl (4 * k + 1))), (32, E n11 2), (33, Nv .i64 (pl (4 * k + 2))), (34, E n11 3), (35, Nv .i64 (pl (4 * k + 3))), (36, .tuple #[])]) (OI w (fun s ν => [[(n3, vals .u8 32 key, 23), (n5, vals .u8 12 nonce, 24), (n6, vals .u8 64 (fun _ => 0), 39), (n7, vals .u32 16 f0, 46), (n8, vals .u32 16 (f2), 46), (n11, vals .i64 4 (fun j => pl (4 * k + j)), 51)], [(n3, vals .u8 32 key, 23), (n5, vals .u8 12 nonce, 24), (n6, vals .u8 64 (fun _ => 0), 39), (n7, vals .u32 16 f0, 46), (n8, vals .u32 16 (qr f2 (pl (4 * k + 0)) (pl (4 * k + 1)) (pl (4 * k + 2)) (pl (4 * k + 3))), 46), (n11, vals .i64 4 (fun j => pl (4 * k + j)), 51)]].getD s [])) (fun _ => 0) hO (Rg.ac nv (Rg.ac nv (Rg.ac (nc 0 0 5 (fun _ => 0) (fun _ => Nv .i64 (pl (4 * k + 0))) agg_int (fun _ => vals_get _ _ _ _ (by omega)) (at1 0 fun _ => by kernel_rfl)) (Rg.ac nv (Rg.ac (nc 0 0 5 (fun _ => 1) (fun _ => Nv .i64 (pl (4 * k + 1))) agg_int (fun _ => vals_get _ _ _ _ (by omega)) (at1 0 fun _ => by kernel_rfl)) (Rg.ac nv (Rg.ac (nc 0 0 5 (fun _ => 2) (fun _ => Nv .i64 (pl (4 * k + 2))) agg_int (fun _ => vals_get _ _ _ _ (by omega)) (at1 0 fun _ => by kernel_rfl)) (Rg.ac nv (Rg.ac (nc 0 0 5 (fun _ => 3) (fun _ => Nv .i64 (pl (4 * k + 3))) agg_int (fun _ => vals_get _ _ _ _ (by omega)) (at1 0 fun _ => by kernel_rfl)) (Rg.ac (sg 0 27 (fun _ => #[Nv .i64 (pl (4 * k + 0)), Nv .i64 (pl (4 * k + 1)), Nv .i64 (pl (4 * k + 2)), Nv .i64 (pl (4 * k + 3)), D n8]) (fun _ => .tuple #[]) (fun ν w hO => call1 HQ hO 4 (by kernel_rfl))) Rg.an)))))))))) ?_
          intro ν w7 hO
          replace hO : Own w w7 [(n3, vals .u8 32 key, 23), (n5, vals .u8 12 nonce, 24), (n6, vals .u8 64 (fun _ => 0), 39), (n7, vals .u32 16 f0, 46), (n8, vals .u32 16 (qr f2 (pl (4 * k + 0)) (pl (4 * k + 1)) (pl (4 * k + 2)) (pl (4 * k + 3))), 46), (n11, vals .i64 4 (fun j => pl (4 * k + j)), 51)] := hO
          simp only [Rg.putL, Act.put, List.setIfInBounds_toArray, List.set_cons_succ, List.set_cons_zero]
          clear ν
          replace hO := hO.take 5
          have HO3 : Hid (Own w w7 [(n3, vals .u8 32 key, 23), (n5, vals .u8 12 nonce, 24), (n6, vals .u8 64 (fun _ => 0), 39), (n7, vals .u32 16 f0, 46), (n8, vals .u32 16 (pq f1 (k + 1)), 46)]) := hide (by rw [hf2.out] at hO; exact hO)
          clear hO
          go_wp2_with (fail)
          go_roundw
          case rel => exact ⟨k + 1, by omega, by go_num, HO3.out⟩
          case measure => simp [intOf]; omega
        · have e8 : k = 8 := by omega
          subst e8
          have HO3 : Hid (Own w wr [(n3, vals .u8 32 key, 23), (n5, vals .u8 12 nonce, 24), (n6, vals .u8 64 (fun _ => 0), 39), (n7, vals .u32 16 f0, 46), (n8, vals .u32 16 (rn f0 (n + 1)), 46)]) := hide (by rw [hf1.out] at hO; exact hO)
          clear hO
          go_wp2_with (fail)
          go_roundw
          case rel => exact ⟨n + 1, by omega, by go_num, HO3.out⟩
          case measure => simp [intOf]; omega
    · have e10 : n = 10 := by omega
      subst e10
      rw [← hf1.out] at hO
      go_upto_region 12 with (fail)
      refine Rg.ps [0] (fun ν => [(12, D (ν 0))]) (OI w (fun s ν => [[(n3, vals .u8 32 key, 23), (n5, vals .u8 12 nonce, 24), (n6, vals .u8 64 (fun _ => 0), 39), (n7, vals .u32 16 f0, 46), (n8, vals .u32 16 (f1), 46)], [(n3, vals .u8 32 key, 23), (n5, vals .u8 12 nonce, 24), (n6, vals .u8 64 (fun _ => 0), 39), (n7, vals .u32 16 f0, 46), (n8, vals .u32 16 (f1), 46), ((ν 0), vals .u8 64 (fun _ => 0), 39)]].getD s [])) (fun _ => 0) hO (Rg.ac (sn 0 (fun _ => vals .u8 64 (fun _ => 0)) 39 (fun _ w => al30 rfl w) (fun _ => fit_b64 _)) Rg.an) ?_
      intro ν w8 hO
      replace hO : Own w w8 [(n3, vals .u8 32 key, 23), (n5, vals .u8 12 nonce, 24), (n6, vals .u8 64 (fun _ => 0), 39), (n7, vals .u32 16 f0, 46), (n8, vals .u32 16 (f1), 46), ((ν 0), vals .u8 64 (fun _ => 0), 39)] := hO
      simp only [Rg.putL, Act.put, List.setIfInBounds_toArray, List.set_cons_succ, List.set_cons_zero]
      generalize ν 0 = n12 at hO ⊢
      clear ν
      go_upto_region 13 with (fail)
      refine Rg.ps [] (fun _ => [(39, A (vals .u32 16 (f1))), (40, Nv .i64 0)]) (OI w (fun _ _ => [(n3, vals .u8 32 key, 23), (n5, vals .u8 12 nonce, 24), (n6, vals .u8 64 (fun _ => 0), 39), (n7, vals .u32 16 f0, 46), (n8, vals .u32 16 (f1), 46), (n12, vals .u8 64 (fun _ => 0), 39)])) (fun _ => 0) hO (Rg.ac (nld 0 0 4 (at1 0 fun _ => by kernel_rfl) Tryd.underlying46) (Rg.ac nv Rg.an)) ?_
      intro ν w9 hO
      replace hO : Own w w9 [(n3, vals .u8 32 key, 23), (n5, vals .u8 12 nonce, 24), (n6, vals .u8 64 (fun _ => 0), 39), (n7, vals .u32 16 f0, 46), (n8, vals .u32 16 (f1), 46), (n12, vals .u8 64 (fun _ => 0), 39)] := hO
      simp only [Rg.putL, Act.put, List.setIfInBounds_toArray, List.set_cons_succ, List.set_cons_zero]
      clear ν
      have HO2 := hide hO
      clear hO
      go_wp2_with (fail)
      go_loopw [40] (fun i wr => ∃ k : Nat, k ≤ 16 ∧ i = .int .i64 k ∧ Own w wr [(n3, vals .u8 32 key, 23), (n5, vals .u8 12 nonce, 24), (n6, vals .u8 64 (fun _ => 0), 39), (n7, vals .u32 16 f0, 46), (n8, vals .u32 16 (f1), 46), (n12, vals .u8 64 (bw f1 f0 k), 39)]) (fun i _ => 16 - (intOf i).toNat)
      case atStart => exact ⟨0, by omega, rfl, by rw [bw_zero]; exact HO2.out⟩
      case round =>
        obtain ⟨k, hk16, rfl, hO⟩ := hrel
        by_cases hlk : k < 16
        · have hr0 : (0 : Int) ≤ (k : Int) := by omega
          have hr1 : (k : Int) < 16 := by omega
          go_upto_region 15 with (fail)
          refine Rg.ps [] (fun _ => [(42, Nv .i64 k), (43, Nv .u32 (f1 k)), (13, Nv .i64 k), (14, Nv .u32 (f1 k))]) (OI w (fun _ _ => [(n3, vals .u8 32 key, 23), (n5, vals .u8 12 nonce, 24), (n6, vals .u8 64 (fun _ => 0), 39), (n7, vals .u32 16 f0, 46), (n8, vals .u32 16 (f1), 46), (n12, vals .u8 64 (bw f1 f0 k), 39)])) (fun _ => 0) hO (Rg.ac nv (Rg.ac (nx (fun _ => Nv .u32 (f1 k)) (fun _ w => b_ix hlk w)) (Rg.ac nv (Rg.ac nv Rg.an)))) ?_
          intro ν w10 hO
          replace hO : Own w w10 [(n3, vals .u8 32 key, 23), (n5, vals .u8 12 nonce, 24), (n6, vals .u8 64 (fun _ => 0), 39), (n7, vals .u32 16 f0, 46), (n8, vals .u32 16 (f1), 46), (n12, vals .u8 64 (bw f1 f0 k), 39)] := hO
          simp only [Rg.putL, Act.put, List.setIfInBounds_toArray, List.set_cons_succ, List.set_cons_zero]
          clear ν
          have HP := fun (u : World) (M : List Row) (w : World) (h : Own u w ((n12, vals .u8 64 (bw f1 f0 k), 39) :: M)) => putWord_any n12 (4 * k) 64 (64 - 4 * k) (64 - 4 * k) (ad (f1 k) (f0 k)) _ 39 u M w h (by omega) (by omega)
          go_upto_region 16 with (fail)
          refine Rg.pd [8] (fun _ => [(44, Nv .i64 k), (45, Nv .i64 (4 * k)), (46, .slice (some ⟨n12, 4 * k, none⟩) (64 - 4 * k) (64 - 4 * k)), (47, Nv .u32 (f1 k)), (48, Nv .i64 k), (49, E n7 k), (50, Nv .u32 (f0 k)), (51, Nv .u32 (ad (f1 k) (f0 k))), (52, .tuple #[])]) (OI w (fun s ν => [[(n3, vals .u8 32 key, 23), (n5, vals .u8 12 nonce, 24), (n6, vals .u8 64 (fun _ => 0), 39), (n7, vals .u32 16 f0, 46), (n8, vals .u32 16 (f1), 46), (n12, vals .u8 64 (bw f1 f0 k), 39)], [(n3, vals .u8 32 key, 23), (n5, vals .u8 12 nonce, 24), (n6, vals .u8 64 (fun _ => 0), 39), (n7, vals .u32 16 f0, 46), (n8, vals .u32 16 (f1), 46), (n12, vals .u8 64 (lay (bw f1 f0 k) (4 * k) (ad (f1 k) (f0 k)) 4), 39)]].getD s [])) (fun _ => 0) hO.drew (Rg.ac nv (Rg.ac (nx (fun _ => Nv .i64 (4 * k)) (fun _ w => b_m4 (by omega) w)) (Rg.ac (nx (fun _ => .slice (some ⟨n12, 4 * k, none⟩) (64 - 4 * k) (64 - 4 * k)) (fun _ w => b_sl64 (by omega) w)) (Rg.ac nv (Rg.ac nv (Rg.ac (nx (fun _ => E n7 k) (fun _ w => b_ia16 hlk w)) (Rg.ac (nc 0 1 3 (fun _ => k) (fun _ => Nv .u32 (f0 k)) agg_u32 (fun _ => vals_get _ _ _ _ hlk) (at2 0 1 (fun _ => by kernel_rfl) (at1 1 fun _ => by kernel_rfl))) (Rg.ac (nx (fun _ => Nv .u32 (ad (f1 k) (f0 k))) (fun _ w => b_add32 w)) (Rg.ac (sg 0 29 (fun _ => #[.slice (some ⟨n12, 4 * k, none⟩) (64 - 4 * k) (64 - 4 * k), Nv .u32 (ad (f1 k) (f0 k))]) (fun _ => .tuple #[]) (fun ν w hO => call1 HP hO 5 (by kernel_rfl))) Rg.an))))))))) ?_
          intro ν w11 hO
          replace hO : Own w w11 [(n3, vals .u8 32 key, 23), (n5, vals .u8 12 nonce, 24), (n6, vals .u8 64 (fun _ => 0), 39), (n7, vals .u32 16 f0, 46), (n8, vals .u32 16 (f1), 46), (n12, vals .u8 64 (lay (bw f1 f0 k) (4 * k) (ad (f1 k) (f0 k)) 4), 39)] := hO
          simp only [Rg.putL, Act.put, List.setIfInBounds_toArray, List.set_cons_succ, List.set_cons_zero]
          clear ν
          rw [vals_congr _ _ _ _ fun j _ => bw_next f1 f0 k j] at hO
          have HO3 := hide hO
          clear hO
          go_wp2_with (fail)
          go_roundw
          case rel => exact ⟨k + 1, by omega, by go_num, HO3.out⟩
          case measure => simp [intOf]; omega
        · have e16 : k = 16 := by omega
          subst e16
          have e64 : vals .u8 64 (bw f1 f0 16) = vals .u8 64 (bk key cnt nonce) := vals_congr _ _ _ _ fun j hj => by unfold bw bk blk; rw [if_pos (by omega), hf1.out, hf0.out]
          rw [e64] at hO
          go_upto_region 18 with (fail)
          refine Rg.ps [1] (fun _ => [(54, A (vals .u8 64 (bk key cnt nonce)))]) (OI w (fun s ν => [[(n3, vals .u8 32 key, 23), (n5, vals .u8 12 nonce, 24), (n6, vals .u8 64 (fun _ => 0), 39), (n7, vals .u32 16 f0, 46), (n8, vals .u32 16 (f1), 46), (n12, vals .u8 64 (bk key cnt nonce), 39)], [(n3, vals .u8 32 key, 23), (n5, vals .u8 12 nonce, 24), (n6, vals .u8 64 (bk key cnt nonce), 39), (n7, vals .u32 16 f0, 46), (n8, vals .u32 16 (f1), 46), (n12, vals .u8 64 (bk key cnt nonce), 39)]].getD s [])) (fun _ => 0) hO (Rg.ac (nld 0 0 5 (at1 0 fun _ => by kernel_rfl) Tryd.underlying39) (Rg.ac (sr 0 2 (fun _ => vals .u8 64 (bk key cnt nonce)) (fun _ => fit_b64 _)) Rg.an)) ?_
          intro ν w12 hO
          replace hO : Own w w12 [(n3, vals .u8 32 key, 23), (n5, vals .u8 12 nonce, 24), (n6, vals .u8 64 (bk key cnt nonce), 39), (n7, vals .u32 16 f0, 46), (n8, vals .u32 16 (f1), 46), (n12, vals .u8 64 (bk key cnt nonce), 39)] := hO
          simp only [Rg.putL, Act.put, List.setIfInBounds_toArray, List.set_cons_succ, List.set_cons_zero]
          clear ν
          go_wp2_with (fail)
          refine bodyPost_ret (v := A (vals .u8 64 (bk key cnt nonce))) (results_cell_row Tryd.results19 _ _ n6 39 _ (0, 0) _ rfl (hO.row 2 rfl) Tryd.underlying39 rfl ((fit_b64 _).size rfl)) rfl ⟨rfl, hO.low⟩
end Go.Proofs.YtanahjoiilfcbaaDoor.C

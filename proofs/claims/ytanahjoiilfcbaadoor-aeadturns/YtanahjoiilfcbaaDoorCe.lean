/- Walks: wordsOf. A key, a count and a nonce; bytes below 256; no other condition. -/
import Derived.Test.YtanahjoiilfcbaaDoorCd
namespace Go.Proofs.YtanahjoiilfcbaaDoor.C
set_option maxRecDepth 100000
open Go.RowKit Rg

theorem al36 {a : Act} {o : Oper} (ho : o.op = .alloc 46) (w : World) : (execOp a.eval o).run Tryd.prog w = .ok (.value (D w.heap.size)) (w.alloc (.cells (vals .u32 16 fun _ => 0) 46)) := by unfold execOp; simp only [ho]; kernel_rfl
theorem al30 {a : Act} {o : Oper} (ho : o.op = .alloc 39) (w : World) : (execOp a.eval o).run Tryd.prog w = .ok (.value (D w.heap.size)) (w.alloc (.cells (vals .u8 64 fun _ => 0) 39)) := by unfold execOp; simp only [ho]; kernel_rfl
theorem al23 {a : Act} {o : Oper} (ho : o.op = .alloc 23) (w : World) : (execOp a.eval o).run Tryd.prog w = .ok (.value (D w.heap.size)) (w.alloc (.cells (vals .u8 32 fun _ => 0) 23)) := by unfold execOp; simp only [ho]; kernel_rfl
def c0 (i : Nat) : Nat := cL.getD i 0
theorem bd_c0 : Tryd.prog.built 46 [(0, .int .u32 1634760805), (1, .int .u32 857760878), (2, .int .u32 2036477234), (3, .int .u32 1797285236)] = some (vals .u32 16 c0) := by kernel_rfl
theorem iw_eq (key nonce : Nat → Nat) (cnt j : Nat) (hj : j < 16) : rdw (fun j => if j = 12 then cnt else rdw c0 4 key 8 j) 13 nonce 3 j = iw key cnt nonce j := by
  unfold rdw iw c0
  show (if 13 ≤ j ∧ j < 13 + 3 then le4 nonce (4 * (j - 13)) else if j = 12 then cnt else if 4 ≤ j ∧ j < 4 + 8 then le4 key (4 * (j - 4)) else cL.getD j 0) = _
  by_cases h1 : j < 4
  · rw [if_neg (by omega), if_neg (by omega), if_neg (by omega), if_pos h1]
  · by_cases h2 : j < 12
    · rw [if_neg (by omega), if_neg (by omega), if_pos (by omega), if_neg h1, if_pos h2]
    · by_cases h3 : j = 12
      · rw [if_neg (by omega), if_pos h3, if_neg h1, if_neg h2, if_pos h3]
      · rw [if_pos (by omega), if_neg h1, if_neg h2, if_neg h3]
set_option maxHeartbeats 4000000 in
theorem words_c (key nonce : Nat → Nat) (hk : ∀ i, key i < 256) (hn : ∀ i, nonce i < 256) (cnt : Nat) (w : World) : Ret 26 #[A (vals .u8 32 key), Nv .u32 cnt, A (vals .u8 12 nonce)] w (A (vals .u32 16 (iw key cnt nonce))) := by
  go_enter Tryd.func26, Tryd.ntmps26
  have hO := Own.start w
  go_upto_region 0 with (fail)
  refine Rg.ps [0, 1, 2] (fun ν => [(3, D (ν 0)), (5, D (ν 1)), (6, D (ν 2))]) (OI w (fun s ν => [[], [((ν 0), vals .u8 32 key, 23)], [((ν 0), vals .u8 32 key, 23), ((ν 1), vals .u8 12 nonce, 24)], [((ν 0), vals .u8 32 key, 23), ((ν 1), vals .u8 12 nonce, 24), ((ν 2), vals .u32 16 (fun _ => 0), 46)]].getD s [])) (fun _ => 0) hO (Rg.ac (sn 0 (fun _ => vals .u8 32 key) 23 (fun _ w => run_box 23 _ rfl _ (by kernel_rfl) w) (fun _ => fit_b32 _)) (Rg.ac (sn 1 (fun _ => vals .u8 12 nonce) 24 (fun _ w => run_box 24 _ rfl _ (by kernel_rfl) w) (fun _ => fit_b12 _)) (Rg.ac (sn 2 (fun _ => vals .u32 16 (fun _ => 0)) 46 (fun _ w => al36 rfl w) (fun _ => fit_w16 _)) Rg.an))) ?_
  intro ν w1 hO
  replace hO : Own w w1 [((ν 0), vals .u8 32 key, 23), ((ν 1), vals .u8 12 nonce, 24), ((ν 2), vals .u32 16 (fun _ => 0), 46)] := hO
  simp only [Rg.putL, Act.put, List.setIfInBounds_toArray, List.set_cons_succ, List.set_cons_zero]
  generalize ν 0 = n3 at hO ⊢
  generalize ν 1 = n5 at hO ⊢
  generalize ν 2 = n6 at hO ⊢
  clear ν
  go_upto_region 1 with (fail)
  refine Rg.ps [1, 2] (fun ν => [(8, A (vals .u32 16 c0)), (7, D (ν 1))]) (OI w (fun s ν => [[(n3, vals .u8 32 key, 23), (n5, vals .u8 12 nonce, 24), (n6, vals .u32 16 (fun _ => 0), 46)], [(n3, vals .u8 32 key, 23), (n5, vals .u8 12 nonce, 24), (n6, vals .u32 16 (fun _ => 0), 46), ((ν 1), vals .u32 16 (fun _ => 0), 46)], [(n3, vals .u8 32 key, 23), (n5, vals .u8 12 nonce, 24), (n6, vals .u32 16 (fun _ => 0), 46), ((ν 1), vals .u32 16 c0, 46)]].getD s [])) (fun _ => 0) hO (Rg.ac (nx (fun _ => A (vals .u32 16 c0)) (fun _ w => run_bd 46 _ rfl [(0, Nv .u32 1634760805), (1, Nv .u32 857760878), (2, Nv .u32 2036477234), (3, Nv .u32 1797285236)] (by kernel_rfl) _ bd_c0 w)) (Rg.ac (sn 0 (fun _ => vals .u32 16 (fun _ => 0)) 46 (fun _ w => al36 rfl w) (fun _ => fit_w16 _)) (Rg.ac (sr 1 3 (fun _ => vals .u32 16 c0) (fun _ => fit_w16 _)) Rg.an))) ?_
  intro ν w2 hO
  replace hO : Own w w2 [(n3, vals .u8 32 key, 23), (n5, vals .u8 12 nonce, 24), (n6, vals .u32 16 (fun _ => 0), 46), ((ν 1), vals .u32 16 c0, 46)] := hO
  simp only [Rg.putL, Act.put, List.setIfInBounds_toArray, List.set_cons_succ, List.set_cons_zero]
  generalize ν 1 = n7 at hO ⊢
  clear ν
  go_upto_region 2 with (fail)
  refine Rg.pd [2] (fun _ => [(9, .slice (some ⟨n7, 4, none⟩) 8 12), (10, .slice (some ⟨n3, 0, none⟩) 32 32), (11, .tuple #[])]) (OI w (fun s ν => [[(n3, vals .u8 32 key, 23), (n5, vals .u8 12 nonce, 24), (n6, vals .u32 16 (fun _ => 0), 46), (n7, vals .u32 16 c0, 46)], [(n3, vals .u8 32 key, 23), (n5, vals .u8 12 nonce, 24), (n6, vals .u32 16 (fun _ => 0), 46), (n7, vals .u32 16 (rdw c0 4 key 8), 46)]].getD s [])) (fun _ => 0) hO.drew (Rg.ac nv (Rg.ac nv (Rg.ac (sg 0 41 (fun _ => #[.slice (some ⟨n7, 4, none⟩) 8 12, .slice (some ⟨n3, 0, none⟩) 32 32]) (fun _ => .tuple #[]) (fun ν w hO => call2 (fun u M w h => read_any _ 4 8 32 _ _ 32 c0 key 23 hk u M w h (by omega) (by omega) (by omega) (by omega) (by omega)) hO 3 0 (by kernel_rfl) (by kernel_rfl))) Rg.an))) ?_
  intro ν w3 hO
  replace hO : Own w w3 [(n3, vals .u8 32 key, 23), (n5, vals .u8 12 nonce, 24), (n6, vals .u32 16 (fun _ => 0), 46), (n7, vals .u32 16 (rdw c0 4 key 8), 46)] := hO
  simp only [Rg.putL, Act.put, List.setIfInBounds_toArray, List.set_cons_succ, List.set_cons_zero]
  clear ν
  go_upto_region 3 with (fail)
  refine Rg.ps [2] (fun _ => [(12, Nv .u32 cnt), (13, E n7 12)]) (OI w (fun s ν => [[(n3, vals .u8 32 key, 23), (n5, vals .u8 12 nonce, 24), (n6, vals .u32 16 (fun _ => 0), 46), (n7, vals .u32 16 (rdw c0 4 key 8), 46)], [(n3, vals .u8 32 key, 23), (n5, vals .u8 12 nonce, 24), (n6, vals .u32 16 (fun _ => 0), 46), (n7, vals .u32 16 (fun j => if j = 12 then cnt else rdw c0 4 key 8 j), 46)]].getD s [])) (fun _ => 0) hO (Rg.ac nv (Rg.ac nv (Rg.ac (sl 0 3 (fun _ => 12) (fun _ => Nv .u32 (rdw c0 4 key 8 12)) (fun _ => ((cnt : Nat) : Int)) sz_u32 (fun _ => vals_get _ _ _ _ (by omega)) (fun _ => vals_set _ _ _ _ _) (fun _ => fit_w16 _)) Rg.an))) ?_
  intro ν w4 hO
  replace hO : Own w w4 [(n3, vals .u8 32 key, 23), (n5, vals .u8 12 nonce, 24), (n6, vals .u32 16 (fun _ => 0), 46), (n7, vals .u32 16 (fun j => if j = 12 then cnt else rdw c0 4 key 8 j), 46)] := hO
  simp only [Rg.putL, Act.put, List.setIfInBounds_toArray, List.set_cons_succ, List.set_cons_zero]
  clear ν
  go_upto_region 4 with (fail)
  refine Rg.pd [2] (fun _ => [(14, .slice (some ⟨n7, 13, none⟩) 3 3), (15, .slice (some ⟨n5, 0, none⟩) 12 12), (16, .tuple #[])]) (OI w (fun s ν => [[(n3, vals .u8 32 key, 23), (n5, vals .u8 12 nonce, 24), (n6, vals .u32 16 (fun _ => 0), 46), (n7, vals .u32 16 (fun j => if j = 12 then cnt else rdw c0 4 key 8 j), 46)], [(n3, vals .u8 32 key, 23), (n5, vals .u8 12 nonce, 24), (n6, vals .u32 16 (fun _ => 0), 46), (n7, vals .u32 16 (rdw (fun j => if j = 12 then cnt else rdw c0 4 key 8 j) 13 nonce 3), 46)]].getD s [])) (fun _ => 0) hO.drew (Rg.ac nv (Rg.ac nv (Rg.ac (sg 0 41 (fun _ => #[.slice (some ⟨n7, 13, none⟩) 3 3, .slice (some ⟨n5, 0, none⟩) 12 12]) (fun _ => .tuple #[]) (fun ν w hO => call2 (fun u M w h => read_any _ 13 3 12 _ _ 12 (fun j => if j = 12 then cnt else rdw c0 4 key 8 j) nonce 24 hn u M w h (by omega) (by omega) (by omega) (by omega) (by omega)) hO 3 1 (by kernel_rfl) (by kernel_rfl))) Rg.an))) ?_
  intro ν w5 hO
  replace hO : Own w w5 [(n3, vals .u8 32 key, 23), (n5, vals .u8 12 nonce, 24), (n6, vals .u32 16 (fun _ => 0), 46), (n7, vals .u32 16 (rdw (fun j => if j = 12 then cnt else rdw c0 4 key 8 j) 13 nonce 3), 46)] := hO
  simp only [Rg.putL, Act.put, List.setIfInBounds_toArray, List.set_cons_succ, List.set_cons_zero]
  clear ν
  go_upto_region 5 with (fail)
  refine Rg.ps [1] (fun _ => [(17, A (vals .u32 16 (rdw (fun j => if j = 12 then cnt else rdw c0 4 key 8 j) 13 nonce 3)))]) (OI w (fun s ν => [[(n3, vals .u8 32 key, 23), (n5, vals .u8 12 nonce, 24), (n6, vals .u32 16 (fun _ => 0), 46), (n7, vals .u32 16 (rdw (fun j => if j = 12 then cnt else rdw c0 4 key 8 j) 13 nonce 3), 46)], [(n3, vals .u8 32 key, 23), (n5, vals .u8 12 nonce, 24), (n6, vals .u32 16 (rdw (fun j => if j = 12 then cnt else rdw c0 4 key 8 j) 13 nonce 3), 46), (n7, vals .u32 16 (rdw (fun j => if j = 12 then cnt else rdw c0 4 key 8 j) 13 nonce 3), 46)]].getD s [])) (fun _ => 0) hO (Rg.ac (nld 0 0 3 (at1 0 fun _ => by kernel_rfl) Tryd.underlying46) (Rg.ac (sr 0 2 (fun _ => vals .u32 16 (rdw (fun j => if j = 12 then cnt else rdw c0 4 key 8 j) 13 nonce 3)) (fun _ => fit_w16 _)) Rg.an)) ?_
  intro ν w6 hO
  replace hO : Own w w6 [(n3, vals .u8 32 key, 23), (n5, vals .u8 12 nonce, 24), (n6, vals .u32 16 (rdw (fun j => if j = 12 then cnt else rdw c0 4 key 8 j) 13 nonce 3), 46), (n7, vals .u32 16 (rdw (fun j => if j = 12 then cnt else rdw c0 4 key 8 j) 13 nonce 3), 46)] := hO
  simp only [Rg.putL, Act.put, List.setIfInBounds_toArray, List.set_cons_succ, List.set_cons_zero]
  clear ν
  rw [vals_congr _ _ _ _ (iw_eq key nonce cnt)] at hO
  go_wp2_with (fail)
  refine bodyPost_ret (v := A (vals .u32 16 (iw key cnt nonce))) (results_cell_row Tryd.results26 _ _ n6 46 _ (0, 0) _ rfl (hO.row 2 rfl) Tryd.underlying46 rfl ((fit_w16 _).size rfl)) rfl ⟨rfl, hO.low⟩
end Go.Proofs.YtanahjoiilfcbaaDoor.C

/- Walks: PolyTells. The variable kept as it is laid; bytes below 256. -/
import Derived.Test.YtflmnhjfgdbfeaaDoorRd
namespace Go.Proofs.YtflmnhjfgdbfeaaDoor
set_option maxRecDepth 100000
open Go.RowKit Rg

set_option maxHeartbeats 4000000 in
theorem tells_walk (key : Nat → Nat) (hk : ∀ i, key i < 256) (S : Option Addr) (n c : Nat) (g : Nat → Nat) (hg : ∀ i, g i < 256) (hc : n ≤ c) (w : World) (hG : Gl w 0 (vals .u64 2 kp)) (hS : Rd w S n g) : Ret 3 #[A (vals .u8 32 key), .slice S n c] w (.bool true) := by
  have HA : Hid (∀ w1 : World, Below w.heap.size w w1 → Ret 8 #[] w1 (.bool true)) := hide fun w1 h => awake_c w1 (hG.low h)
  obtain ⟨T, hT⟩ : ∃ T, Hid (tg key g n = T) := ⟨_, hide rfl⟩
  have H1 : Hid (∀ (q : Nat) (w1 : World), Below w.heap.size w w1 → Blk w1 q #[.slice S n c] 23 → Ret 9 #[A (vals .u8 32 key), .slice (some ⟨q, 0, none⟩) 1 1] w1 (A (vals .u8 16 T))) := hide fun q w1 h hb => hT.out ▸ tag1_c key hk S n c q g hg hc w1 (hG.low h) hb (hS.low h)
  have H2 : Hid (∀ w1 : World, Below w.heap.size w w1 → Ret 10 #[A (vals .u8 32 key), .slice S n c] w1 (A (vals .u8 16 T))) := hide fun w1 h => hT.out ▸ rtag_c key hk S n c g hg hc w1 (hS.low h)
  clear hS hG hT
  go_enter Tryd.func3, Tryd.ntmps3
  have hO := Own.start w
  go_upto_region 0 with (fail)
  refine Rg.ps [0] (fun ν => [(2, D (ν 0)), (4, .bool false)]) (OI w (fun s ν => [[], [((ν 0), vals .u8 32 key, 22)]].getD s [])) (fun _ => 0) hO (Rg.ac (sn 0 (fun _ => vals .u8 32 key) 22 (fun _ w => run_box 22 _ rfl _ (by kernel_rfl) w) (fun _ => fit_b32 _)) (Rg.ac nv Rg.an)) ?_
  intro ν w1 hO
  replace hO : Own w w1 [((ν 0), vals .u8 32 key, 22)] := hO
  simp only [Rg.putL, Act.put, List.setIfInBounds_toArray, List.set_cons_succ, List.set_cons_zero]
  generalize ν 0 = n2 at hO ⊢
  clear ν
  go_upto_region 1 with (fail)
  refine Rg.ps [0] (fun _ => [(6, .bool true), (5, .bool true)]) (OI w (fun s ν => [[(n2, vals .u8 32 key, 22)], [(n2, vals .u8 32 key, 22)]].getD s [])) (fun _ => 0) hO (Rg.ac (sq 0 8 (fun _ => #[]) (fun _ => .bool true) (fun ν w hO => HA.out w hO.low)) (Rg.ac nv Rg.an)) ?_
  intro ν w2 hO
  replace hO : Own w w2 [(n2, vals .u8 32 key, 22)] := hO
  simp only [Rg.putL, Act.put, List.setIfInBounds_toArray, List.set_cons_succ, List.set_cons_zero]
  clear ν
  by_cases hq : n ≤ 1000
  · have h1 : ¬ (1000 : Int) < (n : Int) := by omega
    clear hq
    go_upto_region 4 with (fail)
    clear h1
    refine Rg.pd [4, 5, 8] (fun ν => [(11, .bool true), (12, .bool true), (13, A (vals .u8 32 key)), (14, .slice S n c), (15, .slice (some ⟨(ν 4), 0, none⟩) 1 1), (16, A (vals .u8 16 T)), (17, A (vals .u8 32 key)), (18, .slice S n c), (19, A (vals .u8 16 T)), (20, .bool true), (21, .bool true), (4, .bool true)]) (OI w (fun s ν => [[(n2, vals .u8 32 key, 22)], [(n2, vals .u8 32 key, 22), ((ν 4), #[.slice S n c], 23)], [(n2, vals .u8 32 key, 22), ((ν 4), #[.slice S n c], 23)], [(n2, vals .u8 32 key, 22), ((ν 4), #[.slice S n c], 23)]].getD s [])) (fun _ => 0) hO.drew (Rg.ac nv (Rg.ac nv (Rg.ac (nld 0 1 0 (at2 0 1 (fun _ => by kernel_rfl) (at1 1 fun _ => by kernel_rfl)) Tryd.underlying22) (Rg.ac nv (Rg.ac (sv 0 (fun _ q => .slice (some ⟨q, 0, none⟩) 1 1) (fun _ => #[.slice S n c]) 23 (fun _ w => b_pt1 w) (fun _ => fit_ss (by kernel_rfl))) (Rg.ac (sq 1 9 (fun ν => #[A (vals .u8 32 key), .slice (some ⟨(ν 4), 0, none⟩) 1 1]) (fun _ => A (vals .u8 16 T)) (fun ν w hO => H1.out _ w hO.low (hO.row 1 rfl))) (Rg.ac (nld 0 2 0 (at2 0 2 (fun _ => by kernel_rfl) (at2 1 2 (fun _ => by kernel_rfl) (at1 2 fun _ => by kernel_rfl))) Tryd.underlying22) (Rg.ac nv (Rg.ac (sq 2 10 (fun _ => #[A (vals .u8 32 key), .slice S n c]) (fun _ => A (vals .u8 16 T)) (fun ν w hO => H2.out w hO.low)) (Rg.ac (nx (fun _ => .bool true) (fun _ w => b_eqa (f := T) w)) (Rg.ac nv (Rg.ac nv Rg.an)))))))))))) ?_
    intro ν w3 hO
    replace hO : Own w w3 [(n2, vals .u8 32 key, 22), ((ν 4), #[.slice S n c], 23)] := hO
    simp only [Rg.putL, Act.put, List.setIfInBounds_toArray, List.set_cons_succ, List.set_cons_zero]
    generalize ν 4 = n15 at hO ⊢
    clear ν
    have HF := hide hO.low
    clear hO H1 H2
    go_wp2_with (fail)
    go_ret
    exact ⟨rfl, HF.out⟩
  · have h1 : (1000 : Int) < (n : Int) := by omega
    have HF := hide hO.low
    clear hO hq H1 H2
    go_wp2_with (fail)
    go_ret
    exact ⟨rfl, HF.out⟩
end Go.Proofs.YtflmnhjfgdbfeaaDoor

/- Walks of the reference: K, Sum. -/
import Derived.Test.YtaegklfomecmfaaDoorRc
namespace Go.Proofs.YtaegklfomecmfaaDoor
open Go.RowKit

set_option maxRecDepth 100000 in
set_option maxHeartbeats 1000000 in
theorem rK_any (w : World) : Calls Tryd.prog 22 #[] w fun e w' => e = .returned (.agg (arr 80 kc)) ∧ Below w.heap.size w w' := by
  have hz := zero36
  have B0 := hide (Blk.new w (arr 80 (fun _ => 0)) 49)
  go_enter Tryd.func22, Tryd.ntmps22
  go_wp2_with (first
    | (refine wpList_build_w (by rfl) 49 _ rfl (arr 80 kc) (by kernel_rfl) ?_)
    | (refine wpList_store_row rfl 49 _ _ rfl w.heap.size (arr 80 kc) rfl rfl 49 _ B0.out (by rw [arr_size]; exact cells36) (by rw [arr_size, arr_size]) (arr_one _ _) ?_))
  refine bodyPost_ret (v := .agg (arr 80 kc)) (results_cell_row Tryd.results22 _ _ w.heap.size 49 _ (0, 0) _ rfl (B0.out.row _) Tryd.underlying49 rfl (by rw [arr_size]; exact cells36)) rfl ⟨rfl, ?_⟩
  exact Below.row ((Below.refl _ w).alloc (Nat.le_refl _) _) (Nat.le_refl _) _
theorem sumBy_at (A : Option Addr) (l : List Nat) (cap : Nat) (args : Array Value) (w : World) (h : args = #[.slice A l.length cap, .agg (arr 8 hc), .agg (arr 80 kc)]) (hA : Rds w A l) (hcap : l.length ≤ cap) (hl : ∀ x ∈ l, x < 256) (hn : l.length < 2 ^ 30) :
    Calls Tryd.prog 21 args w fun e w' => e = .returned (.agg (vals .u8 64 (dg l))) ∧ Below w.heap.size w w' := by
  subst h; exact sumBy_any A l cap w hA hcap hl hn
set_option maxRecDepth 100000 in
set_option maxHeartbeats 1000000 in
theorem rSum_any (A : Option Addr) (l : List Nat) (cap : Nat) (w : World) (hA : Rds w A l) (hcap : l.length ≤ cap) (hl : ∀ x ∈ l, x < 256) (hn : l.length < 2 ^ 30) :
    Calls Tryd.prog 16 #[.slice A l.length cap] w fun e w' => e = .returned (.agg (vals .u8 64 (dg l))) ∧ Below w.heap.size w w' := by
  have HA := hide hA
  have Hcap := hide hcap
  have Hl := hide hl
  have Hn := hide hn
  clear hA hcap hl hn
  have hz := zero24
  have B0 := hide (Blk.new w (vals .u8 64 (fun _ => 0)) 24)
  have L0 := hide ((Below.refl w.heap.size w).alloc (Nat.le_refl _) (.cells (vals .u8 64 (fun _ => 0)) 24))
  go_enter Tryd.func16, Tryd.ntmps16
  go_wp2_with (first
    | (refine wpList_build_w (by rfl) 42 _ rfl (arr 8 hc) (by kernel_rfl) ?_)
    | (go_at_call 22; refine (rK_any _).mono ?_; rintro e k1 ⟨rfl, hb⟩; have B1 := hide (B0.out.call hb); have L1 := hide (keepLow2 L0.out hb); clear hb; dsimp only)
    | (go_at_call 21; refine (sumBy_at A l cap _ _ rfl (HA.out.low L1.out) Hcap.out Hl.out Hn.out).mono ?_; rintro e k2 ⟨rfl, hb⟩; have B2 := hide (B1.out.call hb); have L2 := hide (keepLow2 L1.out hb); clear hb; dsimp only)
    | (refine wpList_store_row rfl 24 _ _ rfl w.heap.size (vals .u8 64 (dg l)) rfl rfl 24 _ B2.out (by rw [vals_size]; exact cells24) (by rw [vals_size, vals_size]) (vals_one _ _ _) ?_))
  refine bodyPost_ret (v := .agg (vals .u8 64 (dg l))) (results_cell_row Tryd.results16 _ _ w.heap.size 24 _ (0, 0) _ rfl (B2.out.row _) Tryd.underlying24 rfl (by rw [vals_size]; exact cells24)) rfl ⟨rfl, ?_⟩
  exact Below.row L2.out (Nat.le_refl _) _
theorem rSum_at (A : Option Addr) (l : List Nat) (cap : Nat) (args : Array Value) (w : World) (h : args = #[.slice A l.length cap]) (hA : Rds w A l) (hcap : l.length ≤ cap) (hl : ∀ x ∈ l, x < 256) (hn : l.length < 2 ^ 30) :
    Calls Tryd.prog 16 args w fun e w' => e = .returned (.agg (vals .u8 64 (dg l))) ∧ Below w.heap.size w w' := by
  subst h; exact rSum_any A l cap w hA hcap hl hn
end Go.Proofs.YtaegklfomecmfaaDoor

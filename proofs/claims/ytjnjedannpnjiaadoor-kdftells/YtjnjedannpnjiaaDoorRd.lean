/- Walks of the reference: K, Sum. -/
import Derived.Test.YtjnjedannpnjiaaDoorRc
namespace Go.Proofs.YtjnjedannpnjiaaDoor
open Go.RowKit

set_option maxRecDepth 100000 in
set_option maxHeartbeats 1000000 in
theorem rK_any (w : World) : Calls Tryd.prog 27 #[] w fun e w' => e = .returned (.agg (arr 80 kc)) ∧ Below w.heap.size w w' := by
  have hz := zero36
  have B0 := hide (Blk.new w (arr 80 (fun _ => 0)) 52)
  go_enter Tryd.func27, Tryd.ntmps27
  go_wp2_with (first
    | (refine wpList_build_w (by rfl) 52 _ rfl (arr 80 kc) (by kernel_rfl) ?_)
    | (refine wpList_store_row rfl 52 _ _ rfl w.heap.size (arr 80 kc) rfl rfl 52 _ B0.out (by rw [arr_size]; exact cells36) (by rw [arr_size, arr_size]) (arr_one _ _) ?_))
  refine bodyPost_ret (v := .agg (arr 80 kc)) (results_cell_row Tryd.results27 _ _ w.heap.size 52 _ (0, 0) _ rfl (B0.out.row _) Tryd.underlying52 rfl (by rw [arr_size]; exact cells36)) rfl ⟨rfl, ?_⟩
  exact Below.row ((Below.refl _ w).alloc (Nat.le_refl _) _) (Nat.le_refl _) _
theorem sumBy_at (A : Option Addr) (l : List Nat) (cap : Nat) (args : Array Value) (w : World) (h : args = #[.slice A l.length cap, .agg (arr 8 hc), .agg (arr 80 kc)]) (hA : Rds w A l) (hcap : l.length ≤ cap) (hl : ∀ x ∈ l, x < 256) (hn : l.length < 2 ^ 30) :
    Calls Tryd.prog 26 args w fun e w' => e = .returned (.agg (vals .u8 64 (dg l))) ∧ Below w.heap.size w w' := by
  subst h; exact sumBy_any A l cap w hA hcap hl hn
set_option maxRecDepth 100000 in
set_option maxHeartbeats 1000000 in
theorem rSum_any (A : Option Addr) (l : List Nat) (cap : Nat) (w : World) (hA : Rds w A l) (hcap : l.length ≤ cap) (hl : ∀ x ∈ l, x < 256) (hn : l.length < 2 ^ 30) :
    Calls Tryd.prog 20 #[.slice A l.length cap] w fun e w' => e = .returned (.agg (vals .u8 64 (dg l))) ∧ Below w.heap.size w w' := by
  have HA := hide hA
  have Hcap := hide hcap
  have Hl := hide hl
  have Hn := hide hn
  clear hA hcap hl hn
  have hz := zero24
  have B0 := hide (Blk.new w (vals .u8 64 (fun _ => 0)) 27)
  have L0 := hide ((Below.refl w.heap.size w).alloc (Nat.le_refl _) (.cells (vals .u8 64 (fun _ => 0)) 27))
  go_enter Tryd.func20, Tryd.ntmps20
  go_wp2_with (first
    | (refine wpList_build_w (by rfl) 45 _ rfl (arr 8 hc) (by kernel_rfl) ?_)
    | (go_at_call 27; refine (rK_any _).mono ?_; rintro e k1 ⟨rfl, hb⟩; have B1 := hide (B0.out.call hb); have L1 := hide (keepLow2 L0.out hb); clear hb; dsimp only)
    | (go_at_call 26; refine (sumBy_at A l cap _ _ rfl (HA.out.low L1.out) Hcap.out Hl.out Hn.out).mono ?_; rintro e k2 ⟨rfl, hb⟩; have B2 := hide (B1.out.call hb); have L2 := hide (keepLow2 L1.out hb); clear hb; dsimp only)
    | (refine wpList_store_row rfl 27 _ _ rfl w.heap.size (vals .u8 64 (dg l)) rfl rfl 27 _ B2.out (by rw [vals_size]; exact cells24) (by rw [vals_size, vals_size]) (vals_one _ _ _) ?_))
  refine bodyPost_ret (v := .agg (vals .u8 64 (dg l))) (results_cell_row Tryd.results20 _ _ w.heap.size 27 _ (0, 0) _ rfl (B2.out.row _) Tryd.underlying27 rfl (by rw [vals_size]; exact cells24)) rfl ⟨rfl, ?_⟩
  exact Below.row L2.out (Nat.le_refl _) _
theorem rSum_at (A : Option Addr) (l : List Nat) (cap : Nat) (args : Array Value) (w : World) (h : args = #[.slice A l.length cap]) (hA : Rds w A l) (hcap : l.length ≤ cap) (hl : ∀ x ∈ l, x < 256) (hn : l.length < 2 ^ 30) :
    Calls Tryd.prog 20 args w fun e w' => e = .returned (.agg (vals .u8 64 (dg l))) ∧ Below w.heap.size w w' := by
  subst h; exact rSum_any A l cap w hA hcap hl hn
end Go.Proofs.YtjnjedannpnjiaaDoor

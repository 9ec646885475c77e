/- Walks: Bytes, Load. -/
import Derived.Test.YtbpmakegimgbpaaGreatDoorWg
namespace Go.Proofs.YtbpmakegimgbpaaGreatDoor.F
set_option maxRecDepth 100000
open Go.RowKit

theorem cells22 : (Tryz.prog.info? 22).map (·.size) = some 32 := by kernel_rfl

set_option maxHeartbeats 400000 in
theorem bytes_any (x : Nat) (w : World) :
    Calls Tryz.prog 49 #[fe x] w fun e w' => e = .returned (ba (byt x)) ∧ Below w.heap.size w w' := by
  rw [fe_arr x]
  go_enter Tryz.func49, Tryz.ntmps49
  go_wp2
  go_loopw [5] (fun i wr => ∃ k : Nat, k ≤ 32 ∧ i = .int .i64 k ∧ Blk wr w.heap.size (arr 4 (limb x)) 47 ∧ (∃ z, z.size = 32 ∧ Blk wr (w.heap.size + 1) z 22) ∧ Blk wr (w.heap.size + 2) (vals .u8 32 (fun j => if j < k then byt x j else 0)) 22 ∧ Below w.heap.size w wr) (fun i _ => 32 - (intOf i).toNat)
  case atStart =>
    refine ⟨0, by omega, rfl, ?_, ⟨vals .u8 32 (fun _ => 0), vals_size _ _ _, ?_⟩, ?_, ?_⟩
    · exact (((Blk.new w _ _).alloc _).alloc _)
    · exact (Blk.new' (w.alloc _) (w.heap.size + 1) (by simp) _ _).alloc _
    · exact (Blk.new' ((w.alloc _).alloc _) (w.heap.size + 2) (by simp) _ _).cast (by rw [zero32]; simp)
    · exact (((Below.refl _ w).alloc (Nat.le_refl _) _).alloc (by simp) _).alloc (by simp; omega) _
  case round =>
    obtain ⟨k, hk, rfl, Bx, ⟨z, hz, Bz⟩, Bb, L⟩ := hrel
    by_cases hlt : k < 32
    · have cx := Bx.cell (k / 8)
      rw [arr_get _ _ _ (by omega)] at cx
      have cb := Bb.cell k
      rw [vals_get _ _ _ _ hlt] at cb
      have fb := Bb.frozen k
      have HBx := hide Bx
      have HBz := hide Bz
      have HBb := hide Bb
      have HL := hide L
      clear Bx Bz Bb L
      have hk0 : (0 : Int) ≤ (k : Int) := by omega
      have hk4 : (k : Int) < 32 := by omega
      have Hi := hide (byt_int x k)
      go_wp2
      rw [Hi.out]
      go_roundw
      case rel =>
        refine ⟨k + 1, by omega, by go_num, HBx.out.setOther _ _ (by omega), ⟨z, hz, HBz.out.setOther _ _ (by omega)⟩, ?_, HL.out.setCell (by show w.heap.size ≤ w.heap.size + 2; omega) _⟩
        exact (HBb.out.set k _).cast (by
          rw [vals_set]
          apply vals_congr
          intro j _
          by_cases h1 : j = k
          · subst h1; simp
          · by_cases h2 : j < k
            · simp [h1, h2, show j < k + 1 by omega]
            · simp [h1, h2, show ¬ j < k + 1 by omega])
      case measure => simp [intOf]; omega
    · have e4 : k = 32 := by omega
      subst e4
      have HBz := hide Bz
      have HBb := hide (Bb.cast (vals_congr _ 32 _ (byt x) fun j hj => by simp [hj]))
      have HL := hide L
      clear Bx Bz Bb L
      go_wp2_with (first
        | (refine wpList_load_row rfl 22 _ rfl (w.heap.size + 2) rfl 22 _ (0, 0) _ HBb.out Tryz.underlying22 rfl (by rw [vals_size]; exact cells22) ?_)
        | (refine wpList_store_row rfl 22 _ _ rfl (w.heap.size + 1) (vals .u8 32 (byt x)) rfl rfl 22 z HBz.out (by rw [vals_size]; exact cells22) (by rw [vals_size]; exact hz) (vals_one _ _ _) ?_))
      go_outline
      refine bodyPost_ret (v := ba (byt x)) (results_cell_row Tryz.results49 _ _ (w.heap.size + 1) 22 _ (0, 0) _ rfl (HBz.out.row _) Tryz.underlying22 rfl (by rw [vals_size]; exact cells22)) rfl ⟨rfl, ?_⟩
      exact Below.row HL.out (by omega) _

end Go.Proofs.YtbpmakegimgbpaaGreatDoor.F

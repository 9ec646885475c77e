/- Walks of the law's helpers: wide, small. -/
import Derived.Test.YtokhmhodkakioaaDoorAf
namespace Go.Proofs.YtokhmhodkakioaaDoor
open Go.RowKit

/-- 32 bytes, and bytes 0 behind them. -/
def wd (f : Nat → Nat) (j : Nat) : Nat := if j < 32 then f j else 0
theorem wd_lt (f : Nat → Nat) (hf : ∀ i, f i < 256) (i : Nat) : wd f i < 256 := by
  unfold wd; split
  · exact hf i
  · omega
theorem nb_stop (g : Nat → Nat) (m : Nat) : ∀ k, (∀ j, m ≤ j → g j = 0) → nb g (m + k) = nb g m
  | 0, _ => rfl
  | k + 1, h => by rw [← Nat.add_assoc, nb, nb_stop g m k h, h (m + k) (by omega), Nat.zero_mul, Nat.add_zero]
theorem nb_wd (f : Nat → Nat) : nb (wd f) 64 = nb f 32 := by
  rw [show 64 = 32 + 32 from rfl, nb_stop (wd f) 32 32 fun j hj => by unfold wd; rw [if_neg (by omega)]]
  exact nb_congr _ _ 32 fun j hj => by unfold wd; rw [if_pos hj]

set_option maxHeartbeats 400000 in
theorem wide_any (f : Nat → Nat) (w : World) :
    Calls Tryd.prog 16 #[ba f] w fun e w' => e = .returned (bb (wd f)) ∧ Below w.heap.size w w' := by
  unfold ba
  go_enter Tryd.func16, Tryd.ntmps16
  go_wp2_with (first
    | (refine wpList_build rfl 22 #[] rfl (by simp [built22]) ?_; simp only [List.map_toArray, List.map_nil, built22, Option.getD_some])
    | (refine wpList_store_row rfl 22 _ _ rfl (w.heap.size + 2) (vals .u8 64 (fun _ => 0)) rfl rfl 22 _ (Blk.new' _ _ (by simp) _ _) (by rw [vals_size]; exact cells22) (by rw [vals_size]; rfl) (vals_one _ _ _) ?_))
  go_loopw [4] (fun i wr => ∃ k : Nat, k ≤ 32 ∧ i = .int .i64 k ∧ Blk wr w.heap.size (vals .u8 32 f) 23 ∧ (∃ z, z.size = 64 ∧ Blk wr (w.heap.size + 1) z 22) ∧ Blk wr (w.heap.size + 2) (vals .u8 64 (fun j => if j < k then wd f j else 0)) 22 ∧ Below w.heap.size w wr) (fun i _ => 32 - (intOf i).toNat)
  case atStart =>
    refine ⟨0, by omega, rfl, ?_, ⟨vals .u8 64 (fun _ => 0), vals_size _ _ _, ?_⟩, ?_, ?_⟩
    · exact (((Blk.new w _ _).alloc _).alloc _).rowOther _ (by omega)
    · exact ((Blk.new' (w.alloc _) (w.heap.size + 1) (by simp) _ _).alloc _).rowOther _ (by omega)
    · exact ((Blk.new' ((w.alloc _).alloc _) (w.heap.size + 2) (by simp) _ _).row _).cast (vals_congr _ _ _ _ fun j _ => by simp)
    · exact Below.row ((((Below.refl _ w).alloc (Nat.le_refl _) _).alloc (by simp) _).alloc (by simp; omega) _) (by omega) _
  case round =>
    obtain ⟨k, hk, rfl, Bx, ⟨z, hz, Bz⟩, Bo, L⟩ := hrel
    by_cases hlt : k < 32
    · have cx := Bx.cell k
      rw [vals_get _ _ _ _ hlt, show f k = wd f k by unfold wd; rw [if_pos hlt]] at cx
      have cb := Bo.cell k
      rw [vals_get _ _ _ _ (by omega)] at cb
      have fb := Bo.frozen k
      have HBx := hide Bx
      have HBz := hide Bz
      have HB := hide (upd_vals .u8 64 (fun _ => 0) (wd f) k _ _ _ Bo)
      have HL := hide L
      clear Bx Bz Bo L
      have hk0 : (0 : Int) ≤ (k : Int) := by omega
      have hk4 : (k : Int) < 32 := by omega
      have hk6 : (k : Int) < 64 := by omega
      go_wp2
      go_roundw
      case rel => exact ⟨k + 1, by omega, by go_num, HBx.out.setOther _ _ (by omega), ⟨z, hz, HBz.out.setOther _ _ (by omega)⟩, HB.out, HL.out.setCell (by show w.heap.size ≤ w.heap.size + 2; omega) _⟩
      case measure => simp [intOf]; omega
    · have e4 : k = 32 := by omega
      subst e4
      have HB := hide (Bo.cast (vals_congr _ 64 _ (wd f) fun j _ => by
        by_cases h : j < 32
        · rw [if_pos h]
        · rw [if_neg h]; unfold wd; rw [if_neg h]))
      have HBz := hide Bz
      have HL := hide L
      clear Bx Bz Bo L
      go_wp2_with (first
        | (refine wpList_load_row rfl 22 _ rfl (w.heap.size + 2) rfl 22 _ (0, 0) _ HB.out Tryd.underlying22 rfl (by rw [vals_size]; exact cells22) ?_)
        | (refine wpList_store_row rfl 22 _ _ rfl (w.heap.size + 1) (vals .u8 64 (wd f)) rfl rfl 22 z HBz.out (by rw [vals_size]; exact cells22) (by rw [vals_size]; exact hz) (vals_one _ _ _) ?_))
      refine bodyPost_ret (v := .agg (vals .u8 64 (wd f))) (results_cell_row Tryd.results16 _ _ (w.heap.size + 1) 22 _ (0, 0) _ rfl (HBz.out.row _) Tryd.underlying22 rfl (by rw [vals_size]; exact cells22)) rfl ⟨rfl, ?_⟩
      exact Below.row HL.out (by omega) _
theorem wide_at (f : Nat → Nat) (args : Array Value) (w : World) (h : args = #[ba f]) :
    Calls Tryd.prog 16 args w fun e w' => e = .returned (bb (wd f)) ∧ Below w.heap.size w w' := by
  subst h; exact wide_any f w

set_option maxHeartbeats 400000 in
theorem small_any (n : Nat) (w : World) (hn : n < 2 ^ 64) :
    Calls Tryd.prog 17 #[.int .u64 n] w fun e w' => e = .returned (ba (byt n)) ∧ Below w.heap.size w w' := by
  have Hn := hide hn
  clear hn
  go_enter Tryd.func17, Tryd.ntmps17
  go_wp2_with (first
    | (refine wpList_build rfl 23 #[] rfl (by simp [built23]) ?_; simp only [List.map_toArray, List.map_nil, built23, Option.getD_some])
    | (refine wpList_store_row rfl 23 _ _ rfl (w.heap.size + 1) (vals .u8 32 (fun _ => 0)) rfl rfl 23 _ (Blk.new' _ _ (by simp) _ _) (by rw [vals_size]; exact cells23) (by rw [vals_size]; rfl) (vals_one _ _ _) ?_))
  go_loopw [4] (fun i wr => ∃ k : Nat, k ≤ 8 ∧ i = .int .i64 k ∧ (∃ z, z.size = 32 ∧ Blk wr w.heap.size z 23) ∧ Blk wr (w.heap.size + 1) (vals .u8 32 (fun j => if j < k then byt n j else 0)) 23 ∧ Below w.heap.size w wr) (fun i _ => 8 - (intOf i).toNat)
  case atStart =>
    refine ⟨0, by omega, rfl, ⟨vals .u8 32 (fun _ => 0), vals_size _ _ _, ?_⟩, ?_, ?_⟩
    · exact ((Blk.new w _ _).alloc _).rowOther _ (by omega)
    · exact ((Blk.new' (w.alloc _) (w.heap.size + 1) (by simp) _ _).row _).cast (vals_congr _ _ _ _ fun j _ => by simp)
    · exact Below.row (((Below.refl _ w).alloc (Nat.le_refl _) _).alloc (by simp) _) (by omega) _
  case round =>
    obtain ⟨k, hk, rfl, ⟨z, hz, Bz⟩, Bb, L⟩ := hrel
    by_cases hlt : k < 8
    · have cb := Bb.cell k
      rw [vals_get _ _ _ _ (by omega)] at cb
      have fb := Bb.frozen k
      have HBz := hide Bz
      have HB := hide (upd_vals .u8 32 (fun _ => 0) (byt n) k _ _ _ Bb)
      have HL := hide L
      clear Bz Bb L
      have hk0 : (0 : Int) ≤ (k : Int) := by omega
      have hk4 : (k : Int) < 8 := by omega
      have Hi := hide (word_int n k)
      go_wp2
      rw [Hi.out]
      go_roundw
      case rel => exact ⟨k + 1, by omega, by go_num, ⟨z, hz, HBz.out.setOther _ _ (by omega)⟩, HB.out, HL.out.setCell (by show w.heap.size ≤ w.heap.size + 1; omega) _⟩
      case measure => simp [intOf]; omega
    · have e4 : k = 8 := by omega
      subst e4
      have HBz := hide Bz
      have HB := hide (Bb.cast (vals_congr _ 32 _ (byt n) fun j hj => by
        by_cases h : j < 8
        · simp [h]
        · rw [if_neg h, byt_zero n j 8 Hn.out (by omega)]))
      have HL := hide L
      clear Bz Bb L
      go_wp2_with (first
        | (refine wpList_load_row rfl 23 _ rfl (w.heap.size + 1) rfl 23 _ (0, 0) _ HB.out Tryd.underlying23 rfl (by rw [vals_size]; exact cells23) ?_)
        | (refine wpList_store_row rfl 23 _ _ rfl w.heap.size (vals .u8 32 (byt n)) rfl rfl 23 z HBz.out (by rw [vals_size]; exact cells23) (by rw [vals_size]; exact hz) (vals_one _ _ _) ?_))
      refine bodyPost_ret (v := .agg (vals .u8 32 (byt n))) (results_cell_row Tryd.results17 _ _ w.heap.size 23 _ (0, 0) _ rfl (HBz.out.row _) Tryd.underlying23 rfl (by rw [vals_size]; exact cells23)) rfl ⟨rfl, ?_⟩
      exact Below.row HL.out (Nat.le_refl _) _
theorem small_at (n : Nat) (args : Array Value) (w : World) (h : args = #[.int .u64 n]) (hn : n < 2 ^ 64) :
    Calls Tryd.prog 17 args w fun e w' => e = .returned (ba (byt n)) ∧ Below w.heap.size w w' := by
  subst h; exact small_any n w hn
end Go.Proofs.YtokhmhodkakioaaDoor

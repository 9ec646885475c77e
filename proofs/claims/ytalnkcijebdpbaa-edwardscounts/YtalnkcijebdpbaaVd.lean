/- Walks of the reference: Load, Bytes, Add. -/
import Derived.Test.YtalnkcijebdpbaaVc
import Derived.Test.YtalnkcijebdpbaaWi
namespace Go.Proofs.Ytalnkcijebdpbaa.F
open Go.RowKit

theorem folded_at (l : Nat → Nat) (args : Array Value) (w : World) (h : args = #[.agg (vals .u64 32 l)]) (hl : ∀ j, l j < 2 ^ 40) (hv : pv l 32 < 2 ^ 256 * 2 ^ 256) :
    Calls Try.prog 70 args w fun e w' => e = .returned (rn (pv l 32 % pP)) ∧ Below w.heap.size w w' := by subst h; exact folded_any l w hl hv
/-- The digits of bytes. -/
def bd (f : Nat → Nat) (j : Nat) : Nat := if j < 16 then f (2 * j) + 256 * f (2 * j + 1) else 0
theorem bd_lt (f : Nat → Nat) (hf : ∀ i, f i < 256) (j : Nat) : bd f j < 65536 := by
  unfold bd
  split
  · have h1 := hf (2 * j); have h2 := hf (2 * j + 1); omega
  · omega
theorem pv_bd (f : Nat → Nat) : ∀ k, k ≤ 16 → pv (bd f) k = nb f (2 * k)
  | 0, _ => rfl
  | k + 1, h => by
    have ih := pv_bd f k (by omega)
    have e1 : 2 ^ (8 * (2 * k)) = 2 ^ (16 * k) := by congr 1; omega
    have e2 : 2 ^ (8 * (2 * k + 1)) = 2 ^ (16 * k) * 256 := by rw [show 8 * (2 * k + 1) = 16 * k + 8 by omega, Nat.pow_add]
    rw [pv, ih, show 2 * (k + 1) = 2 * k + 1 + 1 by omega, nb, nb, e1, e2, bd, if_pos (by omega)]
    grind
theorem pv_bd32 (f : Nat → Nat) : pv (bd f) 32 = nb f 32 := by
  rw [show 32 = 16 + 16 from rfl, pv_stop (bd f) 16 16 fun j hj => by unfold bd; rw [if_neg (by omega)]]
  exact pv_bd f 16 (by omega)
/-- Digits, of which the first sixteen so far. -/
theorem stop16 (g : Nat → Nat) (hg : ∀ j, 16 ≤ j → g j = 0) (j : Nat) : (if j < 16 then g j else 0) = g j := by
  by_cases h : j < 16
  · rw [if_pos h]
  · rw [if_neg h, hg j (by omega)]

set_option maxHeartbeats 1000000 in
theorem refLoad_any (f : Nat → Nat) (w : World) (hf : ∀ i, f i < 256) :
    Calls Try.prog 46 #[ba f] w fun e w' => e = .returned (rn (nb f 32 % pP)) ∧ Below w.heap.size w w' := by
  have Hf := hide hf
  clear hf
  unfold ba
  go_enter Try.func46, Try.ntmps46
  go_wp2_with (first
    | (refine wpList_build rfl 103 #[] rfl (by simp [built62]) ?_; simp only [List.map_toArray, List.map_nil, built62, Option.getD_some])
    | (refine wpList_store_row rfl 103 _ _ rfl (w.heap.size + 2) (vals .u64 32 (fun _ => 0)) rfl rfl 103 _ (Blk.new' _ _ (by simp) _ _) (by rw [vals_size]; exact cells62) (by rw [vals_size]; rfl) (vals_one _ _ _) ?_))
  go_loopw [4] (fun i wr => ∃ k : Nat, k ≤ 16 ∧ i = .int .i64 k ∧ Blk wr w.heap.size (vals .u8 32 f) 22 ∧ (∃ z, z.size = 16 ∧ Blk wr (w.heap.size + 1) z 33) ∧ Blk wr (w.heap.size + 2) (vals .u64 32 (fun j => if j < k then bd f j else 0)) 103 ∧ Below w.heap.size w wr) (fun i _ => 16 - (intOf i).toNat)
  case atStart =>
    refine ⟨0, by omega, rfl, ?_, ⟨vals .u64 16 (fun _ => 0), vals_size _ _ _, ?_⟩, ?_, ?_⟩
    · exact (((Blk.new w _ _).alloc _).alloc _).rowOther _ (by omega)
    · exact ((Blk.new' (w.alloc _) (w.heap.size + 1) (by simp) _ _).alloc _).rowOther _ (by omega)
    · exact ((Blk.new' ((w.alloc _).alloc _) (w.heap.size + 2) (by simp) _ _).row _).cast (vals_congr _ _ _ _ fun j _ => by simp)
    · exact Below.row ((((Below.refl _ w).alloc (Nat.le_refl _) _).alloc (by simp) _).alloc (by simp; omega) _) (by omega) _
  case round =>
    obtain ⟨k, hk, rfl, Bx, ⟨z, hz, Bz⟩, Bo, L⟩ := hrel
    by_cases hlt : k < 16
    · have c1 := Bx.cell (2 * k)
      rw [vals_get _ _ _ _ (by omega)] at c1
      have c2 := Bx.cell (2 * k + 1)
      rw [vals_get _ _ _ _ (by omega)] at c2
      have co := Bo.cell k
      rw [vals_get _ _ _ _ (by omega)] at co
      have fo' := Bo.frozen k
      have hf1 := Hf.out (2 * k)
      have hf2 := Hf.out (2 * k + 1)
      have Hw : Hid (((f (2 * k) : Nat) : Int) + 256 * ((f (2 * k + 1) : Nat) : Int) = ((bd f k : Nat) : Int)) := hide (by unfold bd; rw [if_pos hlt]; omega)
      have HB := hide (upd_vals .u64 32 (fun _ => 0) (bd f) k _ _ _ Bo.drew)
      have HBx := hide Bx
      have HBz := hide Bz
      have HL := hide L
      clear Bx Bz Bo L
      have hk0 : (0 : Int) ≤ (k : Int) := by omega
      have hk4 : (k : Int) < 32 := by omega
      have hk5 : (k : Int) < 16 := by omega
      have h20 : (0 : Int) ≤ 2 * (k : Int) := by omega
      have h24 : 2 * (k : Int) < 32 := by omega
      have h2n : (2 * (k : Int)).toNat = 2 * k := by omega
      have h2w : IntKind.i64.wrap (2 * (k : Int)) = 2 * (k : Int) := wrap_i64_small _ h20 (by omega)
      have h30 : (0 : Int) ≤ 2 * (k : Int) + 1 := by omega
      have h34 : 2 * (k : Int) + 1 < 32 := by omega
      have h3n : (2 * (k : Int) + 1).toNat = 2 * k + 1 := by omega
      have h3w : IntKind.i64.wrap (2 * (k : Int) + 1) = 2 * (k : Int) + 1 := wrap_i64_small _ h30 (by omega)
      go_wp2
      go_region_with (fail)
      all_goals
        go_wp2
        rw [Hw.out]
        go_roundw
        case rel => exact ⟨k + 1, by omega, by go_num, (HBx.out.setOther _ _ (by omega)).drew, ⟨z, hz, (HBz.out.setOther _ _ (by omega)).drew⟩, HB.out, (HL.out.setCell (by show w.heap.size ≤ w.heap.size + 2; omega) _).drew⟩
        case measure => simp [intOf]; omega
    · have e16 : k = 16 := by omega
      subst e16
      have HB := hide (Bo.cast (vals_congr _ 32 _ (bd f) fun j _ => stop16 (bd f) (fun j hj => by unfold bd; rw [if_neg (by omega)]) j))
      have HBz := hide Bz
      have HL := hide L
      clear Bx Bz Bo L
      go_wp2_with (first
        | (refine wpList_load_row rfl 103 _ rfl (w.heap.size + 2) rfl 103 _ (0, 0) _ HB.out Try.underlying103 rfl (by rw [vals_size]; exact cells62) ?_)
        | (go_at_call 70; refine (folded_at (bd f) _ _ rfl (fun j => by have := bd_lt f Hf.out j; omega) (by rw [pv_bd32]; have := nb_lt f Hf.out 32; omega)).mono ?_; rw [pv_bd32]; unfold rn; rintro e w1 ⟨rfl, hb1⟩; have HBz1 := hide (HBz.out.call hb1); have HL1 := hide (HL.out.trans (hb1.mono HL.out.size)); clear hb1; dsimp only)
        | (refine wpList_store_row rfl 33 _ _ rfl (w.heap.size + 1) (vals .u64 16 (dg (nb f 32 % pP))) rfl rfl 33 z HBz1.out (by rw [vals_size]; exact cells31) (by rw [vals_size]; exact hz) (vals_one _ _ _) ?_))
      refine bodyPost_ret (v := .agg (vals .u64 16 (dg (nb f 32 % pP)))) (results_cell_row Try.results46 _ _ (w.heap.size + 1) 33 _ (0, 0) _ rfl (HBz1.out.row _) Try.underlying33 rfl (by rw [vals_size]; exact cells31)) rfl ⟨rfl, ?_⟩
      exact Below.row HL1.out (by omega) _
theorem refLoad_at (f : Nat → Nat) (args : Array Value) (w : World) (h : args = #[ba f]) (hf : ∀ i, f i < 256) :
    Calls Try.prog 46 args w fun e w' => e = .returned (rn (nb f 32 % pP)) ∧ Below w.heap.size w w' := by subst h; exact refLoad_any f w hf

end Go.Proofs.Ytalnkcijebdpbaa.F

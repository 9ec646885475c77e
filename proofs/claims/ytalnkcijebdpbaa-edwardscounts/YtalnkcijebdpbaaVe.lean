/- Walks of the reference: Bytes. -/
import Derived.Test.YtalnkcijebdpbaaVa
import Derived.Test.YtalnkcijebdpbaaWh
namespace Go.Proofs.Ytalnkcijebdpbaa.F
open Go.RowKit

theorem built22 : Try.prog.built 22 [] = some (vals .u8 32 (fun _ => 0)) := by kernel_rfl
theorem byt_even (n k : Nat) : dg n k % 256 = byt n (2 * k) := by
  unfold dg byt
  rw [show 8 * (2 * k) = 16 * k by omega]
  omega
theorem byt_odd (n k : Nat) : dg n k / 256 % 256 = byt n (2 * k + 1) := by
  unfold dg byt
  rw [show 8 * (2 * k + 1) = 16 * k + 8 by omega, Nat.pow_add, ← Nat.div_div_eq_div_mul]
  omega
theorem upd2 (n k j : Nat) : (if j = 2 * k + 1 then byt n (2 * k + 1) else (if j = 2 * k then byt n (2 * k) else (if j < 2 * k then byt n j else 0))) = if j < 2 * (k + 1) then byt n j else 0 := by
  by_cases h1 : j = 2 * k + 1
  · subst h1; rw [if_pos rfl, if_pos (by omega)]
  · rw [if_neg h1]
    by_cases h2 : j = 2 * k
    · subst h2; rw [if_pos rfl, if_pos (by omega)]
    · rw [if_neg h2]
      by_cases h3 : j < 2 * k
      · rw [if_pos h3, if_pos (by omega)]
      · rw [if_neg h3, if_neg (by omega)]

set_option maxHeartbeats 1000000 in
theorem refBytes_any (n : Nat) (w : World) :
    Calls Try.prog 17 #[rn n] w fun e w' => e = .returned (ba (byt n)) ∧ Below w.heap.size w w' := by
  unfold rn
  go_enter Try.func17, Try.ntmps17
  go_wp2_with (first
    | (refine wpList_build rfl 22 #[] rfl (by simp [built22]) ?_; simp only [List.map_toArray, List.map_nil, built22, Option.getD_some])
    | (refine wpList_store_row rfl 22 _ _ rfl (w.heap.size + 2) (vals .u8 32 (fun _ => 0)) rfl rfl 22 _ (Blk.new' _ _ (by simp) _ _) (by rw [vals_size]; exact cells22) (by rw [vals_size]; rfl) (vals_one _ _ _) ?_))
  go_loopw [4] (fun i wr => ∃ k : Nat, k ≤ 16 ∧ i = .int .i64 k ∧ Blk wr w.heap.size (vals .u64 16 (dg n)) 33 ∧ (∃ z, z.size = 32 ∧ Blk wr (w.heap.size + 1) z 22) ∧ Blk wr (w.heap.size + 2) (vals .u8 32 (fun j => if j < 2 * k then byt n j else 0)) 22 ∧ Below w.heap.size w wr) (fun i _ => 16 - (intOf i).toNat)
  case atStart =>
    refine ⟨0, by omega, rfl, ?_, ⟨vals .u8 32 (fun _ => 0), vals_size _ _ _, ?_⟩, ?_, ?_⟩
    · exact (((Blk.new w _ _).alloc _).alloc _).rowOther _ (by omega)
    · exact ((Blk.new' (w.alloc _) (w.heap.size + 1) (by simp) _ _).alloc _).rowOther _ (by omega)
    · exact ((Blk.new' ((w.alloc _).alloc _) (w.heap.size + 2) (by simp) _ _).row _).cast (vals_congr _ _ _ _ fun j _ => by simp)
    · exact Below.row ((((Below.refl _ w).alloc (Nat.le_refl _) _).alloc (by simp) _).alloc (by simp; omega) _) (by omega) _
  case round =>
    obtain ⟨k, hk, rfl, Bx, ⟨z, hz, Bz⟩, Bo, L⟩ := hrel
    by_cases hlt : k < 16
    · have c1 := Bx.cell k
      rw [vals_get _ _ _ _ (by omega)] at c1
      have co := Bo.cell (2 * k)
      rw [vals_get _ _ _ _ (by omega)] at co
      have co2 := Bo.cell (2 * k + 1)
      rw [vals_get _ _ _ _ (by omega)] at co2
      have fo1 := Bo.frozen (2 * k)
      have fo2 := Bo.frozen (2 * k + 1)
      have hd := dg_lt n k
      have He : Hid (((dg n k : Nat) : Int) % 256 = ((byt n (2 * k) : Nat) : Int)) := hide (by rw [← byt_even]; omega)
      have Hod : Hid (((dg n k : Nat) : Int) / 256 = ((byt n (2 * k + 1) : Nat) : Int)) := hide (by rw [← byt_odd]; omega)
      have HB := hide (Blk.cast (c' := vals .u8 32 (fun j => if j < 2 * (k + 1) then byt n j else 0)) ((Bo.set (2 * k) (.int .u8 (byt n (2 * k) : Nat))).set (2 * k + 1) (.int .u8 (byt n (2 * k + 1) : Nat))) (by
        rw [vals_set, vals_set]
        exact vals_congr _ _ _ _ fun j _ => upd2 n k j))
      have HBx := hide Bx
      have HBz := hide Bz
      have HL := hide L
      clear Bx Bz Bo L
      have hk0 : (0 : Int) ≤ (k : Int) := by omega
      have hk5 : (k : Int) < 16 := by omega
      have h20 : (0 : Int) ≤ 2 * (k : Int) := by omega
      have h24 : 2 * (k : Int) < 32 := by omega
      have h2n : (2 * (k : Int)).toNat = 2 * k := by omega
      have h2w : IntKind.i64.wrap (2 * (k : Int)) = 2 * (k : Int) := wrap_i64_small _ h20 (by omega)
      have h30 : (0 : Int) ≤ 2 * (k : Int) + 1 := by omega
      have h34 : 2 * (k : Int) + 1 < 32 := by omega
      have h3n : (2 * (k : Int) + 1).toNat = 2 * k + 1 := by omega
      have h3w : IntKind.i64.wrap (2 * (k : Int) + 1) = 2 * (k : Int) + 1 := wrap_i64_small _ h30 (by omega)
      go_wp2
      rw [He.out]
      rw [Hod.out]
      go_roundw
      case rel => exact ⟨k + 1, by omega, by go_num, (HBx.out.setOther _ _ (by omega)).setOther _ _ (by omega), ⟨z, hz, (HBz.out.setOther _ _ (by omega)).setOther _ _ (by omega)⟩, HB.out, (HL.out.setCell (by show w.heap.size ≤ w.heap.size + 2; omega) _).setCell (by show w.heap.size ≤ w.heap.size + 2; omega) _⟩
      case measure => simp [intOf]; omega
    · have e16 : k = 16 := by omega
      subst e16
      have HB := hide (Bo.cast (vals_congr _ 32 _ (byt n) fun j hj => by rw [if_pos (by omega)]))
      have HBz := hide Bz
      have HL := hide L
      clear Bx Bz Bo L
      go_wp2_with (first
        | (refine wpList_load_row rfl 22 _ rfl (w.heap.size + 2) rfl 22 _ (0, 0) _ HB.out Try.underlying22 rfl (by rw [vals_size]; exact cells22) ?_)
        | (refine wpList_store_row rfl 22 _ _ rfl (w.heap.size + 1) (vals .u8 32 (byt n)) rfl rfl 22 z HBz.out (by rw [vals_size]; exact cells22) (by rw [vals_size]; exact hz) (vals_one _ _ _) ?_))
      refine bodyPost_ret (v := ba (byt n)) (results_cell_row Try.results17 _ _ (w.heap.size + 1) 22 _ (0, 0) _ rfl (HBz.out.row _) Try.underlying22 rfl (by rw [vals_size]; exact cells22)) rfl ⟨rfl, ?_⟩
      exact Below.row HL.out (by omega) _
theorem refBytes_at (n : Nat) (args : Array Value) (w : World) (h : args = #[rn n]) :
    Calls Try.prog 17 args w fun e w' => e = .returned (ba (byt n)) ∧ Below w.heap.size w w' := by subst h; exact refBytes_any n w

end Go.Proofs.Ytalnkcijebdpbaa.F

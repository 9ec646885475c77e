/- Walks of the reference: half. -/
import Derived.Test.YtalnkcijebdpbaaVd
namespace Go.Proofs.Ytalnkcijebdpbaa.F
open Go.RowKit

theorem dg_half (a i : Nat) : dg (a / 2) i = dg a i / 2 + dg a (i + 1) % 2 * 32768 := by
  unfold dg
  rw [d_succ, ← Nat.div_div_eq_div_mul a (2 ^ (16 * i)) 65536, Nat.div_div_eq_div_mul a 2, Nat.mul_comm 2, ← Nat.div_div_eq_div_mul]
  generalize a / 2 ^ (16 * i) = A
  omega
theorem upd_one (n k v : Nat) (g : Nat → Nat) (h : v = g k) (j : Nat) : (if j = k then v else (if j < k then g j else n)) = if j < k + 1 then g j else n := by
  by_cases h1 : j = k
  · subst h1; rw [if_pos rfl, if_pos (by omega), h]
  · rw [if_neg h1]
    by_cases h2 : j < k
    · rw [if_pos h2, if_pos (by omega)]
    · rw [if_neg h2, if_neg (by omega)]
theorem upd_two (n k v v' : Nat) (g : Nat → Nat) (h : v = g k) (j : Nat) : (if j = k then v else (if j = k then v' else (if j < k then g j else n))) = if j < k + 1 then g j else n := by
  by_cases h1 : j = k
  · subst h1; rw [if_pos rfl, if_pos (by omega), h]
  · rw [if_neg h1, if_neg h1]
    by_cases h2 : j < k
    · rw [if_pos h2, if_pos (by omega)]
    · rw [if_neg h2, if_neg (by omega)]
set_option maxHeartbeats 1000000 in
theorem refHalf_any (a : Nat) (w : World) (ha : a < 2 ^ 256) :
    Calls Try.prog 75 #[rn a] w fun e w' => e = .returned (rn (a / 2)) ∧ Below w.heap.size w w' := by
  have Ha := hide ha
  clear ha
  unfold rn
  go_enter Try.func75, Try.ntmps75
  go_wp2_with (first
    | (refine wpList_build rfl 33 #[] rfl (by simp [built31]) ?_; simp only [List.map_toArray, List.map_nil, built31, Option.getD_some])
    | (refine wpList_store_row rfl 33 _ _ rfl (w.heap.size + 2) (vals .u64 16 (fun _ => 0)) rfl rfl 33 _ (Blk.new' _ _ (by simp) _ _) (by rw [vals_size]; exact cells31) (by rw [vals_size]; rfl) (vals_one _ _ _) ?_))
  go_loopw [4] (fun i wr => ∃ k : Nat, k ≤ 16 ∧ i = .int .i64 k ∧ Blk wr w.heap.size (vals .u64 16 (dg a)) 33 ∧ (∃ z, z.size = 16 ∧ Blk wr (w.heap.size + 1) z 33) ∧ Blk wr (w.heap.size + 2) (vals .u64 16 (fun j => if j < k then dg (a / 2) j else 0)) 33 ∧ Below w.heap.size w wr) (fun i _ => 16 - (intOf i).toNat)
  case atStart =>
    refine ⟨0, by omega, rfl, ?_, ⟨vals .u64 16 (fun _ => 0), vals_size _ _ _, ?_⟩, ?_, ?_⟩
    · exact (((Blk.new w _ _).alloc _).alloc _).rowOther _ (by omega)
    · exact ((Blk.new' (w.alloc _) (w.heap.size + 1) (by simp) _ _).alloc _).rowOther _ (by omega)
    · exact ((Blk.new' ((w.alloc _).alloc _) (w.heap.size + 2) (by simp) _ _).row _).cast (vals_congr _ _ _ _ fun j _ => by simp)
    · exact Below.row ((((Below.refl _ w).alloc (Nat.le_refl _) _).alloc (by simp) _).alloc (by simp; omega) _) (by omega) _
  case round =>
    obtain ⟨k, hk, rfl, Bx, ⟨z, hz, Bz⟩, Bo, L⟩ := hrel
    by_cases hlt : k < 16
    · have c1 := Bx.cell k
      rw [vals_get _ _ _ _ (by omega)] at c1
      have co := Bo.cell k
      rw [vals_get _ _ _ _ (by omega)] at co
      have fo' := Bo.frozen k
      have hd := dg_lt a k
      have hk0 : (0 : Int) ≤ (k : Int) := by omega
      have hk5 : (k : Int) < 16 := by omega
      have Hh := hide (dg_half a k)
      by_cases h15 : k < 15
      · have hk15 : (k : Int) < 15 := by omega
        have c2 := Bx.cell (k + 1)
        rw [vals_get _ _ _ _ (by omega)] at c2
        have hs0 : (0 : Int) ≤ (k : Int) + 1 := by omega
        have hs4 : (k : Int) + 1 < 16 := by omega
        have hsn : ((k : Int) + 1).toNat = k + 1 := by omega
        have hsw : IntKind.i64.wrap ((k : Int) + 1) = (k : Int) + 1 := wrap_i64_small _ hs0 (by omega)
        have hd2 := dg_lt a (k + 1)
        go_upto_region 7 with (fail)
        have e2 : ((dg a k : Nat) : Int) / 2 = ((dg a k / 2 : Nat) : Int) := by omega
        rw [e2]
        clear e2 co fo' c1 c2
        obtain ⟨w7, hw7⟩ : ∃ w7, w7 = wr.setCell ⟨w.heap.size + 1 + 1, k, none⟩ (.int .u64 (dg a k / 2 : Nat)) := ⟨_, rfl⟩
        rw [← hw7]
        have B7 : Blk w7 (w.heap.size + 2) (vals .u64 16 (fun j => if j = k then dg a k / 2 else (if j < k then dg (a / 2) j else 0))) 33 := by
          rw [hw7]
          exact (Bo.set k (.int .u64 (dg a k / 2 : Nat))).cast (vals_set _ _ _ _ _)
        have X7 : Blk w7 w.heap.size (vals .u64 16 (dg a)) 33 := by rw [hw7]; exact Bx.setOther _ _ (by omega)
        have Z7 : Blk w7 (w.heap.size + 1) z 33 := by rw [hw7]; exact Bz.setOther _ _ (by omega)
        have L7 : Below w.heap.size w w7 := by rw [hw7]; exact L.setCell (by show w.heap.size ≤ w.heap.size + 2; omega) _
        clear Bx Bz Bo L hw7
        have c7 := B7.cell k
        rw [vals_get _ _ _ _ (by omega), if_pos rfl] at c7
        have f7 := B7.frozen k
        have c8 := X7.cell (k + 1)
        rw [vals_get _ _ _ _ (by omega)] at c8
        obtain ⟨y, hy⟩ : ∃ y, y = dg a (k + 1) := ⟨_, rfl⟩
        obtain ⟨x, hx⟩ : ∃ x, x = dg a k / 2 := ⟨_, rfl⟩
        rw [← hx, ← hy] at Hh
        rw [← hy] at c8 hd2
        rw [← hx] at c7
        rw [← hx]
        have hx2 : x < 32768 := by omega
        have Hv : Hid ((x : Int) + (y : Int) % 2 * 65536 / 2 = ((dg (a / 2) k : Nat) : Int)) := hide (by rw [Hh.out]; omega)
        have HB := hide (Blk.cast (c' := vals .u64 16 (fun j => if j < k + 1 then dg (a / 2) j else 0)) ((B7.set k (.int .u64 (dg (a / 2) k : Nat))).drew) (by
          rw [vals_set]
          exact vals_congr _ _ _ _ fun j _ => upd_two 0 k _ _ (dg (a / 2)) rfl j))
        have HBx := hide X7
        have HBz := hide Z7
        have HL := hide L7
        clear B7 X7 Z7 L7 hx hy
        go_region_with (fail)
        all_goals
          go_wp2
          first | rw [Hv.out] | trace_state
          go_roundw
          case rel => exact ⟨k + 1, by omega, by go_num, (HBx.out.setOther _ _ (by omega)).drew, ⟨z, hz, (HBz.out.setOther _ _ (by omega)).drew⟩, HB.out, (HL.out.setCell (by show w.heap.size ≤ w.heap.size + 2; omega) _).drew⟩
          case measure => simp [intOf]; omega
      · have e15 : k = 15 := by omega
        subst e15
        have Hz : Hid (dg a 16 = 0) := hide (dg_zero a 16 16 Ha.out (by omega))
        have Hv : Hid (((dg a 15 : Nat) : Int) / 2 = ((dg (a / 2) 15 : Nat) : Int)) := hide (by rw [Hh.out, Hz.out]; omega)
        have HB := hide (Blk.cast (c' := vals .u64 16 (fun j => if j < 15 + 1 then dg (a / 2) j else 0)) (Bo.set 15 (.int .u64 (dg (a / 2) 15 : Nat))) (by
          rw [vals_set]
          exact vals_congr _ _ _ _ fun j _ => upd_one 0 15 _ (dg (a / 2)) rfl j))
        have HBx := hide Bx
        have HBz := hide Bz
        have HL := hide L
        clear Bx Bz Bo L
        rw [show ((15 : Nat) : Int) = 15 from rfl]
        go_wp2
        rw [Hv.out]
        go_roundw
        case rel => exact ⟨15 + 1, by omega, by go_num, HBx.out.setOther _ _ (by omega), ⟨z, hz, HBz.out.setOther _ _ (by omega)⟩, HB.out, HL.out.setCell (by show w.heap.size ≤ w.heap.size + 2; omega) _⟩
        case measure => simp [intOf]
    · have e16 : k = 16 := by omega
      subst e16
      have HB := hide (Bo.cast (vals_congr _ 16 _ (dg (a / 2)) fun j hj => by simp [hj]))
      have HBz := hide Bz
      have HL := hide L
      clear Bx Bz Bo L
      go_wp2_with (first
        | (refine wpList_load_row rfl 33 _ rfl (w.heap.size + 2) rfl 33 _ (0, 0) _ HB.out Try.underlying33 rfl (by rw [vals_size]; exact cells31) ?_)
        | (refine wpList_store_row rfl 33 _ _ rfl (w.heap.size + 1) (vals .u64 16 (dg (a / 2))) rfl rfl 33 z HBz.out (by rw [vals_size]; exact cells31) (by rw [vals_size]; exact hz) (vals_one _ _ _) ?_))
      refine bodyPost_ret (v := .agg (vals .u64 16 (dg (a / 2)))) (results_cell_row Try.results75 _ _ (w.heap.size + 1) 33 _ (0, 0) _ rfl (HBz.out.row _) Try.underlying33 rfl (by rw [vals_size]; exact cells31)) rfl ⟨rfl, ?_⟩
      exact Below.row HL.out (by omega) _
theorem refHalf_at (a : Nat) (args : Array Value) (w : World) (h : args = #[rn a]) (ha : a < 2 ^ 256) :
    Calls Try.prog 75 args w fun e w' => e = .returned (rn (a / 2)) ∧ Below w.heap.size w w' := by subst h; exact refHalf_any a w ha

end Go.Proofs.Ytalnkcijebdpbaa.F

/- Walks of the reference: P, Less, less. -/
import Derived.Test.YtalnkcijebdpbaaRf
import Derived.Test.YtalnkcijebdpbaaWt
namespace Go.Proofs.Ytalnkcijebdpbaa.F
open Go.RowKit

/-- A number of sixteen digits, as the reference has it. -/
def rn (n : Nat) : Value := .agg (vals .u64 16 (dg n))
theorem cells31 : (Try.prog.info? 33).map (·.size) = some 16 := by kernel_rfl
theorem cells62 : (Try.prog.info? 103).map (·.size) = some 32 := by kernel_rfl
theorem built31 : Try.prog.built 33 [] = some (vals .u64 16 (fun _ => 0)) := by kernel_rfl
theorem built62 : Try.prog.built 103 [] = some (vals .u64 32 (fun _ => 0)) := by kernel_rfl
set_option maxHeartbeats 400000 in
theorem refP_any (w : World) :
    Calls Try.prog 72 #[] w fun e w' => e = .returned (rn pP) ∧ Below w.heap.size w w' := by
  unfold rn
  have E0 := Blk.new' (w.alloc (.cells (vals .u64 16 (fun _ => 0)) 33)) (w.heap.size + 1) (by simp) (vals .u64 16 (fun _ => 0)) 33
  have E1 := (Blk.new w (vals .u64 16 (fun _ => 0)) 33).alloc (.cells (vals .u64 16 (fun _ => 0)) 33)
  have L0 : Below w.heap.size w ((w.alloc (.cells (vals .u64 16 (fun _ => 0)) 33)).alloc (.cells (vals .u64 16 (fun _ => 0)) 33)) := ((Below.refl _ w).alloc (Nat.le_refl _) _).alloc (by simp) _
  have HE0 := hide E0
  have HE1 := hide E1
  have HL0 := hide L0
  clear E0 E1 L0
  go_enter Try.func72, Try.ntmps72
  go_wp2_with (first
    | (refine wpList_build rfl 33 #[] rfl (by simp [built31]) ?_; simp only [List.map_toArray, List.map_nil, built31, Option.getD_some])
    | (refine wpList_store_row rfl 33 _ _ rfl (w.heap.size + 1) (vals .u64 16 (fun _ => 0)) rfl rfl 33 _ (Blk.new' _ _ (by simp) _ _) (by rw [vals_size]; exact cells31) (by rw [vals_size]; rfl) (vals_one _ _ _) ?_))
  go_loopw [2] (fun i wr => ∃ k : Nat, k ≤ 16 ∧ i = .int .i64 k ∧ Blk wr (w.heap.size + 1) (vals .u64 16 (fun j => if j < k then 65535 else 0)) 33 ∧ (∃ z, z.size = 16 ∧ Blk wr w.heap.size z 33) ∧ Below w.heap.size w wr) (fun i _ => 16 - (intOf i).toNat)
  case atStart =>
    refine ⟨0, by omega, rfl, ?_, ⟨vals .u64 16 (fun _ => 0), vals_size _ _ _, ?_⟩, ?_⟩
    · exact (HE0.out.row _).cast (vals_congr _ _ _ _ fun j _ => by simp)
    · exact HE1.out.rowOther _ (by omega)
    · exact Below.row HL0.out (by omega) _
  case round =>
    clear HE0 HE1 HL0
    obtain ⟨k, hk, rfl, Bb, ⟨z, hz, Bz⟩, L⟩ := hrel
    by_cases hlt : k < 16
    · have cb := Bb.cell k
      rw [vals_get _ _ _ _ (by omega)] at cb
      have fb := Bb.frozen k
      have HB := hide (upd_vals .u64 16 (fun _ => 0) (fun _ => 65535) k _ _ _ Bb)
      have HBz := hide Bz
      have HL := hide L
      clear Bb Bz L
      have hk0 : (0 : Int) ≤ (k : Int) := by omega
      have hk4 : (k : Int) < 16 := by omega
      go_wp2
      go_roundw
      case rel => exact ⟨k + 1, by omega, by go_num, HB.out, ⟨z, hz, HBz.out.setOther _ _ (by omega)⟩, HL.out.setCell (by show w.heap.size ≤ w.heap.size + 1; omega) _⟩
      case measure => simp [intOf]; omega
    · have e4 : k = 16 := by omega
      subst e4
      have c0 := Bb.cell 0
      rw [vals_get _ _ _ _ (by omega)] at c0
      have c15 := Bb.cell 15
      rw [vals_get _ _ _ _ (by omega)] at c15
      have f0 := Bb.frozen 0
      have f15 := Bb.frozen 15
      have HB := hide (Blk.cast (c' := vals .u64 16 (dg pP)) ((Bb.set 0 (.int .u64 (65517 : Nat))).set 15 (.int .u64 (32767 : Nat))) (by
        rw [vals_set, vals_set]
        exact vals_congr _ _ _ _ fun j hj => by rw [dgP j hj]; simp [hj]))
      have HBz := hide ((Bz.setOther 0 (.int .u64 (65517 : Nat)) (show w.heap.size + 1 ≠ w.heap.size by omega)).setOther 15 (.int .u64 (32767 : Nat)) (show w.heap.size + 1 ≠ w.heap.size by omega))
      have HL := hide ((L.setCell (p := ⟨w.heap.size + 1, 0, none⟩) (by show w.heap.size ≤ w.heap.size + 1; omega) (.int .u64 (65517 : Nat))).setCell (p := ⟨w.heap.size + 1, 15, none⟩) (by show w.heap.size ≤ w.heap.size + 1; omega) (.int .u64 (32767 : Nat)))
      clear Bb Bz L
      go_wp2_with (first
        | (refine wpList_load_row rfl 33 _ rfl (w.heap.size + 1) rfl 33 _ (0, 0) _ HB.out Try.underlying33 rfl (by rw [vals_size]; exact cells31) ?_)
        | (refine wpList_store_row rfl 33 _ _ rfl w.heap.size (vals .u64 16 (dg pP)) rfl rfl 33 z HBz.out (by rw [vals_size]; exact cells31) (by rw [vals_size]; exact hz) (vals_one _ _ _) ?_))
      refine bodyPost_ret (v := .agg (vals .u64 16 (dg pP))) (results_cell_row Try.results72 _ _ w.heap.size 33 _ (0, 0) _ rfl (HBz.out.row _) Try.underlying33 rfl (by rw [vals_size]; exact cells31)) rfl ⟨rfl, ?_⟩
      exact Below.row HL.out (Nat.le_refl _) _

set_option maxHeartbeats 1000000 in
theorem refLess_any (a b : Nat) (w : World) (ha : a < 2 ^ 256) (hb : b < 2 ^ 256) :
    Calls Try.prog 82 #[rn a, rn b] w fun e w' => e = .returned (.bool (decide (a < b))) ∧ Below w.heap.size w w' := by
  have Ha := hide ha
  have Hb := hide hb
  clear ha hb
  unfold rn
  go_enter Try.func82, Try.ntmps82
  go_wp2
  go_loopw [5] (fun i wr => ∃ k : Nat, k ≤ 16 ∧ i = .int .i64 ((k : Int) - 1) ∧ a / 2 ^ (16 * k) = b / 2 ^ (16 * k) ∧ Blk wr w.heap.size (vals .u64 16 (dg a)) 33 ∧ Blk wr (w.heap.size + 1) (vals .u64 16 (dg b)) 33 ∧ Below w.heap.size w wr) (fun i _ => (intOf i + 1).toNat)
  case atStart =>
    refine ⟨16, by omega, rfl, ?_, ?_, ?_, ?_⟩
    · rw [Nat.div_eq_of_lt (show a < 2 ^ (16 * 16) from Ha.out), Nat.div_eq_of_lt (show b < 2 ^ (16 * 16) from Hb.out)]
    · exact (Blk.new w _ _).alloc _
    · exact Blk.new' (w.alloc _) (w.heap.size + 1) (by simp) _ _
    · exact ((Below.refl _ w).alloc (Nat.le_refl _) _).alloc (by simp) _
  case round =>
    obtain ⟨k, hk, rfl, hd, Ba, Bb, L⟩ := hrel
    have HL := hide L
    have Hd := hide hd
    clear L hd
    rcases Nat.eq_zero_or_pos k with h0 | h0
    · subst h0
      rw [show ((0 : Nat) : Int) - 1 = -1 from rfl]
      clear Ba Bb
      go_wp2
      go_ret
      have e : a = b := by have := Hd.out; simpa using this
      exact ⟨by subst e; simp, HL.out⟩
    · obtain ⟨m, rfl⟩ : ∃ m, k = m + 1 := ⟨k - 1, by omega⟩
      rw [show ((m + 1 : Nat) : Int) - 1 = (m : Int) by omega]
      have ca := Ba.cell m
      rw [vals_get _ _ _ _ (by omega)] at ca
      have cb := Bb.cell m
      rw [vals_get _ _ _ _ (by omega)] at cb
      have HBa := hide Ba
      have HBb := hide Bb
      clear Ba Bb
      have hk0 : (0 : Int) ≤ (m : Int) := by omega
      have hk4 : (m : Int) < 16 := by omega
      by_cases hne : dg a m = dg b m
      · have hbne : (((dg a m : Nat) : Int) != ((dg b m : Nat) : Int)) = false := by rw [hne]; simp
        have Hne := hide hne
        clear hne
        go_wp2
        go_region_with (fail)
        all_goals
          go_wp2
          go_roundw
          case rel => exact ⟨m, by omega, by go_num, same_up a b m Hd.out Hne.out, HBa.out.drew, HBb.out.drew, HL.out.drew⟩
          case measure => simp [intOf]
      · have hbne : (((dg a m : Nat) : Int) != ((dg b m : Nat) : Int)) = true := by rw [bne_iff_ne]; omega
        have Hr := hide (lt_up a b m Hd.out hne)
        clear hne
        go_wp2
        go_region_with (fail)
        all_goals
          go_wp2
          go_region_with (fail)
          all_goals
            go_wp2
            go_ret
            exact ⟨ret_bool Hr.out.symm, HL.out.drew.drew⟩

end Go.Proofs.Ytalnkcijebdpbaa.F

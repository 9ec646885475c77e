/- Walks of the reference: less. -/
import Derived.Test.YtalnkcijebdpbaaVa
namespace Go.Proofs.Ytalnkcijebdpbaa.F
open Go.RowKit

theorem less_n (a b c : Nat) (ha : a < 65536) (hb : b < 65536) (hc : c ≤ 1) : IntKind.u64.wrap (IntKind.u64.wrap (IntKind.u64.wrap ((a : Int) + 65536) - (b : Int)) - (c : Int)) = ((a + 65536 - b - c : Nat) : Int) := by
  rw [wrap_u64', wrap_u64', wrap_u64']; omega
set_option maxHeartbeats 1000000 in
theorem refless_any (a b : Nat) (w : World) (h : b ≤ a) :
    Calls Try.prog 71 #[rn a, rn b] w fun e w' => e = .returned (rn (a - b)) ∧ Below w.heap.size w w' := by
  have Hle := hide h
  clear h
  unfold rn
  go_enter Try.func71, Try.ntmps71
  go_wp2_with (first
    | (refine wpList_build rfl 33 #[] rfl (by simp [built31]) ?_; simp only [List.map_toArray, List.map_nil, built31, Option.getD_some])
    | (refine wpList_store_row rfl 33 _ _ rfl (w.heap.size + 3) (vals .u64 16 (fun _ => 0)) rfl rfl 33 _ (Blk.new' _ _ (by simp) _ _) (by rw [vals_size]; exact cells31) (by rw [vals_size]; rfl) (vals_one _ _ _) ?_))
  go_loopw [5, 7] (fun c i wr => ∃ k : Nat, k ≤ 16 ∧ i = .int .i64 k ∧ c = .int .u64 (bw a b k : Nat) ∧ Blk wr w.heap.size (vals .u64 16 (dg a)) 33 ∧ Blk wr (w.heap.size + 1) (vals .u64 16 (dg b)) 33 ∧ (∃ z, z.size = 16 ∧ Blk wr (w.heap.size + 2) z 33) ∧ Blk wr (w.heap.size + 3) (vals .u64 16 (fun j => if j < k then dg (a - b) j else 0)) 33 ∧ Below w.heap.size w wr) (fun _ i _ => 16 - (intOf i).toNat)
  case atStart =>
    refine ⟨0, by omega, rfl, by rw [bw_zero]; rfl, ?_, ?_, ⟨vals .u64 16 (fun _ => 0), vals_size _ _ _, ?_⟩, ?_, ?_⟩
    · exact ((((Blk.new w _ _).alloc _).alloc _).alloc _).rowOther _ (by omega)
    · exact (((Blk.new' (w.alloc _) (w.heap.size + 1) (by simp) _ _).alloc _).alloc _).rowOther _ (by omega)
    · exact ((Blk.new' ((w.alloc _).alloc _) (w.heap.size + 2) (by simp) _ _).alloc _).rowOther _ (by omega)
    · exact ((Blk.new' (((w.alloc _).alloc _).alloc _) (w.heap.size + 3) (by simp) _ _).row _).cast (vals_congr _ _ _ _ fun j _ => by simp)
    · exact Below.row (((((Below.refl _ w).alloc (Nat.le_refl _) _).alloc (by simp) _).alloc (by simp; omega) _).alloc (by simp; omega) _) (by omega) _
  case round =>
    obtain ⟨k, hk, rfl, rfl, Ba, Bb, ⟨z, hz, Bz⟩, Bo, L⟩ := hrel
    by_cases hlt : k < 16
    · have ca := Ba.cell k
      rw [vals_get _ _ _ _ (by omega)] at ca
      have cb := Bb.cell k
      rw [vals_get _ _ _ _ (by omega)] at cb
      have co := Bo.cell k
      rw [vals_get _ _ _ _ (by omega)] at co
      have fo' := Bo.frozen k
      have Hs := hide (bw_succ a b k)
      have Hg := hide (dg_sub a b k Hle.out)
      have HBo := hide (upd_vals .u64 16 (fun _ => 0) (dg (a - b)) k _ _ _ Bo.drew)
      have HBa := hide Ba
      have HBb := hide Bb
      have HBz := hide Bz
      have HL := hide L
      have hn1 := less_n (dg a k) (dg b k) (bw a b k) (dg_lt _ _) (dg_lt _ _) (bw_le _ _ _)
      obtain ⟨n, hn⟩ : ∃ n, n = dg a k + 65536 - dg b k - bw a b k := ⟨_, rfl⟩
      have hn2 : n < 131072 := by have := dg_lt a k; omega
      rw [← hn] at hn1
      have Hs2 : Hid (bw a b (k + 1) = 1 - n / 65536) := hide (by rw [hn]; exact Hs.out)
      have Hg2 : Hid (dg (a - b) k = n % 65536) := hide (by rw [hn]; exact Hg.out)
      have Hm : Hid ((n : Int) % 65536 = ((dg (a - b) k : Nat) : Int)) := hide (by rw [Hg2.out]; rfl)
      have Hq : Hid (1 - (n : Int) / 65536 = ((bw a b (k + 1) : Nat) : Int)) := hide (by rw [Hs2.out]; omega)
      clear Ba Bb Bz Bo L hn Hs Hg
      have hk0 : (0 : Int) ≤ (k : Int) := by omega
      have hk4 : (k : Int) < 16 := by omega
      go_wp2
      go_region_with (fail)
      all_goals
        go_wp2
        rw [Hm.out, Hq.out]
        go_roundw
        case rel => exact ⟨k + 1, by omega, by go_num, rfl, (HBa.out.setOther _ _ (by omega)).drew, (HBb.out.setOther _ _ (by omega)).drew, ⟨z, hz, (HBz.out.setOther _ _ (by omega)).drew⟩, HBo.out, (HL.out.setCell (by show w.heap.size ≤ w.heap.size + 3; omega) _).drew⟩
        case measure => simp [intOf]; omega
    · have e4 : k = 16 := by omega
      subst e4
      have HB := hide (Bo.cast (vals_congr _ 16 _ (dg (a - b)) fun j hj => by simp [hj]))
      have HBz := hide Bz
      have HL := hide L
      clear Ba Bb Bz Bo L
      go_wp2_with (first
        | (refine wpList_load_row rfl 33 _ rfl (w.heap.size + 3) rfl 33 _ (0, 0) _ HB.out Try.underlying33 rfl (by rw [vals_size]; exact cells31) ?_)
        | (refine wpList_store_row rfl 33 _ _ rfl (w.heap.size + 2) (vals .u64 16 (dg (a - b))) rfl rfl 33 z HBz.out (by rw [vals_size]; exact cells31) (by rw [vals_size]; exact hz) (vals_one _ _ _) ?_))
      refine bodyPost_ret (v := .agg (vals .u64 16 (dg (a - b)))) (results_cell_row Try.results71 _ _ (w.heap.size + 2) 33 _ (0, 0) _ rfl (HBz.out.row _) Try.underlying33 rfl (by rw [vals_size]; exact cells31)) rfl ⟨rfl, ?_⟩
      exact Below.row HL.out (by omega) _

end Go.Proofs.Ytalnkcijebdpbaa.F

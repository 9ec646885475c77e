/- Walks of the reference: Add, Sub. -/
import Derived.Test.YtalnkcijebdpbaaVd
namespace Go.Proofs.Ytalnkcijebdpbaa.F
open Go.RowKit

/-- The digits of a sum, not yet carried. -/
def ad (a b j : Nat) : Nat := if j < 16 then dg a j + dg b j else 0
theorem ad_lt (a b j : Nat) : ad a b j < 131072 := by
  unfold ad
  split
  · have h1 := dg_lt a j; have h2 := dg_lt b j; omega
  · omega
theorem pv_ad (a b : Nat) : ∀ k, k ≤ 16 → pv (ad a b) k = a % 2 ^ (16 * k) + b % 2 ^ (16 * k)
  | 0, _ => by simp [pv, Nat.mod_one]
  | k + 1, h => by
    have ih := pv_ad a b k (by omega)
    rw [pv, ih, mod_split a k, mod_split b k, ad, if_pos (by omega)]
    grind
theorem pv_ad32 (a b : Nat) (ha : a < 2 ^ 256) (hb : b < 2 ^ 256) : pv (ad a b) 32 = a + b := by
  rw [show 32 = 16 + 16 from rfl, pv_stop (ad a b) 16 16 fun j hj => by unfold ad; rw [if_neg (by omega)], pv_ad a b 16 (by omega)]
  rw [Nat.mod_eq_of_lt ha, Nat.mod_eq_of_lt hb]

set_option maxHeartbeats 1000000 in
theorem refAdd_any (a b : Nat) (w : World) (ha : a < 2 ^ 256) (hb : b < 2 ^ 256) :
    Calls Try.prog 51 #[rn a, rn b] w fun e w' => e = .returned (rn ((a + b) % pP)) ∧ Below w.heap.size w w' := by
  have Ha := hide ha
  have Hb := hide hb
  clear ha hb
  unfold rn
  go_enter Try.func51, Try.ntmps51
  go_wp2_with (first
    | (refine wpList_build rfl 103 #[] rfl (by simp [built62]) ?_; simp only [List.map_toArray, List.map_nil, built62, Option.getD_some])
    | (refine wpList_store_row rfl 103 _ _ rfl (w.heap.size + 3) (vals .u64 32 (fun _ => 0)) rfl rfl 103 _ (Blk.new' _ _ (by simp) _ _) (by rw [vals_size]; exact cells62) (by rw [vals_size]; rfl) (vals_one _ _ _) ?_))
  go_loopw [6] (fun i wr => ∃ k : Nat, k ≤ 16 ∧ i = .int .i64 k ∧ Blk wr w.heap.size (vals .u64 16 (dg a)) 33 ∧ Blk wr (w.heap.size + 1) (vals .u64 16 (dg b)) 33 ∧ (∃ z, z.size = 16 ∧ Blk wr (w.heap.size + 2) z 33) ∧ Blk wr (w.heap.size + 3) (vals .u64 32 (fun j => if j < k then ad a b j else 0)) 103 ∧ Below w.heap.size w wr) (fun i _ => 16 - (intOf i).toNat)
  case atStart =>
    refine ⟨0, by omega, rfl, ?_, ?_, ⟨vals .u64 16 (fun _ => 0), vals_size _ _ _, ?_⟩, ?_, ?_⟩
    · exact ((((Blk.new w _ _).alloc _).alloc _).alloc _).rowOther _ (by omega)
    · exact (((Blk.new' (w.alloc _) (w.heap.size + 1) (by simp) _ _).alloc _).alloc _).rowOther _ (by omega)
    · exact ((Blk.new' ((w.alloc _).alloc _) (w.heap.size + 2) (by simp) _ _).alloc _).rowOther _ (by omega)
    · exact ((Blk.new' (((w.alloc _).alloc _).alloc _) (w.heap.size + 3) (by simp) _ _).row _).cast (vals_congr _ _ _ _ fun j _ => by simp)
    · exact Below.row (((((Below.refl _ w).alloc (Nat.le_refl _) _).alloc (by simp) _).alloc (by simp; omega) _).alloc (by simp; omega) _) (by omega) _
  case round =>
    obtain ⟨k, hk, rfl, Ba, Bb, ⟨z, hz, Bz⟩, Bo, L⟩ := hrel
    by_cases hlt : k < 16
    · have c1 := Ba.cell k
      rw [vals_get _ _ _ _ (by omega)] at c1
      have c2 := Bb.cell k
      rw [vals_get _ _ _ _ (by omega)] at c2
      have co := Bo.cell k
      rw [vals_get _ _ _ _ (by omega)] at co
      have fo' := Bo.frozen k
      have hd1 := dg_lt a k
      have hd2 := dg_lt b k
      have Hw : Hid (((dg a k : Nat) : Int) + ((dg b k : Nat) : Int) = ((ad a b k : Nat) : Int)) := hide (by unfold ad; rw [if_pos hlt]; omega)
      have HB := hide (upd_vals .u64 32 (fun _ => 0) (ad a b) k _ _ _ Bo.drew)
      have HBa := hide Ba
      have HBb := hide Bb
      have HBz := hide Bz
      have HL := hide L
      clear Ba Bb Bz Bo L
      have hk0 : (0 : Int) ≤ (k : Int) := by omega
      have hk4 : (k : Int) < 32 := by omega
      have hk5 : (k : Int) < 16 := by omega
      go_wp2
      go_region_with (fail)
      all_goals
        go_wp2
        rw [Hw.out]
        go_roundw
        case rel => exact ⟨k + 1, by omega, by go_num, (HBa.out.setOther _ _ (by omega)).drew, (HBb.out.setOther _ _ (by omega)).drew, ⟨z, hz, (HBz.out.setOther _ _ (by omega)).drew⟩, HB.out, (HL.out.setCell (by show w.heap.size ≤ w.heap.size + 3; omega) _).drew⟩
        case measure => simp [intOf]; omega
    · have e16 : k = 16 := by omega
      subst e16
      have HB := hide (Bo.cast (vals_congr _ 32 _ (ad a b) fun j _ => stop16 (ad a b) (fun j hj => by unfold ad; rw [if_neg (by omega)]) j))
      have HBz := hide Bz
      have HL := hide L
      clear Ba Bb Bz Bo L
      go_wp2_with (first
        | (refine wpList_load_row rfl 103 _ rfl (w.heap.size + 3) rfl 103 _ (0, 0) _ HB.out Try.underlying103 rfl (by rw [vals_size]; exact cells62) ?_)
        | (go_at_call 70; refine (folded_at (ad a b) _ _ rfl (fun j => by have := ad_lt a b j; omega) (by rw [pv_ad32 a b Ha.out Hb.out]; have := Ha.out; have := Hb.out; omega)).mono ?_; rw [pv_ad32 a b Ha.out Hb.out]; unfold rn; rintro e w1 ⟨rfl, hb1⟩; have HBz1 := hide (HBz.out.call hb1); have HL1 := hide (HL.out.trans (hb1.mono HL.out.size)); clear hb1; dsimp only)
        | (refine wpList_store_row rfl 33 _ _ rfl (w.heap.size + 2) (vals .u64 16 (dg ((a + b) % pP))) rfl rfl 33 z HBz1.out (by rw [vals_size]; exact cells31) (by rw [vals_size]; exact hz) (vals_one _ _ _) ?_))
      refine bodyPost_ret (v := .agg (vals .u64 16 (dg ((a + b) % pP)))) (results_cell_row Try.results51 _ _ (w.heap.size + 2) 33 _ (0, 0) _ rfl (HBz1.out.row _) Try.underlying33 rfl (by rw [vals_size]; exact cells31)) rfl ⟨rfl, ?_⟩
      exact Below.row HL1.out (by omega) _
theorem refAdd_at (a b : Nat) (args : Array Value) (w : World) (h : args = #[rn a, rn b]) (ha : a < 2 ^ 256) (hb : b < 2 ^ 256) :
    Calls Try.prog 51 args w fun e w' => e = .returned (rn ((a + b) % pP)) ∧ Below w.heap.size w w' := by subst h; exact refAdd_any a b w ha hb

end Go.Proofs.Ytalnkcijebdpbaa.F

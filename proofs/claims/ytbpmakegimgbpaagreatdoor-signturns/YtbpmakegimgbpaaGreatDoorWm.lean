/- Walks: Pick. -/
import Derived.Test.YtbpmakegimgbpaaGreatDoorWg
namespace Go.Proofs.YtbpmakegimgbpaaGreatDoor.F
set_option maxRecDepth 100000
open Go.RowKit

set_option maxHeartbeats 1000000 in
theorem pick_any (x y : Nat) (first : Bool) (w : World) :
    Calls Tryz.prog 59 #[fe x, fe y, .bool first] w fun e w' => e = .returned (fe (if first then x else y)) ∧ Below w.heap.size w w' := by
  cases first
  all_goals
    rw [fe_arr x, fe_arr y]
    simp only [if_true, if_false, Bool.false_eq_true]
    go_enter Tryz.func59, Tryz.ntmps59
    go_wp2
  · go_loopw [10] (fun i wr => ∃ k : Nat, k ≤ 4 ∧ i = .int .i64 k ∧ Blk wr w.heap.size (arr 4 (limb x)) 47 ∧ Blk wr (w.heap.size + 1) (arr 4 (fun j => if j < k then limb y j else limb y j)) 47 ∧ (∃ z0 z1 z2 z3, Blk wr (w.heap.size + 2) #[z0, z1, z2, z3] 47) ∧ Below w.heap.size w wr) (fun i _ => 4 - (intOf i).toNat)
    case atStart =>
      refine ⟨0, by omega, rfl, ?_, ?_, ⟨.int .u64 0, .int .u64 0, .int .u64 0, .int .u64 0, Blk.new' ((w.alloc _).alloc _) (w.heap.size + 2) (by simp) _ _⟩, ?_⟩
      · exact ((Blk.new w _ _).alloc _).alloc _
      · exact ((Blk.new' (w.alloc _) (w.heap.size + 1) (by simp) _ _).alloc _).cast (arr_congr _ _ _ fun j _ => by simp)
      · exact (((Below.refl _ w).alloc (Nat.le_refl _) _).alloc (by simp) _).alloc (by simp; omega) _
    case round =>
      obtain ⟨k, hk, rfl, B1, B2, ⟨z0, z1, z2, z3, B3⟩, L⟩ := hrel
      by_cases hlt : k < 4
      · have cx := B1.cell k
        rw [arr_get _ _ _ hlt] at cx
        have cy := B2.cell k
        rw [arr_get _ _ _ hlt, if_neg (by omega)] at cy
        have fy := B2.frozen k
        have hm := mask_false x y k
        have HB1 := hide B1
        have HB2 := hide B2
        have HB3 := hide B3
        have HL := hide L
        clear B1 B2 B3 L
        have hk0 : (0 : Int) ≤ (k : Int) := by omega
        have hk4 : (k : Int) < 4 := by omega
        go_wp2
        go_region_with (fail)
        all_goals
          go_wp2
          go_roundw
          case rel =>
            refine ⟨k + 1, by omega, by go_num, (HB1.out.setOther _ _ (by omega)).drew, (upd_next (limb y) (limb y) k wr _ _ HB2.out).drew, ⟨z0, z1, z2, z3, (HB3.out.setOther _ _ (by omega)).drew⟩, (HL.out.setCell (by show w.heap.size ≤ w.heap.size + 1; omega) _).drew⟩
          case measure => simp [intOf]; omega
      · have e4 : k = 4 := by omega
        subst e4
        have B2' := B2.cast (arr_congr 4 _ (limb y) fun j hj => by simp [hj])
        rw [arr4] at B2'
        obtain ⟨c1, f1⟩ := B2'.rules
        obtain ⟨c2, f2⟩ := B3.rules
        obtain ⟨r1, r2, r3, r4⟩ := B3.writes
        have HL := hide L
        clear B1 B2 B3 L B2' hlt
        go_wp2
        refine bodyPost_ret (v := fe y) (by simp [results, Tryz.results59, go_sem, r3, fe_def]) rfl ⟨rfl, ?_⟩
        exact Below.row HL.out (by omega) _
  · go_loopw [10] (fun i wr => ∃ k : Nat, k ≤ 4 ∧ i = .int .i64 k ∧ Blk wr w.heap.size (arr 4 (limb x)) 47 ∧ Blk wr (w.heap.size + 1) (arr 4 (fun j => if j < k then limb x j else limb y j)) 47 ∧ (∃ z0 z1 z2 z3, Blk wr (w.heap.size + 2) #[z0, z1, z2, z3] 47) ∧ Below w.heap.size w wr) (fun i _ => 4 - (intOf i).toNat)
    case atStart =>
      refine ⟨0, by omega, rfl, ?_, ?_, ⟨.int .u64 0, .int .u64 0, .int .u64 0, .int .u64 0, Blk.new' ((w.alloc _).alloc _) (w.heap.size + 2) (by simp) _ _⟩, ?_⟩
      · exact ((Blk.new w _ _).alloc _).alloc _
      · exact ((Blk.new' (w.alloc _) (w.heap.size + 1) (by simp) _ _).alloc _).cast (arr_congr _ _ _ fun j _ => by simp)
      · exact (((Below.refl _ w).alloc (Nat.le_refl _) _).alloc (by simp) _).alloc (by simp; omega) _
    case round =>
      obtain ⟨k, hk, rfl, B1, B2, ⟨z0, z1, z2, z3, B3⟩, L⟩ := hrel
      by_cases hlt : k < 4
      · have cx := B1.cell k
        rw [arr_get _ _ _ hlt] at cx
        have cy := B2.cell k
        rw [arr_get _ _ _ hlt, if_neg (by omega)] at cy
        have fy := B2.frozen k
        have hm := mask_true x y k
        have HB1 := hide B1
        have HB2 := hide B2
        have HB3 := hide B3
        have HL := hide L
        clear B1 B2 B3 L
        have hk0 : (0 : Int) ≤ (k : Int) := by omega
        have hk4 : (k : Int) < 4 := by omega
        go_wp2
        go_region_with (fail)
        all_goals
          go_wp2
          go_roundw
          case rel =>
            refine ⟨k + 1, by omega, by go_num, (HB1.out.setOther _ _ (by omega)).drew, (upd_next (limb y) (limb x) k wr _ _ HB2.out).drew, ⟨z0, z1, z2, z3, (HB3.out.setOther _ _ (by omega)).drew⟩, (HL.out.setCell (by show w.heap.size ≤ w.heap.size + 1; omega) _).drew⟩
          case measure => simp [intOf]; omega
      · have e4 : k = 4 := by omega
        subst e4
        have B2' := B2.cast (arr_congr 4 _ (limb x) fun j hj => by simp [hj])
        rw [arr4] at B2'
        obtain ⟨c1, f1⟩ := B2'.rules
        obtain ⟨c2, f2⟩ := B3.rules
        obtain ⟨r1, r2, r3, r4⟩ := B3.writes
        have HL := hide L
        clear B1 B2 B3 L B2' hlt
        go_wp2
        refine bodyPost_ret (v := fe x) (by simp [results, Tryz.results59, go_sem, r3, fe_def]) rfl ⟨rfl, ?_⟩
        exact Below.row HL.out (by omega) _

theorem pick_at (x y : Nat) (first : Bool) (args : Array Value) (w : World) (h : args = #[fe x, fe y, .bool first]) :
    Calls Tryz.prog 59 args w fun e w' => e = .returned (fe (if first then x else y)) ∧ Below w.heap.size w w' := by
  subst h; exact pick_any x y first w
theorem odd_at (x : Nat) (args : Array Value) (w : World) (h : args = #[fe x]) :
    Calls Tryz.prog 81 args w fun e w' => e = .returned (.bool (decide (x % 2 = 1))) ∧ Below w.heap.size w w' := by
  subst h; exact odd_any x w
theorem same_at (x y : Nat) (args : Array Value) (w : World) (h : args = #[fe x, fe y]) (hx : x < pP) (hy : y < pP) :
    Calls Tryz.prog 57 args w fun e w' => e = .returned (.bool (decide (x = y))) ∧ Below w.heap.size w w' := by
  subst h; exact same_any x y w hx hy

end Go.Proofs.YtbpmakegimgbpaaGreatDoor.F

/- Walks: Pick. -/
import Derived.Test.YtbjcfibpiiplaaaWg
namespace Go.Proofs.Ytbjcfibpiiplaaa
open Go.RowKit

theorem wrap_m1 : IntKind.u64.wrap (-1) = ((18446744073709551615 : Nat) : Int) := by rw [wrap_u64']; decide
theorem wrap_00 : IntKind.u64.wrap 0 = ((0 : Nat) : Int) := by rw [wrap_u64']; decide
theorem mask_true (x y k : Nat) : bits .xor .u64 (limb y k : Nat) (bits .and .u64 (IntKind.u64.wrap (-1)) (bits .xor .u64 (limb x k : Nat) (limb y k : Nat))) = ((limb x k : Nat) : Int) := by
  have h1 := limb_lt x k
  have h2 := limb_lt y k
  have h3 : limb x k ^^^ limb y k < 2 ^ 64 := Nat.xor_lt_two_pow h1 h2
  rw [wrap_m1, u64_xor_nat _ _ (by omega) (by omega), u64_and_nat _ _ (by omega) (by omega), Nat.and_comm, show 18446744073709551615 = 2 ^ 64 - 1 from rfl, Nat.and_two_pow_sub_one_eq_mod, Nat.mod_eq_of_lt h3, u64_xor_nat _ _ (by omega) (by omega)]
  rw [Nat.xor_comm (limb x k), ← Nat.xor_assoc, Nat.xor_self, Nat.zero_xor]
theorem mask_false (x y k : Nat) : bits .xor .u64 (limb y k : Nat) (bits .and .u64 (IntKind.u64.wrap 0) (bits .xor .u64 (limb x k : Nat) (limb y k : Nat))) = ((limb y k : Nat) : Int) := by
  have h1 := limb_lt x k
  have h2 := limb_lt y k
  have h3 : limb x k ^^^ limb y k < 2 ^ 64 := Nat.xor_lt_two_pow h1 h2
  rw [wrap_00, u64_xor_nat _ _ (by omega) (by omega), u64_and_nat _ _ (by omega) (by omega), Nat.zero_and, u64_xor_nat _ _ (by omega) (by omega), Nat.xor_zero]

set_option maxHeartbeats 1000000 in
theorem pick_any (x y : Nat) (first : Bool) (w : World) :
    Calls Try.prog 17 #[fe x, fe y, .bool first] w fun e w' => e = .returned (fe (if first then x else y)) ∧ Below w.heap.size w w' := by
  cases first
  all_goals
    rw [fe_arr x, fe_arr y]
    simp only [if_true, if_false, Bool.false_eq_true]
    go_enter Try.func17, Try.ntmps17
    go_wp2
  · go_loopw [10] (fun i wr => ∃ k : Nat, k ≤ 4 ∧ i = .int .i64 k ∧ Blk wr w.heap.size (arr 4 (limb x)) 27 ∧ Blk wr (w.heap.size + 1) (arr 4 (fun j => if j < k then limb y j else limb y j)) 27 ∧ (∃ z0 z1 z2 z3, Blk wr (w.heap.size + 2) #[z0, z1, z2, z3] 27) ∧ Below w.heap.size w wr) (fun i _ => 4 - (intOf i).toNat)
    case atStart =>
      refine ⟨0, by omega, rfl, ?_, ?_, ⟨.int .u64 0, .int .u64 0, .int .u64 0, .int .u64 0, Blk.new' ((w.alloc _).alloc _) (w.heap.size + 2) (by simp) _ _⟩, ?_⟩
      · exact ((Blk.new w _ _).alloc _).alloc _
      · exact ((Blk.new' (w.alloc _) (w.heap.size + 1) (by simp) _ _).alloc _).cast (arr_congr _ _ _ fun j _ => by simp)
      · exact (((Below.refl _ w).alloc (Nat.le_refl _) _).alloc (by simp) _).alloc (by simp; omega) _
    case round =>
      obtain ⟨k, hk, rfl, B1, B2, ⟨z0, z1, z2, z3, B3⟩, L⟩ := hrel
      by_cases hlt : k < 4
      · have cx := B1.cell k
        rw [arr_get _ _ _ hlt] at cx
        have cy := B2.cell k
        rw [arr_get _ _ _ hlt, if_neg (by omega)] at cy
        have fy := B2.frozen k
        have hm := mask_false x y k
        have HB1 := hide B1
        have HB2 := hide B2
        have HB3 := hide B3
        have HL := hide L
        clear B1 B2 B3 L
        have hk0 : (0 : Int) ≤ (k : Int) := by omega
        have hk4 : (k : Int) < 4 := by omega
        go_wp2
        go_region_with (fail)
        all_goals
          go_wp2
          go_roundw
          case rel =>
            refine ⟨k + 1, by omega, by go_num, (HB1.out.setOther _ _ (by omega)).drew, (upd_next (limb y) (limb y) k wr _ _ HB2.out).drew, ⟨z0, z1, z2, z3, (HB3.out.setOther _ _ (by omega)).drew⟩, (HL.out.setCell (by show w.heap.size ≤ w.heap.size + 1; omega) _).drew⟩
          case measure => simp [intOf]; omega
      · have e4 : k = 4 := by omega
        subst e4
        have B2' := B2.cast (arr_congr 4 _ (limb y) fun j hj => by simp [hj])
        rw [arr4] at B2'
        obtain ⟨c1, f1⟩ := B2'.rules
        obtain ⟨c2, f2⟩ := B3.rules
        obtain ⟨r1, r2, r3, r4⟩ := B3.writes
        have HL := hide L
        clear B1 B2 B3 L B2' hlt
        go_wp2
        refine bodyPost_ret (v := fe y) (by simp [results, Try.results17, go_sem, r3, fe_def]) rfl ⟨rfl, ?_⟩
        exact Below.row HL.out (by omega) _
  · go_loopw [10] (fun i wr => ∃ k : Nat, k ≤ 4 ∧ i = .int .i64 k ∧ Blk wr w.heap.size (arr 4 (limb x)) 27 ∧ Blk wr (w.heap.size + 1) (arr 4 (fun j => if j < k then limb x j else limb y j)) 27 ∧ (∃ z0 z1 z2 z3, Blk wr (w.heap.size + 2) #[z0, z1, z2, z3] 27) ∧ Below w.heap.size w wr) (fun i _ => 4 - (intOf i).toNat)
    case atStart =>
      refine ⟨0, by omega, rfl, ?_, ?_, ⟨.int .u64 0, .int .u64 0, .int .u64 0, .int .u64 0, Blk.new' ((w.alloc _).alloc _) (w.heap.size + 2) (by simp) _ _⟩, ?_⟩
      · exact ((Blk.new w _ _).alloc _).alloc _
      · exact ((Blk.new' (w.alloc _) (w.heap.size + 1) (by simp) _ _).alloc _).cast (arr_congr _ _ _ fun j _ => by simp)
      · exact (((Below.refl _ w).alloc (Nat.le_refl _) _).alloc (by simp) _).alloc (by simp; omega) _
    case round =>
      obtain ⟨k, hk, rfl, B1, B2, ⟨z0, z1, z2, z3, B3⟩, L⟩ := hrel
      by_cases hlt : k < 4
      · have cx := B1.cell k
        rw [arr_get _ _ _ hlt] at cx
        have cy := B2.cell k
        rw [arr_get _ _ _ hlt, if_neg (by omega)] at cy
        have fy := B2.frozen k
        have hm := mask_true x y k
        have HB1 := hide B1
        have HB2 := hide B2
        have HB3 := hide B3
        have HL := hide L
        clear B1 B2 B3 L
        have hk0 : (0 : Int) ≤ (k : Int) := by omega
        have hk4 : (k : Int) < 4 := by omega
        go_wp2
        go_region_with (fail)
        all_goals
          go_wp2
          go_roundw
          case rel =>
            refine ⟨k + 1, by omega, by go_num, (HB1.out.setOther _ _ (by omega)).drew, (upd_next (limb y) (limb x) k wr _ _ HB2.out).drew, ⟨z0, z1, z2, z3, (HB3.out.setOther _ _ (by omega)).drew⟩, (HL.out.setCell (by show w.heap.size ≤ w.heap.size + 1; omega) _).drew⟩
          case measure => simp [intOf]; omega
      · have e4 : k = 4 := by omega
        subst e4
        have B2' := B2.cast (arr_congr 4 _ (limb x) fun j hj => by simp [hj])
        rw [arr4] at B2'
        obtain ⟨c1, f1⟩ := B2'.rules
        obtain ⟨c2, f2⟩ := B3.rules
        obtain ⟨r1, r2, r3, r4⟩ := B3.writes
        have HL := hide L
        clear B1 B2 B3 L B2' hlt
        go_wp2
        refine bodyPost_ret (v := fe x) (by simp [results, Try.results17, go_sem, r3, fe_def]) rfl ⟨rfl, ?_⟩
        exact Below.row HL.out (by omega) _

theorem pick_at (x y : Nat) (first : Bool) (args : Array Value) (w : World) (h : args = #[fe x, fe y, .bool first]) :
    Calls Try.prog 17 args w fun e w' => e = .returned (fe (if first then x else y)) ∧ Below w.heap.size w w' := by
  subst h; exact pick_any x y first w
theorem odd_at (x : Nat) (args : Array Value) (w : World) (h : args = #[fe x]) :
    Calls Try.prog 15 args w fun e w' => e = .returned (.bool (decide (x % 2 = 1))) ∧ Below w.heap.size w w' := by
  subst h; exact odd_any x w
theorem same_at (x y : Nat) (args : Array Value) (w : World) (h : args = #[fe x, fe y]) (hx : x < pP) (hy : y < pP) :
    Calls Try.prog 16 args w fun e w' => e = .returned (.bool (decide (x = y))) ∧ Below w.heap.size w w' := by
  subst h; exact same_any x y w hx hy
end Go.Proofs.Ytbjcfibpiiplaaa

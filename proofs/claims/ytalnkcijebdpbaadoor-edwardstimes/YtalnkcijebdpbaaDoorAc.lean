/- Walks: less, settle. -/
import Derived.Test.YtalnkcijebdpbaaDoorAb
namespace Go.Proofs.YtalnkcijebdpbaaDoor.S
open Go.RowKit

theorem run_sub (x y b : Nat) (hb : b ≤ 1) (w : World) :
    (callFunc 52 #[.int .u64 x, .int .u64 y, .int .u64 b]).run Tryd.prog w =
      .ok (.value (.tuple #[.int .u64 ((x + 2 ^ 64 - y - b) % 2 ^ 64 : Nat), .int .u64 (if x < y + b then 1 else 0 : Nat)])) w := by
  rw [run_callFunc_extern Tryd.func52 (by kernel_rfl) (by kernel_rfl) (by kernel_rfl) (e := sub64Entry) (by kernel_rfl), run_sub64 x y b hb]
  simp only [Result.andThen]
theorem sub_at (x y k : Nat) (h : k < 4) (hx : x < 2 ^ 256) (hy : y < 2 ^ 256) (w : World) : (callFunc 52 #[.int .u64 (limb x k : Nat), .int .u64 (limb y k : Nat), .int .u64 (bo x y k : Nat)]).run Tryd.prog w =
      .ok (.value (.tuple #[.int .u64 (limb (dif x y) k : Nat), .int .u64 (bo x y (k + 1) : Nat)])) w := by
  obtain ⟨h3, h4⟩ := sub_step x y k h hx hy
  rw [run_sub _ _ _ (bo_le x y k), h3, h4]

set_option maxHeartbeats 400000 in
theorem less_any (x : Nat) (w : World) (hG : Glob w) (hx : x < 2 ^ 256) :
    Calls Tryd.prog 55 #[fe x] w fun e w' => e = .returned (.tuple #[fe (dif x qL), .int .u64 (bo x qL 4 : Nat)]) ∧ Below w.heap.size w w' := by
  have Hs := hide (fun k h => sub_at x qL k h hx qL_lt256)
  have HG := hide hG
  clear hx hG
  rw [fe_arr x]
  go_enter Tryd.func55, Tryd.ntmps55
  go_wp2
  go_loopw [4, 6] (fun c i wr => ∃ k : Nat, k ≤ 4 ∧ i = .int .i64 k ∧ c = .int .u64 (bo x qL k : Nat) ∧ Blk wr w.heap.size (arr 4 (fun j => if j < k then limb (dif x qL) j else limb x j)) 25 ∧ (∃ z0 z1 z2 z3, Blk wr (w.heap.size + 1) #[z0, z1, z2, z3] 25) ∧ Below w.heap.size w wr) (fun _ i _ => 4 - (intOf i).toNat)
  case atStart =>
    refine ⟨0, by omega, rfl, by rw [bo0]; rfl, ?_, ⟨_, _, _, _, Blk.new' (w.alloc _) (w.heap.size + 1) (by simp) _ _⟩, ?_⟩
    · exact ((Blk.new w _ _).alloc _).cast (arr_congr _ _ _ fun j _ => by simp)
    · exact ((Below.refl _ w).alloc (Nat.le_refl _) _).alloc (by simp) _
  case round =>
    obtain ⟨k, hk, rfl, rfl, B1, ⟨z0, z1, z2, z3, B3⟩, L⟩ := hrel
    by_cases hlt : k < 4
    · have cx := B1.cell k
      rw [arr_get _ _ _ hlt, if_neg (by omega)] at cx
      have cy := (HG.out.low L).cell k
      rw [arr_get _ _ _ hlt] at cy
      have fx := B1.frozen k
      have hadd := Hs.out k hlt
      have HB1 := hide (upd_next (limb x) (limb (dif x qL)) k wr.drew _ _ B1.drew)
      have HB3 := hide B3
      have HL := hide L
      clear B1 B3 L
      have hk0 : (0 : Int) ≤ (k : Int) := by omega
      have hk4 : (k : Int) < 4 := by omega
      go_wp2
      go_region_with (fail)
      all_goals
        go_wp2
        go_roundw
        case rel =>
          refine ⟨k + 1, by omega, by go_num, rfl, HB1.out, ⟨z0, z1, z2, z3, HB3.out.drew.setOther _ _ (by omega)⟩, HL.out.drew.setCell (Nat.le_refl _) _⟩
        case measure => simp [intOf]; omega
    · have e4 : k = 4 := by omega
      subst e4
      have B1' := B1.cast (arr_congr 4 _ (limb (dif x qL)) fun j hj => by simp [hj])
      rw [arr4] at B1'
      obtain ⟨c1, f1⟩ := B1'.rules
      obtain ⟨c2, f2⟩ := B3.rules
      obtain ⟨r1, r2, r3, r4⟩ := B3.writes
      have HL := hide L
      clear B1 B3 L B1' hlt
      go_wp2
      refine bodyPost_ret (v := .tuple #[fe (dif x qL), .int .u64 (bo x qL 4 : Nat)]) (by simp [results, Tryd.results55, go_sem, r3, fe_def]) rfl ⟨rfl, ?_⟩
      exact Below.row HL.out (by omega) _
theorem less_at (x : Nat) (args : Array Value) (w : World) (h : args = #[fe x]) (hG : Glob w) (hx : x < 2 ^ 256) :
    Calls Tryd.prog 55 args w fun e w' => e = .returned (.tuple #[fe (dif x qL), .int .u64 (bo x qL 4 : Nat)]) ∧ Below w.heap.size w w' := by
  subst h; exact less_any x w hG hx
theorem bo_four (x : Nat) (hx : x < 2 ^ 256) : bo x qL 4 = if x < qL then 1 else 0 := by
  unfold bo
  rw [Nat.mod_eq_of_lt (show x < 2 ^ (64 * 4) from hx), Nat.mod_eq_of_lt (show qL < 2 ^ (64 * 4) from qL_lt256)]

/-- Less the order, once, if it can be. -/
def sq (x : Nat) : Nat := if x < qL then x else x - qL
theorem sq_mod (x : Nat) (h : x < 2 * qL) : sq x = x % qL := by
  unfold sq
  split
  · rename_i h1; rw [Nat.mod_eq_of_lt h1]
  · rw [Nat.mod_eq_sub_mod (by omega), Nat.mod_eq_of_lt (by omega)]
theorem mask_sq (x k b : Nat) (hx : x < 2 ^ 256) (hb : b = bo x qL 4) :
    bits .xor .u64 (limb (dif x qL) k : Nat) (bits .and .u64 (IntKind.u64.wrap (-(b : Int))) (bits .xor .u64 (limb (dif x qL) k : Nat) (limb x k : Nat))) = ((limb (sq x) k : Nat) : Int) := by
  rw [bo_four x hx] at hb
  have h1 := limb_lt x k
  have h2 := limb_lt (dif x qL) k
  have h3 : limb (dif x qL) k ^^^ limb x k < 2 ^ 64 := Nat.xor_lt_two_pow h2 h1
  by_cases h : x < qL
  · rw [if_pos h] at hb
    subst hb
    rw [show (-((1 : Nat) : Int)) = -1 from rfl, wrap_m1, u64_xor_nat _ _ (by omega) (by omega), u64_and_nat _ _ (by omega) (by omega), Nat.and_comm, show 18446744073709551615 = 2 ^ 64 - 1 from rfl, Nat.and_two_pow_sub_one_eq_mod, Nat.mod_eq_of_lt h3, u64_xor_nat _ _ (by omega) (by omega)]
    rw [← Nat.xor_assoc, Nat.xor_self, Nat.zero_xor]
    unfold sq; rw [if_pos h]
  · rw [if_neg h] at hb
    subst hb
    rw [show (-((0 : Nat) : Int)) = 0 from rfl, wrap_00, u64_xor_nat _ _ (by omega) (by omega), u64_and_nat _ _ (by omega) (by omega), Nat.zero_and, u64_xor_nat _ _ (by omega) (by omega), Nat.xor_zero]
    have e : dif x qL = sq x := by
      rcases dif_cases x qL hx qL_lt256 with ⟨_, e⟩ | ⟨h', _⟩
      · rw [e]; unfold sq; rw [if_neg h]
      · omega
    rw [e]

set_option maxHeartbeats 400000 in
theorem settle_any (x : Nat) (w : World) (hG : Glob w) (hx : x < 2 ^ 256) :
    Calls Tryd.prog 45 #[fe x] w fun e w' => e = .returned (fe (sq x)) ∧ Below w.heap.size w w' := by
  have HG := hide hG
  have Hx := hide hx
  clear hG hx
  have X0 := hide ((Blk.new w (arr 4 (limb x)) 25).alloc (.cells #[.int .u64 0, .int .u64 0, .int .u64 0, .int .u64 0] 25))
  have Z0 := hide (Blk.new' (w.alloc (.cells (arr 4 (limb x)) 25)) (w.heap.size + 1) (by simp) #[.int .u64 0, .int .u64 0, .int .u64 0, .int .u64 0] 25)
  have L0 : Hid (Below w.heap.size w ((w.alloc (.cells (arr 4 (limb x)) 25)).alloc (.cells #[.int .u64 0, .int .u64 0, .int .u64 0, .int .u64 0] 25))) := hide (((Below.refl _ w).alloc (Nat.le_refl _) _).alloc (by simp) _)
  rw [fe_arr x, arr4]
  go_enter Tryd.func45, Tryd.ntmps45
  go_wp2_with fail
  refine (less_at x _ _ (by rw [fe_def]) (HG.out.low L0.out) Hx.out).mono ?_
  rw [fe_def (dif x qL)]
  obtain ⟨b, hb⟩ : ∃ b, b = bo x qL 4 := ⟨_, rfl⟩
  rw [← hb]
  have Hm := hide (fun k => mask_sq x k b Hx.out hb)
  clear hb
  rintro e w1 ⟨rfl, hb1⟩
  have X1 := hide (X0.out.call hb1)
  have Z1 := hide (Z0.out.call hb1)
  have L1 := hide (L0.out.trans (hb1.mono L0.out.size))
  have hz1 : w.heap.size + 1 < w1.heap.size := by have := hb1.size; simp at this; omega
  have Hz1 := hide hz1
  clear hb1 hz1 X0 Z0 L0
  dsimp only
  go_wp2
  go_loopw [11] (fun i wr => ∃ k : Nat, k ≤ 4 ∧ i = .int .i64 k ∧ Blk wr w.heap.size (arr 4 (fun j => if j < k then limb (sq x) j else limb x j)) 25 ∧ (∃ z0 z1 z2 z3, Blk wr (w.heap.size + 1) #[z0, z1, z2, z3] 25) ∧ Blk wr w1.heap.size (arr 4 (limb (dif x qL))) 25 ∧ Below w.heap.size w wr) (fun i _ => 4 - (intOf i).toNat)
  case atStart =>
    refine ⟨0, by omega, rfl, ?_, ⟨.int .u64 0, .int .u64 0, .int .u64 0, .int .u64 0, ?_⟩, ?_, ?_⟩
    · exact (X1.out.alloc _).cast (arr_congr _ _ _ fun j _ => by simp)
    · exact Z1.out.alloc _
    · exact Blk.new w1 _ _
    · exact L1.out.alloc L1.out.size _
  case round =>
    obtain ⟨k, hk, rfl, B1, ⟨z0, z1, z2, z3, B3⟩, B2, L⟩ := hrel
    by_cases hlt : k < 4
    · have cx := B1.cell k
      rw [arr_get _ _ _ hlt, if_neg (by omega)] at cx
      have cy := B2.cell k
      rw [arr_get _ _ _ hlt] at cy
      have fx := B1.frozen k
      have hm := Hm.out k
      have HB1 := hide (upd_next (limb x) (limb (sq x)) k wr.drew _ _ B1.drew)
      have HB3 := hide B3
      have HB2 := hide B2
      have HL := hide L
      clear B1 B2 B3 L X1 Z1 L1
      have hk0 : (0 : Int) ≤ (k : Int) := by omega
      have hk4 : (k : Int) < 4 := by omega
      go_wp2
      go_region_with (fail)
      all_goals
        go_wp2
        go_roundw
        case rel =>
          refine ⟨k + 1, by omega, by go_num, HB1.out, ⟨z0, z1, z2, z3, HB3.out.drew.setOther _ _ (by omega)⟩, HB2.out.drew.setOther _ _ (by have := Hz1.out; omega), HL.out.drew.setCell (Nat.le_refl _) _⟩
        case measure => simp [intOf]; omega
    · have e4 : k = 4 := by omega
      subst e4
      have B1' := B1.cast (arr_congr 4 _ (limb (sq x)) fun j hj => by simp [hj])
      rw [arr4] at B1'
      obtain ⟨c1, f1⟩ := B1'.rules
      obtain ⟨c2, f2⟩ := B3.rules
      obtain ⟨r1, r2, r3, r4⟩ := B3.writes
      have HL := hide L
      clear B1 B2 B3 L B1' hlt X1 Z1 L1
      go_wp2
      refine bodyPost_ret (v := fe (sq x)) (by simp [results, Tryd.results45, go_sem, r3, fe_def]) rfl ⟨rfl, ?_⟩
      exact Below.row HL.out (by omega) _
theorem settle_at (x : Nat) (args : Array Value) (w : World) (h : args = #[fe x]) (hG : Glob w) (hx : x < 2 ^ 256) :
    Calls Tryd.prog 45 args w fun e w' => e = .returned (fe (sq x)) ∧ Below w.heap.size w w' := by
  subst h; exact settle_any x w hG hx
end Go.Proofs.YtalnkcijebdpbaaDoor.S

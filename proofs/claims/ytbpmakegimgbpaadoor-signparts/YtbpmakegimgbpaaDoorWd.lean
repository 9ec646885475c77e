/- Walks: Sub, Neg. -/
import Derived.Test.YtbpmakegimgbpaaDoorWc
namespace Go.Proofs.YtbpmakegimgbpaaDoor.F
open Go.RowKit

theorem run_sub (x y b : Nat) (hb : b ≤ 1) (w : World) :
    (callFunc 54 #[.int .u64 x, .int .u64 y, .int .u64 b]).run Tryd.prog w =
      .ok (.value (.tuple #[.int .u64 ((x + 2 ^ 64 - y - b) % 2 ^ 64 : Nat), .int .u64 (if x < y + b then 1 else 0 : Nat)])) w := by
  rw [run_callFunc_extern Tryd.func54 (by kernel_rfl) (by kernel_rfl) (by kernel_rfl) (e := sub64Entry) (by kernel_rfl), run_sub64 x y b hb]
  simp only [Result.andThen]

theorem sub_at (x y k : Nat) (h : k < 4) (hx : x < 2 ^ 256) (hy : y < 2 ^ 256) (w : World) : (callFunc 54 #[.int .u64 (limb x k : Nat), .int .u64 (limb y k : Nat), .int .u64 (bo x y k : Nat)]).run Tryd.prog w =
      .ok (.value (.tuple #[.int .u64 (limb (dif x y) k : Nat), .int .u64 (bo x y (k + 1) : Nat)])) w := by
  obtain ⟨h3, h4⟩ := sub_step x y k h hx hy
  rw [run_sub _ _ _ (bo_le x y k), h3, h4]
def le2 (d m k : Nat) : Nat := if k = 0 then m else if d % 2 ^ (64 * k) < m then 1 else 0
theorem le_step (d m k : Nat) (h : k < 4) (hm : m ≤ 38) (hdm : m ≤ d) : limb (d - m) k = (limb d k + 2 ^ 64 - le2 d m k - 0) % 2 ^ 64 ∧ le2 d m (k + 1) = if limb d k < le2 d m k + 0 then 1 else 0 := by
  rcases four h with rfl | rfl | rfl | rfl
  · refine ⟨?_, ?_⟩
    · simp [limb, le2]; omega
    · simp [limb, le2]
  all_goals
    refine ⟨?_, ?_⟩
    · simp [limb, le2]; split <;> omega
    · simp [limb, le2]; split <;> split <;> (try split at *) <;> omega
theorem le_at (d m k : Nat) (h : k < 4) (hm : m ≤ 38) (hdm : m ≤ d) (w : World) : (callFunc 54 #[.int .u64 (limb d k : Nat), .int .u64 (le2 d m k : Nat), .int .u64 0]).run Tryd.prog w =
      .ok (.value (.tuple #[.int .u64 (limb (d - m) k : Nat), .int .u64 (le2 d m (k + 1) : Nat)])) w := by
  obtain ⟨h3, h4⟩ := le_step d m k h hm hdm
  have := run_sub (limb d k) (le2 d m k) 0 (by omega) w
  rw [h3, h4]; exact this

theorem sub_val (x y : Nat) (hx : x < pP) (hy : y < pP) : 38 * bo x y 4 ≤ dif x y ∧ (dif x y - 38 * bo x y 4) % pP = (x + pP - y) % pP ∧ dif x y - 38 * bo x y 4 < 2 ^ 256 ∧ dif x y < 2 ^ 256 := by
  unfold bo dif pP at *
  simp only [Nat.reduceMul, Nat.reducePow, Nat.reduceSub] at *
  rw [Nat.mod_eq_of_lt (show x < 115792089237316195423570985008687907853269984665640564039457584007913129639936 by omega), Nat.mod_eq_of_lt (show y < 115792089237316195423570985008687907853269984665640564039457584007913129639936 by omega)]
  split
  · rename_i h
    refine ⟨by omega, ?_, by omega, by omega⟩
    rw [show (x + 115792089237316195423570985008687907853269984665640564039457584007913129639936 - y) % 115792089237316195423570985008687907853269984665640564039457584007913129639936 - 38 * 1 = (x + 57896044618658097711785492504343953926634992332820282019728792003956564819949 - y) + 57896044618658097711785492504343953926634992332820282019728792003956564819949 * 1 by omega, Nat.add_mul_mod_self_left]
  · rename_i h
    refine ⟨by omega, ?_, by omega, by omega⟩
    rw [show x + 57896044618658097711785492504343953926634992332820282019728792003956564819949 - y = ((x + 115792089237316195423570985008687907853269984665640564039457584007913129639936 - y) % 115792089237316195423570985008687907853269984665640564039457584007913129639936 - 38 * 0) + 57896044618658097711785492504343953926634992332820282019728792003956564819949 * 1 by omega, Nat.add_mul_mod_self_left]

set_option maxHeartbeats 400000 in
theorem sub_any (x y : Nat) (w : World) (hx : x < pP) (hy : y < pP) :
    Calls Tryd.prog 34 #[fe x, fe y] w fun e w' => e = .returned (fe ((x + pP - y) % pP)) ∧ Below w.heap.size w w' := by
  obtain ⟨v1, v2, v3, v4⟩ := sub_val x y hx hy
  have Hv := hide v2
  have Hlt := hide v3
  have hx' : x < 2 ^ 256 := by unfold pP at hx; omega
  have hy' : y < 2 ^ 256 := by unfold pP at hy; omega
  have hb4 := bo_le x y 4
  have Hs := hide (fun k h => sub_at x y k h hx' hy')
  have Hl := hide (fun k h => le_at (dif x y) (38 * bo x y 4) k h (by omega) v1)
  have Hw : Hid (IntKind.u64.wrap (38 * (bo x y 4 : Int)) = ((38 * bo x y 4 : Nat) : Int)) := hide (by rw [wrap_u64']; omega)
  have Hw2 : Hid (38 * (bo x y 4 : Int) = ((38 * bo x y 4 : Nat) : Int)) := hide (by omega)
  clear v1 v2 v3 v4 hx hy hx' hy' hb4
  rw [fe_arr x, fe_arr y]
  go_enter Tryd.func34, Tryd.ntmps34
  go_wp2
  go_loopw [5, 9] (fun c i wr => ∃ k : Nat, k ≤ 4 ∧ i = .int .i64 k ∧ c = .int .u64 (bo x y k : Nat) ∧ Blk wr w.heap.size (arr 4 (fun j => if j < k then limb (dif x y) j else limb x j)) 39 ∧ Blk wr (w.heap.size + 1) (arr 4 (limb y)) 39 ∧ (∃ z0 z1 z2 z3, Blk wr (w.heap.size + 2) #[z0, z1, z2, z3] 39) ∧ Below w.heap.size w wr) (fun _ i _ => 4 - (intOf i).toNat)
  case atStart =>
    refine ⟨0, by omega, rfl, by rw [bo0]; rfl, ?_, ?_, ⟨_, _, _, _, Blk.new' ((w.alloc _).alloc _) (w.heap.size + 2) (by simp) _ _⟩, ?_⟩
    · exact (((Blk.new w _ _).alloc _).alloc _).cast (arr_congr _ _ _ fun j _ => by simp)
    · exact (Blk.new' (w.alloc _) (w.heap.size + 1) (by simp) _ _).alloc _
    · exact (((Below.refl _ w).alloc (Nat.le_refl _) _).alloc (by simp) _).alloc (by simp; omega) _
  case round =>
    obtain ⟨k, hk, rfl, rfl, B1, B2, ⟨z0, z1, z2, z3, B3⟩, L⟩ := hrel
    by_cases hlt : k < 4
    · have cx := B1.cell k
      rw [arr_get _ _ _ hlt, if_neg (by omega)] at cx
      have cy := B2.cell k
      rw [arr_get _ _ _ hlt] at cy
      have fx := B1.frozen k
      have hadd := Hs.out k hlt
      have HB1 := hide (upd_next (limb x) (limb (dif x y)) k wr.drew _ _ B1.drew)
      have HB2 := hide B2
      have HB3 := hide B3
      have HL := hide L
      clear B1 B2 B3 L
      have hk0 : (0 : Int) ≤ (k : Int) := by omega
      have hk4 : (k : Int) < 4 := by omega
      go_wp2
      go_region_with (fail)
      all_goals
        go_wp2
        go_roundw
        case rel =>
          refine ⟨k + 1, by omega, by go_num, rfl, HB1.out, HB2.out.drew.setOther _ _ (by omega), ⟨z0, z1, z2, z3, HB3.out.drew.setOther _ _ (by omega)⟩, HL.out.drew.setCell (Nat.le_refl _) _⟩
        case measure => simp [intOf]; omega
    · have e4 : k = 4 := by omega
      subst e4
      have B1' := B1.cast (arr_congr 4 _ (limb (dif x y)) fun j hj => by simp [hj])
      clear hlt hk B1 B2
      have HB1 := hide B1'
      have HB3 := hide B3
      have HL := hide L
      clear B1' B3 L
      go_wp2
      first | rw [Hw.out] | rw [Hw2.out]
      generalize hm : 38 * bo x y 4 = m at *
      clear hm
      generalize hd : dif x y = d at *
      clear hd
      go_loopw [7, 31] (fun c i wr => ∃ k : Nat, k ≤ 4 ∧ i = .int .i64 k ∧ c = .int .u64 (le2 d m k : Nat) ∧ Blk wr w.heap.size (arr 4 (fun j => if j < k then limb (d - m) j else limb d j)) 39 ∧ (∃ z0 z1 z2 z3, Blk wr (w.heap.size + 2) #[z0, z1, z2, z3] 39) ∧ Below w.heap.size w wr) (fun _ i _ => 4 - (intOf i).toNat)
      case atStart =>
        refine ⟨0, by omega, rfl, rfl, ?_, ⟨z0, z1, z2, z3, HB3.out⟩, HL.out⟩
        exact HB1.out.cast (arr_congr _ _ _ fun j _ => by simp)
      case round =>
        clear HB1 HB3 HL z0 z1 z2 z3
        obtain ⟨k, hk, rfl, rfl, B1, ⟨z0, z1, z2, z3, B3⟩, L⟩ := hrel
        by_cases hlt : k < 4
        · have cx := B1.cell k
          rw [arr_get _ _ _ hlt, if_neg (by omega)] at cx
          have fx := B1.frozen k
          have hadd := Hl.out k hlt
          have HB1 := hide (upd_next (limb d) (limb (d - m)) k _ _ _ B1)
          have HB3 := hide B3
          have HL := hide L
          clear B1 B3 L
          have hk0 : (0 : Int) ≤ (k : Int) := by omega
          have hk4 : (k : Int) < 4 := by omega
          go_wp2
          go_roundw
          case rel =>
            refine ⟨k + 1, by omega, by go_num, rfl, HB1.out, ⟨z0, z1, z2, z3, HB3.out.setOther _ _ (by omega)⟩, HL.out.setCell (Nat.le_refl _) _⟩
          case measure => simp [intOf]; omega
        · have e4 : k = 4 := by omega
          subst e4
          have B1' := B1.cast (arr_congr 4 _ (limb (d - m)) fun j hj => by simp [hj])
          rw [arr4] at B1'
          obtain ⟨c1, f1⟩ := B1'.rules
          have HB3 := hide B3
          have HL := hide L
          clear B1 B3 L B1' hlt hk
          go_wp2_with fail
          refine (settle_at (d - m) 0 _ _ (by rw [fe_def]; rfl) Hlt.out (by omega)).mono ?_
          rintro e w1 ⟨rfl, hb1⟩
          have E1 := HB3.out.call hb1
          have L1 : Below w.heap.size w w1 := HL.out.trans (hb1.mono HL.out.size)
          obtain ⟨c2, f2⟩ := E1.rules
          obtain ⟨r1, r2, r3, r4⟩ := E1.writes
          rw [show d - m + 0 * 2 ^ 256 = d - m by omega, Hv.out, fe_def]
          have HL1 := hide L1
          have hz := hb1.size
          clear E1 L1 hb1
          dsimp only
          go_wp2
          refine bodyPost_ret (v := fe ((x + pP - y) % pP)) (by simp [results, Tryd.results34, go_sem, r3, fe_def]) rfl ⟨rfl, ?_⟩
          exact Below.row HL1.out (by omega) _

theorem sub_at' (x y : Nat) (args : Array Value) (w : World) (h : args = #[fe x, fe y]) (hx : x < pP) (hy : y < pP) :
    Calls Tryd.prog 34 args w fun e w' => e = .returned (fe ((x + pP - y) % pP)) ∧ Below w.heap.size w w' := by
  subst h; exact sub_any x y w hx hy

theorem fe0 : fe 0 = .agg #[.int .u64 0, .int .u64 0, .int .u64 0, .int .u64 0] := by simp [fe, limb]

set_option maxHeartbeats 400000 in
theorem neg_any (x : Nat) (w : World) (hx : x < pP) :
    Calls Tryd.prog 42 #[fe x] w fun e w' => e = .returned (fe ((pP - x) % pP)) ∧ Below w.heap.size w w' := by
  rw [fe_def x]
  go_enter Tryd.func42, Tryd.ntmps42
  go_wp2_with fail
  refine (sub_at' 0 x _ _ (by rw [fe_def x, fe0]) (by unfold pP; omega) hx).mono ?_
  rw [Nat.zero_add]
  rintro e w1 ⟨rfl, hb1⟩
  have E1 := (Blk.new' (w.alloc _) (w.heap.size + 1) (by simp) _ _).call hb1
  have L1 : Below w.heap.size w w1 := (((Below.refl _ w).alloc (Nat.le_refl _) _).alloc (by simp) _).trans (hb1.mono (by simp; omega))
  obtain ⟨c2, f2⟩ := E1.rules
  obtain ⟨r1, r2, r3, r4⟩ := E1.writes
  rw [fe_def]
  have HL1 := hide L1
  have hz := hb1.size
  clear E1 L1 hb1
  dsimp only
  go_wp2
  refine bodyPost_ret (v := fe ((pP - x) % pP)) (by simp [results, Tryd.results42, go_sem, r3, fe_def]) rfl ⟨rfl, ?_⟩
  exact Below.row HL1.out (by omega) _

end Go.Proofs.YtbpmakegimgbpaaDoor.F

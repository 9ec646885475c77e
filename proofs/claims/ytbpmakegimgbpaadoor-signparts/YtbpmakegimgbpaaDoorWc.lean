/- Walks: arrays as functions; Add. -/
import Derived.Test.YtbpmakegimgbpaaDoorWb
import Derived.Deep.RegionHeld3
namespace Go.Proofs.YtbpmakegimgbpaaDoor.F
open Go.RowKit

def cin (x y k : Nat) : Nat := (x % 2 ^ (64 * k) + y % 2 ^ (64 * k)) / 2 ^ (64 * k)
theorem add_step (x y k : Nat) (h : k < 4) : limb x k + limb y k + cin x y k = limb (x + y) k + 2 ^ 64 * cin x y (k + 1) ∧ cin x y k ≤ 1 ∧ limb (x + y) k = (limb x k + limb y k + cin x y k) % 2 ^ 64 ∧ cin x y (k + 1) = (limb x k + limb y k + cin x y k) / 2 ^ 64 := by
  rcases four h with rfl | rfl | rfl | rfl <;> simp [limb, cin] <;> omega

theorem add_at (x y k : Nat) (h : k < 4) (w : World) : (callFunc 60 #[.int .u64 (limb x k : Nat), .int .u64 (limb y k : Nat), .int .u64 (cin x y k : Nat)]).run Tryd.prog w =
      .ok (.value (.tuple #[.int .u64 (limb (x + y) k : Nat), .int .u64 (cin x y (k + 1) : Nat)])) w := by
  obtain ⟨_, h2, h3, h4⟩ := add_step x y k h
  rw [run_add _ _ _ h2, h3, h4]
theorem cin0 (x y : Nat) : cin x y 0 = 0 := by simp [cin]; omega

theorem settle_at (n v : Nat) (args : Array Value) (w : World) (h : args = #[fe n, .int .u64 v]) (hn : n < 2 ^ 256) (hv : v < 2 ^ 58) :
    Calls Tryd.prog 55 args w fun e w' => e = .returned (fe ((n + v * 2 ^ 256) % pP)) ∧ Below w.heap.size w w' := by
  subst h; exact settle_any n v w hn hv

theorem add_next (x y k : Nat) (wr : World) (B : Nat) (t : TypeId) (h : Blk wr B (arr 4 (fun j => if j < k then limb (x + y) j else limb x j)) t) :
    Blk (wr.setCell ⟨B, k, none⟩ (.int .u64 (limb (x + y) k : Nat))) B (arr 4 (fun j => if j < k + 1 then limb (x + y) j else limb x j)) t := by
  refine (h.set k _).cast ?_
  rw [arr_set]
  apply arr_congr
  intro j _
  by_cases h1 : j = k
  · subst h1; simp
  · by_cases h2 : j < k
    · simp [h1, h2, show j < k + 1 by omega]
    · simp [h1, h2, show ¬ j < k + 1 by omega]

set_option maxHeartbeats 400000 in
theorem add_any (x y : Nat) (w : World) (hx : x < pP) (hy : y < pP) :
    Calls Tryd.prog 36 #[fe x, fe y] w fun e w' => e = .returned (fe ((x + y) % pP)) ∧ Below w.heap.size w w' := by
  have Hlt : Hid (x + y < 2 ^ 256) := hide (by unfold pP at *; omega)
  clear hx hy
  rw [fe_arr x, fe_arr y]
  go_enter Tryd.func36, Tryd.ntmps36
  go_wp2
  go_loopw [5, 7] (fun c i wr => ∃ k : Nat, k ≤ 4 ∧ i = .int .i64 k ∧ c = .int .u64 (cin x y k : Nat) ∧ Blk wr w.heap.size (arr 4 (fun j => if j < k then limb (x + y) j else limb x j)) 39 ∧ Blk wr (w.heap.size + 1) (arr 4 (limb y)) 39 ∧ (∃ z0 z1 z2 z3, Blk wr (w.heap.size + 2) #[z0, z1, z2, z3] 39) ∧ Below w.heap.size w wr) (fun _ i _ => 4 - (intOf i).toNat)
  case atStart =>
    refine ⟨0, by omega, rfl, by rw [cin0]; rfl, ?_, ?_, ⟨_, _, _, _, Blk.new' ((w.alloc _).alloc _) (w.heap.size + 2) (by simp) _ _⟩, ?_⟩
    · exact (((Blk.new w _ _).alloc _).alloc _).cast (arr_congr _ _ _ fun j _ => by simp)
    · exact (Blk.new' (w.alloc _) (w.heap.size + 1) (by simp) _ _).alloc _
    · exact (((Below.refl _ w).alloc (Nat.le_refl _) _).alloc (by simp) _).alloc (by simp; omega) _
  case round =>
    obtain ⟨k, hk, rfl, rfl, B1, B2, ⟨z0, z1, z2, z3, B3⟩, L⟩ := hrel
    by_cases hlt : k < 4
    · have cx := B1.cell k
      rw [arr_get _ _ _ hlt, if_neg (by omega)] at cx
      have cy := B2.cell k
      rw [arr_get _ _ _ hlt] at cy
      have fx := B1.frozen k
      have hadd := add_at x y k hlt
      have HB1 := hide (add_next x y k wr.drew _ _ B1.drew)
      have HB2 := hide B2
      have HB3 := hide B3
      have HL := hide L
      clear B1 B2 B3 L
      have hk0 : (0 : Int) ≤ (k : Int) := by omega
      have hk4 : (k : Int) < 4 := by omega
      go_wp2
      go_region_with (fail)
      all_goals
        go_wp2
        go_roundw
        case rel =>
          refine ⟨k + 1, by omega, by go_num, rfl, HB1.out, HB2.out.drew.setOther _ _ (by omega), ⟨z0, z1, z2, z3, HB3.out.drew.setOther _ _ (by omega)⟩, HL.out.drew.setCell (Nat.le_refl _) _⟩
        case measure => simp [intOf]; omega
    · have e4 : k = 4 := by omega
      subst e4
      have B1' := B1.cast (arr_congr 4 _ (limb (x + y)) fun j hj => by simp [hj])
      rw [arr4] at B1'
      obtain ⟨c1, f1⟩ := B1'.rules
      have HB3 := hide B3
      have HL := hide L
      clear B1 B2 B3 L B1'
      go_wp2_with fail
      refine (settle_at (x + y) 0 _ _ (by rw [fe_def]; rfl) Hlt.out (by omega)).mono ?_
      rintro e w1 ⟨rfl, hb1⟩
      have E1 := HB3.out.call hb1
      have L1 : Below w.heap.size w w1 := HL.out.trans (hb1.mono HL.out.size)
      obtain ⟨c2, f2⟩ := E1.rules
      obtain ⟨r1, r2, r3, r4⟩ := E1.writes
      rw [show x + y + 0 * 2 ^ 256 = x + y by omega, fe_def]
      have HL1 := hide L1
      have hz := hb1.size
      clear E1 L1 hb1
      dsimp only
      go_wp2
      refine bodyPost_ret (v := fe ((x + y) % pP)) (by simp [results, Tryd.results36, go_sem, r3, fe_def]) rfl ⟨rfl, ?_⟩
      exact Below.row HL1.out (by omega) _

end Go.Proofs.YtbpmakegimgbpaaDoor.F

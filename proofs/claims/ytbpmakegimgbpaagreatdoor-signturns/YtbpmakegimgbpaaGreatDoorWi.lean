/- Walks: Load. -/
import Derived.Test.YtbpmakegimgbpaaGreatDoorWh
import Derived.Test.YtbpmakegimgbpaaGreatDoorMm
namespace Go.Proofs.YtbpmakegimgbpaaGreatDoor.F
set_option maxRecDepth 100000
open Go.RowKit

theorem quo8 (k : Nat) (h : k < 32) : IntKind.i64.wrap ((k : Int).tdiv 8) = (k : Int) / 8 := by
  rw [Int.tdiv_eq_ediv_of_nonneg (by omega), wrap_i64_small' _ (by omega) (by omega)]
theorem quo8' (k : Nat) (h : k < 32) : IntKind.i64.wrap ((k : Int) / 8) = (k : Int) / 8 := by
  rw [wrap_i64_small' _ (by omega) (by omega)]
theorem rem8 (k : Nat) (h : k < 32) : IntKind.i64.wrap ((k : Int).tmod 8) = (k : Int) % 8 := by
  rw [Int.tmod_eq_emod_of_nonneg (by omega), wrap_i64_small' _ (by omega) (by omega)]
set_option maxHeartbeats 400000 in
theorem load_any (f : Nat → Nat) (w : World) (hf : ∀ i, f i < 256) :
    Calls Tryz.prog 48 #[ba f] w fun e w' => e = .returned (fe (nb f 32 % pP)) ∧ Below w.heap.size w w' := by
  have Hf := hide hf
  clear hf
  unfold ba
  go_enter Tryz.func48, Tryz.ntmps48
  go_wp2
  go_loopw [5] (fun i wr => ∃ k : Nat, k ≤ 32 ∧ i = .int .i64 k ∧ Blk wr w.heap.size (vals .u8 32 f) 22 ∧ (∃ z0 z1 z2 z3, Blk wr (w.heap.size + 1) #[z0, z1, z2, z3] 47) ∧ Blk wr (w.heap.size + 2) (arr 4 (limb (nb f k))) 45 ∧ Below w.heap.size w wr) (fun i _ => 32 - (intOf i).toNat)
  case atStart =>
    refine ⟨0, by omega, rfl, ?_, ⟨.int .u64 0, .int .u64 0, .int .u64 0, .int .u64 0, ?_⟩, ?_, ?_⟩
    · exact (((Blk.new w _ _).alloc _).alloc _)
    · exact (Blk.new' (w.alloc _) (w.heap.size + 1) (by simp) _ _).alloc _
    · exact (Blk.new' ((w.alloc _).alloc _) (w.heap.size + 2) (by simp) _ _).cast (by rw [arr4]; simp [nb, limb])
    · exact (((Below.refl _ w).alloc (Nat.le_refl _) _).alloc (by simp) _).alloc (by simp; omega) _
  case round =>
    obtain ⟨k, hk, rfl, Bx, ⟨z0, z1, z2, z3, Bz⟩, Bl, L⟩ := hrel
    by_cases hlt : k < 32
    · have cx := Bx.cell k
      rw [vals_get _ _ _ _ hlt] at cx
      have cl := Bl.cell (k / 8)
      rw [arr_get _ _ _ (by omega)] at cl
      have fl := Bl.frozen (k / 8)
      have HBx := hide Bx
      have HBz := hide Bz
      have HBl := hide Bl
      have HL := hide L
      clear Bx Bz Bl L
      have hk0 : (0 : Int) ≤ (k : Int) := by omega
      have hk4 : (k : Int) < 32 := by omega
      have hf8 := Hf.out k
      have hq0 : (0 : Int) ≤ (k : Int) / 8 := by omega
      have hq4 : (k : Int) / 8 < 4 := by omega
      have hq : IntKind.i64.wrap ((k : Int).tdiv 8) = (k : Int) / 8 := quo8 k hlt
      have hq' : IntKind.i64.wrap ((k : Int) / 8) = (k : Int) / 8 := quo8' k hlt
      have hr : IntKind.i64.wrap ((k : Int).tmod 8) = (k : Int) % 8 := rem8 k hlt
      have hqn : ((k : Int) / 8).toNat = k / 8 := by omega
      have hmn : ((k : Int) % 8 * 8).toNat = k % 8 * 8 := by omega
      have hr' : (k : Int).tmod 8 = (k : Int) % 8 := by rw [Int.tmod_eq_emod_of_nonneg (by omega)]
      have hm : IntKind.i64.wrap ((k : Int) % 8 * 8) = (k : Int) % 8 * 8 := mul8 k
      have hm0 : (0 : Int) ≤ (k : Int) % 8 * 8 := by omega
      have hm8 : (k : Int) % 8 * 8 < 64 := by omega
      have Ho := hide (or_load f Hf.out k)
      go_wp2
      go_region_with (fail)
      all_goals
        go_wp2
        rw [Ho.out]
        go_roundw
        case rel =>
          refine ⟨k + 1, by omega, by go_num, (HBx.out.setOther _ _ (by omega)).drew, ⟨z0, z1, z2, z3, (HBz.out.setOther _ _ (by omega)).drew⟩, ?_, (HL.out.setCell (by show w.heap.size ≤ w.heap.size + 2; omega) _).drew⟩
          exact ((HBl.out.set (k / 8) _).drew).cast (by
            rw [arr_set]
            apply arr_congr
            intro j _
            by_cases h1 : j = k / 8
            · subst h1; simp
            · simp only [h1, if_false]; exact (limb_nb_other f Hf.out k j h1).symm)
        case measure => simp [intOf]; omega
    · have e4 : k = 32 := by omega
      subst e4
      rw [arr4] at Bl
      obtain ⟨c1, f1⟩ := Bl.rules
      have HBz := hide Bz
      have HL := hide L
      clear Bx Bz Bl L hlt
      go_wp2_with fail
      refine (settle_at (nb f 32) 0 _ _ (by rw [fe_def]; rfl) (nb_lt f Hf.out 32) (by omega)).mono ?_
      rintro e w1 ⟨rfl, hb1⟩
      have E1 := HBz.out.call hb1
      have L1 : Below w.heap.size w w1 := HL.out.trans (hb1.mono HL.out.size)
      obtain ⟨c2, f2⟩ := E1.rules
      obtain ⟨r1, r2, r3, r4⟩ := E1.writes
      rw [show nb f 32 + 0 * 2 ^ 256 = nb f 32 by omega, fe_def]
      have HL1 := hide L1
      have hz := hb1.size
      clear E1 L1 hb1
      dsimp only
      go_wp2
      refine bodyPost_ret (v := fe (nb f 32 % pP)) (by simp [results, Tryz.results48, go_sem, r3, fe_def]) rfl ⟨rfl, ?_⟩
      exact Below.row HL1.out (by omega) _

theorem load_at (f : Nat → Nat) (args : Array Value) (w : World) (h : args = #[ba f]) (hf : ∀ i, f i < 256) :
    Calls Tryz.prog 48 args w fun e w' => e = .returned (fe (nb f 32 % pP)) ∧ Below w.heap.size w w' := by
  subst h; exact load_any f w hf

end Go.Proofs.YtbpmakegimgbpaaGreatDoor.F

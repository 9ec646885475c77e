/- Walks: read. -/
import Derived.Test.YtjnjedannpnjiaaDoorCb
namespace Go.Proofs.YtjnjedannpnjiaaDoor
open Go.RowKit

theorem be_step (f : Nat → Nat) (hf : ∀ i, f i < 256) (o j : Nat) (hj : j < 8) : bits .or .u64 (IntKind.u64.wrap ((be f o j : Nat) * 256)) ((f (o + j) : Nat) : Int) = ((be f o (j + 1) : Nat) : Int) := by
  have h1 := be_lt f hf o j
  have h2 := hf (o + j)
  have h3 : be f o j < 2 ^ 56 := Nat.lt_of_lt_of_le h1 (Nat.pow_le_pow_right (by omega) (by omega))
  rw [wrap_u64', show ((be f o j : Nat) : Int) * 256 % 18446744073709551616 = ((be f o j * 256 : Nat) : Int) by omega, u64_or_nat _ _ (by omega) (by omega), nat_join8 _ _ (by omega) (by omega), be]
def rw16 (f : Nat → Nat) (k j : Nat) : Nat := if j < k then wt f j else 0
set_option maxHeartbeats 400000 in
theorem read_any (b : Nat) (f : Nat → Nat) (w : World) (hB : Blk w b (arr 80 (fun _ => 0)) 52) (hf : ∀ i, f i < 256) :
    Calls Tryd.prog 35 #[.slice (some ⟨b, 0, none⟩) 16 16, .agg (vals .u8 128 f)] w fun e w' => e = .returned (.tuple #[]) ∧ Blk w' b (arr 80 (rw16 f 16)) 52 ∧ Sto b w w' := by
  have Hf := hide hf
  clear hf
  have Hlt := hide hB.lt
  go_enter Tryd.func35, Tryd.ntmps35
  go_wp2
  go_loopw [10] (fun i wr => ∃ k : Nat, k ≤ 16 ∧ i = .int .i64 k ∧ Blk wr b (arr 80 (rw16 f k)) 52 ∧ Blk wr w.heap.size (vals .u8 128 f) 37 ∧ Sto b w wr) (fun i _ => 16 - (intOf i).toNat)
  case atStart => exact ⟨0, by omega, rfl, (hB.alloc _).cast (arr_congr _ _ _ fun j _ => by simp [rw16]), Blk.new w _ _, (Sto.refl _ _).alloc Hlt.out _⟩
  case round =>
    obtain ⟨k, hk, rfl, B1, B2, S1⟩ := hrel
    clear hB
    have HB1 := hide B1
    have HB2 := hide B2
    have HS1 := hide S1
    clear B1 S1 B2
    by_cases hlt : k < 16
    · have hk0 : (0 : Int) ≤ (k : Int) := by omega
      have hk4 : (k : Int) < 16 := by omega
      have hm : IntKind.i64.wrap (8 * (k : Int)) = 8 * (k : Int) := wrap_i64_small' _ (by omega) (by omega)
      have hm2 : IntKind.i64.wrap (8 * (k : Int) + 8) = 8 * (k : Int) + 8 := wrap_i64_small' _ (by omega) (by omega)
      have hm0 : (0 : Int) ≤ 8 * (k : Int) := by omega
      have hm1 : 8 * (k : Int) ≤ 8 * (k : Int) + 8 := by omega
      have hm3 : 8 * (k : Int) + 8 ≤ 128 := by omega
      have hn1 : (8 * (k : Int)).toNat = 8 * k := by omega
      have hn2 : (8 * (k : Int) + 8).toNat = 8 * k + 8 := by omega
      have hne : ¬ 128 = 8 * k := by omega
      go_wp2
      go_loop [5, 20] (fun x i => ∃ j : Nat, j ≤ 8 ∧ i = .int .i64 j ∧ x = .int .u64 (be f (8 * k) j : Nat)) (fun _ i => 8 - (intOf i).toNat)
      case atStart => exact ⟨0, by omega, rfl, rfl⟩
      case round =>
        obtain ⟨j, hj, rfl, rfl⟩ := hrel
        by_cases hlj : j < 8
        · have cx := HB2.out.cell (8 * k + j)
          rw [vals_get _ _ _ _ (by omega)] at cx
          have hj0 : (0 : Int) ≤ (j : Int) := by omega
          have hj8 : (j : Int) < 8 := by omega
          have Hb := hide (be_step f Hf.out (8 * k) j hlj)
          have hf1 := Hf.out (8 * k + j)
          go_wp2
          rw [Hb.out]
          go_round
          case rel => exact ⟨j + 1, by omega, by go_num, rfl⟩
          case measure => simp [intOf]; omega
        · have e8 : j = 8 := by omega
          subst e8
          have cx := HB1.out.cell k
          rw [arr_get _ _ _ (by omega)] at cx
          have fx := HB1.out.frozen k
          have Hw := hide (wt_low f k hlt)
          go_wp2
          rw [← Hw.out]
          go_roundw
          case rel =>
            refine ⟨k + 1, by omega, by go_num, (HB1.out.set k _).cast ?_, HB2.out.setOther _ _ (by have := Hlt.out; omega), HS1.out.set _ _⟩
            rw [arr_set]
            refine arr_congr _ _ _ fun j _ => ?_
            unfold rw16
            by_cases h1 : j = k
            · subst h1; simp
            · by_cases h2 : j < k
              · simp [h1, h2, show j < k + 1 by omega]
              · simp [h1, h2, show ¬ j < k + 1 by omega]
          case measure => simp [intOf]; omega
    · have e4 : k = 16 := by omega
      subst e4
      go_wp2
      go_end0
      exact ⟨rfl, HB1.out, HS1.out⟩
end Go.Proofs.YtjnjedannpnjiaaDoor

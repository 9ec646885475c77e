/- Walks: what the closure of Sum answers. -/
import Derived.Test.YtjnjedannpnjiaaDoorKa
namespace Go.Proofs.YtjnjedannpnjiaaDoor
open Go.RowKit

set_option maxRecDepth 100000 in
set_option maxHeartbeats 1000000 in
theorem changed_any (f : Nat → Nat) (y b : Nat) (w : World) (hB : Blk w b (vals .u8 128 f) 37) (hf : ∀ i, f i < 256) (hy : y < 256) :
    Calls Tryd.prog 18 #[.int .u8 y, .pointer (some ⟨b, 0, none⟩)] w fun e w' => e = .returned (.agg (vals .u8 128 (fun i => f i ^^^ y))) ∧ Below w.heap.size w w' := by
  have HB := hide (hB.alloc (.cells (vals .u8 128 (fun _ => 0)) 37))
  have HB1 := hide hB
  have Hf := hide hf
  have Hy := hide hy
  clear hB hf hy
  have hz := zero35
  have B0 := hide (Blk.new w (vals .u8 128 (fun _ => 0)) 37)
  have L0 := hide ((Below.refl w.heap.size w).alloc (Nat.le_refl _) (.cells (vals .u8 128 (fun _ => 0)) 37))
  go_enter Tryd.func18, Tryd.ntmps18
  go_wp2_with (first
    | (refine wpList_load_row rfl 37 _ rfl b rfl 37 _ (0, 0) _ HB.out Tryd.underlying37 rfl (by rw [vals_size]; exact cells29) ?_)
    | (refine wpList_store_abs rfl 37 _ _ rfl (w.heap.size + 1) (vals .u8 128 f) rfl rfl 37 _ (Blk.new' _ (w.heap.size + 1) (by simp) _ _) (by rw [vals_size]; exact cells29) (by simp only [vals_size]) (vals_one _ _ _) ?_; intro k2 Bn Sn; have B2 := hide (Sn.other _ _ _ (by omega) (B0.out.alloc _)); have L2 := hide (Sn.low _ _ (L0.out.alloc L0.out.size _) (Nat.le_succ _)); have B3 := hide Bn; clear Bn Sn B0 L0))
  clear hz HB HB1
  go_loopw [7] (fun i wr => ∃ j : Nat, j ≤ 128 ∧ i = .int .i64 j ∧ Blk wr (w.heap.size + 1) (vals .u8 128 (fun t => if t < j then f t ^^^ y else f t)) 37 ∧ Blk wr w.heap.size (vals .u8 128 (fun _ => 0)) 37 ∧ Below w.heap.size w wr) (fun i _ => 128 - (intOf i).toNat)
  case atStart => exact ⟨0, Nat.zero_le _, rfl, B3.out.cast (vals_congr _ _ _ _ fun j _ => by simp), B2.out, L2.out⟩
  case round =>
    clear B3 B2 L2
    obtain ⟨j, hj, rfl, B, C, L⟩ := hrel
    by_cases hlt : j < 128
    · have cw := B.cell j
      rw [vals_get _ _ _ _ hlt, if_neg (by omega)] at cw
      have fw := B.frozen j
      have hj0 : (0 : Int) ≤ (j : Int) := by omega
      have hj2 : (j : Int) < 128 := by omega
      have Hx : Hid (bits .xor .u8 ((f j : Nat) : Int) (y : Int) = ((f j ^^^ y : Nat) : Int)) := hide (u8_xor _ _ (Hf.out j) Hy.out)
      obtain ⟨x, hx⟩ : ∃ x, x = f j := ⟨_, rfl⟩
      rw [← hx] at cw Hx
      have Hfx := hide hx
      clear hx
      have HB := hide B
      have HC := hide C
      have HL2 := hide L
      clear B C L
      go_wp2
      rw [Hx.out, Hfx.out]
      go_roundw
      case rel => exact ⟨j + 1, by omega, by go_num, upd_vals .u8 128 f (fun t => f t ^^^ y) j _ _ _ HB.out, HC.out.setOther _ _ (by omega), HL2.out.setCell (Nat.le_succ _) _⟩
      case measure => simp [intOf]; omega
    · have e0 : j = 128 := by omega
      subst e0
      have HB := hide (B.cast (vals_congr .u8 128 _ (fun t => f t ^^^ y) fun t ht => by rw [if_pos ht]))
      have HC := hide C
      have HL2 := hide L
      clear B C L
      obtain ⟨g, hg⟩ : ∃ g, g = fun t => f t ^^^ y := ⟨_, rfl⟩
      rw [← hg] at HB
      have Hg := hide hg
      clear hg
      go_wp2_with (first
        | (refine wpList_load_row rfl 37 _ rfl (w.heap.size + 1) rfl 37 _ (0, 0) _ HB.out Tryd.underlying37 rfl (by rw [vals_size]; exact cells29) ?_)
        | (refine wpList_store_row rfl 37 _ _ rfl w.heap.size (vals .u8 128 g) rfl rfl 37 _ HC.out (by rw [vals_size]; exact cells29) (by rw [vals_size, vals_size]) (vals_one _ _ _) ?_))
      refine bodyPost_ret (v := .agg (vals .u8 128 g)) (results_cell_row Tryd.results18 _ _ w.heap.size 37 _ (0, 0) _ rfl (HC.out.row _) Tryd.underlying37 rfl (by rw [vals_size]; exact cells29)) rfl ⟨by rw [Hg.out], ?_⟩
      exact Below.row HL2.out (Nat.le_refl _) _
theorem changed_at (f : Nat → Nat) (y b : Nat) (args : Array Value) (w : World) (h : args = #[.int .u8 y, .pointer (some ⟨b, 0, none⟩)]) (hB : Blk w b (vals .u8 128 f) 37) (hf : ∀ i, f i < 256) (hy : y < 256) :
    Calls Tryd.prog 18 args w fun e w' => e = .returned (.agg (vals .u8 128 (fun i => f i ^^^ y))) ∧ Below w.heap.size w w' := by
  subst h; exact changed_any f y b w hB hf hy
end Go.Proofs.YtjnjedannpnjiaaDoor

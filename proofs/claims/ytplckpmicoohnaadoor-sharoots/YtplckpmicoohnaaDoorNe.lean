/- Walks of the reference: Heads. -/
import Derived.Test.YtplckpmicoohnaaDoorNc
import Derived.Test.YtplckpmicoohnaaDoorNd
namespace Go.Proofs.YtplckpmicoohnaaDoor
open Go.RowKit

theorem built28 : Tryd.prog.built 28 [] = some (arr 8 (fun _ => 0)) := by kernel_rfl
theorem zero28 (w : World) : (zeroValue 28).run Tryd.prog w = .ok (.agg (arr 8 (fun _ => 0))) w := by kernel_rfl
theorem rootH_at (i : Nat) (args : Array Value) (w : World) (h : args = #[.int .u64 (pr i : Nat), .bool false]) (hi : i < 8) :
    Calls Tryd.prog 16 args w fun e w' => e = .returned (.int .u64 (hc i : Nat)) ∧ Below w.heap.size w w' := by
  subst h
  have := root_false (pr i) w (by have := (pr_le i (by omega)).1; omega)
  rw [show 16 * 8 = 128 from rfl, h_root i hi] at this
  exact this
theorem rootK_at (i : Nat) (args : Array Value) (w : World) (h : args = #[.int .u64 (pr i : Nat), .bool true]) (hi : i < 80) :
    Calls Tryd.prog 16 args w fun e w' => e = .returned (.int .u64 (kc i : Nat)) ∧ Below w.heap.size w w' := by
  subst h
  have := root_true (pr i) w (by have := (pr_le i hi).1; omega)
  rw [show 16 * 12 = 192 from rfl, k_root i hi] at this
  exact this
theorem primeB_at (n : Nat) (args : Array Value) (w : World) (h : args = #[.int .i64 n]) (hn : n < 80) :
    Calls Tryd.prog 17 args w fun e w' => e = .returned (.int .u64 (pr n : Nat)) ∧ Below w.heap.size w w' :=
  (prime_at n args w h hn).mono fun _ _ h => ⟨h.1, by rw [h.2]; exact Below.refl _ _⟩
set_option maxRecDepth 100000 in
set_option maxHeartbeats 1000000 in
theorem heads_any (w : World) : Calls Tryd.prog 15 #[] w fun e w' => e = .returned (.agg (arr 8 hc)) ∧ Below w.heap.size w w' := by
  have hz := zero28
  have B0 := hide (Blk.new w (arr 8 (fun _ => 0)) 28)
  have L0 := hide ((Below.refl w.heap.size w).alloc (Nat.le_refl _) (.cells (arr 8 (fun _ => 0)) 28))
  go_enter Tryd.func15, Tryd.ntmps15
  go_upto_region 1 with (fail)
  generalize w.alloc (.cells (arr 8 (fun _ => 0)) 28) = w1 at *
  go_upto_region 2 with (first
    | (refine wpList_build_w (by rfl) 28 _ rfl (arr 8 (fun _ => 0)) (by kernel_rfl) ?_)
    | (refine wpList_store_abs rfl 28 _ _ rfl w1.heap.size (arr 8 (fun _ => 0)) rfl rfl 28 _ (Blk.new w1 _ _) (by rw [arr_size]; exact cells28) (by simp only [arr_size]) (arr_one _ _) ?_; intro k2 Bn Sn; have Z1 := hide (Sn.other _ _ _ (Nat.ne_of_gt B0.out.lt) (B0.out.alloc _)); have L1 := hide (Sn.low _ _ (L0.out.alloc L0.out.size _) L0.out.size); have D1 := hide Bn; have Hd : Hid (w1.heap.size ≠ w.heap.size ∧ w.heap.size ≤ w1.heap.size) := hide ⟨Nat.ne_of_gt B0.out.lt, L0.out.size⟩; clear Bn Sn B0 L0))
  clear hz
  generalize w1.heap.size = bo at *
  simp only [Act.put]
  go_wp2
  go_loopw [2] (fun iv wr => ∃ k : Nat, k ≤ 8 ∧ iv = .int .i64 k ∧ Blk wr bo (arr 8 (fun j => if j < k then hc j else 0)) 28 ∧ Blk wr w.heap.size (arr 8 (fun _ => 0)) 28 ∧ Below w.heap.size w wr) (fun i _ => 8 - (intOf i).toNat)
  case atStart => exact ⟨0, by omega, rfl, D1.out.cast (arr_congr _ _ _ fun j _ => by simp), Z1.out, L1.out⟩
  case round =>
    clear D1 Z1 L1
    obtain ⟨k, hk, rfl, Bo, Bz, L⟩ := hrel
    have HBo := hide Bo
    have HBz := hide Bz
    have HL := hide L
    clear Bo Bz L
    by_cases hlt : k < 8
    · have hk0 : (0 : Int) ≤ (k : Int) := by omega
      have hk8 : (k : Int) < 8 := by omega
      have Hlt := hide hlt
      go_wp2_with (first
        | (go_at_call 17; refine (prime_at k _ _ rfl (by have := Hlt.out; omega)).mono ?_; rintro e k4 ⟨rfl, rfl⟩; dsimp only)
        | (go_at_call 16; refine (rootH_at k _ _ rfl Hlt.out).mono ?_; rintro e k5 ⟨rfl, hb⟩; have O1 := hide (HBo.out.call hb); have Z1 := hide (HBz.out.call hb); have L1 := hide (keepLow2 HL.out hb); have co := O1.out.cell k; rw [arr_get _ _ _ Hlt.out] at co; have fo := O1.out.frozen k; clear hb; dsimp only))
      go_roundw
      case rel => exact ⟨k + 1, by omega, by go_num, upd_arr 8 (fun _ => 0) hc k _ _ _ O1.out, Z1.out.setOther _ _ Hd.out.1, L1.out.setCell (by show w.heap.size ≤ bo; exact Hd.out.2) _⟩
      case measure => simp [intOf]; omega
    · have e8 : k = 8 := by omega
      subst e8
      have HB := hide (HBo.out.cast (arr_congr 8 _ hc fun j hj => by rw [if_pos hj]))
      clear HBo
      go_wp2_with (first
        | (refine wpList_load_row rfl 28 _ rfl bo rfl 28 _ (0, 0) _ HB.out Tryd.underlying28 rfl (by rw [arr_size]; exact cells28) ?_)
        | (refine wpList_store_row rfl 28 _ _ rfl w.heap.size (arr 8 hc) rfl rfl 28 _ HBz.out (by rw [arr_size]; exact cells28) (by rw [arr_size, arr_size]) (arr_one _ _) ?_))
      refine bodyPost_ret (v := .agg (arr 8 hc)) (results_cell_row Tryd.results15 _ _ w.heap.size 28 _ (0, 0) _ rfl (HBz.out.row _) Tryd.underlying28 rfl (by rw [arr_size]; exact cells28)) rfl ⟨rfl, ?_⟩
      exact Below.row HL.out (Nat.le_refl _) _
end Go.Proofs.YtplckpmicoohnaaDoor

/- Walks of the reference: Order, Below, twice, less. -/
import Derived.Test.YtbpmakegimgbpaaDoorSa
namespace Go.Proofs.YtbpmakegimgbpaaDoor.S
set_option maxRecDepth 100000
open Go.RowKit

theorem ordB : (#[.int .u8 237, .int .u8 211, .int .u8 245, .int .u8 92, .int .u8 26, .int .u8 99, .int .u8 18, .int .u8 88, .int .u8 214, .int .u8 156, .int .u8 247, .int .u8 162, .int .u8 222, .int .u8 249, .int .u8 222, .int .u8 20, .int .u8 0, .int .u8 0, .int .u8 0, .int .u8 0, .int .u8 0, .int .u8 0, .int .u8 0, .int .u8 0, .int .u8 0, .int .u8 0, .int .u8 0, .int .u8 0, .int .u8 0, .int .u8 0, .int .u8 0, .int .u8 16] : Array Value) = vals .u8 32 (byt qL) := by kernel_rfl
set_option maxHeartbeats 1000000 in
theorem rOrder_any (w : World) :
    Calls Tryd.prog 28 #[] w fun e w' => e = .returned (ba (byt qL)) ∧ Below w.heap.size w w' := by
  have HZ := hide (Blk.new w (vals .u8 32 (fun _ => 0)) 22)
  have L0 := hide ((Below.refl w.heap.size w).alloc (Nat.le_refl _) (.cells (vals .u8 32 (fun _ => 0)) 22))
  go_enter Tryd.func28, Tryd.ntmps28
  go_wp2_with (first
    | (refine wpList_build_w (by rfl) 22 _ rfl (vals .u8 32 (byt qL)) (by kernel_rfl) ?_)
    | (refine wpList_store_row rfl 22 _ _ rfl w.heap.size (vals .u8 32 (byt qL)) rfl (by first | rfl | (rw [← ordB]; rfl)) 22 _ HZ.out (by rw [vals_size]; exact cells23) (by rw [vals_size, vals_size]) (vals_one _ _ _) ?_))
  refine bodyPost_ret (v := .agg (vals .u8 32 (byt qL))) (results_cell_row Tryd.results28 _ _ w.heap.size 22 _ (0, 0) _ rfl (HZ.out.row _) Tryd.underlying22 rfl (by rw [vals_size]; exact cells23)) rfl ⟨rfl, ?_⟩
  exact Below.row L0.out (Nat.le_refl _) _
theorem rOrder_at (args : Array Value) (w : World) (h : args = #[]) :
    Calls Tryd.prog 28 args w fun e w' => e = .returned (ba (byt qL)) ∧ Below w.heap.size w w' := by
  subst h; exact rOrder_any w

set_option maxHeartbeats 1000000 in
theorem rBelow_any (a b : Nat) (w : World) (ha : a < 2 ^ 256) (hb : b < 2 ^ 256) :
    Calls Tryd.prog 27 #[ba (byt a), ba (byt b)] w fun e w' => e = .returned (.bool (decide (a < b))) ∧ Below w.heap.size w w' := by
  have Ha := hide ha
  have Hb := hide hb
  clear ha hb
  unfold ba
  go_enter Tryd.func27, Tryd.ntmps27
  go_wp2
  go_loopw [5] (fun i wr => ∃ k : Nat, k ≤ 32 ∧ i = .int .i64 ((k : Int) - 1) ∧ a / 2 ^ (8 * k) = b / 2 ^ (8 * k) ∧ Blk wr w.heap.size (vals .u8 32 (byt a)) 22 ∧ Blk wr (w.heap.size + 1) (vals .u8 32 (byt b)) 22 ∧ Below w.heap.size w wr) (fun i _ => (intOf i + 1).toNat)
  case atStart =>
    refine ⟨32, by omega, rfl, ?_, ?_, ?_, ?_⟩
    · rw [Nat.div_eq_of_lt (show a < 2 ^ (8 * 32) from Ha.out), Nat.div_eq_of_lt (show b < 2 ^ (8 * 32) from Hb.out)]
    · exact (Blk.new w _ _).alloc _
    · exact Blk.new' (w.alloc _) (w.heap.size + 1) (by simp) _ _
    · exact ((Below.refl _ w).alloc (Nat.le_refl _) _).alloc (by simp) _
  case round =>
    obtain ⟨k, hk, rfl, hd, Ba, Bb, L⟩ := hrel
    have HL := hide L
    have Hd := hide hd
    clear L hd
    rcases Nat.eq_zero_or_pos k with h0 | h0
    · subst h0
      rw [show ((0 : Nat) : Int) - 1 = -1 from rfl]
      clear Ba Bb
      go_wp2
      go_ret
      have e : a = b := by have := Hd.out; simpa using this
      exact ⟨by subst e; simp, HL.out⟩
    · obtain ⟨m, rfl⟩ : ∃ m, k = m + 1 := ⟨k - 1, by omega⟩
      rw [show ((m + 1 : Nat) : Int) - 1 = (m : Int) by omega]
      have ca := Ba.cell m
      rw [vals_get _ _ _ _ (by omega)] at ca
      have cb := Bb.cell m
      rw [vals_get _ _ _ _ (by omega)] at cb
      have HBa := hide Ba
      have HBb := hide Bb
      clear Ba Bb
      have hk0 : (0 : Int) ≤ (m : Int) := by omega
      have hk4 : (m : Int) < 32 := by omega
      by_cases hne : byt a m = byt b m
      · have hbne : (((byt a m : Nat) : Int) != ((byt b m : Nat) : Int)) = false := by rw [hne]; simp
        have Hne := hide hne
        clear hne
        go_wp2
        go_region_with (fail)
        all_goals
          go_wp2
          go_roundw
          case rel => exact ⟨m, by omega, by go_num, same_up a b m Hd.out Hne.out, HBa.out.drew, HBb.out.drew, HL.out.drew⟩
          case measure => simp [intOf]
      · have hbne : (((byt a m : Nat) : Int) != ((byt b m : Nat) : Int)) = true := by rw [bne_iff_ne]; omega
        have Hr := hide (lt_up a b m Hd.out hne)
        clear hne
        go_wp2
        go_region_with (fail)
        all_goals
          go_wp2
          go_region_with (fail)
          all_goals
            go_wp2
            go_ret
            exact ⟨ret_bool (by rw [Hr.out]), HL.out.drew.drew⟩
theorem rBelow_at (a b : Nat) (r : Bool) (args : Array Value) (w : World) (h : args = #[ba (byt a), ba (byt b)]) (ha : a < 2 ^ 256) (hb : b < 2 ^ 256) (hr : decide (a < b) = r) :
    Calls Tryd.prog 27 args w fun e w' => e = .returned (.bool r) ∧ Below w.heap.size w w' := by subst h hr; exact rBelow_any a b w ha hb

theorem twice_sum (n b k : Nat) (hb : b ≤ 1) : (((byt n k : Nat) : Int) * 2 + ((tb n b k : Nat) : Int)) % 256 = ((byt (2 * n + b) k : Nat) : Int) := by
  have h1 := byt_twice n b k hb
  have h2 := byt_lt (2 * n + b) k
  omega
theorem less_dif (a b k : Nat) (h : byt a k < byt b k + bw a b k) (hle : b ≤ a) : ((byt a k : Nat) : Int) - ((byt b k : Nat) : Int) - ((bw a b k : Nat) : Int) < 0 ∧ bw a b (k + 1) = 1 ∧ ((byt a k : Nat) : Int) - ((byt b k : Nat) : Int) - ((bw a b k : Nat) : Int) + 256 = ((byt (a - b) k : Nat) : Int) := by
  have h1 := byt_lt a k
  have h2 := byt_lt b k
  have h3 := bw_le a b k
  have h4 := bw_succ a b k
  have h5 := byt_sub a b k hle
  generalize byt (a - b) k = d at *
  generalize byt a k = x at *
  generalize byt b k = y at *
  generalize bw a b k = c at *
  generalize bw a b (k + 1) = c' at *
  omega
theorem less_not (a b k : Nat) (h : ¬ byt a k < byt b k + bw a b k) (hle : b ≤ a) : ¬ ((byt a k : Nat) : Int) - ((byt b k : Nat) : Int) - ((bw a b k : Nat) : Int) < 0 ∧ bw a b (k + 1) = 0 ∧ ((byt a k : Nat) : Int) - ((byt b k : Nat) : Int) - ((bw a b k : Nat) : Int) = ((byt (a - b) k : Nat) : Int) := by
  have h1 := byt_lt a k
  have h2 := byt_lt b k
  have h3 := bw_le a b k
  have h4 := bw_succ a b k
  have h5 := byt_sub a b k hle
  generalize byt (a - b) k = d at *
  generalize byt a k = x at *
  generalize byt b k = y at *
  generalize bw a b k = c at *
  generalize bw a b (k + 1) = c' at *
  omega

end Go.Proofs.YtbpmakegimgbpaaDoor.S

/- Walks of the reference: Order, Below, twice, less. -/
import Derived.Test.YtokhmhodkakioaaDoorRa
namespace Go.Proofs.YtokhmhodkakioaaDoor
open Go.RowKit

theorem ordB : (#[.int .u8 237, .int .u8 211, .int .u8 245, .int .u8 92, .int .u8 26, .int .u8 99, .int .u8 18, .int .u8 88, .int .u8 214, .int .u8 156, .int .u8 247, .int .u8 162, .int .u8 222, .int .u8 249, .int .u8 222, .int .u8 20, .int .u8 0, .int .u8 0, .int .u8 0, .int .u8 0, .int .u8 0, .int .u8 0, .int .u8 0, .int .u8 0, .int .u8 0, .int .u8 0, .int .u8 0, .int .u8 0, .int .u8 0, .int .u8 0, .int .u8 0, .int .u8 16] : Array Value) = vals .u8 32 (byt qL) := by kernel_rfl
set_option maxHeartbeats 1000000 in
theorem rOrder_any (w : World) :
    Calls Tryd.prog 15 #[] w fun e w' => e = .returned (ba (byt qL)) ∧ Below w.heap.size w w' := by
  have HZ := hide (Blk.new w (vals .u8 32 (fun _ => 0)) 23)
  have L0 := hide ((Below.refl w.heap.size w).alloc (Nat.le_refl _) (.cells (vals .u8 32 (fun _ => 0)) 23))
  go_enter Tryd.func15, Tryd.ntmps15
  go_wp2_with (first
    | (refine wpList_build_w (by rfl) 23 _ rfl (vals .u8 32 (byt qL)) (by kernel_rfl) ?_)
    | (refine wpList_store_row rfl 23 _ _ rfl w.heap.size (vals .u8 32 (byt qL)) rfl (by first | rfl | (rw [← ordB]; rfl)) 23 _ HZ.out (by rw [vals_size]; exact cells23) (by rw [vals_size, vals_size]) (vals_one _ _ _) ?_))
  refine bodyPost_ret (v := .agg (vals .u8 32 (byt qL))) (results_cell_row Tryd.results15 _ _ w.heap.size 23 _ (0, 0) _ rfl (HZ.out.row _) Tryd.underlying23 rfl (by rw [vals_size]; exact cells23)) rfl ⟨rfl, ?_⟩
  exact Below.row L0.out (Nat.le_refl _) _
theorem rOrder_at (args : Array Value) (w : World) (h : args = #[]) :
    Calls Tryd.prog 15 args w fun e w' => e = .returned (ba (byt qL)) ∧ Below w.heap.size w w' := by
  subst h; exact rOrder_any w

set_option maxHeartbeats 1000000 in
theorem rBelow_any (a b : Nat) (w : World) (ha : a < 2 ^ 256) (hb : b < 2 ^ 256) :
    Calls Tryd.prog 23 #[ba (byt a), ba (byt b)] w fun e w' => e = .returned (.bool (decide (a < b))) ∧ Below w.heap.size w w' := by
  have Ha := hide ha
  have Hb := hide hb
  clear ha hb
  unfold ba
  go_enter Tryd.func23, Tryd.ntmps23
  go_wp2
  go_loopw [5] (fun i wr => ∃ k : Nat, k ≤ 32 ∧ i = .int .i64 ((k : Int) - 1) ∧ a / 2 ^ (8 * k) = b / 2 ^ (8 * k) ∧ Blk wr w.heap.size (vals .u8 32 (byt a)) 23 ∧ Blk wr (w.heap.size + 1) (vals .u8 32 (byt b)) 23 ∧ Below w.heap.size w wr) (fun i _ => (intOf i + 1).toNat)
  case atStart =>
    refine ⟨32, by omega, rfl, ?_, ?_, ?_, ?_⟩
    · rw [Nat.div_eq_of_lt (show a < 2 ^ (8 * 32) from Ha.out), Nat.div_eq_of_lt (show b < 2 ^ (8 * 32) from Hb.out)]
    · exact (Blk.new w _ _).alloc _
    · exact Blk.new' (w.alloc _) (w.heap.size + 1) (by simp) _ _
    · exact ((Below.refl _ w).alloc (Nat.le_refl _) _).alloc (by simp) _
  case round =>
    obtain ⟨k, hk, rfl, hd, Ba, Bb, L⟩ := hrel
    have HL := hide L
    have Hd := hide hd
    clear L hd
    rcases Nat.eq_zero_or_pos k with h0 | h0
    · subst h0
      rw [show ((0 : Nat) : Int) - 1 = -1 from rfl]
      clear Ba Bb
      go_wp2
      go_ret
      have e : a = b := by have := Hd.out; simpa using this
      exact ⟨by subst e; simp, HL.out⟩
    · obtain ⟨m, rfl⟩ : ∃ m, k = m + 1 := ⟨k - 1, by omega⟩
      rw [show ((m + 1 : Nat) : Int) - 1 = (m : Int) by omega]
      have ca := Ba.cell m
      rw [vals_get _ _ _ _ (by omega)] at ca
      have cb := Bb.cell m
      rw [vals_get _ _ _ _ (by omega)] at cb
      have HBa := hide Ba
      have HBb := hide Bb
      clear Ba Bb
      have hk0 : (0 : Int) ≤ (m : Int) := by omega
      have hk4 : (m : Int) < 32 := by omega
      by_cases hne : byt a m = byt b m
      · have hbne : (((byt a m : Nat) : Int) != ((byt b m : Nat) : Int)) = false := by rw [hne]; simp
        have Hne := hide hne
        clear hne
        go_wp2
        go_region_with (fail)
        all_goals
          go_wp2
          go_roundw
          case rel => exact ⟨m, by omega, by go_num, same_up a b m Hd.out Hne.out, HBa.out.drew, HBb.out.drew, HL.out.drew⟩
          case measure => simp [intOf]
      · have hbne : (((byt a m : Nat) : Int) != ((byt b m : Nat) : Int)) = true := by rw [bne_iff_ne]; omega
        have Hr := hide (lt_up a b m Hd.out hne)
        clear hne
        go_wp2
        go_region_with (fail)
        all_goals
          go_wp2
          go_region_with (fail)
          all_goals
            go_wp2
            go_ret
            exact ⟨ret_bool (by rw [Hr.out]), HL.out.drew.drew⟩
theorem rBelow_at (a b : Nat) (r : Bool) (args : Array Value) (w : World) (h : args = #[ba (byt a), ba (byt b)]) (ha : a < 2 ^ 256) (hb : b < 2 ^ 256) (hr : decide (a < b) = r) :
    Calls Tryd.prog 23 args w fun e w' => e = .returned (.bool r) ∧ Below w.heap.size w w' := by subst h hr; exact rBelow_any a b w ha hb

theorem twice_sum (n b k : Nat) (hb : b ≤ 1) : (((byt n k : Nat) : Int) * 2 + ((tb n b k : Nat) : Int)) % 256 = ((byt (2 * n + b) k : Nat) : Int) := by
  have h1 := byt_twice n b k hb
  have h2 := byt_lt (2 * n + b) k
  omega
set_option maxHeartbeats 1000000 in
theorem rTwice_any (n b : Nat) (w : World) (hb : b ≤ 1) :
    Calls Tryd.prog 27 #[ba (byt n), .int .u8 b] w fun e w' => e = .returned (ba (byt (2 * n + b))) ∧ Below w.heap.size w w' := by
  have Hb := hide hb
  clear hb
  unfold ba
  go_enter Tryd.func27, Tryd.ntmps27
  go_wp2_with (first
    | (refine wpList_build rfl 23 #[] rfl (by simp [built23]) ?_; simp only [List.map_toArray, List.map_nil, built23, Option.getD_some])
    | (refine wpList_store_row rfl 23 _ _ rfl (w.heap.size + 2) (vals .u8 32 (fun _ => 0)) rfl rfl 23 _ (Blk.new' _ _ (by simp) _ _) (by rw [vals_size]; exact cells23) (by rw [vals_size]; rfl) (vals_one _ _ _) ?_))
  go_loopw [6, 7] (fun c i wr => ∃ k : Nat, k ≤ 32 ∧ i = .int .i64 k ∧ c = .int .u8 (tb n b k : Nat) ∧ Blk wr w.heap.size (vals .u8 32 (byt n)) 23 ∧ (∃ z, z.size = 32 ∧ Blk wr (w.heap.size + 1) z 23) ∧ Blk wr (w.heap.size + 2) (vals .u8 32 (fun j => if j < k then byt (2 * n + b) j else 0)) 23 ∧ Below w.heap.size w wr) (fun _ i _ => 32 - (intOf i).toNat)
  case atStart =>
    refine ⟨0, by omega, rfl, rfl, ?_, ⟨vals .u8 32 (fun _ => 0), vals_size _ _ _, ?_⟩, ?_, ?_⟩
    · exact (((Blk.new w _ _).alloc _).alloc _).rowOther _ (by omega)
    · exact ((Blk.new' (w.alloc _) (w.heap.size + 1) (by simp) _ _).alloc _).rowOther _ (by omega)
    · exact ((Blk.new' ((w.alloc _).alloc _) (w.heap.size + 2) (by simp) _ _).row _).cast (vals_congr _ _ _ _ fun j _ => by simp)
    · exact Below.row ((((Below.refl _ w).alloc (Nat.le_refl _) _).alloc (by simp) _).alloc (by simp; omega) _) (by omega) _
  case round =>
    obtain ⟨k, hk, rfl, rfl, Bx, ⟨z, hz, Bz⟩, Bo, L⟩ := hrel
    by_cases hlt : k < 32
    · have cx := Bx.cell k
      rw [vals_get _ _ _ _ hlt] at cx
      have cb := Bo.cell k
      rw [vals_get _ _ _ _ (by omega)] at cb
      have fb := Bo.frozen k
      have HX := hide (Bx.setOther (b' := w.heap.size + 2) k (.int .u8 (byt (2 * n + b) k : Nat)) (by omega))
      have cx2 := HX.out.cell k
      rw [vals_get _ _ _ _ hlt] at cx2
      have Hw := hide (twice_sum n b k Hb.out)
      have Hn : Hid (((byt n k : Nat) : Int) / 128 = ((tb n b (k + 1) : Nat) : Int)) := hide (by rw [tb_next]; rfl)
      have HBz := hide Bz
      have HB := hide (upd_vals .u8 32 (fun _ => 0) (byt (2 * n + b)) k _ _ _ Bo)
      have HL := hide L
      clear Bx Bz Bo L
      have hk0 : (0 : Int) ≤ (k : Int) := by omega
      have hk4 : (k : Int) < 32 := by omega
      go_wp2
      rw [Hn.out, Hw.out]
      go_roundw
      case rel => exact ⟨k + 1, by omega, by go_num, rfl, HX.out, ⟨z, hz, HBz.out.setOther _ _ (by omega)⟩, HB.out, HL.out.setCell (by show w.heap.size ≤ w.heap.size + 2; omega) _⟩
      case measure => simp [intOf]; omega
    · have e4 : k = 32 := by omega
      subst e4
      have HB := hide (Bo.cast (vals_congr _ 32 _ (byt (2 * n + b)) fun j hj => by simp [hj]))
      have HBz := hide Bz
      have HL := hide L
      clear Bx Bz Bo L
      go_wp2_with (first
        | (refine wpList_load_row rfl 23 _ rfl (w.heap.size + 2) rfl 23 _ (0, 0) _ HB.out Tryd.underlying23 rfl (by rw [vals_size]; exact cells23) ?_)
        | (refine wpList_store_row rfl 23 _ _ rfl (w.heap.size + 1) (vals .u8 32 (byt (2 * n + b))) rfl rfl 23 z HBz.out (by rw [vals_size]; exact cells23) (by rw [vals_size]; exact hz) (vals_one _ _ _) ?_))
      refine bodyPost_ret (v := .agg (vals .u8 32 (byt (2 * n + b)))) (results_cell_row Tryd.results27 _ _ (w.heap.size + 1) 23 _ (0, 0) _ rfl (HBz.out.row _) Tryd.underlying23 rfl (by rw [vals_size]; exact cells23)) rfl ⟨rfl, ?_⟩
      exact Below.row HL.out (by omega) _
theorem rTwice_at (n b : Nat) (args : Array Value) (w : World) (h : args = #[ba (byt n), .int .u8 b]) (hb : b ≤ 1) :
    Calls Tryd.prog 27 args w fun e w' => e = .returned (ba (byt (2 * n + b))) ∧ Below w.heap.size w w' := by subst h; exact rTwice_any n b w hb

theorem less_dif (a b k : Nat) (h : byt a k < byt b k + bw a b k) (hle : b ≤ a) : ((byt a k : Nat) : Int) - ((byt b k : Nat) : Int) - ((bw a b k : Nat) : Int) < 0 ∧ bw a b (k + 1) = 1 ∧ ((byt a k : Nat) : Int) - ((byt b k : Nat) : Int) - ((bw a b k : Nat) : Int) + 256 = ((byt (a - b) k : Nat) : Int) := by
  have h1 := byt_lt a k
  have h2 := byt_lt b k
  have h3 := bw_le a b k
  have h4 := bw_succ a b k
  have h5 := byt_sub a b k hle
  generalize byt (a - b) k = d at *
  generalize byt a k = x at *
  generalize byt b k = y at *
  generalize bw a b k = c at *
  generalize bw a b (k + 1) = c' at *
  omega
theorem less_not (a b k : Nat) (h : ¬ byt a k < byt b k + bw a b k) (hle : b ≤ a) : ¬ ((byt a k : Nat) : Int) - ((byt b k : Nat) : Int) - ((bw a b k : Nat) : Int) < 0 ∧ bw a b (k + 1) = 0 ∧ ((byt a k : Nat) : Int) - ((byt b k : Nat) : Int) - ((bw a b k : Nat) : Int) = ((byt (a - b) k : Nat) : Int) := by
  have h1 := byt_lt a k
  have h2 := byt_lt b k
  have h3 := bw_le a b k
  have h4 := bw_succ a b k
  have h5 := byt_sub a b k hle
  generalize byt (a - b) k = d at *
  generalize byt a k = x at *
  generalize byt b k = y at *
  generalize bw a b k = c at *
  generalize bw a b (k + 1) = c' at *
  omega
set_option maxHeartbeats 1000000 in
theorem rLess_any (a b : Nat) (w : World) (h : b ≤ a) :
    Calls Tryd.prog 28 #[ba (byt a), ba (byt b)] w fun e w' => e = .returned (ba (byt (a - b))) ∧ Below w.heap.size w w' := by
  have Hle := hide h
  clear h
  unfold ba
  go_enter Tryd.func28, Tryd.ntmps28
  go_wp2_with (first
    | (refine wpList_build rfl 23 #[] rfl (by simp [built23]) ?_; simp only [List.map_toArray, List.map_nil, built23, Option.getD_some])
    | (refine wpList_store_row rfl 23 _ _ rfl (w.heap.size + 3) (vals .u8 32 (fun _ => 0)) rfl rfl 23 _ (Blk.new' _ _ (by simp) _ _) (by rw [vals_size]; exact cells23) (by rw [vals_size]; rfl) (vals_one _ _ _) ?_))
  go_loopw [6, 7] (fun c i wr => ∃ k : Nat, k ≤ 32 ∧ i = .int .i64 k ∧ c = .int .i64 (bw a b k : Nat) ∧ Blk wr w.heap.size (vals .u8 32 (byt a)) 23 ∧ Blk wr (w.heap.size + 1) (vals .u8 32 (byt b)) 23 ∧ (∃ z, z.size = 32 ∧ Blk wr (w.heap.size + 2) z 23) ∧ Blk wr (w.heap.size + 3) (vals .u8 32 (fun j => if j < k then byt (a - b) j else 0)) 23 ∧ Below w.heap.size w wr) (fun _ i _ => 32 - (intOf i).toNat)
  case atStart =>
    refine ⟨0, by omega, rfl, by rw [bw_zero]; rfl, ?_, ?_, ⟨vals .u8 32 (fun _ => 0), vals_size _ _ _, ?_⟩, ?_, ?_⟩
    · exact ((((Blk.new w _ _).alloc _).alloc _).alloc _).rowOther _ (by omega)
    · exact (((Blk.new' (w.alloc _) (w.heap.size + 1) (by simp) _ _).alloc _).alloc _).rowOther _ (by omega)
    · exact ((Blk.new' ((w.alloc _).alloc _) (w.heap.size + 2) (by simp) _ _).alloc _).rowOther _ (by omega)
    · exact ((Blk.new' (((w.alloc _).alloc _).alloc _) (w.heap.size + 3) (by simp) _ _).row _).cast (vals_congr _ _ _ _ fun j _ => by simp)
    · exact Below.row (((((Below.refl _ w).alloc (Nat.le_refl _) _).alloc (by simp) _).alloc (by simp; omega) _).alloc (by simp; omega) _) (by omega) _
  case round =>
    obtain ⟨k, hk, rfl, rfl, Ba, Bb, ⟨z, hz, Bz⟩, Bo, L⟩ := hrel
    by_cases hlt : k < 32
    · have ca := Ba.cell k
      rw [vals_get _ _ _ _ (by omega)] at ca
      have cb := Bb.cell k
      rw [vals_get _ _ _ _ (by omega)] at cb
      have co := Bo.cell k
      rw [vals_get _ _ _ _ (by omega)] at co
      have fo' := Bo.frozen k
      have HBo := hide (upd_vals .u8 32 (fun _ => 0) (byt (a - b)) k _ _ _ Bo.drew)
      have HBa := hide Ba
      have HBb := hide Bb
      have HBz := hide Bz
      have HL := hide L
      have hba := byt_lt a k
      have hbb := byt_lt b k
      have hbw := bw_le a b k
      have hk0 : (0 : Int) ≤ (k : Int) := by omega
      have hk4 : (k : Int) < 32 := by omega
      clear Ba Bb Bz Bo L
      by_cases hn : byt a k < byt b k + bw a b k
      · obtain ⟨d1, d2, d3⟩ := less_dif a b k hn Hle.out
        obtain ⟨n, hne⟩ : ∃ n : Int, n = ((byt a k : Nat) : Int) - ((byt b k : Nat) : Int) - ((bw a b k : Nat) : Int) := ⟨_, rfl⟩
        rw [← hne] at d1 d3
        have w1 : IntKind.i64.wrap (IntKind.i64.wrap (((byt a k : Nat) : Int) - ((byt b k : Nat) : Int)) - ((bw a b k : Nat) : Int)) = n := by
          simp only [IntKind.wrap, IntKind.bits, IntKind.signed]; simp; omega
        have w2 : ((byt a k : Nat) : Int) - ((byt b k : Nat) : Int) - ((bw a b k : Nat) : Int) = n := hne.symm
        have hnl : -512 ≤ n := by omega
        have D2 := hide d2
        have D3 := hide d3
        clear d2 d3 hn hne
        go_wp2
        go_region_with (fail)
        all_goals
          go_wp2
          rw [D3.out]
          go_roundw
          case rel => exact ⟨k + 1, by omega, by go_num, by rw [D2.out]; rfl, (HBa.out.setOther _ _ (by omega)).drew, (HBb.out.setOther _ _ (by omega)).drew, ⟨z, hz, (HBz.out.setOther _ _ (by omega)).drew⟩, HBo.out, (HL.out.setCell (by show w.heap.size ≤ w.heap.size + 3; omega) _).drew⟩
          case measure => simp [intOf]; omega
      · obtain ⟨d1, d2, d3⟩ := less_not a b k hn Hle.out
        obtain ⟨n, hne⟩ : ∃ n : Int, n = ((byt a k : Nat) : Int) - ((byt b k : Nat) : Int) - ((bw a b k : Nat) : Int) := ⟨_, rfl⟩
        rw [← hne] at d1 d3
        have w1 : IntKind.i64.wrap (IntKind.i64.wrap (((byt a k : Nat) : Int) - ((byt b k : Nat) : Int)) - ((bw a b k : Nat) : Int)) = n := by
          simp only [IntKind.wrap, IntKind.bits, IntKind.signed]; simp; omega
        have w2 : ((byt a k : Nat) : Int) - ((byt b k : Nat) : Int) - ((bw a b k : Nat) : Int) = n := hne.symm
        have hnl : n < 256 := by omega
        have hnz : 0 ≤ n := by omega
        have D2 := hide d2
        have D3 := hide d3
        clear d2 d3 hn hne
        go_wp2
        go_region_with (fail)
        all_goals
          go_wp2
          rw [D3.out]
          go_roundw
          case rel => exact ⟨k + 1, by omega, by go_num, by rw [D2.out]; rfl, (HBa.out.setOther _ _ (by omega)).drew, (HBb.out.setOther _ _ (by omega)).drew, ⟨z, hz, (HBz.out.setOther _ _ (by omega)).drew⟩, HBo.out, (HL.out.setCell (by show w.heap.size ≤ w.heap.size + 3; omega) _).drew⟩
          case measure => simp [intOf]; omega
    · have e4 : k = 32 := by omega
      subst e4
      have HB := hide (Bo.cast (vals_congr _ 32 _ (byt (a - b)) fun j hj => by simp [hj]))
      have HBz := hide Bz
      have HL := hide L
      clear Ba Bb Bz Bo L
      go_wp2_with (first
        | (refine wpList_load_row rfl 23 _ rfl (w.heap.size + 3) rfl 23 _ (0, 0) _ HB.out Tryd.underlying23 rfl (by rw [vals_size]; exact cells23) ?_)
        | (refine wpList_store_row rfl 23 _ _ rfl (w.heap.size + 2) (vals .u8 32 (byt (a - b))) rfl rfl 23 z HBz.out (by rw [vals_size]; exact cells23) (by rw [vals_size]; exact hz) (vals_one _ _ _) ?_))
      refine bodyPost_ret (v := .agg (vals .u8 32 (byt (a - b)))) (results_cell_row Tryd.results28 _ _ (w.heap.size + 2) 23 _ (0, 0) _ rfl (HBz.out.row _) Tryd.underlying23 rfl (by rw [vals_size]; exact cells23)) rfl ⟨rfl, ?_⟩
      exact Below.row HL.out (by omega) _
theorem rLess_at (a b : Nat) (args : Array Value) (w : World) (h : args = #[ba (byt a), ba (byt b)]) (hle : b ≤ a) :
    Calls Tryd.prog 28 args w fun e w' => e = .returned (ba (byt (a - b))) ∧ Below w.heap.size w w' := by subst h; exact rLess_any a b w hle
end Go.Proofs.YtokhmhodkakioaaDoor

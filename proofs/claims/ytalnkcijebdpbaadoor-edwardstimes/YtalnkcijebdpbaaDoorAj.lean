/- Walks: MulAdd. -/
import Derived.Test.YtalnkcijebdpbaaDoorAi
namespace Go.Proofs.YtalnkcijebdpbaaDoor.S
open Go.RowKit

theorem wrap_i64_small (n : Int) (h0 : 0 ≤ n) (h1 : n < 1000) : IntKind.i64.wrap n = n := wrap_i64_small' n h0 h1

set_option maxHeartbeats 2000000 in
theorem muladd_any (f g h : Nat → Nat) (w : World) (hG : Glob w) (hf : ∀ i, f i < 256) (hg : ∀ i, g i < 256) (hh : ∀ i, h i < 256) :
    Calls Tryd.prog 8 #[ba f, ba g, ba h] w fun e w' => e = .returned (ba (byt ((nb f 32 * nb g 32 + nb h 32) % qL))) ∧ Below w.heap.size w w' := by
  have HG := hide hG
  have Hx := hide (nb_lt f hf 32)
  have Hy := hide (nb_lt g hg 32)
  have Hc := hide (nb_lt h hh 32)
  clear hG
  unfold ba
  go_enter Tryd.func8, Tryd.ntmps8
  go_wp2
  refine m_region _ (fun _ _ _ _ _ h => h) f g h hf hg hh w _ ?_ ?_
  · refine ⟨((((Blk.new w _ _).alloc _).alloc _).alloc _), ((Blk.new' (w.alloc _) (w.heap.size + 1) (by simp) _ _).alloc _).alloc _, (Blk.new' ((w.alloc _).alloc _) (w.heap.size + 2) (by simp) _ _).alloc _, Blk.new' (((w.alloc _).alloc _).alloc _) (w.heap.size + 3) (by simp) _ _, ?_⟩
    exact ((((Below.refl _ w).alloc (Nat.le_refl _) _).alloc (by simp) _).alloc (by simp; omega) _).alloc (by simp; omega) _
  intro b7 b8 b9 wx g7 g8 g9 e78 e79 e89 B7 B8 B9 hS
  unfold mFr
  obtain ⟨x, hx⟩ : ∃ x, x = nb f 32 := ⟨_, rfl⟩
  obtain ⟨y, hy⟩ : ∃ y, y = nb g 32 := ⟨_, rfl⟩
  obtain ⟨c, hc⟩ : ∃ c, c = nb h 32 := ⟨_, rfl⟩
  rw [← hx] at B7 Hx
  rw [← hy] at B8 Hy
  rw [← hc] at B9 Hc
  rw [← hx, ← hy, ← hc]
  have Hxe := hide hx
  have Hye := hide hy
  have Hce := hide hc
  clear hx hy hc hf hg hh
  have HBz := hide hS.2.2.2.1
  have HL := hide hS.2.2.2.2
  have HB7 := hide B7
  have HB8 := hide B8
  have HB9 := hide B9
  have Hg := hide (show w.heap.size + 4 ≤ b7 ∧ w.heap.size + 4 ≤ b8 ∧ w.heap.size + 4 ≤ b9 from ⟨g7, g8, g9⟩)
  have Hlt := hide (show b7 < wx.heap.size ∧ b8 < wx.heap.size ∧ b9 < wx.heap.size from ⟨B7.lt, B8.lt, B9.lt⟩)
  have HBn := hide (show w.heap.size + 4 ≤ wx.heap.size from hS.big)
  clear hS B7 B8 B9 g7 g8 g9 e78 e79 e89
  have hcopy := copy_words (wx.alloc (.cells (arr 8 (fun _ => 0)) 49)).drew wx.heap.size b9 c Hc.out (Blk.new wx _ _).drew (HB9.out.alloc _).drew
  rw [← arr8_zero] at hcopy
  have Y7 := hide ((HB7.out.alloc (.cells (arr 8 (fun _ => 0)) 49)).drew.rowOther (b' := wx.heap.size) (arr 8 (limb c)) (by have := Hlt.out; omega))
  have Y8 := hide ((HB8.out.alloc (.cells (arr 8 (fun _ => 0)) 49)).drew.rowOther (b' := wx.heap.size) (arr 8 (limb c)) (by have := Hlt.out; omega))
  have YZ := hide ((HBz.out.alloc (.cells (arr 8 (fun _ => 0)) 49)).drew.rowOther (b' := wx.heap.size) (arr 8 (limb c)) (by have := HBn.out; omega))
  have YW := hide ((Blk.new wx (arr 8 (fun _ => 0)) 49).drew.row (arr 8 (limb c)))
  have YL := hide (Below.row (b := wx.heap.size) (HL.out.alloc HL.out.size (.cells (arr 8 (fun _ => 0)) 49)).drew (by have := HBn.out; omega) (arr 8 (limb c)))
  rw [← arr8_zero] at Y7 Y8 YZ YW YL
  have Hd7 := hide (show wx.heap.size ≠ b7 by have := Hlt.out; omega)
  have Hd8 := hide (show wx.heap.size ≠ b8 by have := Hlt.out; omega)
  have Hdz := hide (show wx.heap.size ≠ w.heap.size + 3 by have := HBn.out; omega)
  have Hle := hide (show w.heap.size ≤ wx.heap.size by have := HBn.out; omega)
  clear HB7 HB8 HB9 HBz HL Hg Hlt HBn
  unfold ptr
  go_wp2
  go_region_with (fail)
  clear hcopy
  generalize hbw : wx.heap.size = bw at *
  clear hbw
  go_wp2
  go_loopw [23] (fun i wr => ∃ k : Nat, k ≤ 4 ∧ i = .int .i64 k ∧ Blk wr b7 (arr 4 (limb x)) 25 ∧ Blk wr b8 (arr 4 (limb y)) 25 ∧ Blk wr (w.heap.size + 3) (vals .u8 32 (fun _ => 0)) 22 ∧ Blk wr bw (arr 8 (limb (prd c x y k))) 49 ∧ Below w.heap.size w wr) (fun i _ => 4 - (intOf i).toNat)
  case atStart =>
    exact ⟨0, by omega, rfl, Y7.out, Y8.out, YZ.out, YW.out.cast (by rw [prd_zero]), YL.out⟩
  case round =>
    clear Y7 Y8 YZ YW YL
    obtain ⟨k, hk, rfl, Bx, By, Bz, Bw, L⟩ := hrel
    have HBx := hide Bx
    have HBy := hide By
    have HBz := hide Bz
    have HBw := hide Bw
    have HL := hide L
    clear Bx By Bz Bw L
    by_cases hlt : k < 4
    · have hk0 : (0 : Int) ≤ (k : Int) := by omega
      have hk4 : (k : Int) < 4 := by omega
      go_wp2
      go_loopw [12, 26] (fun cv i wr => ∃ j : Nat, j ≤ 4 ∧ i = .int .i64 j ∧ cv = .int .u64 (cj c x y k j : Nat) ∧ Blk wr b7 (arr 4 (limb x)) 25 ∧ Blk wr b8 (arr 4 (limb y)) 25 ∧ Blk wr (w.heap.size + 3) (vals .u8 32 (fun _ => 0)) 22 ∧ Blk wr bw (arr 8 (wj c x y k j)) 49 ∧ Below w.heap.size w wr) (fun _ i _ => 4 - (intOf i).toNat)
      case atStart =>
        exact ⟨0, by omega, rfl, by rw [cj_zero]; rfl, HBx.out, HBy.out, HBz.out, HBw.out.cast (arr_congr _ _ _ fun i _ => (wj_zero c x y k i).symm), HL.out⟩
      case round =>
        clear HBx HBy HBz HBw HL
        obtain ⟨j, hj, rfl, rfl, Bx, By, Bz, Bw, L⟩ := hrel
        by_cases hlj : j < 4
        · have cx := Bx.cell k
          rw [arr_get _ _ _ hlt] at cx
          have cy := By.cell j
          rw [arr_get _ _ _ hlj] at cy
          have cw := Bw.cell (k + j)
          rw [arr_get _ _ _ (by omega), wj_at] at cw
          have fw := Bw.frozen (k + j)
          have HBx := hide Bx
          have HBy := hide By
          have HBz := hide Bz
          have HBw := hide Bw
          have HL := hide L
          clear Bx By Bz Bw L
          have hj0 : (0 : Int) ≤ (j : Int) := by omega
          have hj4 : (j : Int) < 4 := by omega
          have hkj0 : (0 : Int) ≤ (k : Int) + (j : Int) := by omega
          have hkj8 : (k : Int) + (j : Int) < 8 := by omega
          have hwr : IntKind.i64.wrap ((k : Int) + (j : Int)) = (k : Int) + (j : Int) := wrap_i64_small _ hkj0 (by omega)
          have hkj : ((k : Int) + (j : Int)).toNat = k + j := by omega
          have Hs := hide (lowj c x y k j)
          have Hd := hide (cj_succ c x y k j)
          go_wp2
          go_region_with ((go_at_call 20; refine (step_at (limb x k) (limb y j) (limb (prd c x y k) (k + j)) (cj c x y k j) _ _ (by rfl) (limb_lt _ _) (limb_lt _ _) (limb_lt _ _) (cj_lt _ _ _ _ _) _ _ Hs.out Hd.out).mono ?_; rintro e w' ⟨rfl, rfl⟩))
          all_goals
            go_wp2
            go_roundw
            case rel =>
              refine ⟨j + 1, by omega, by go_num, rfl, (HBx.out.setOther _ _ Hd7.out).drew, (HBy.out.setOther _ _ Hd8.out).drew, (HBz.out.setOther _ _ Hdz.out).drew, ?_, (HL.out.setCell Hle.out _).drew⟩
              exact ((HBw.out.set (k + j) _).drew).cast (by rw [arr_set]; exact arr_congr _ _ _ fun i _ => by rw [wj_succ, Hs.out])
            case measure => simp [intOf]; omega
        · have e4 : j = 4 := by omega
          subst e4
          have fw := Bw.frozen (k + 4)
          have cw := Bw.cell (k + 4)
          rw [arr_get _ _ _ (by omega)] at cw
          have HBx := hide Bx
          have HBy := hide By
          have HBz := hide Bz
          have HBw := hide Bw
          have HL := hide L
          clear Bx By Bz Bw L
          have hkj0 : (0 : Int) ≤ (k : Int) + 4 := by omega
          have hkj8 : (k : Int) + 4 < 8 := by omega
          have hwr : IntKind.i64.wrap ((k : Int) + 4) = (k : Int) + 4 := wrap_i64_small _ hkj0 (by omega)
          have hkj : ((k : Int) + 4).toNat = k + 4 := by omega
          go_wp2
          go_roundw
          case rel =>
            refine ⟨k + 1, by omega, by go_num, HBx.out.setOther _ _ Hd7.out, HBy.out.setOther _ _ Hd8.out, HBz.out.setOther _ _ Hdz.out, ?_, HL.out.setCell Hle.out _⟩
            exact (HBw.out.set (k + 4) _).cast (by rw [arr_set]; exact arr_congr _ _ _ fun i _ => wide_next c x y k i Hy.out Hc.out)
          case measure => simp [intOf]; omega
    · have e4 : k = 4 := by omega
      subst e4
      have HBw2 := hide (HBw.out.cast (by rw [prd_four c x y Hx.out]))
      have Hs := hide (sum_lt c x y Hx.out Hy.out Hc.out)
      clear HBw HBx HBy
      obtain ⟨n, hn⟩ : ∃ n, n = x * y + c := ⟨_, rfl⟩
      rw [← hn] at HBw2 Hs
      have Hn := hide hn
      clear hn
      go_wp2_with (first
        | (refine wpList_load_row rfl 49 _ rfl bw rfl 49 _ (0, 0) _ HBw2.out Tryd.underlying49 rfl (by rw [arr_size]; exact cells37) ?_)
        | (go_at_call 21; refine (modulo_at n _ _ rfl (HG.out.low HL.out) Hs.out).mono ?_; unfold ba; rintro e w1 ⟨rfl, hb1⟩; have HZ1 := hide (HBz.out.call hb1); have HL1 := hide (HL.out.trans (hb1.mono HL.out.size)); clear hb1; dsimp only)
        | (refine wpList_store_row rfl 22 _ _ rfl (w.heap.size + 3) (vals .u8 32 (byt (n % qL))) rfl rfl 22 _ HZ1.out (by rw [vals_size]; exact cells23) (by rw [vals_size, vals_size]) (vals_one _ _ _) ?_))
      refine bodyPost_ret (v := .agg (vals .u8 32 (byt (n % qL)))) (results_cell_row Tryd.results8 _ _ (w.heap.size + 3) 22 _ (0, 0) _ rfl (HZ1.out.row _) Tryd.underlying22 rfl (by rw [vals_size]; exact cells23)) rfl ⟨by rw [Hn.out, Hxe.out, Hye.out, Hce.out], ?_⟩
      exact Below.row HL1.out (by omega) _
theorem muladd_at (f g h : Nat → Nat) (args : Array Value) (w : World) (ha : args = #[ba f, ba g, ba h]) (hG : Glob w) (hf : ∀ i, f i < 256) (hg : ∀ i, g i < 256) (hh : ∀ i, h i < 256) :
    Calls Tryd.prog 8 args w fun e w' => e = .returned (ba (byt ((nb f 32 * nb g 32 + nb h 32) % qL))) ∧ Below w.heap.size w w' := by
  subst ha; exact muladd_any f g h w hG hf hg hh
end Go.Proofs.YtalnkcijebdpbaaDoor.S

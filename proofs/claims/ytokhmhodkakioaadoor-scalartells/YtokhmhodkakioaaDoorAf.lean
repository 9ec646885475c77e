/- Walks: Reduce, Fine, Order. -/
import Derived.Test.YtokhmhodkakioaaDoorAe
namespace Go.Proofs.YtokhmhodkakioaaDoor
open Go.RowKit

/-- 64 bytes. -/
def bb (f : Nat → Nat) : Value := .agg (vals .u8 64 f)
theorem nb_lt2 (f : Nat → Nat) (hf : ∀ i, f i < 256) (n a b : Nat) (h : 8 * n = a + b) : nb f n < 2 ^ a * 2 ^ b := by
  rw [← Nat.pow_add, ← h]; exact nb_lt f hf n
theorem nb64_lt (f : Nat → Nat) (hf : ∀ i, f i < 256) : nb f 64 < 2 ^ 256 * 2 ^ 256 := nb_lt2 f hf 64 256 256 rfl
theorem arr_one (n : Nat) (f : Nat → Nat) : (arr n f).all (·.oneCell') = true := vals_one .u64 n f
theorem arr8_zero : (#[.int .u64 0, .int .u64 0, .int .u64 0, .int .u64 0, .int .u64 0, .int .u64 0, .int .u64 0, .int .u64 0] : Array Value) = arr 8 (fun _ => 0) := rfl

set_option maxHeartbeats 1000000 in
theorem reduce_any (f : Nat → Nat) (w : World) (hG : Glob w) (hf : ∀ i, f i < 256) :
    Calls Tryd.prog 8 #[bb f] w fun e w' => e = .returned (ba (byt (nb f 64 % qL))) ∧ Below w.heap.size w w' := by
  have Hf := hide hf
  have HG := hide hG
  clear hf hG
  unfold bb
  go_enter Tryd.func8, Tryd.ntmps8
  go_wp2
  go_loopw [5] (fun i wr => ∃ k : Nat, k ≤ 64 ∧ i = .int .i64 k ∧ Blk wr w.heap.size (vals .u8 64 f) 22 ∧ (∃ z, z.size = 32 ∧ Blk wr (w.heap.size + 1) z 23) ∧ Blk wr (w.heap.size + 2) (arr 8 (limb (nb f k))) 37 ∧ Below w.heap.size w wr) (fun i _ => 64 - (intOf i).toNat)
  case atStart =>
    refine ⟨0, by omega, rfl, ?_, ⟨vals .u8 32 (fun _ => 0), vals_size _ _ _, ?_⟩, ?_, ?_⟩
    · exact (((Blk.new w _ _).alloc _).alloc _)
    · exact (Blk.new' (w.alloc _) (w.heap.size + 1) (by simp) _ _).alloc _
    · exact (Blk.new' ((w.alloc _).alloc _) (w.heap.size + 2) (by simp) _ _).cast (by rw [arr8_zero]; exact arr_congr _ _ _ fun j _ => by simp [nb, limb])
    · exact (((Below.refl _ w).alloc (Nat.le_refl _) _).alloc (by simp) _).alloc (by simp; omega) _
  case round =>
    obtain ⟨k, hk, rfl, Bx, ⟨z, hz, Bz⟩, Bl, L⟩ := hrel
    by_cases hlt : k < 64
    · have cx := Bx.cell k
      rw [vals_get _ _ _ _ hlt] at cx
      have cl := Bl.cell (k / 8)
      rw [arr_get _ _ _ (by omega)] at cl
      have fl := Bl.frozen (k / 8)
      have HBx := hide Bx
      have HBz := hide Bz
      have HBl := hide Bl
      have HL := hide L
      clear Bx Bz Bl L
      have hk0 : (0 : Int) ≤ (k : Int) := by omega
      have hk4 : (k : Int) < 64 := by omega
      have hf8 := Hf.out k
      have hq0 : (0 : Int) ≤ (k : Int) / 8 := by omega
      have hq4 : (k : Int) / 8 < 8 := by omega
      have hq : IntKind.i64.wrap ((k : Int).tdiv 8) = (k : Int) / 8 := quo8 k (by omega)
      have hq' : IntKind.i64.wrap ((k : Int) / 8) = (k : Int) / 8 := quo8' k (by omega)
      have hr : IntKind.i64.wrap ((k : Int).tmod 8) = (k : Int) % 8 := rem8 k (by omega)
      have hqn : ((k : Int) / 8).toNat = k / 8 := by omega
      have hmn : ((k : Int) % 8 * 8).toNat = k % 8 * 8 := by omega
      have hr' : (k : Int).tmod 8 = (k : Int) % 8 := by rw [Int.tmod_eq_emod_of_nonneg (by omega)]
      have hm : IntKind.i64.wrap ((k : Int) % 8 * 8) = (k : Int) % 8 * 8 := mul8 k
      have hm0 : (0 : Int) ≤ (k : Int) % 8 * 8 := by omega
      have hm8 : (k : Int) % 8 * 8 < 64 := by omega
      have Ho := hide (or_load f Hf.out k)
      go_wp2
      go_region_with (fail)
      all_goals
        go_wp2
        rw [Ho.out]
        go_roundw
        case rel =>
          refine ⟨k + 1, by omega, by go_num, (HBx.out.setOther _ _ (by omega)).drew, ⟨z, hz, (HBz.out.setOther _ _ (by omega)).drew⟩, ?_, (HL.out.setCell (by show w.heap.size ≤ w.heap.size + 2; omega) _).drew⟩
          exact ((HBl.out.set (k / 8) _).drew).cast (by
            rw [arr_set]
            apply arr_congr
            intro j _
            by_cases h1 : j = k / 8
            · subst h1; simp
            · simp only [h1, if_false]; exact (limb_nb_other f Hf.out k j h1).symm)
        case measure => simp [intOf]; omega
    · have e4 : k = 64 := by omega
      subst e4
      have HBl := hide Bl
      have HBz := hide Bz
      have HL := hide L
      clear Bx Bz Bl L hlt
      go_wp2_with (first
        | (refine wpList_load_row rfl 37 _ rfl (w.heap.size + 2) rfl 37 _ (0, 0) _ HBl.out Tryd.underlying37 rfl (by rw [arr_size]; exact cells37) ?_)
        | (go_at_call 18; refine (modulo_at (nb f 64) _ _ rfl (HG.out.low HL.out) (nb64_lt f Hf.out)).mono ?_; unfold ba; rintro e w1 ⟨rfl, hb1⟩; have HZ1 := hide (HBz.out.call hb1); have HL1 := hide (HL.out.trans (hb1.mono HL.out.size)); clear hb1; dsimp only)
        | (refine wpList_store_row rfl 23 _ _ rfl (w.heap.size + 1) (vals .u8 32 (byt (nb f 64 % qL))) rfl rfl 23 _ HZ1.out (by rw [vals_size]; exact cells23) (by rw [vals_size]; exact hz) (vals_one _ _ _) ?_))
      refine bodyPost_ret (v := .agg (vals .u8 32 (byt (nb f 64 % qL)))) (results_cell_row Tryd.results8 _ _ (w.heap.size + 1) 23 _ (0, 0) _ rfl (HZ1.out.row _) Tryd.underlying23 rfl (by rw [vals_size]; exact cells23)) rfl ⟨rfl, ?_⟩
      exact Below.row HL1.out (by omega) _
theorem reduce_at (f : Nat → Nat) (args : Array Value) (w : World) (h : args = #[bb f]) (hG : Glob w) (hf : ∀ i, f i < 256) :
    Calls Tryd.prog 8 args w fun e w' => e = .returned (ba (byt (nb f 64 % qL))) ∧ Below w.heap.size w w' := by
  subst h; exact reduce_any f w hG hf

theorem bo_one (x : Nat) (hx : x < 2 ^ 256) : (((bo x qL 4 : Nat) : Int) == 1) = decide (x < qL) := by
  rw [bo_four x hx]
  by_cases h : x < qL <;> simp [h]
set_option maxHeartbeats 1000000 in
theorem fine_any (f : Nat → Nat) (w : World) (hG : Glob w) (hf : ∀ i, f i < 256) :
    Calls Tryd.prog 12 #[ba f] w fun e w' => e = .returned (.bool (decide (nb f 32 < qL))) ∧ Below w.heap.size w w' := by
  have Hf := hide hf
  have HG := hide hG
  have HE := hide (bo_one (nb f 32) (nb_lt f hf 32))
  clear hf hG
  unfold ba
  have F0 := hide (Blk.new w (vals .u8 32 f) 23)
  have L0 := hide ((Below.refl w.heap.size w).alloc (Nat.le_refl _) (.cells (vals .u8 32 f) 23))
  go_enter Tryd.func12, Tryd.ntmps12
  go_wp2_with (first
    | (refine wpList_load_row rfl 23 _ rfl w.heap.size rfl 23 _ (0, 0) _ F0.out Tryd.underlying23 rfl (by rw [vals_size]; exact cells23) ?_)
    | (go_at_call 20; refine (words_at f _ _ rfl Hf.out).mono ?_; rw [fe_def]; rintro e w1 ⟨rfl, hb1⟩; have HL1 := hide (L0.out.trans (hb1.mono L0.out.size)); clear hb1; dsimp only)
    | (go_at_call 22; refine (less_at (nb f 32) _ _ (by rw [fe_def]) (HG.out.low HL1.out) (nb_lt f Hf.out 32)).mono ?_; rw [fe_def]; rintro e w2 ⟨rfl, hb2⟩; have HL2 := hide (HL1.out.trans (hb2.mono HL1.out.size)); clear hb2; dsimp only))
  rw [HE.out]
  go_ret
  exact ⟨rfl, HL2.out.alloc HL2.out.size _⟩
theorem fine_at (f : Nat → Nat) (args : Array Value) (w : World) (h : args = #[ba f]) (hG : Glob w) (hf : ∀ i, f i < 256) :
    Calls Tryd.prog 12 args w fun e w' => e = .returned (.bool (decide (nb f 32 < qL))) ∧ Below w.heap.size w w' := by
  subst h; exact fine_any f w hG hf

set_option maxHeartbeats 1000000 in
theorem order_any (w : World) (hG : Glob w) :
    Calls Tryd.prog 14 #[] w fun e w' => e = .returned (ba (byt qL)) ∧ Below w.heap.size w w' := by
  have hG' := hG.alloc (.cells (vals .u8 32 (fun _ => 0)) 23)
  obtain ⟨t, fz, hg⟩ := hG'
  have Hg := hide hg
  have HZ := hide (Blk.new w (vals .u8 32 (fun _ => 0)) 23)
  have L0 := hide ((Below.refl w.heap.size w).alloc (Nat.le_refl _) (.cells (vals .u8 32 (fun _ => 0)) 23))
  clear hG hg
  go_enter Tryd.func14, Tryd.ntmps14
  go_wp2_with (first
    | (refine wpList_load_row rfl 41 _ rfl 0 rfl t _ fz _ Hg.out Tryd.underlying41 rfl (by rw [arr_size]; exact cells41) ?_)
    | (go_at_call 24; refine (bytes_at qL _ _ (by rw [fe_arr])).mono ?_; unfold ba; rintro e w1 ⟨rfl, hb1⟩; have HZ1 := hide (HZ.out.call hb1); have HL1 := hide (L0.out.trans (hb1.mono L0.out.size)); clear hb1; dsimp only)
    | (refine wpList_store_row rfl 23 _ _ rfl w.heap.size (vals .u8 32 (byt qL)) rfl rfl 23 _ HZ1.out (by rw [vals_size]; exact cells23) (by rw [vals_size, vals_size]) (vals_one _ _ _) ?_))
  refine bodyPost_ret (v := .agg (vals .u8 32 (byt qL))) (results_cell_row Tryd.results14 _ _ w.heap.size 23 _ (0, 0) _ rfl (HZ1.out.row _) Tryd.underlying23 rfl (by rw [vals_size]; exact cells23)) rfl ⟨rfl, ?_⟩
  exact Below.row HL1.out (Nat.le_refl _) _
theorem order_at (args : Array Value) (w : World) (h : args = #[]) (hG : Glob w) :
    Calls Tryd.prog 14 args w fun e w' => e = .returned (ba (byt qL)) ∧ Below w.heap.size w w' := by
  subst h; exact order_any w hG
end Go.Proofs.YtokhmhodkakioaaDoor

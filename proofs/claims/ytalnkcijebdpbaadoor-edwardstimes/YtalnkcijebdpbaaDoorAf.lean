/- Walks: Reduce, Fine, Order. -/
import Derived.Test.YtalnkcijebdpbaaDoorAe
namespace Go.Proofs.YtalnkcijebdpbaaDoor.S
open Go.RowKit

/-- 64 bytes. -/
def bb (f : Nat → Nat) : Value := .agg (vals .u8 64 f)
theorem nb_lt2 (f : Nat → Nat) (hf : ∀ i, f i < 256) (n a b : Nat) (h : 8 * n = a + b) : nb f n < 2 ^ a * 2 ^ b := by
  rw [← Nat.pow_add, ← h]; exact nb_lt f hf n
theorem nb64_lt (f : Nat → Nat) (hf : ∀ i, f i < 256) : nb f 64 < 2 ^ 256 * 2 ^ 256 := nb_lt2 f hf 64 256 256 rfl
theorem arr_one (n : Nat) (f : Nat → Nat) : (arr n f).all (·.oneCell') = true := vals_one .u64 n f
theorem arr8_zero : (#[.int .u64 0, .int .u64 0, .int .u64 0, .int .u64 0, .int .u64 0, .int .u64 0, .int .u64 0, .int .u64 0] : Array Value) = arr 8 (fun _ => 0) := rfl

theorem bo_one (x : Nat) (hx : x < 2 ^ 256) : (((bo x qL 4 : Nat) : Int) == 1) = decide (x < qL) := by
  rw [bo_four x hx]
  by_cases h : x < qL <;> simp [h]
set_option maxHeartbeats 1000000 in
theorem order_any (w : World) (hG : Glob w) :
    Calls Tryd.prog 10 #[] w fun e w' => e = .returned (ba (byt qL)) ∧ Below w.heap.size w w' := by
  have hG' := hG.alloc (.cells (vals .u8 32 (fun _ => 0)) 22)
  obtain ⟨t, fz, hg⟩ := hG'
  have Hg := hide hg
  have HZ := hide (Blk.new w (vals .u8 32 (fun _ => 0)) 22)
  have L0 := hide ((Below.refl w.heap.size w).alloc (Nat.le_refl _) (.cells (vals .u8 32 (fun _ => 0)) 22))
  clear hG hg
  go_enter Tryd.func10, Tryd.ntmps10
  go_wp2_with (first
    | (refine wpList_load_row rfl 25 _ rfl 0 rfl t _ fz _ Hg.out Tryd.underlying25 rfl (by rw [arr_size]; exact cells41) ?_)
    | (go_at_call 25; refine (bytes_at qL _ _ (by rw [fe_arr])).mono ?_; unfold ba; rintro e w1 ⟨rfl, hb1⟩; have HZ1 := hide (HZ.out.call hb1); have HL1 := hide (L0.out.trans (hb1.mono L0.out.size)); clear hb1; dsimp only)
    | (refine wpList_store_row rfl 22 _ _ rfl w.heap.size (vals .u8 32 (byt qL)) rfl rfl 22 _ HZ1.out (by rw [vals_size]; exact cells23) (by rw [vals_size, vals_size]) (vals_one _ _ _) ?_))
  refine bodyPost_ret (v := .agg (vals .u8 32 (byt qL))) (results_cell_row Tryd.results10 _ _ w.heap.size 22 _ (0, 0) _ rfl (HZ1.out.row _) Tryd.underlying22 rfl (by rw [vals_size]; exact cells23)) rfl ⟨rfl, ?_⟩
  exact Below.row HL1.out (Nat.le_refl _) _
theorem order_at (args : Array Value) (w : World) (h : args = #[]) (hG : Glob w) :
    Calls Tryd.prog 10 args w fun e w' => e = .returned (ba (byt qL)) ∧ Below w.heap.size w w' := by
  subst h; exact order_any w hG
end Go.Proofs.YtalnkcijebdpbaaDoor.S

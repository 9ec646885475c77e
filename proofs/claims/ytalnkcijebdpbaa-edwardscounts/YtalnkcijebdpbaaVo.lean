/- Walks of the reference: Of (of a number below 2^32). -/
import Derived.Test.YtalnkcijebdpbaaVi
namespace Go.Proofs.Ytalnkcijebdpbaa.F
open Go.RowKit

def oe (a b j : Nat) : Nat := if j = 0 then a else if j = 1 then b else 0
theorem pv_oe (a b : Nat) : pv (oe a b) 32 = a + 65536 * b := by
  rw [show 32 = 2 + 30 from rfl, pv_stop (oe a b) 2 30 fun j hj => by unfold oe; rw [if_neg (by omega), if_neg (by omega)]]
  simp [pv, oe]
  omega
theorem oe_two (a b j : Nat) : (if j = 1 then b else (if j = 0 then a else 0)) = oe a b j := by
  unfold oe
  by_cases h : j = 1
  · subst h; rfl
  · rw [if_neg h, if_neg h]
set_option maxHeartbeats 1000000 in
theorem refOf2_any (n : Nat) (w : World) (hn : n < 2 ^ 32) :
    Calls Try.prog 50 #[.int .u64 n] w fun e w' => e = .returned (rn (n % pP)) ∧ Below w.heap.size w w' := by
  have Hn := hide hn
  obtain ⟨a, ha⟩ : ∃ a, a = n % 65536 := ⟨_, rfl⟩
  obtain ⟨b, hb⟩ : ∃ b, b = n / 65536 := ⟨_, rfl⟩
  have h1 : (n : Int) % 65536 = (a : Int) := by omega
  have h2 : (n : Int) / 65536 = (b : Int) := by omega
  have h3 : (b : Int) % 65536 = (b : Int) := by omega
  have Ha : Hid (a < 65536) := hide (by omega)
  have Hb : Hid (b < 65536) := hide (by omega)
  have Hv : Hid (pv (oe a b) 32 = n) := hide (by rw [pv_oe]; omega)
  clear ha hb hn
  unfold rn
  go_enter Try.func50, Try.ntmps50
  go_wp2_with (first
    | (refine wpList_build rfl 103 #[] rfl (by simp [built62]) ?_; simp only [List.map_toArray, List.map_nil, built62, Option.getD_some])
    | (refine wpList_store_abs rfl 103 _ _ rfl (w.heap.size + 1) (vals .u64 32 (fun _ => 0)) rfl rfl 103 _ (Blk.new' _ _ (by simp) _ _) (by rw [vals_size]; exact cells62) (by rw [vals_size]; rfl) (vals_one _ _ _) ?_; intro y1 B1 S1; have Z1 := hide (S1.other _ _ _ (by omega) ((Blk.new w (vals .u64 16 (fun _ => 0)) 33).alloc _)); have L1 := hide (S1.low _ _ (((Below.refl _ w).alloc (Nat.le_refl _) _).alloc (by simp) _) (Nat.le_succ _)); have O1 := hide B1; have c0 := B1.cell 0; rw [vals_get _ _ _ _ (by omega)] at c0; have c1 := B1.cell 1; rw [vals_get _ _ _ _ (by omega)] at c1; have f0 := B1.frozen 0; have f1 := B1.frozen 1; have HB := hide (Blk.cast (c' := vals .u64 32 (oe a b)) ((B1.set 0 (.int .u64 (a : Nat))).set 1 (.int .u64 (b : Nat))) (by rw [vals_set, vals_set]; exact vals_congr _ _ _ _ fun j _ => oe_two a b j)); have Z2 : Hid (Blk ((y1.setCell ⟨w.heap.size + 1, 0, none⟩ (.int .u64 (a : Nat))).setCell ⟨w.heap.size + 1, 1, none⟩ (.int .u64 (b : Nat))) w.heap.size (vals .u64 16 (fun _ => 0)) 33) := hide ((Z1.out.setOther _ _ (by omega)).setOther _ _ (by omega)); have L2 : Hid (Below w.heap.size w ((y1.setCell ⟨w.heap.size + 1, 0, none⟩ (.int .u64 (a : Nat))).setCell ⟨w.heap.size + 1, 1, none⟩ (.int .u64 (b : Nat)))) := hide ((L1.out.setCell (by show w.heap.size ≤ w.heap.size + 1; omega) _).setCell (by show w.heap.size ≤ w.heap.size + 1; omega) _); clear B1 S1)
    | (refine wpList_load_row rfl 103 _ rfl (w.heap.size + 1) rfl 103 _ (0, 0) _ HB.out Try.underlying103 rfl (by rw [vals_size]; exact cells62) ?_)
    | (go_at_call 70; refine (folded_at (oe a b) _ _ rfl (fun j => by have := Ha.out; have := Hb.out; unfold oe; split; omega; split <;> omega) (by rw [Hv.out]; have := Hn.out; omega)).mono ?_; rw [Hv.out]; unfold rn; rintro e w1 ⟨rfl, hb1⟩; have HBz1 := hide (Z2.out.call hb1); have HL1 := hide (L2.out.trans (hb1.mono L2.out.size)); clear hb1; dsimp only)
    | (refine wpList_store_row rfl 33 _ _ rfl w.heap.size (vals .u64 16 (dg (n % pP))) rfl rfl 33 _ HBz1.out (by rw [vals_size]; exact cells31) (by rw [vals_size, vals_size]) (vals_one _ _ _) ?_))
  refine bodyPost_ret (v := .agg (vals .u64 16 (dg (n % pP)))) (results_cell_row Try.results50 _ _ w.heap.size 33 _ (0, 0) _ rfl (HBz1.out.row _) Try.underlying33 rfl (by rw [vals_size]; exact cells31)) rfl ⟨rfl, ?_⟩
  exact Below.row HL1.out (Nat.le_refl _) _
theorem refOf2_at (n : Nat) (args : Array Value) (w : World) (h : args = #[.int .u64 n]) (hn : n < 2 ^ 32) :
    Calls Try.prog 50 args w fun e w' => e = .returned (rn (n % pP)) ∧ Below w.heap.size w w' := by subst h; exact refOf2_any n w hn

end Go.Proofs.Ytalnkcijebdpbaa.F

/- Walks of the reference: Sub. -/
import Derived.Test.YtalnkcijebdpbaaVf
import Derived.Test.YtalnkcijebdpbaaWk
namespace Go.Proofs.Ytalnkcijebdpbaa.F
open Go.RowKit

set_option maxRecDepth 100000 in
set_option maxHeartbeats 2000000 in
theorem refSub_any (a b : Nat) (w : World) (ha : a < 2 ^ 256) (hb : b ≤ pP) :
    Calls Try.prog 49 #[rn a, rn b] w fun e w' => e = .returned (rn ((a + (pP - b)) % pP)) ∧ Below w.heap.size w w' := by
  have Ha := hide ha
  have Hb := hide hb
  clear ha hb
  unfold rn
  go_enter Try.func49, Try.ntmps49
  have G_0 := hide (((Blk.new w (vals .u64 16 (dg a)) 33).alloc (.cells (vals .u64 16 (dg b)) 33)).alloc (.cells (vals .u64 16 (fun _ => 0)) 33))
  have F_0 := hide ((Blk.new' (w.alloc (.cells (vals .u64 16 (dg a)) 33)) (w.heap.size + 1) (by simp) (vals .u64 16 (dg b)) 33).alloc (.cells (vals .u64 16 (fun _ => 0)) 33))
  have Zs := hide (Blk.new' ((w.alloc (.cells (vals .u64 16 (dg a)) 33)).alloc (.cells (vals .u64 16 (dg b)) 33)) (w.heap.size + 2) (by simp) (vals .u64 16 (fun _ => 0)) 33)
  have L_0 : Hid (Below w.heap.size w (((w.alloc (.cells (vals .u64 16 (dg a)) 33)).alloc (.cells (vals .u64 16 (dg b)) 33)).alloc (.cells (vals .u64 16 (fun _ => 0)) 33))) := hide ((((Below.refl _ w).alloc (Nat.le_refl _) _).alloc (by simp) _).alloc (by simp; omega) _)
  go_wp2
  refine wp_region_held_drew (S := fun w' => Blk w' (w.heap.size) (vals .u64 16 (dg a)) 33 ∧ Blk w' (w.heap.size + 1) (vals .u64 16 (dg b)) 33 ∧ Below w.heap.size w w') (by kernel_rfl) ⟨G_0.out.drew, F_0.out.drew, L_0.out.drew⟩ (fun hHeld => ?_)
  have Z_0 := hide Zs.out.drew
  clear G_0 F_0 L_0 Zs
  refine wpAnyH_take (i := 0) (oi := { dst := some 5, op := Op.load 33 (Operand.tmp 2), type := 33, pos := "ref.go:108", after := #[], guard := none }) (v := .agg (vals .u64 16 (dg a))) rfl (by kernel_rfl) (by kernel_rfl) (by kernel_rfl) (fun _ _ _ h => h) (yields_S (fun _ h => h.1) (by rfl) 33 _ rfl rfl _ Try.underlying33 rfl (by rw [vals_size]; exact cells31)) hHeld ?_
  try simp only [Act.put, List.setIfInBounds_toArray, List.set_cons_zero, List.set_cons_succ]
  refine wpAnyH_take (i := 2) (oi := { dst := some 7, op := Op.load 33 (Operand.tmp 3), type := 33, pos := "ref.go:108", after := #[], guard := none }) (v := .agg (vals .u64 16 (dg b))) rfl (by kernel_rfl) (by kernel_rfl) (by kernel_rfl) (fun _ _ _ h => h) (yields_S (fun _ h => h.2.1) (by rfl) 33 _ rfl rfl _ Try.underlying33 rfl (by rw [vals_size]; exact cells31)) hHeld ?_
  try simp only [Act.put, List.setIfInBounds_toArray, List.set_cons_zero, List.set_cons_succ]
  refine wpAnyH_ready (rs := [1]) (by kernel_rfl) (by simp) ?_
  refine AllReadyH.cons (o := { dst := some 6, op := Op.call { callee := Callee.value (Operand.func 72), args := #[], argTypes := #[] }, type := 33, pos := "ref.go:108", after := #[], guard := none }) rfl (fun K hK => ?_) AllReadyH.nil
  go_simp
  refine (refP_at _ _ (by rfl)).mono ?_
  unfold rn
  rintro e u1 ⟨rfl, hb⟩
  have Z_1 := hide (Z_0.out.call hb)
  clear Z_0
  dsimp only
  refine hK.out _ _ ⟨hHeld.1.call hb, hHeld.2.1.call hb, hHeld.2.2.trans (hb.mono hHeld.2.2.size)⟩ (fun hHeld => ?_)
  clear hK K hb
  try simp only [Act.put, List.setIfInBounds_toArray, List.set_cons_zero, List.set_cons_succ]
  refine wpAnyH_ready (rs := [3]) (by kernel_rfl) (by simp) ?_
  refine AllReadyH.cons (o := { dst := some 8, op := Op.call { callee := Callee.value (Operand.func 71), args := #[Operand.tmp 6, Operand.tmp 7], argTypes := #[33, 33] }, type := 33, pos := "ref.go:108", after := #[{ on := 1, ground := Ground.data }, { on := 2, ground := Ground.data }, { on := 1, ground := Ground.chain }], guard := none }) rfl (fun K hK => ?_) AllReadyH.nil
  go_simp
  refine (refless_at pP b _ _ (by rfl) Hb.out).mono ?_
  unfold rn
  rintro e u2 ⟨rfl, hb⟩
  have Z_2 := hide (Z_1.out.call hb)
  clear Z_1
  dsimp only
  refine hK.out _ _ ⟨hHeld.1.call hb, hHeld.2.1.call hb, hHeld.2.2.trans (hb.mono hHeld.2.2.size)⟩ (fun hHeld => ?_)
  clear hK K hb
  try simp only [Act.put, List.setIfInBounds_toArray, List.set_cons_zero, List.set_cons_succ]
  refine wpAnyH_ready (rs := [4]) (by kernel_rfl) (by simp) ?_
  refine AllReadyH.cons (o := { dst := some 9, op := Op.call { callee := Callee.value (Operand.func 51), args := #[Operand.tmp 5, Operand.tmp 8], argTypes := #[33, 33] }, type := 33, pos := "ref.go:108", after := #[{ on := 0, ground := Ground.data }, { on := 3, ground := Ground.data }, { on := 3, ground := Ground.chain }], guard := none }) rfl (fun K hK => ?_) AllReadyH.nil
  go_simp
  refine (refAdd_at a (pP - b) _ _ (by rfl) Ha.out (Nat.lt_of_le_of_lt (Nat.sub_le _ _) pP_lt)).mono ?_
  unfold rn
  rintro e u3 ⟨rfl, hb⟩
  have Z_3 := hide (Z_2.out.call hb)
  clear Z_2
  dsimp only
  refine hK.out _ _ ⟨hHeld.1.call hb, hHeld.2.1.call hb, hHeld.2.2.trans (hb.mono hHeld.2.2.size)⟩ (fun hHeld => ?_)
  clear hK K hb
  try simp only [Act.put, List.setIfInBounds_toArray, List.set_cons_zero, List.set_cons_succ]
  refine wpAnyH_ready (rs := [5]) (by kernel_rfl) (by simp) ?_
  refine AllReadyH.cons (o := { dst := none, op := Op.store 33 (Operand.tmp 4) (Operand.tmp 9), type := 0, pos := "ref.go:108", after := #[{ on := 4, ground := Ground.data }, { on := 4, ground := Ground.chain }, { on := 0, ground := Ground.phase }, { on := 1, ground := Ground.phase }, { on := 2, ground := Ground.phase }, { on := 3, ground := Ground.phase }, { on := 4, ground := Ground.phase }], guard := none }) rfl (fun K hK => ?_) AllReadyH.nil
  rw [if_pos (by rfl)]
  refine wp_store_row 33 _ _ rfl (w.heap.size + 2) (vals .u64 16 (dg ((a + (pP - b)) % pP))) rfl rfl 33 _ Z_3.out (by rw [vals_size]; exact cells31) (by rw [vals_size, vals_size]) (vals_one _ _ _) ?_
  refine hK.out _ _ ⟨hHeld.1.rowOther _ (by omega), hHeld.2.1.rowOther _ (by omega), Below.row hHeld.2.2 (by omega) _⟩ (fun hHeld => ?_)
  clear hK K
  simp only [Act.put]
  refine wpAnyH_done (by kernel_rfl) ?_ _
  go_wp2
  refine bodyPost_ret (v := .agg (vals .u64 16 (dg ((a + (pP - b)) % pP)))) (results_cell_row Try.results49 _ _ (w.heap.size + 2) 33 _ (0, 0) _ rfl (Z_3.out.row _) Try.underlying33 rfl (by rw [vals_size]; exact cells31)) rfl ⟨rfl, ?_⟩
  exact hHeld.2.2
theorem refSub_at (a b : Nat) (args : Array Value) (w : World) (h : args = #[rn a, rn b]) (ha : a < 2 ^ 256) (hb : b ≤ pP) :
    Calls Try.prog 49 args w fun e w' => e = .returned (rn ((a + (pP - b)) % pP)) ∧ Below w.heap.size w w' := by subst h; exact refSub_any a b w ha hb

end Go.Proofs.Ytalnkcijebdpbaa.F

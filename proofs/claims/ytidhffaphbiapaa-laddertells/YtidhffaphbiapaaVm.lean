/- Walks of the reference: Inv, root. -/
import Derived.Test.YtidhffaphbiapaaVh
import Derived.Test.YtidhffaphbiapaaVj
import Derived.Test.YtidhffaphbiapaaVk
namespace Go.Proofs.Ytidhffaphbiapaa.F
open Go.RowKit

theorem yields_build {P : Program} {ops : Array Oper} {op : Oper} {a : Act} {S : World → Prop} {c : Array Value} (hw : Region.wanted op (yielded ops a.tmps) = true) (t : TypeId) (parts : Array (Nat × Operand)) (ho : op.op = .build t parts)
    (h : P.built t (parts.map fun (i, x) => (i, a.eval x)).toList = some c) : YieldsIf P ops S op (.agg c) a :=
  .inl ⟨hw, fun w _ => by
    unfold execOp
    simp only [ho, Sem.run_bind, run_build w t _ c h, Result.andThen_ok]
    rfl⟩
theorem built_two : Try.prog.built 47 [(0, .int .u64 2)] = some (vals .u64 16 (dg 2)) := by kernel_rfl
theorem two_le : 2 ≤ pP := by unfold pP; omega
set_option maxRecDepth 100000 in
set_option maxHeartbeats 2000000 in
theorem refInv_any (a : Nat) (w : World) (ha : a < 2 ^ 256) :
    Calls Try.prog 34 #[rn a] w fun e w' => e = .returned (rn (pm a (pP - 2))) ∧ Below w.heap.size w w' := by
  have Ha := hide ha
  clear ha
  unfold rn
  go_enter Try.func34, Try.ntmps34
  have G_0 := hide ((Blk.new w (vals .u64 16 (dg a)) 47).alloc (.cells (vals .u64 16 (fun _ => 0)) 47))
  have Zs := hide (Blk.new' (w.alloc (.cells (vals .u64 16 (dg a)) 47)) (w.heap.size + 1) (by simp) (vals .u64 16 (fun _ => 0)) 47)
  have L_0 : Hid (Below w.heap.size w ((w.alloc (.cells (vals .u64 16 (dg a)) 47)).alloc (.cells (vals .u64 16 (fun _ => 0)) 47))) := hide (((Below.refl _ w).alloc (Nat.le_refl _) _).alloc (by simp) _)
  obtain ⟨x, hx⟩ : ∃ x, x = pP - 2 := ⟨_, rfl⟩
  have Hx := hide hx
  have Hx2 : Hid (x < 2 ^ 256) := hide (by rw [hx]; exact Nat.lt_of_le_of_lt (Nat.sub_le _ _) pP_lt)
  rw [← hx]
  clear hx
  go_wp2
  refine wp_region_held_drew (S := fun w' => Blk w' (w.heap.size) (vals .u64 16 (dg a)) 47 ∧ Below w.heap.size w w') (by kernel_rfl) ⟨G_0.out.drew, L_0.out.drew⟩ (fun hHeld => ?_)
  have Z_0 := hide Zs.out.drew
  clear G_0 L_0 Zs
  refine wpAnyH_take (i := 0) (oi := { dst := some 3, op := Op.load 47 (Operand.tmp 1), type := 47, pos := "ref.go:135", after := #[], guard := none }) (v := .agg (vals .u64 16 (dg a))) rfl (by kernel_rfl) (by kernel_rfl) (by kernel_rfl) (fun _ _ _ h => h) (yields_S (fun _ h => h.1) (by rfl) 47 _ rfl rfl _ Try.underlying47 rfl (by rw [vals_size]; exact cells31)) hHeld ?_
  try simp only [Act.put, List.setIfInBounds_toArray, List.set_cons_zero, List.set_cons_succ]
  refine wpAnyH_take (i := 2) (oi := { dst := some 5, op := Op.build 47 #[(0, Operand.const (Value.int IntKind.u64 2))], type := 47, pos := "ref.go:135", after := #[], guard := none }) (v := .agg (vals .u64 16 (dg 2))) rfl (by kernel_rfl) (by kernel_rfl) (by kernel_rfl) (fun _ _ _ h => h) (yields_build (by rfl) 47 _ rfl (by simp only [List.map_toArray, List.map_cons, List.map_nil]; exact built_two)) hHeld ?_
  try simp only [Act.put, List.setIfInBounds_toArray, List.set_cons_zero, List.set_cons_succ]
  refine wpAnyH_ready (rs := [1]) (by kernel_rfl) (by simp) ?_
  refine AllReadyH.cons (o := { dst := some 4, op := Op.call { callee := Callee.value (Operand.func 44), args := #[], argTypes := #[] }, type := 47, pos := "ref.go:135", after := #[], guard := none }) rfl (fun K hK => ?_) AllReadyH.nil
  go_simp
  refine (refP_at _ _ (by rfl)).mono ?_
  unfold rn
  rintro e u1 ⟨rfl, hb⟩
  have Z_1 := hide (Z_0.out.call hb)
  clear Z_0
  dsimp only
  refine hK.out _ _ ⟨hHeld.1.call hb, hHeld.2.trans (hb.mono hHeld.2.size)⟩ (fun hHeld => ?_)
  clear hK K hb
  try simp only [Act.put, List.setIfInBounds_toArray, List.set_cons_zero, List.set_cons_succ]
  refine wpAnyH_ready (rs := [3]) (by kernel_rfl) (by simp) ?_
  refine AllReadyH.cons (o := { dst := some 6, op := Op.call { callee := Callee.value (Operand.func 43), args := #[Operand.tmp 4, Operand.tmp 5], argTypes := #[47, 47] }, type := 47, pos := "ref.go:135", after := #[{ on := 1, ground := Ground.data }, { on := 2, ground := Ground.data }, { on := 1, ground := Ground.chain }], guard := none }) rfl (fun K hK => ?_) AllReadyH.nil
  go_simp
  refine (refless_at pP 2 _ _ (by rfl) two_le).mono ?_
  rw [← Hx.out]
  unfold rn
  rintro e u2 ⟨rfl, hb⟩
  have Z_2 := hide (Z_1.out.call hb)
  clear Z_1
  dsimp only
  refine hK.out _ _ ⟨hHeld.1.call hb, hHeld.2.trans (hb.mono hHeld.2.size)⟩ (fun hHeld => ?_)
  clear hK K hb
  try simp only [Act.put, List.setIfInBounds_toArray, List.set_cons_zero, List.set_cons_succ]
  refine wpAnyH_ready (rs := [4]) (by kernel_rfl) (by simp) ?_
  refine AllReadyH.cons (o := { dst := some 7, op := Op.call { callee := Callee.value (Operand.func 45), args := #[Operand.tmp 3, Operand.tmp 6], argTypes := #[47, 47] }, type := 47, pos := "ref.go:135", after := #[{ on := 0, ground := Ground.data }, { on := 3, ground := Ground.data }, { on := 3, ground := Ground.chain }], guard := none }) rfl (fun K hK => ?_) AllReadyH.nil
  go_simp
  refine (refPower_at a x _ _ (by rfl) Ha.out Hx2.out).mono ?_
  unfold rn
  rintro e u3 ⟨rfl, hb⟩
  have Z_3 := hide (Z_2.out.call hb)
  clear Z_2
  dsimp only
  refine hK.out _ _ ⟨hHeld.1.call hb, hHeld.2.trans (hb.mono hHeld.2.size)⟩ (fun hHeld => ?_)
  clear hK K hb
  try simp only [Act.put, List.setIfInBounds_toArray, List.set_cons_zero, List.set_cons_succ]
  refine wpAnyH_ready (rs := [5]) (by kernel_rfl) (by simp) ?_
  refine AllReadyH.cons (o := { dst := none, op := Op.store 47 (Operand.tmp 2) (Operand.tmp 7), type := 0, pos := "ref.go:135", after := #[{ on := 4, ground := Ground.data }, { on := 4, ground := Ground.chain }, { on := 0, ground := Ground.phase }, { on := 1, ground := Ground.phase }, { on := 2, ground := Ground.phase }, { on := 3, ground := Ground.phase }, { on := 4, ground := Ground.phase }], guard := none }) rfl (fun K hK => ?_) AllReadyH.nil
  rw [if_pos (by rfl)]
  refine wp_store_row 47 _ _ rfl (w.heap.size + 1) (vals .u64 16 (dg (pm a x))) rfl rfl 47 _ Z_3.out (by rw [vals_size]; exact cells31) (by rw [vals_size, vals_size]) (vals_one _ _ _) ?_
  refine hK.out _ _ ⟨hHeld.1.rowOther _ (by omega), Below.row hHeld.2 (by omega) _⟩ (fun hHeld => ?_)
  clear hK K
  simp only [Act.put]
  refine wpAnyH_done (by kernel_rfl) ?_ _
  go_wp2
  refine bodyPost_ret (v := .agg (vals .u64 16 (dg (pm a x)))) (results_cell_row Try.results34 _ _ (w.heap.size + 1) 47 _ (0, 0) _ rfl (Z_3.out.row _) Try.underlying47 rfl (by rw [vals_size]; exact cells31)) rfl ⟨rfl, ?_⟩
  exact hHeld.2
theorem refInv_at (a : Nat) (args : Array Value) (w : World) (h : args = #[rn a]) (ha : a < 2 ^ 256) :
    Calls Try.prog 34 args w fun e w' => e = .returned (rn (pm a (pP - 2))) ∧ Below w.heap.size w w' := by subst h; exact refInv_any a w ha
theorem dgP3 : ∀ j, j < 16 → (if j = 0 then 65520 else dg pP j) = dg (pP + 3) j := by
  have h : ∀ j : Fin 16, (if j.val = 0 then 65520 else dg pP j.val) = dg (pP + 3) j.val := by decide +kernel
  intro j hj
  exact h ⟨j, hj⟩
theorem dgP0 : dg pP 0 = 65517 := by rw [dgP 0 (by omega)]; rfl
end Go.Proofs.Ytidhffaphbiapaa.F

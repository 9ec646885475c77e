/- Walks of the reference: Inv, root. -/
import Derived.Test.YtalnkcijebdpbaaVh
import Derived.Test.YtalnkcijebdpbaaVj
import Derived.Test.YtalnkcijebdpbaaVk
namespace Go.Proofs.Ytalnkcijebdpbaa.F
open Go.RowKit

theorem yields_build {P : Program} {ops : Array Oper} {op : Oper} {a : Act} {S : World → Prop} {c : Array Value} (hw : Region.wanted op (yielded ops a.tmps) = true) (t : TypeId) (parts : Array (Nat × Operand)) (ho : op.op = .build t parts)
    (h : P.built t (parts.map fun (i, x) => (i, a.eval x)).toList = some c) : YieldsIf P ops S op (.agg c) a :=
  .inl ⟨hw, fun w _ => by
    unfold execOp
    simp only [ho, Sem.run_bind, run_build w t _ c h, Result.andThen_ok]
    rfl⟩
theorem built_two : Try.prog.built 33 [(0, .int .u64 2)] = some (vals .u64 16 (dg 2)) := by kernel_rfl
theorem two_le : 2 ≤ pP := by unfold pP; omega
set_option maxRecDepth 100000 in
set_option maxHeartbeats 2000000 in
theorem refInv_any (a : Nat) (w : World) (ha : a < 2 ^ 256) :
    Calls Try.prog 59 #[rn a] w fun e w' => e = .returned (rn (pm a (pP - 2))) ∧ Below w.heap.size w w' := by
  have Ha := hide ha
  clear ha
  unfold rn
  go_enter Try.func59, Try.ntmps59
  have G_0 := hide ((Blk.new w (vals .u64 16 (dg a)) 33).alloc (.cells (vals .u64 16 (fun _ => 0)) 33))
  have Zs := hide (Blk.new' (w.alloc (.cells (vals .u64 16 (dg a)) 33)) (w.heap.size + 1) (by simp) (vals .u64 16 (fun _ => 0)) 33)
  have L_0 : Hid (Below w.heap.size w ((w.alloc (.cells (vals .u64 16 (dg a)) 33)).alloc (.cells (vals .u64 16 (fun _ => 0)) 33))) := hide (((Below.refl _ w).alloc (Nat.le_refl _) _).alloc (by simp) _)
  obtain ⟨x, hx⟩ : ∃ x, x = pP - 2 := ⟨_, rfl⟩
  have Hx := hide hx
  have Hx2 : Hid (x < 2 ^ 256) := hide (by rw [hx]; exact Nat.lt_of_le_of_lt (Nat.sub_le _ _) pP_lt)
  rw [← hx]
  clear hx
  go_wp2
  refine wp_region_held_drew (S := fun w' => Blk w' (w.heap.size) (vals .u64 16 (dg a)) 33 ∧ Below w.heap.size w w') (by kernel_rfl) ⟨G_0.out.drew, L_0.out.drew⟩ (fun hHeld => ?_)
  have Z_0 := hide Zs.out.drew
  clear G_0 L_0 Zs
  refine wpAnyH_take (i := 0) (oi := { dst := some 3, op := Op.load 33 (Operand.tmp 1), type := 33, pos := "ref.go:135", after := #[], guard := none }) (v := .agg (vals .u64 16 (dg a))) rfl (by kernel_rfl) (by kernel_rfl) (by kernel_rfl) (fun _ _ _ h => h) (yields_S (fun _ h => h.1) (by rfl) 33 _ rfl rfl _ Try.underlying33 rfl (by rw [vals_size]; exact cells31)) hHeld ?_
  try simp only [Act.put, List.setIfInBounds_toArray, List.set_cons_zero, List.set_cons_succ]
  refine wpAnyH_take (i := 2) (oi := { dst := some 5, op := Op.build 33 #[(0, Operand.const (Value.int IntKind.u64 2))], type := 33, pos := "ref.go:135", after := #[], guard := none }) (v := .agg (vals .u64 16 (dg 2))) rfl (by kernel_rfl) (by kernel_rfl) (by kernel_rfl) (fun _ _ _ h => h) (yields_build (by rfl) 33 _ rfl (by simp only [List.map_toArray, List.map_cons, List.map_nil]; exact built_two)) hHeld ?_
  try simp only [Act.put, List.setIfInBounds_toArray, List.set_cons_zero, List.set_cons_succ]
  refine wpAnyH_ready (rs := [1]) (by kernel_rfl) (by simp) ?_
  refine AllReadyH.cons (o := { dst := some 4, op := Op.call { callee := Callee.value (Operand.func 72), args := #[], argTypes := #[] }, type := 33, pos := "ref.go:135", after := #[], guard := none }) rfl (fun K hK => ?_) AllReadyH.nil
  go_simp
  refine (refP_at _ _ (by rfl)).mono ?_
  unfold rn
  rintro e u1 ⟨rfl, hb⟩
  have Z_1 := hide (Z_0.out.call hb)
  clear Z_0
  dsimp only
  refine hK.out _ _ ⟨hHeld.1.call hb, hHeld.2.trans (hb.mono hHeld.2.size)⟩ (fun hHeld => ?_)
  clear hK K hb
  try simp only [Act.put, List.setIfInBounds_toArray, List.set_cons_zero, List.set_cons_succ]
  refine wpAnyH_ready (rs := [3]) (by kernel_rfl) (by simp) ?_
  refine AllReadyH.cons (o := { dst := some 6, op := Op.call { callee := Callee.value (Operand.func 71), args := #[Operand.tmp 4, Operand.tmp 5], argTypes := #[33, 33] }, type := 33, pos := "ref.go:135", after := #[{ on := 1, ground := Ground.data }, { on := 2, ground := Ground.data }, { on := 1, ground := Ground.chain }], guard := none }) rfl (fun K hK => ?_) AllReadyH.nil
  go_simp
  refine (refless_at pP 2 _ _ (by rfl) two_le).mono ?_
  rw [← Hx.out]
  unfold rn
  rintro e u2 ⟨rfl, hb⟩
  have Z_2 := hide (Z_1.out.call hb)
  clear Z_1
  dsimp only
  refine hK.out _ _ ⟨hHeld.1.call hb, hHeld.2.trans (hb.mono hHeld.2.size)⟩ (fun hHeld => ?_)
  clear hK K hb
  try simp only [Act.put, List.setIfInBounds_toArray, List.set_cons_zero, List.set_cons_succ]
  refine wpAnyH_ready (rs := [4]) (by kernel_rfl) (by simp) ?_
  refine AllReadyH.cons (o := { dst := some 7, op := Op.call { callee := Callee.value (Operand.func 74), args := #[Operand.tmp 3, Operand.tmp 6], argTypes := #[33, 33] }, type := 33, pos := "ref.go:135", after := #[{ on := 0, ground := Ground.data }, { on := 3, ground := Ground.data }, { on := 3, ground := Ground.chain }], guard := none }) rfl (fun K hK => ?_) AllReadyH.nil
  go_simp
  refine (refPower_at a x _ _ (by rfl) Ha.out Hx2.out).mono ?_
  unfold rn
  rintro e u3 ⟨rfl, hb⟩
  have Z_3 := hide (Z_2.out.call hb)
  clear Z_2
  dsimp only
  refine hK.out _ _ ⟨hHeld.1.call hb, hHeld.2.trans (hb.mono hHeld.2.size)⟩ (fun hHeld => ?_)
  clear hK K hb
  try simp only [Act.put, List.setIfInBounds_toArray, List.set_cons_zero, List.set_cons_succ]
  refine wpAnyH_ready (rs := [5]) (by kernel_rfl) (by simp) ?_
  refine AllReadyH.cons (o := { dst := none, op := Op.store 33 (Operand.tmp 2) (Operand.tmp 7), type := 0, pos := "ref.go:135", after := #[{ on := 4, ground := Ground.data }, { on := 4, ground := Ground.chain }, { on := 0, ground := Ground.phase }, { on := 1, ground := Ground.phase }, { on := 2, ground := Ground.phase }, { on := 3, ground := Ground.phase }, { on := 4, ground := Ground.phase }], guard := none }) rfl (fun K hK => ?_) AllReadyH.nil
  rw [if_pos (by rfl)]
  refine wp_store_row 33 _ _ rfl (w.heap.size + 1) (vals .u64 16 (dg (pm a x))) rfl rfl 33 _ Z_3.out (by rw [vals_size]; exact cells31) (by rw [vals_size, vals_size]) (vals_one _ _ _) ?_
  refine hK.out _ _ ⟨hHeld.1.rowOther _ (by omega), Below.row hHeld.2 (by omega) _⟩ (fun hHeld => ?_)
  clear hK K
  simp only [Act.put]
  refine wpAnyH_done (by kernel_rfl) ?_ _
  go_wp2
  refine bodyPost_ret (v := .agg (vals .u64 16 (dg (pm a x)))) (results_cell_row Try.results59 _ _ (w.heap.size + 1) 33 _ (0, 0) _ rfl (Z_3.out.row _) Try.underlying33 rfl (by rw [vals_size]; exact cells31)) rfl ⟨rfl, ?_⟩
  exact hHeld.2
theorem refInv_at (a : Nat) (args : Array Value) (w : World) (h : args = #[rn a]) (ha : a < 2 ^ 256) :
    Calls Try.prog 59 args w fun e w' => e = .returned (rn (pm a (pP - 2))) ∧ Below w.heap.size w w' := by subst h; exact refInv_any a w ha
theorem dgP3 : ∀ j, j < 16 → (if j = 0 then 65520 else dg pP j) = dg (pP + 3) j := by
  have h : ∀ j : Fin 16, (if j.val = 0 then 65520 else dg pP j.val) = dg (pP + 3) j.val := by decide +kernel
  intro j hj
  exact h ⟨j, hj⟩
theorem dgP0 : dg pP 0 = 65517 := by rw [dgP 0 (by omega)]; rfl
set_option maxRecDepth 100000 in
set_option maxHeartbeats 2000000 in
theorem refRoot_any (a : Nat) (w : World) (ha : a < 2 ^ 256) :
    Calls Try.prog 73 #[rn a] w fun e w' => e = .returned (rn (pm a ((pP + 3) / 2 ^ 3))) ∧ Below w.heap.size w w' := by
  have Ha := hide ha
  clear ha
  unfold rn
  have A0 := hide ((Blk.new w (vals .u64 16 (dg a)) 33).alloc (.cells (vals .u64 16 (fun _ => 0)) 33))
  have Z0 := hide (Blk.new' (w.alloc (.cells (vals .u64 16 (dg a)) 33)) (w.heap.size + 1) (by simp) (vals .u64 16 (fun _ => 0)) 33)
  have L0 : Hid (Below w.heap.size w ((w.alloc (.cells (vals .u64 16 (dg a)) 33)).alloc (.cells (vals .u64 16 (fun _ => 0)) 33))) := hide (((Below.refl _ w).alloc (Nat.le_refl _) _).alloc (by simp) _)
  obtain ⟨x, hx⟩ : ∃ x, x = pP + 3 := ⟨_, rfl⟩
  have Hx := hide hx
  have Hx2 : Hid (x < 2 ^ 256) := hide (by rw [hx]; unfold pP; omega)
  rw [← hx]
  clear hx
  go_enter Try.func73, Try.ntmps73
  go_upto_region 2 with (first
    | (go_at_call 72; refine (refP_at _ _ rfl).mono ?_; unfold rn; rintro r w1 ⟨rfl, hb1⟩; have A1 := hide (A0.out.call hb1); have Z1 := hide (Z0.out.call hb1); have L1 := hide (L0.out.trans (hb1.mono L0.out.size)); clear hb1 A0 Z0 L0; dsimp only)
    | (refine wpList_store_abs rfl 33 _ _ rfl w1.heap.size (vals .u64 16 (dg pP)) rfl rfl 33 _ (Blk.new w1 _ _) (by exact cells31) (by rw [vals_size]; rfl) (vals_one _ _ _) ?_; intro y2 B2 S2; have A2 := hide (S2.other _ _ _ (Nat.ne_of_gt A1.out.lt) (A1.out.alloc _)); have Z2 := hide (S2.other _ _ _ (Nat.ne_of_gt Z1.out.lt) (Z1.out.alloc _)); have L2 := hide (S2.low _ _ (L1.out.alloc L1.out.size _) L1.out.size); have O2 := hide B2; have hO : w.heap.size + 1 < w1.heap.size := Z1.out.lt; clear B2 S2 A1 Z1 L1))
  obtain ⟨O, hOe⟩ : ∃ O, O = w1.heap.size := ⟨_, rfl⟩
  rw [← hOe] at O2 hO ⊢
  clear hOe
  have c0 := O2.out.cell 0
  rw [vals_get _ _ _ _ (by omega), dgP0] at c0
  have f0 := O2.out.frozen 0
  have O3 := hide ((O2.out.set 0 (.int .u64 (65520 : Nat))).cast (c' := vals .u64 16 (dg x)) (by
    rw [vals_set, Hx.out]
    exact vals_congr _ _ _ _ fun j hj => dgP3 j hj))
  go_wp2
  go_loopw [4] (fun i ws => ∃ k : Nat, k ≤ 3 ∧ i = .int .i64 k ∧ Blk ws w.heap.size (vals .u64 16 (dg a)) 33 ∧ (∃ z, z.size = 16 ∧ Blk ws (w.heap.size + 1) z 33) ∧ Blk ws O (vals .u64 16 (dg (x / 2 ^ k))) 33 ∧ Below w.heap.size w ws) (fun i _ => 3 - (intOf i).toNat)
  case atStart =>
    refine ⟨0, by omega, rfl, A2.out.setOther _ _ (by omega), ⟨_, vals_size _ _ _, Z2.out.setOther _ _ (by omega)⟩, ?_, L2.out.setCell (show w.heap.size ≤ O by omega) _⟩
    rw [show x / 2 ^ 0 = x by simp]
    exact O3.out
  case round =>
    clear A2 Z2 L2 O2 O3 c0 f0
    obtain ⟨k, hk, rfl, Ba, ⟨z, hz, Bz⟩, Bo, L⟩ := hrel
    have HA := hide Ba
    have HZ := hide Bz
    have HO := hide Bo
    have HL := hide L
    clear Ba Bz Bo L
    by_cases hlt : k < 3
    · have hk0 : (0 : Int) ≤ (k : Int) := by omega
      have hk3 : (k : Int) < 3 := by omega
      have Hh : Hid (x / 2 ^ k / 2 = x / 2 ^ (k + 1)) := hide (by rw [Nat.div_div_eq_div_mul, Nat.pow_succ])
      have Hlt : Hid (x / 2 ^ k < 2 ^ 256) := hide (Nat.lt_of_le_of_lt (Nat.div_le_self _ _) Hx2.out)
      go_wp2_with (first
        | (refine wpList_load_row rfl 33 _ rfl O rfl 33 _ (0, 0) _ HO.out Try.underlying33 rfl (by rw [vals_size]; exact cells31) ?_)
        | (go_at_call 75; refine (refHalf_at (x / 2 ^ k) _ _ rfl Hlt.out).mono ?_; rw [Hh.out]; unfold rn; rintro r w3 ⟨rfl, hb3⟩; have A3 := hide (HA.out.call hb3); have Z3 := hide (HZ.out.call hb3); have O3 := hide (HO.out.call hb3); have L3 := hide (HL.out.trans (hb3.mono HL.out.size)); clear hb3 HA HZ HO HL; dsimp only)
        | (refine wpList_store_abs rfl 33 _ _ rfl O (vals .u64 16 (dg (x / 2 ^ (k + 1)))) rfl rfl 33 _ O3.out (by rw [vals_size]; exact cells31) (by rw [vals_size, vals_size]) (vals_one _ _ _) ?_; intro y4 B4 S4; have A4 := hide (S4.other _ _ _ (by omega) A3.out); have Z4 := hide (S4.other _ _ _ (by omega) Z3.out); have L4 := hide (S4.low _ _ L3.out (by omega)); have O4 := hide B4; clear B4 S4 A3 Z3 O3 L3))
      go_roundw
      case rel => exact ⟨k + 1, by omega, by go_num, A4.out, ⟨z, hz, Z4.out⟩, O4.out, L4.out⟩
      case measure => simp [intOf]; omega
    · have e3 : k = 3 := by omega
      subst e3
      have Hlt : Hid (x / 2 ^ 3 < 2 ^ 256) := hide (Nat.lt_of_le_of_lt (Nat.div_le_self _ _) Hx2.out)
      rw [show ((3 : Nat) : Int) = 3 from rfl]
      go_wp2_with (first
        | (refine wpList_load_row rfl 33 _ rfl O rfl 33 _ (0, 0) _ HO.out Try.underlying33 rfl (by rw [vals_size]; exact cells31) ?_)
        | (refine wpList_load_row rfl 33 _ rfl w.heap.size rfl 33 _ (0, 0) _ HA.out Try.underlying33 rfl (by rw [vals_size]; exact cells31) ?_)
        | (go_at_call 74; refine (refPower_at a (x / 2 ^ 3) _ _ rfl Ha.out Hlt.out).mono ?_; unfold rn; rintro r w5 ⟨rfl, hb5⟩; have Z5 := hide (HZ.out.call hb5); have L5 := hide (HL.out.trans (hb5.mono HL.out.size)); clear hb5; dsimp only)
        | (refine wpList_store_row rfl 33 _ _ rfl (w.heap.size + 1) (vals .u64 16 (dg (pm a (x / 2 ^ 3)))) rfl rfl 33 z Z5.out (by rw [vals_size]; exact cells31) (by rw [vals_size]; exact hz) (vals_one _ _ _) ?_))
      refine bodyPost_ret (v := .agg (vals .u64 16 (dg (pm a (x / 2 ^ 3))))) (results_cell_row Try.results73 _ _ (w.heap.size + 1) 33 _ (0, 0) _ rfl (Z5.out.row _) Try.underlying33 rfl (by rw [vals_size]; exact cells31)) rfl ⟨rfl, ?_⟩
      exact Below.row L5.out (by omega) _
theorem refRoot_at (a : Nat) (args : Array Value) (w : World) (h : args = #[rn a]) (ha : a < 2 ^ 256) :
    Calls Try.prog 73 args w fun e w' => e = .returned (rn (pm a ((pP + 3) / 2 ^ 3))) ∧ Below w.heap.size w w' := by subst h; exact refRoot_any a w ha

end Go.Proofs.Ytalnkcijebdpbaa.F

/- The first region of MulAdd: three calls and three new variables in whatever order. -/
import Derived.Test.YtalnkcijebdpbaaDoorAf
namespace Go.Proofs.YtalnkcijebdpbaaDoor.S
open Go.RowKit

section
variable {P : Program} {ops : Array Oper} {Q : Exit → Act → World → Prop} {md : Region.Mode} {S : World → Prop}
/-- A region whose operations come in whatever order, by what holds behind each. -/
theorem wpAnyH_inv {I : Nat → Array Bool → Act → World → Prop} {m : Nat} (hend : ∀ l a w, S w → I 0 l a w → wpAnyH P md ops Q S m l a w)
    (hstep : ∀ n l a w, S w → I (n + 1) l a w → ∃ rs, Region.ready md ops l = rs ∧ rs ≠ [] ∧ ∀ i ∈ rs, wpOp P ops Q i (fun a' w' => S w' ∧ I n (l.setIfInBounds i true) a' w') a w) :
    ∀ n l a w, S w → I n l a w → wpAnyH P md ops Q S (n + m) l a w
  | 0, l, a, w, hs, h => by rw [Nat.zero_add]; exact hend l a w hs h
  | n + 1, l, a, w, hs, h => by
    rw [show n + 1 + m = (n + m) + 1 by omega]
    obtain ⟨rs, hr, hne, hall⟩ := hstep n l a w hs h
    exact wpAnyH_all hr hne fun i hi => wpOp_mono (fun a' w' h' => ⟨h'.1, wpAnyH_inv hend hstep n _ a' w' h'.1 h'.2⟩) (hall i hi)
end

def mOps : Array Oper := #[
  { dst := some 14, op := Op.load 22 (Operand.tmp 3), type := 22, pos := "scalar.go:23", after := #[], guard := none },
  { dst := some 15, op := Op.call { callee := Callee.value (Operand.func 19), args := #[Operand.tmp 14], argTypes := #[22] }, type := 25, pos := "scalar.go:23", after := #[{ on := 0, ground := Ground.data }], guard := none },
  { dst := some 16, op := Op.load 22 (Operand.tmp 4), type := 22, pos := "scalar.go:23", after := #[], guard := none },
  { dst := some 17, op := Op.call { callee := Callee.value (Operand.func 19), args := #[Operand.tmp 16], argTypes := #[22] }, type := 25, pos := "scalar.go:23", after := #[{ on := 2, ground := Ground.data }, { on := 1, ground := Ground.chain }], guard := none },
  { dst := some 18, op := Op.load 22 (Operand.tmp 5), type := 22, pos := "scalar.go:23", after := #[], guard := none },
  { dst := some 19, op := Op.call { callee := Callee.value (Operand.func 19), args := #[Operand.tmp 18], argTypes := #[22] }, type := 25, pos := "scalar.go:23", after := #[{ on := 4, ground := Ground.data }, { on := 3, ground := Ground.chain }], guard := none },
  { dst := some 7, op := Op.alloc 25, type := 0, pos := "scalar.go:23", after := #[], guard := none },
  { dst := some 8, op := Op.alloc 25, type := 0, pos := "scalar.go:23", after := #[], guard := none },
  { dst := some 9, op := Op.alloc 25, type := 0, pos := "scalar.go:23", after := #[], guard := none },
  { dst := none, op := Op.store 25 (Operand.tmp 7) (Operand.tmp 15), type := 0, pos := "scalar.go:23", after := #[{ on := 6, ground := Ground.data }, { on := 1, ground := Ground.data }, { on := 5, ground := Ground.chain }, { on := 0, ground := Ground.phase }, { on := 1, ground := Ground.phase }, { on := 2, ground := Ground.textOnly Departure.lateStores }, { on := 3, ground := Ground.textOnly Departure.lateStoresUnsure }, { on := 4, ground := Ground.textOnly Departure.lateStores }, { on := 5, ground := Ground.textOnly Departure.lateStoresUnsure }, { on := 6, ground := Ground.phase }, { on := 7, ground := Ground.phase }, { on := 8, ground := Ground.phase }], guard := none },
  { dst := none, op := Op.store 25 (Operand.tmp 8) (Operand.tmp 17), type := 0, pos := "scalar.go:23", after := #[{ on := 7, ground := Ground.data }, { on := 3, ground := Ground.data }, { on := 9, ground := Ground.chain }, { on := 0, ground := Ground.phase }, { on := 1, ground := Ground.phase }, { on := 2, ground := Ground.phase }, { on := 3, ground := Ground.phase }, { on := 4, ground := Ground.textOnly Departure.lateStores }, { on := 5, ground := Ground.textOnly Departure.lateStoresUnsure }, { on := 6, ground := Ground.phase }, { on := 7, ground := Ground.phase }, { on := 8, ground := Ground.phase }, { on := 9, ground := Ground.phase }], guard := none },
  { dst := none, op := Op.store 25 (Operand.tmp 9) (Operand.tmp 19), type := 0, pos := "scalar.go:23", after := #[{ on := 8, ground := Ground.data }, { on := 5, ground := Ground.data }, { on := 10, ground := Ground.chain }, { on := 0, ground := Ground.phase }, { on := 1, ground := Ground.phase }, { on := 2, ground := Ground.phase }, { on := 3, ground := Ground.phase }, { on := 4, ground := Ground.phase }, { on := 5, ground := Ground.phase }, { on := 6, ground := Ground.phase }, { on := 7, ground := Ground.phase }, { on := 8, ground := Ground.phase }, { on := 9, ground := Ground.phase }, { on := 10, ground := Ground.phase }], guard := none }]
def ptr (b : Nat) : Value := .pointer (some ⟨b, 0, none⟩)
def z4 : Array Value := #[.int .u64 0, .int .u64 0, .int .u64 0, .int .u64 0]
/-- The frame. -/
def mFr (f g h : Nat → Nat) (N : Nat) (v7 v8 v9 v15 v17 v19 : Value) : Act :=
  { tmps := #[.agg (vals .u8 32 f), .agg (vals .u8 32 g), .agg (vals .u8 32 h), ptr N, ptr (N + 1), ptr (N + 2), ptr (N + 3), v7, v8, v9, undef, undef, undef, undef, .agg (vals .u8 32 f), v15, .agg (vals .u8 32 g), v17, .agg (vals .u8 32 h), v19, undef, undef, undef, undef, undef, undef, undef, undef, undef, undef, undef, undef, undef, undef, undef, undef, undef, undef, undef, undef, undef, undef, undef, undef, undef, undef, undef, undef, undef, undef, undef, undef, undef, undef, undef, undef, undef], defers := [] }
theorem m_call1 (Q : Exit → Act → World → Prop) (f g h : Nat → Nat) (N : Nat) (v7 v8 v9 v15 v17 v19 : Value) (w : World) (K : Act → World → Prop) (hf : ∀ i, f i < 256) (H : ∀ u, Below w.heap.size w u → K (mFr f g h N v7 v8 v9 (fe (nb f 32)) v17 v19) u) : wpOp Tryd.prog mOps Q 1 K (mFr f g h N v7 v8 v9 v15 v17 v19) w := by
  refine wpOp_step (o := { dst := some 15, op := Op.call { callee := Callee.value (Operand.func 19), args := #[Operand.tmp 14], argTypes := #[22] }, type := 25, pos := "scalar.go:23", after := #[{ on := 0, ground := Ground.data }], guard := none }) rfl (fun K' hK => ?_)
  unfold mFr
  go_simp
  refine (words_at f _ _ (by rfl) hf).mono ?_
  rintro e u ⟨rfl, hb⟩
  dsimp only
  exact hK _ _ (H u hb)
theorem m_call3 (Q : Exit → Act → World → Prop) (f g h : Nat → Nat) (N : Nat) (v7 v8 v9 v15 v17 v19 : Value) (w : World) (K : Act → World → Prop) (hf : ∀ i, g i < 256) (H : ∀ u, Below w.heap.size w u → K (mFr f g h N v7 v8 v9 v15 (fe (nb g 32)) v19) u) : wpOp Tryd.prog mOps Q 3 K (mFr f g h N v7 v8 v9 v15 v17 v19) w := by
  refine wpOp_step (o := { dst := some 17, op := Op.call { callee := Callee.value (Operand.func 19), args := #[Operand.tmp 16], argTypes := #[22] }, type := 25, pos := "scalar.go:23", after := #[{ on := 2, ground := Ground.data }, { on := 1, ground := Ground.chain }], guard := none }) rfl (fun K' hK => ?_)
  unfold mFr
  go_simp
  refine (words_at g _ _ (by rfl) hf).mono ?_
  rintro e u ⟨rfl, hb⟩
  dsimp only
  exact hK _ _ (H u hb)
theorem m_call5 (Q : Exit → Act → World → Prop) (f g h : Nat → Nat) (N : Nat) (v7 v8 v9 v15 v17 v19 : Value) (w : World) (K : Act → World → Prop) (hf : ∀ i, h i < 256) (H : ∀ u, Below w.heap.size w u → K (mFr f g h N v7 v8 v9 v15 v17 (fe (nb h 32))) u) : wpOp Tryd.prog mOps Q 5 K (mFr f g h N v7 v8 v9 v15 v17 v19) w := by
  refine wpOp_step (o := { dst := some 19, op := Op.call { callee := Callee.value (Operand.func 19), args := #[Operand.tmp 18], argTypes := #[22] }, type := 25, pos := "scalar.go:23", after := #[{ on := 4, ground := Ground.data }, { on := 3, ground := Ground.chain }], guard := none }) rfl (fun K' hK => ?_)
  unfold mFr
  go_simp
  refine (words_at h _ _ (by rfl) hf).mono ?_
  rintro e u ⟨rfl, hb⟩
  dsimp only
  exact hK _ _ (H u hb)
theorem m_new6 (Q : Exit → Act → World → Prop) (f g h : Nat → Nat) (N : Nat) (v7 v8 v9 v15 v17 v19 : Value) (w : World) (K : Act → World → Prop) (H : K (mFr f g h N (ptr w.heap.size) v8 v9 v15 v17 v19) (w.alloc (.cells z4 25))) : wpOp Tryd.prog mOps Q 6 K (mFr f g h N v7 v8 v9 v15 v17 v19) w := by
  refine wpOp_step (o := { dst := some 7, op := Op.alloc 25, type := 0, pos := "scalar.go:23", after := #[], guard := none }) rfl (fun K' hK => ?_)
  unfold mFr
  go_simp
  exact hK _ _ H
theorem m_new7 (Q : Exit → Act → World → Prop) (f g h : Nat → Nat) (N : Nat) (v7 v8 v9 v15 v17 v19 : Value) (w : World) (K : Act → World → Prop) (H : K (mFr f g h N v7 (ptr w.heap.size) v9 v15 v17 v19) (w.alloc (.cells z4 25))) : wpOp Tryd.prog mOps Q 7 K (mFr f g h N v7 v8 v9 v15 v17 v19) w := by
  refine wpOp_step (o := { dst := some 8, op := Op.alloc 25, type := 0, pos := "scalar.go:23", after := #[], guard := none }) rfl (fun K' hK => ?_)
  unfold mFr
  go_simp
  exact hK _ _ H
theorem m_new8 (Q : Exit → Act → World → Prop) (f g h : Nat → Nat) (N : Nat) (v7 v8 v9 v15 v17 v19 : Value) (w : World) (K : Act → World → Prop) (H : K (mFr f g h N v7 v8 (ptr w.heap.size) v15 v17 v19) (w.alloc (.cells z4 25))) : wpOp Tryd.prog mOps Q 8 K (mFr f g h N v7 v8 v9 v15 v17 v19) w := by
  refine wpOp_step (o := { dst := some 9, op := Op.alloc 25, type := 0, pos := "scalar.go:23", after := #[], guard := none }) rfl (fun K' hK => ?_)
  unfold mFr
  go_simp
  exact hK _ _ H
theorem m_put9 (Q : Exit → Act → World → Prop) (f g h : Nat → Nat) (N b : Nat) (v8 v9 v17 v19 : Value) (w : World) (K : Act → World → Prop) (hB : Blk w b z4 25) (H : K (mFr f g h N (ptr b) v8 v9 (fe (nb f 32)) v17 v19) (w.setRow b (arr 4 (limb (nb f 32))))) : wpOp Tryd.prog mOps Q 9 K (mFr f g h N (ptr b) v8 v9 (fe (nb f 32)) v17 v19) w := by
  refine wpOp_step (o := { dst := none, op := Op.store 25 (Operand.tmp 7) (Operand.tmp 15), type := 0, pos := "scalar.go:23", after := #[{ on := 6, ground := Ground.data }, { on := 1, ground := Ground.data }, { on := 5, ground := Ground.chain }, { on := 0, ground := Ground.phase }, { on := 1, ground := Ground.phase }, { on := 2, ground := Ground.textOnly Departure.lateStores }, { on := 3, ground := Ground.textOnly Departure.lateStoresUnsure }, { on := 4, ground := Ground.textOnly Departure.lateStores }, { on := 5, ground := Ground.textOnly Departure.lateStoresUnsure }, { on := 6, ground := Ground.phase }, { on := 7, ground := Ground.phase }, { on := 8, ground := Ground.phase }], guard := none }) rfl (fun K' hK => ?_)
  unfold mFr
  rw [if_pos (by rfl)]
  refine wp_store_row 25 _ _ rfl b (arr 4 (limb (nb f 32))) rfl rfl 25 _ hB (by rw [arr_size]; exact cells41) (by rw [arr_size]; rfl) (arr_one _ _) ?_
  exact hK _ _ H
theorem m_put10 (Q : Exit → Act → World → Prop) (f g h : Nat → Nat) (N b : Nat) (v7 v9 v15 v19 : Value) (w : World) (K : Act → World → Prop) (hB : Blk w b z4 25) (H : K (mFr f g h N v7 (ptr b) v9 v15 (fe (nb g 32)) v19) (w.setRow b (arr 4 (limb (nb g 32))))) : wpOp Tryd.prog mOps Q 10 K (mFr f g h N v7 (ptr b) v9 v15 (fe (nb g 32)) v19) w := by
  refine wpOp_step (o := { dst := none, op := Op.store 25 (Operand.tmp 8) (Operand.tmp 17), type := 0, pos := "scalar.go:23", after := #[{ on := 7, ground := Ground.data }, { on := 3, ground := Ground.data }, { on := 9, ground := Ground.chain }, { on := 0, ground := Ground.phase }, { on := 1, ground := Ground.phase }, { on := 2, ground := Ground.phase }, { on := 3, ground := Ground.phase }, { on := 4, ground := Ground.textOnly Departure.lateStores }, { on := 5, ground := Ground.textOnly Departure.lateStoresUnsure }, { on := 6, ground := Ground.phase }, { on := 7, ground := Ground.phase }, { on := 8, ground := Ground.phase }, { on := 9, ground := Ground.phase }], guard := none }) rfl (fun K' hK => ?_)
  unfold mFr
  rw [if_pos (by rfl)]
  refine wp_store_row 25 _ _ rfl b (arr 4 (limb (nb g 32))) rfl rfl 25 _ hB (by rw [arr_size]; exact cells41) (by rw [arr_size]; rfl) (arr_one _ _) ?_
  exact hK _ _ H
theorem m_put11 (Q : Exit → Act → World → Prop) (f g h : Nat → Nat) (N b : Nat) (v7 v8 v15 v17 : Value) (w : World) (K : Act → World → Prop) (hB : Blk w b z4 25) (H : K (mFr f g h N v7 v8 (ptr b) v15 v17 (fe (nb h 32))) (w.setRow b (arr 4 (limb (nb h 32))))) : wpOp Tryd.prog mOps Q 11 K (mFr f g h N v7 v8 (ptr b) v15 v17 (fe (nb h 32))) w := by
  refine wpOp_step (o := { dst := none, op := Op.store 25 (Operand.tmp 9) (Operand.tmp 19), type := 0, pos := "scalar.go:23", after := #[{ on := 8, ground := Ground.data }, { on := 5, ground := Ground.data }, { on := 10, ground := Ground.chain }, { on := 0, ground := Ground.phase }, { on := 1, ground := Ground.phase }, { on := 2, ground := Ground.phase }, { on := 3, ground := Ground.phase }, { on := 4, ground := Ground.phase }, { on := 5, ground := Ground.phase }, { on := 6, ground := Ground.phase }, { on := 7, ground := Ground.phase }, { on := 8, ground := Ground.phase }, { on := 9, ground := Ground.phase }, { on := 10, ground := Ground.phase }], guard := none }) rfl (fun K' hK => ?_)
  unfold mFr
  rw [if_pos (by rfl)]
  refine wp_store_row 25 _ _ rfl b (arr 4 (limb (nb h 32))) rfl rfl 25 _ hB (by rw [arr_size]; exact cells41) (by rw [arr_size]; rfl) (arr_one _ _) ?_
  exact hK _ _ H
end Go.Proofs.YtalnkcijebdpbaaDoor.S

/- FieldRoots' walk: for both rows of 32 bytes the law returns true. -/
import Derived.Test.YtbjcfibpiiplaaaLr
namespace Go.Proofs.Ytbjcfibpiiplaaa
open Go.RowKit

theorem odd_m (x : Nat) (b : Bool) (w : World) (hb : decide (x % 2 = 1) = b) :
    Calls Try.prog 15 #[fe x] w fun e w' => e = .returned (.bool b) ∧ Below w.heap.size w w' := by
  subst hb; exact odd_any x w
theorem ratio_m (u v : Nat) (w : World) (hu : u < pP) (hv : v < pP) :
    Calls Try.prog 28 #[fe u, fe v] w fun e w' => e = .returned (.tuple #[fe (rVal u v), .bool (rOk u v)]) ∧ Below w.heap.size w w' := ratio_any u v w hu hv
theorem even_no {x : Nat} (h : x % 2 = 0) : decide (x % 2 = 1) = false := by simp; omega
/-- What a region that makes a new variable and a bool leaves. -/
def Newly2 (w0 : World) (v : Nat) (b : Bool) (s t : Value) (wx : World) : Prop := t = .bool b ∧ Newly w0 v s wx
/-- One of a number and its double has a root, where the divisor is not 0. -/
theorem one_has (x y : Nat) (hx : x < pP) (hy : y < pP) : rOk x y = true ∨ rOk (am x x) y = true ∨ y = 0 := by
  by_cases h2 : y = 0
  · exact .inr (.inr h2)
  by_cases h1 : x = 0
  · left; rw [h1]; exact ok_zero y
  have := ok_twice x y hx hy h1 h2
  cases h : rOk x y
  · right; left; rw [this, h]; rfl
  · exact .inl rfl
theorem not_both (x y : Nat) (hx : x < pP) (hy : y < pP) (h1 : rOk x y = true) (h2 : rOk (am x x) y = true) : x = 0 := by
  apply Classical.byContradiction
  intro h0
  by_cases hy0 : y = 0
  · rw [hy0, ok_div0 x hx h0] at h1; cases h1
  · rw [ok_twice x y hx hy h0 hy0, h1] at h2; cases h2

set_option maxRecDepth 100000 in
set_option maxHeartbeats 4000000 in
theorem roots_walk (f g : Nat → Nat) (w : World) (hf : ∀ i, f i < 256) (hg : ∀ i, g i < 256) :
    Calls Try.prog 7 #[ba f, ba g] w fun e w' => e = .returned (.bool true) ∧ Below w.heap.size w w' := by
  have Hf := hide hf
  have Hg := hide hg
  clear hf hg
  unfold ba
  have A_0 := hide ((Blk.new w (vals .u8 32 f) 22).alloc (.cells (vals .u8 32 g) 22))
  have B_0 := hide (Blk.new' (w.alloc (.cells (vals .u8 32 f) 22)) (w.heap.size + 1) (by simp) (vals .u8 32 g) 22)
  have L0 : Hid (Below w.heap.size w ((w.alloc (.cells (vals .u8 32 f) 22)).alloc (.cells (vals .u8 32 g) 22))) := hide (((Below.refl _ w).alloc (Nat.le_refl _) _).alloc (by simp) _)
  go_enter Try.func7, Try.ntmps7
  go_wp2_with fail
  refine (awake_at _ _ (by rfl)).mono ?_
  rintro e k1 ⟨rfl, hb⟩
  have A_1 := hide (A_0.out.call hb)
  have B_1 := hide (B_0.out.call hb)
  have Lw_1 := hide (L0.out.trans (hb.mono L0.out.size))
  clear A_0 B_0 L0 hb
  dsimp only
  go_wp2_with (first | (refine wpList_load_row rfl 22 _ rfl (w.heap.size) rfl 22 _ (0, 0) _ A_1.out Try.underlying22 rfl (by rw [vals_size]; exact cells22) ?_))
  refine (load_at f _ _ (by rfl) Hf.out).mono ?_
  rw [fe_def (nb f 32 % pP)]
  rintro e k2 ⟨rfl, hb⟩
  have A_2 := hide (A_1.out.call hb)
  have B_2 := hide (B_1.out.call hb)
  have Lw_2 := hide (Lw_1.out.trans (hb.mono Lw_1.out.size))
  clear A_1 B_1 Lw_1 hb
  dsimp only
  obtain ⟨x, hx⟩ : ∃ x, x = nb f 32 % pP := ⟨_, rfl⟩
  have Lx : Hid (x < pP) := hide (by rw [hx]; exact Nat.mod_lt _ pP_pos)
  rw [← hx]
  clear hx
  have X_3 := hide (Blk.new k2 (lits x) 27)
  have A_3 := hide (A_2.out.alloc (.cells (lits x) 27))
  have B_3 := hide (B_2.out.alloc (.cells (lits x) 27))
  have Lw_3 := hide (Lw_2.out.alloc Lw_2.out.size (.cells (lits x) 27))
  clear A_2 B_2 Lw_2
  go_wp2_with (first | (refine wpList_load_row rfl 22 _ rfl (w.heap.size + 1) rfl 22 _ (0, 0) _ B_3.out Try.underlying22 rfl (by rw [vals_size]; exact cells22) ?_))
  refine (load_at g _ _ (by rfl) Hg.out).mono ?_
  rw [fe_def (nb g 32 % pP)]
  rintro e k4 ⟨rfl, hb⟩
  have A_4 := hide (A_3.out.call hb)
  have B_4 := hide (B_3.out.call hb)
  have X_4 := hide (X_3.out.call hb)
  have Lw_4 := hide (Lw_3.out.trans (hb.mono Lw_3.out.size))
  clear A_3 B_3 X_3 Lw_3 hb
  dsimp only
  obtain ⟨y, hy⟩ : ∃ y, y = nb g 32 % pP := ⟨_, rfl⟩
  have Ly : Hid (y < pP) := hide (by rw [hy]; exact Nat.mod_lt _ pP_pos)
  rw [← hy]
  clear hy
  have Y_5 := hide (Blk.new k4 (lits y) 27)
  have A_5 := hide (A_4.out.alloc (.cells (lits y) 27))
  have B_5 := hide (B_4.out.alloc (.cells (lits y) 27))
  have X_5 := hide (X_4.out.alloc (.cells (lits y) 27))
  have Lw_5 := hide (Lw_4.out.alloc Lw_4.out.size (.cells (lits y) 27))
  clear A_4 B_4 X_4 Lw_4
  obtain ⟨cX, fX⟩ := X_5.out.rules
  obtain ⟨cY, fY⟩ := Y_5.out.rules
  go_wp2_with fail
  clear cX fX cY fY
  refine (ratio_at x y _ _ (by simp only [fe_def]) Lx.out Ly.out).mono ?_
  rw [fe_def (rVal x y)]
  rintro e k6 ⟨rfl, hb⟩
  have A_6 := hide (A_5.out.call hb)
  have B_6 := hide (B_5.out.call hb)
  have X_6 := hide (X_5.out.call hb)
  have Y_6 := hide (Y_5.out.call hb)
  have Lw_6 := hide (Lw_5.out.trans (hb.mono Lw_5.out.size))
  clear A_5 B_5 X_5 Y_5 Lw_5 hb
  dsimp only
  have R_7 := hide (Blk.new k6 (lits (rVal x y)) 27)
  have A_7 := hide (A_6.out.alloc (.cells (lits (rVal x y)) 27))
  have B_7 := hide (B_6.out.alloc (.cells (lits (rVal x y)) 27))
  have X_7 := hide (X_6.out.alloc (.cells (lits (rVal x y)) 27))
  have Y_7 := hide (Y_6.out.alloc (.cells (lits (rVal x y)) 27))
  have Lw_7 := hide (Lw_6.out.alloc Lw_6.out.size (.cells (lits (rVal x y)) 27))
  clear A_6 B_6 X_6 Y_6 Lw_6
  go_wp2
  generalize k6.alloc (.cells (lits (rVal x y)) 27) = y0 at *
  have Gx := X_7
  have Gy := Y_7
  have Gr := R_7
  have HL := Lw_7
  clear A_7 B_7 X_7 Y_7 R_7 Lw_7
  go_cut [9, 50] (fun s9 s wx => s9 = .bool (rOk x y) ∧ s = .bool false ∧ Below y0.heap.size y0 wx)
  case first =>
    cases his : rOk x y
    · have Z := hide (val_none x y his)
      have His := hide his
      clear his
      refine wp_region_held_drew (S := fun w' => Below y0.heap.size y0 w') (by kernel_rfl) (Below.refl _ _).drew (fun hHeld => ?_)
      refine wpAnyH_take (i := 0) (oi := { dst := some 27, op := Op.move (Operand.tmp 9), type := 4, pos := "law.go:124", after := #[], guard := none }) (v := .bool false) rfl (by kernel_rfl) (by kernel_rfl) (by kernel_rfl) (fun _ _ _ h => h) (Or.inl ⟨by rfl, fun w hSw => by go_simp⟩) hHeld ?_
      try simp only [Act.put, List.setIfInBounds_toArray, List.set_cons_zero, List.set_cons_succ]
      refine wpAnyH_take (i := 1) (oi := { dst := some 28, op := Op.move (Operand.tmp 27), type := 4, pos := "law.go:124", after := #[{ on := 0, ground := Ground.data }], guard := none }) (v := .bool false) rfl (by kernel_rfl) (by kernel_rfl) (by kernel_rfl) (fun _ _ _ h => h) (Or.inl ⟨by rfl, fun w hSw => by go_simp⟩) hHeld ?_
      try simp only [Act.put, List.setIfInBounds_toArray, List.set_cons_zero, List.set_cons_succ]
      refine wpAnyH_take (i := 2) (oi := { dst := some 29, op := Op.load 27 (Operand.tmp 8), type := 27, pos := "law.go:124", after := #[{ on := 1, ground := Ground.guard }], guard := some (1, true) }) (v := undef) rfl (by kernel_rfl) (by kernel_rfl) (by kernel_rfl) (fun _ _ _ h => h) (Or.inr ⟨by rfl, rfl⟩) hHeld ?_
      try simp only [Act.put, List.setIfInBounds_toArray, List.set_cons_zero, List.set_cons_succ]
      refine wpAnyH_take (i := 3) (oi := { dst := some 30, op := Op.call { callee := Callee.value (Operand.func 15), args := #[Operand.tmp 29], argTypes := #[27] }, type := 4, pos := "law.go:124", after := #[{ on := 2, ground := Ground.data }, { on := 1, ground := Ground.chain }, { on := 1, ground := Ground.guard }], guard := some (1, true) }) (v := undef) rfl (by kernel_rfl) (by kernel_rfl) (by kernel_rfl) (fun _ _ _ h => h) (Or.inr ⟨by rfl, rfl⟩) hHeld ?_
      try simp only [Act.put, List.setIfInBounds_toArray, List.set_cons_zero, List.set_cons_succ]
      refine wpAnyH_take (i := 4) (oi := { dst := some 31, op := Op.move (Operand.tmp 30), type := 4, pos := "law.go:124", after := #[{ on := 3, ground := Ground.data }, { on := 3, ground := Ground.chain }, { on := 1, ground := Ground.guard }], guard := some (1, true) }) (v := undef) rfl (by kernel_rfl) (by kernel_rfl) (by kernel_rfl) (fun _ _ _ h => h) (Or.inr ⟨by rfl, rfl⟩) hHeld ?_
      try simp only [Act.put, List.setIfInBounds_toArray, List.set_cons_zero, List.set_cons_succ]
      refine wpAnyH_take (i := 5) (oi := { dst := some 32, op := Op.load 27 (Operand.tmp 7), type := 27, pos := "law.go:124", after := #[{ on := 4, ground := Ground.guard }], guard := some (4, false) }) (v := undef) rfl (by kernel_rfl) (by kernel_rfl) (by kernel_rfl) (fun _ _ _ h => h) (Or.inr ⟨by rfl, rfl⟩) hHeld ?_
      try simp only [Act.put, List.setIfInBounds_toArray, List.set_cons_zero, List.set_cons_succ]
      refine wpAnyH_take (i := 6) (oi := { dst := some 33, op := Op.load 27 (Operand.tmp 8), type := 27, pos := "law.go:124", after := #[{ on := 4, ground := Ground.guard }], guard := some (4, false) }) (v := undef) rfl (by kernel_rfl) (by kernel_rfl) (by kernel_rfl) (fun _ _ _ h => h) (Or.inr ⟨by rfl, rfl⟩) hHeld ?_
      try simp only [Act.put, List.setIfInBounds_toArray, List.set_cons_zero, List.set_cons_succ]
      refine wpAnyH_take (i := 7) (oi := { dst := some 34, op := Op.call { callee := Callee.value (Operand.func 24), args := #[Operand.tmp 33], argTypes := #[27] }, type := 27, pos := "law.go:124", after := #[{ on := 6, ground := Ground.data }, { on := 4, ground := Ground.chain }, { on := 4, ground := Ground.guard }], guard := some (4, false) }) (v := undef) rfl (by kernel_rfl) (by kernel_rfl) (by kernel_rfl) (fun _ _ _ h => h) (Or.inr ⟨by rfl, rfl⟩) hHeld ?_
      try simp only [Act.put, List.setIfInBounds_toArray, List.set_cons_zero, List.set_cons_succ]
      refine wpAnyH_take (i := 8) (oi := { dst := some 35, op := Op.call { callee := Callee.value (Operand.func 22), args := #[Operand.tmp 32, Operand.tmp 34], argTypes := #[27, 27] }, type := 27, pos := "law.go:124", after := #[{ on := 5, ground := Ground.data }, { on := 7, ground := Ground.data }, { on := 7, ground := Ground.chain }, { on := 4, ground := Ground.guard }], guard := some (4, false) }) (v := undef) rfl (by kernel_rfl) (by kernel_rfl) (by kernel_rfl) (fun _ _ _ h => h) (Or.inr ⟨by rfl, rfl⟩) hHeld ?_
      try simp only [Act.put, List.setIfInBounds_toArray, List.set_cons_zero, List.set_cons_succ]
      refine wpAnyH_take (i := 9) (oi := { dst := some 36, op := Op.load 27 (Operand.tmp 6), type := 27, pos := "law.go:124", after := #[{ on := 4, ground := Ground.guard }], guard := some (4, false) }) (v := undef) rfl (by kernel_rfl) (by kernel_rfl) (by kernel_rfl) (fun _ _ _ h => h) (Or.inr ⟨by rfl, rfl⟩) hHeld ?_
      try simp only [Act.put, List.setIfInBounds_toArray, List.set_cons_zero, List.set_cons_succ]
      refine wpAnyH_take (i := 10) (oi := { dst := some 37, op := Op.call { callee := Callee.value (Operand.func 16), args := #[Operand.tmp 35, Operand.tmp 36], argTypes := #[27, 27] }, type := 4, pos := "law.go:124", after := #[{ on := 8, ground := Ground.data }, { on := 9, ground := Ground.data }, { on := 8, ground := Ground.chain }, { on := 4, ground := Ground.guard }], guard := some (4, false) }) (v := undef) rfl (by kernel_rfl) (by kernel_rfl) (by kernel_rfl) (fun _ _ _ h => h) (Or.inr ⟨by rfl, rfl⟩) hHeld ?_
      try simp only [Act.put, List.setIfInBounds_toArray, List.set_cons_zero, List.set_cons_succ]
      refine wpAnyH_take (i := 11) (oi := { dst := some 38, op := Op.unOp UnOp.not 4 (Operand.tmp 37), type := 4, pos := "law.go:124", after := #[{ on := 10, ground := Ground.data }, { on := 4, ground := Ground.guard }], guard := some (4, false) }) (v := undef) rfl (by kernel_rfl) (by kernel_rfl) (by kernel_rfl) (fun _ _ _ h => h) (Or.inr ⟨by rfl, rfl⟩) hHeld ?_
      try simp only [Act.put, List.setIfInBounds_toArray, List.set_cons_zero, List.set_cons_succ]
      refine wpAnyH_take (i := 12) (oi := { dst := some 39, op := Op.pick (Operand.tmp 31) (Operand.const (Value.bool true)) (Operand.tmp 38), type := 4, pos := "law.go:124", after := #[{ on := 4, ground := Ground.data }, { on := 11, ground := Ground.data }, { on := 1, ground := Ground.guard }], guard := some (1, true) }) (v := undef) rfl (by kernel_rfl) (by kernel_rfl) (by kernel_rfl) (fun _ _ _ h => h) (Or.inr ⟨by rfl, rfl⟩) hHeld ?_
      try simp only [Act.put, List.setIfInBounds_toArray, List.set_cons_zero, List.set_cons_succ]
      refine wpAnyH_take (i := 13) (oi := { dst := some 40, op := Op.pick (Operand.tmp 28) (Operand.tmp 39) (Operand.const (Value.bool false)), type := 4, pos := "law.go:124", after := #[{ on := 1, ground := Ground.data }, { on := 12, ground := Ground.data }], guard := none }) (v := .bool false) rfl (by kernel_rfl) (by kernel_rfl) (by kernel_rfl) (fun _ _ _ h => h) (Or.inl ⟨by rfl, fun w hSw => by go_simp⟩) hHeld ?_
      try simp only [Act.put, List.setIfInBounds_toArray, List.set_cons_zero, List.set_cons_succ]
      refine wpAnyH_take (i := 14) (oi := { dst := some 41, op := Op.move (Operand.tmp 40), type := 4, pos := "law.go:124", after := #[{ on := 13, ground := Ground.data }, { on := 10, ground := Ground.chain }], guard := none }) (v := .bool false) rfl (by kernel_rfl) (by kernel_rfl) (by kernel_rfl) (fun _ _ _ h => h) (Or.inl ⟨by rfl, fun w hSw => by go_simp⟩) hHeld ?_
      try simp only [Act.put, List.setIfInBounds_toArray, List.set_cons_zero, List.set_cons_succ]
      refine wpAnyH_take (i := 15) (oi := { dst := some 42, op := Op.move (Operand.tmp 9), type := 4, pos := "law.go:124", after := #[{ on := 14, ground := Ground.guard }], guard := some (14, false) }) (v := .bool false) rfl (by kernel_rfl) (by kernel_rfl) (by kernel_rfl) (fun _ _ _ h => h) (Or.inl ⟨by rfl, fun w hSw => by go_simp⟩) hHeld ?_
      try simp only [Act.put, List.setIfInBounds_toArray, List.set_cons_zero, List.set_cons_succ]
      refine wpAnyH_take (i := 16) (oi := { dst := some 43, op := Op.unOp UnOp.not 4 (Operand.tmp 42), type := 4, pos := "law.go:124", after := #[{ on := 15, ground := Ground.data }, { on := 14, ground := Ground.guard }], guard := some (14, false) }) (v := .bool true) rfl (by kernel_rfl) (by kernel_rfl) (by kernel_rfl) (fun _ _ _ h => h) (Or.inl ⟨by rfl, fun w hSw => by go_simp⟩) hHeld ?_
      try simp only [Act.put, List.setIfInBounds_toArray, List.set_cons_zero, List.set_cons_succ]
      refine wpAnyH_take (i := 17) (oi := { dst := some 44, op := Op.move (Operand.tmp 43), type := 4, pos := "law.go:124", after := #[{ on := 16, ground := Ground.data }, { on := 14, ground := Ground.chain }, { on := 14, ground := Ground.guard }], guard := some (14, false) }) (v := .bool true) rfl (by kernel_rfl) (by kernel_rfl) (by kernel_rfl) (fun _ _ _ h => h) (Or.inl ⟨by rfl, fun w hSw => by go_simp⟩) hHeld ?_
      try simp only [Act.put, List.setIfInBounds_toArray, List.set_cons_zero, List.set_cons_succ]
      refine wpAnyH_take (i := 18) (oi := { dst := some 45, op := Op.load 27 (Operand.tmp 8), type := 27, pos := "law.go:124", after := #[{ on := 17, ground := Ground.guard }], guard := some (17, true) }) (v := .agg (lits (rVal x y))) rfl (by kernel_rfl) (by kernel_rfl) (by kernel_rfl) (fun _ _ _ h => h) (yields_blk Gr.out (by rfl) 27 _ rfl rfl _ Try.underlying27 rfl cells27) hHeld ?_
      try simp only [Act.put, List.setIfInBounds_toArray, List.set_cons_zero, List.set_cons_succ]
      refine wpAnyH_take (i := 19) (oi := { dst := some 46, op := Op.build 27 #[], type := 27, pos := "law.go:124", after := #[{ on := 17, ground := Ground.guard }], guard := some (17, true) }) (v := .agg #[.int .u64 0, .int .u64 0, .int .u64 0, .int .u64 0]) rfl (by kernel_rfl) (by kernel_rfl) (by kernel_rfl) (fun _ _ _ h => h) (Or.inl ⟨by rfl, fun w hSw => by go_simp⟩) hHeld ?_
      try simp only [Act.put, List.setIfInBounds_toArray, List.set_cons_zero, List.set_cons_succ]
      refine wpAnyH_ready (rs := [20]) (by kernel_rfl) (by simp) ?_
      refine AllReadyH.cons (o := { dst := some 47, op := Op.call { callee := Callee.value (Operand.func 16), args := #[Operand.tmp 45, Operand.tmp 46], argTypes := #[27, 27] }, type := 4, pos := "law.go:124", after := #[{ on := 18, ground := Ground.data }, { on := 19, ground := Ground.data }, { on := 17, ground := Ground.chain }, { on := 17, ground := Ground.guard }], guard := some (17, true) }) rfl (fun K hK => ?_) AllReadyH.nil
      go_simp
      refine (same_z (rVal x y) true _ (val_lt _ _) (yes Z.out)).mono ?_
      rintro e u1 ⟨rfl, hb⟩
      have HT1 := hide (keepCall hb rfl hHeld)
      dsimp only
      refine hK.out _ _ HT1.out (fun hHeld => ?_)
      clear hK K hb
      try simp only [Act.put, List.setIfInBounds_toArray, List.set_cons_zero, List.set_cons_succ]
      refine wpAnyH_take (i := 21) (oi := { dst := some 48, op := Op.unOp UnOp.not 4 (Operand.tmp 47), type := 4, pos := "law.go:124", after := #[{ on := 20, ground := Ground.data }, { on := 17, ground := Ground.guard }], guard := some (17, true) }) (v := .bool false) rfl (by kernel_rfl) (by kernel_rfl) (by kernel_rfl) (fun _ _ _ h => h) (Or.inl ⟨by rfl, fun w hSw => by go_simp⟩) hHeld ?_
      try simp only [Act.put, List.setIfInBounds_toArray, List.set_cons_zero, List.set_cons_succ]
      refine wpAnyH_take (i := 22) (oi := { dst := some 49, op := Op.pick (Operand.tmp 44) (Operand.tmp 48) (Operand.const (Value.bool false)), type := 4, pos := "law.go:124", after := #[{ on := 17, ground := Ground.data }, { on := 21, ground := Ground.data }, { on := 14, ground := Ground.guard }], guard := some (14, false) }) (v := .bool false) rfl (by kernel_rfl) (by kernel_rfl) (by kernel_rfl) (fun _ _ _ h => h) (Or.inl ⟨by rfl, fun w hSw => by go_simp⟩) hHeld ?_
      try simp only [Act.put, List.setIfInBounds_toArray, List.set_cons_zero, List.set_cons_succ]
      refine wpAnyH_take (i := 23) (oi := { dst := some 50, op := Op.pick (Operand.tmp 41) (Operand.const (Value.bool true)) (Operand.tmp 49), type := 4, pos := "law.go:124", after := #[{ on := 14, ground := Ground.data }, { on := 22, ground := Ground.data }], guard := none }) (v := .bool false) rfl (by kernel_rfl) (by kernel_rfl) (by kernel_rfl) (fun _ _ _ h => h) (Or.inl ⟨by rfl, fun w hSw => by go_simp⟩) hHeld ?_
      try simp only [Act.put, List.setIfInBounds_toArray, List.set_cons_zero, List.set_cons_succ]
      refine wpAnyH_done (by kernel_rfl) ?_ _
      go_wp2
      go_meet
      case rel => exact ⟨by rw [His.out], rfl, HT1.out⟩
    · have Z1 := hide (val_even x y his)
      have Z2 := hide (val_mm x y Lx.out his)
      have His := hide his
      clear his
      refine wp_region_held_drew (S := fun w' => Below y0.heap.size y0 w') (by kernel_rfl) (Below.refl _ _).drew (fun hHeld => ?_)
      refine wpAnyH_take (i := 0) (oi := { dst := some 27, op := Op.move (Operand.tmp 9), type := 4, pos := "law.go:124", after := #[], guard := none }) (v := .bool true) rfl (by kernel_rfl) (by kernel_rfl) (by kernel_rfl) (fun _ _ _ h => h) (Or.inl ⟨by rfl, fun w hSw => by go_simp⟩) hHeld ?_
      try simp only [Act.put, List.setIfInBounds_toArray, List.set_cons_zero, List.set_cons_succ]
      refine wpAnyH_take (i := 1) (oi := { dst := some 28, op := Op.move (Operand.tmp 27), type := 4, pos := "law.go:124", after := #[{ on := 0, ground := Ground.data }], guard := none }) (v := .bool true) rfl (by kernel_rfl) (by kernel_rfl) (by kernel_rfl) (fun _ _ _ h => h) (Or.inl ⟨by rfl, fun w hSw => by go_simp⟩) hHeld ?_
      try simp only [Act.put, List.setIfInBounds_toArray, List.set_cons_zero, List.set_cons_succ]
      refine wpAnyH_take (i := 2) (oi := { dst := some 29, op := Op.load 27 (Operand.tmp 8), type := 27, pos := "law.go:124", after := #[{ on := 1, ground := Ground.guard }], guard := some (1, true) }) (v := .agg (lits (rVal x y))) rfl (by kernel_rfl) (by kernel_rfl) (by kernel_rfl) (fun _ _ _ h => h) (yields_blk Gr.out (by rfl) 27 _ rfl rfl _ Try.underlying27 rfl cells27) hHeld ?_
      try simp only [Act.put, List.setIfInBounds_toArray, List.set_cons_zero, List.set_cons_succ]
      refine wpAnyH_ready (rs := [3]) (by kernel_rfl) (by simp) ?_
      refine AllReadyH.cons (o := { dst := some 30, op := Op.call { callee := Callee.value (Operand.func 15), args := #[Operand.tmp 29], argTypes := #[27] }, type := 4, pos := "law.go:124", after := #[{ on := 2, ground := Ground.data }, { on := 1, ground := Ground.chain }, { on := 1, ground := Ground.guard }], guard := some (1, true) }) rfl (fun K hK => ?_) AllReadyH.nil
      go_simp
      refine (odd_m (rVal x y) false _ (even_no Z1.out)).mono ?_
      rintro e u1 ⟨rfl, hb⟩
      have HT1 := hide (keepCall hb rfl hHeld)
      dsimp only
      refine hK.out _ _ HT1.out (fun hHeld => ?_)
      clear hK K hb
      try simp only [Act.put, List.setIfInBounds_toArray, List.set_cons_zero, List.set_cons_succ]
      refine wpAnyH_take (i := 4) (oi := { dst := some 31, op := Op.move (Operand.tmp 30), type := 4, pos := "law.go:124", after := #[{ on := 3, ground := Ground.data }, { on := 3, ground := Ground.chain }, { on := 1, ground := Ground.guard }], guard := some (1, true) }) (v := .bool false) rfl (by kernel_rfl) (by kernel_rfl) (by kernel_rfl) (fun _ _ _ h => h) (Or.inl ⟨by rfl, fun w hSw => by go_simp⟩) hHeld ?_
      try simp only [Act.put, List.setIfInBounds_toArray, List.set_cons_zero, List.set_cons_succ]
      refine wpAnyH_take (i := 5) (oi := { dst := some 32, op := Op.load 27 (Operand.tmp 7), type := 27, pos := "law.go:124", after := #[{ on := 4, ground := Ground.guard }], guard := some (4, false) }) (v := .agg (lits (y))) rfl (by kernel_rfl) (by kernel_rfl) (by kernel_rfl) (fun _ _ _ h => h) (yields_blk Gy.out (by rfl) 27 _ rfl rfl _ Try.underlying27 rfl cells27) hHeld ?_
      try simp only [Act.put, List.setIfInBounds_toArray, List.set_cons_zero, List.set_cons_succ]
      refine wpAnyH_take (i := 6) (oi := { dst := some 33, op := Op.load 27 (Operand.tmp 8), type := 27, pos := "law.go:124", after := #[{ on := 4, ground := Ground.guard }], guard := some (4, false) }) (v := .agg (lits (rVal x y))) rfl (by kernel_rfl) (by kernel_rfl) (by kernel_rfl) (fun _ _ _ h => h) (yields_blk Gr.out (by rfl) 27 _ rfl rfl _ Try.underlying27 rfl cells27) hHeld ?_
      try simp only [Act.put, List.setIfInBounds_toArray, List.set_cons_zero, List.set_cons_succ]
      refine wpAnyH_take (i := 9) (oi := { dst := some 36, op := Op.load 27 (Operand.tmp 6), type := 27, pos := "law.go:124", after := #[{ on := 4, ground := Ground.guard }], guard := some (4, false) }) (v := .agg (lits (x))) rfl (by kernel_rfl) (by kernel_rfl) (by kernel_rfl) (fun _ _ _ h => h) (yields_blk Gx.out (by rfl) 27 _ rfl rfl _ Try.underlying27 rfl cells27) hHeld ?_
      try simp only [Act.put, List.setIfInBounds_toArray, List.set_cons_zero, List.set_cons_succ]
      refine wpAnyH_ready (rs := [7]) (by kernel_rfl) (by simp) ?_
      refine AllReadyH.cons (o := { dst := some 34, op := Op.call { callee := Callee.value (Operand.func 24), args := #[Operand.tmp 33], argTypes := #[27] }, type := 27, pos := "law.go:124", after := #[{ on := 6, ground := Ground.data }, { on := 4, ground := Ground.chain }, { on := 4, ground := Ground.guard }], guard := some (4, false) }) rfl (fun K hK => ?_) AllReadyH.nil
      go_simp
      refine (sq_m (rVal x y) _ (val_lt _ _)).mono ?_
      rintro e u2 ⟨rfl, hb⟩
      have HT2 := hide (keepCall hb rfl hHeld)
      dsimp only
      refine hK.out _ _ HT2.out (fun hHeld => ?_)
      clear hK K hb
      try simp only [Act.put, List.setIfInBounds_toArray, List.set_cons_zero, List.set_cons_succ]
      refine wpAnyH_ready (rs := [8]) (by kernel_rfl) (by simp) ?_
      refine AllReadyH.cons (o := { dst := some 35, op := Op.call { callee := Callee.value (Operand.func 22), args := #[Operand.tmp 32, Operand.tmp 34], argTypes := #[27, 27] }, type := 27, pos := "law.go:124", after := #[{ on := 5, ground := Ground.data }, { on := 7, ground := Ground.data }, { on := 7, ground := Ground.chain }, { on := 4, ground := Ground.guard }], guard := some (4, false) }) rfl (fun K hK => ?_) AllReadyH.nil
      go_simp
      refine (mul_m y (mm (rVal x y) (rVal x y)) _ Ly.out (mm_lt _ _)).mono ?_
      rintro e u3 ⟨rfl, hb⟩
      have HT3 := hide (keepCall hb rfl hHeld)
      dsimp only
      refine hK.out _ _ HT3.out (fun hHeld => ?_)
      clear hK K hb
      try simp only [Act.put, List.setIfInBounds_toArray, List.set_cons_zero, List.set_cons_succ]
      refine wpAnyH_ready (rs := [10]) (by kernel_rfl) (by simp) ?_
      refine AllReadyH.cons (o := { dst := some 37, op := Op.call { callee := Callee.value (Operand.func 16), args := #[Operand.tmp 35, Operand.tmp 36], argTypes := #[27, 27] }, type := 4, pos := "law.go:124", after := #[{ on := 8, ground := Ground.data }, { on := 9, ground := Ground.data }, { on := 8, ground := Ground.chain }, { on := 4, ground := Ground.guard }], guard := some (4, false) }) rfl (fun K hK => ?_) AllReadyH.nil
      go_simp
      refine (same_m (mm y (mm (rVal x y) (rVal x y))) x true _ (mm_lt _ _) Lx.out (yes Z2.out)).mono ?_
      rintro e u4 ⟨rfl, hb⟩
      have HT4 := hide (keepCall hb rfl hHeld)
      dsimp only
      refine hK.out _ _ HT4.out (fun hHeld => ?_)
      clear hK K hb
      try simp only [Act.put, List.setIfInBounds_toArray, List.set_cons_zero, List.set_cons_succ]
      refine wpAnyH_take (i := 11) (oi := { dst := some 38, op := Op.unOp UnOp.not 4 (Operand.tmp 37), type := 4, pos := "law.go:124", after := #[{ on := 10, ground := Ground.data }, { on := 4, ground := Ground.guard }], guard := some (4, false) }) (v := .bool false) rfl (by kernel_rfl) (by kernel_rfl) (by kernel_rfl) (fun _ _ _ h => h) (Or.inl ⟨by rfl, fun w hSw => by go_simp⟩) hHeld ?_
      try simp only [Act.put, List.setIfInBounds_toArray, List.set_cons_zero, List.set_cons_succ]
      refine wpAnyH_take (i := 12) (oi := { dst := some 39, op := Op.pick (Operand.tmp 31) (Operand.const (Value.bool true)) (Operand.tmp 38), type := 4, pos := "law.go:124", after := #[{ on := 4, ground := Ground.data }, { on := 11, ground := Ground.data }, { on := 1, ground := Ground.guard }], guard := some (1, true) }) (v := .bool false) rfl (by kernel_rfl) (by kernel_rfl) (by kernel_rfl) (fun _ _ _ h => h) (Or.inl ⟨by rfl, fun w hSw => by go_simp⟩) hHeld ?_
      try simp only [Act.put, List.setIfInBounds_toArray, List.set_cons_zero, List.set_cons_succ]
      refine wpAnyH_take (i := 13) (oi := { dst := some 40, op := Op.pick (Operand.tmp 28) (Operand.tmp 39) (Operand.const (Value.bool false)), type := 4, pos := "law.go:124", after := #[{ on := 1, ground := Ground.data }, { on := 12, ground := Ground.data }], guard := none }) (v := .bool false) rfl (by kernel_rfl) (by kernel_rfl) (by kernel_rfl) (fun _ _ _ h => h) (Or.inl ⟨by rfl, fun w hSw => by go_simp⟩) hHeld ?_
      try simp only [Act.put, List.setIfInBounds_toArray, List.set_cons_zero, List.set_cons_succ]
      refine wpAnyH_take (i := 14) (oi := { dst := some 41, op := Op.move (Operand.tmp 40), type := 4, pos := "law.go:124", after := #[{ on := 13, ground := Ground.data }, { on := 10, ground := Ground.chain }], guard := none }) (v := .bool false) rfl (by kernel_rfl) (by kernel_rfl) (by kernel_rfl) (fun _ _ _ h => h) (Or.inl ⟨by rfl, fun w hSw => by go_simp⟩) hHeld ?_
      try simp only [Act.put, List.setIfInBounds_toArray, List.set_cons_zero, List.set_cons_succ]
      refine wpAnyH_take (i := 15) (oi := { dst := some 42, op := Op.move (Operand.tmp 9), type := 4, pos := "law.go:124", after := #[{ on := 14, ground := Ground.guard }], guard := some (14, false) }) (v := .bool true) rfl (by kernel_rfl) (by kernel_rfl) (by kernel_rfl) (fun _ _ _ h => h) (Or.inl ⟨by rfl, fun w hSw => by go_simp⟩) hHeld ?_
      try simp only [Act.put, List.setIfInBounds_toArray, List.set_cons_zero, List.set_cons_succ]
      refine wpAnyH_take (i := 16) (oi := { dst := some 43, op := Op.unOp UnOp.not 4 (Operand.tmp 42), type := 4, pos := "law.go:124", after := #[{ on := 15, ground := Ground.data }, { on := 14, ground := Ground.guard }], guard := some (14, false) }) (v := .bool false) rfl (by kernel_rfl) (by kernel_rfl) (by kernel_rfl) (fun _ _ _ h => h) (Or.inl ⟨by rfl, fun w hSw => by go_simp⟩) hHeld ?_
      try simp only [Act.put, List.setIfInBounds_toArray, List.set_cons_zero, List.set_cons_succ]
      refine wpAnyH_take (i := 17) (oi := { dst := some 44, op := Op.move (Operand.tmp 43), type := 4, pos := "law.go:124", after := #[{ on := 16, ground := Ground.data }, { on := 14, ground := Ground.chain }, { on := 14, ground := Ground.guard }], guard := some (14, false) }) (v := .bool false) rfl (by kernel_rfl) (by kernel_rfl) (by kernel_rfl) (fun _ _ _ h => h) (Or.inl ⟨by rfl, fun w hSw => by go_simp⟩) hHeld ?_
      try simp only [Act.put, List.setIfInBounds_toArray, List.set_cons_zero, List.set_cons_succ]
      refine wpAnyH_take (i := 18) (oi := { dst := some 45, op := Op.load 27 (Operand.tmp 8), type := 27, pos := "law.go:124", after := #[{ on := 17, ground := Ground.guard }], guard := some (17, true) }) (v := undef) rfl (by kernel_rfl) (by kernel_rfl) (by kernel_rfl) (fun _ _ _ h => h) (Or.inr ⟨by rfl, rfl⟩) hHeld ?_
      try simp only [Act.put, List.setIfInBounds_toArray, List.set_cons_zero, List.set_cons_succ]
      refine wpAnyH_take (i := 19) (oi := { dst := some 46, op := Op.build 27 #[], type := 27, pos := "law.go:124", after := #[{ on := 17, ground := Ground.guard }], guard := some (17, true) }) (v := undef) rfl (by kernel_rfl) (by kernel_rfl) (by kernel_rfl) (fun _ _ _ h => h) (Or.inr ⟨by rfl, rfl⟩) hHeld ?_
      try simp only [Act.put, List.setIfInBounds_toArray, List.set_cons_zero, List.set_cons_succ]
      refine wpAnyH_take (i := 20) (oi := { dst := some 47, op := Op.call { callee := Callee.value (Operand.func 16), args := #[Operand.tmp 45, Operand.tmp 46], argTypes := #[27, 27] }, type := 4, pos := "law.go:124", after := #[{ on := 18, ground := Ground.data }, { on := 19, ground := Ground.data }, { on := 17, ground := Ground.chain }, { on := 17, ground := Ground.guard }], guard := some (17, true) }) (v := undef) rfl (by kernel_rfl) (by kernel_rfl) (by kernel_rfl) (fun _ _ _ h => h) (Or.inr ⟨by rfl, rfl⟩) hHeld ?_
      try simp only [Act.put, List.setIfInBounds_toArray, List.set_cons_zero, List.set_cons_succ]
      refine wpAnyH_take (i := 21) (oi := { dst := some 48, op := Op.unOp UnOp.not 4 (Operand.tmp 47), type := 4, pos := "law.go:124", after := #[{ on := 20, ground := Ground.data }, { on := 17, ground := Ground.guard }], guard := some (17, true) }) (v := undef) rfl (by kernel_rfl) (by kernel_rfl) (by kernel_rfl) (fun _ _ _ h => h) (Or.inr ⟨by rfl, rfl⟩) hHeld ?_
      try simp only [Act.put, List.setIfInBounds_toArray, List.set_cons_zero, List.set_cons_succ]
      refine wpAnyH_take (i := 22) (oi := { dst := some 49, op := Op.pick (Operand.tmp 44) (Operand.tmp 48) (Operand.const (Value.bool false)), type := 4, pos := "law.go:124", after := #[{ on := 17, ground := Ground.data }, { on := 21, ground := Ground.data }, { on := 14, ground := Ground.guard }], guard := some (14, false) }) (v := .bool false) rfl (by kernel_rfl) (by kernel_rfl) (by kernel_rfl) (fun _ _ _ h => h) (Or.inl ⟨by rfl, fun w hSw => by go_simp⟩) hHeld ?_
      try simp only [Act.put, List.setIfInBounds_toArray, List.set_cons_zero, List.set_cons_succ]
      refine wpAnyH_take (i := 23) (oi := { dst := some 50, op := Op.pick (Operand.tmp 41) (Operand.const (Value.bool true)) (Operand.tmp 49), type := 4, pos := "law.go:124", after := #[{ on := 14, ground := Ground.data }, { on := 22, ground := Ground.data }], guard := none }) (v := .bool false) rfl (by kernel_rfl) (by kernel_rfl) (by kernel_rfl) (fun _ _ _ h => h) (Or.inl ⟨by rfl, fun w hSw => by go_simp⟩) hHeld ?_
      try simp only [Act.put, List.setIfInBounds_toArray, List.set_cons_zero, List.set_cons_succ]
      refine wpAnyH_done (by kernel_rfl) ?_ _
      go_wp2
      go_meet
      case rel => exact ⟨by rw [His.out], rfl, HT4.out⟩
  case rest =>
    obtain ⟨rfl, rfl, L⟩ := hcut
    have Kx := hide (Blk.call Gx.out L)
    have Ky := hide (Blk.call Gy.out L)
    have Kr := hide (Blk.call Gr.out L)
    have KL := hide (HL.out.trans (L.mono HL.out.size))
    clear Gx Gy Gr HL L
    have Gx := Kx
    have Gy := Ky
    have Gr := Kr
    have HL := KL
    clear Kx Ky Kr KL
    generalize wc = y1 at *
    go_wp2
    have rux := (Gx.out).ruleOf
    have ruy := (Gy.out).ruleOf
    go_cut [10, 11] (fun s t wx => Newly2 y1 (rVal (mm (mm x x) y) y) (rOk (mm (mm x x) y) y) s t wx)
    case first =>
      go_region_held3 (fun w' => Below y1.heap.size y1 w') (first | assumption | exact (Below.refl _ _).drew | exact (keepAlloc (Below.refl _ _) _).drew | exact HT3.out | exact HT2.out | exact HT1.out | (refine keepAlloc ?_ _; assumption) | exact keepAlloc HT3.out _ | exact Below.row HT3.out HT2.out.size _ | exact Below.row HT3.out HT1.out.size _ | exact Below.row HT3.out (Nat.le_refl _) _)
        (first
          | (go_at_call 24; refine (sq_m x _ Lx.out).mono ?_; rintro e w1 ⟨rfl, hb1⟩; have HT1 := hide (keepCall hb1 rfl (by assumption)); (first | have E1 := ((Blk.new _ z4 27).drew).below hb1 (by simp) | have E1 := True.intro))
          | (go_at_call 22; refine (mul_m (mm x x) y _ (mm_lt _ _) Ly.out).mono ?_; rintro e w2 ⟨rfl, hb2⟩; have HT2 := hide (keepCall hb2 rfl (by assumption)); (first | have E2 := (Blk.new _ z4 27).below hb2 (by simp) | have E2 := E1.below hb2 E1.lt | have E2 := True.intro))
          | (go_at_call 28; refine (ratio_m (mm (mm x x) y) y _ (mm_lt _ _) Ly.out).mono ?_; rw [fe_def (rVal (mm (mm x x) y) y)]; rintro e w3 ⟨rfl, hb3⟩; have HT3 := hide (keepCall hb3 rfl (by assumption)); (first | have E3 := (Blk.new _ z4 27).below hb3 (by simp) | have E3 := E2.below hb3 E2.lt | have E3 := True.intro); (first | obtain ⟨c2, f2⟩ := E3.rules | skip); (first | obtain ⟨r1, r2, r3, r4⟩ := E3.writes | skip); (first | have HEn := hide E3 | skip); clear E3))
      all_goals
        go_wp2
        go_meet
        case rel => first | exact ⟨rfl, Newly.late HT3.out⟩ | exact ⟨rfl, Newly.early HT2.out.size HEn.out HT3.out⟩ | exact ⟨rfl, Newly.early HT1.out.size HEn.out HT3.out⟩ | exact ⟨rfl, Newly.early (Nat.le_refl _) HEn.out HT3.out⟩
    case rest =>
      clear rux ruy
      obtain ⟨rfl, bs, rfl, hbs, Bs, L⟩ := hcut
      have Gs0 := hide Bs
      clear Bs hbs
      have Kx := hide (Blk.call Gx.out L)
      have Ky := hide (Blk.call Gy.out L)
      have Kr := hide (Blk.call Gr.out L)
      have KL := hide (HL.out.trans (L.mono HL.out.size))
      clear Gx Gy Gr HL L
      have Gx := Kx
      have Gy := Ky
      have Gr := Kr
      have HL := KL
      clear Kx Ky Kr KL
      generalize wc = y2 at *
      have Gs := Gs0
      clear Gs0
      have Hal := hide (ok_square x y Lx.out Ly.out)
      have Hvs := hide (val_square x y Lx.out Ly.out)
      rw [Hal.out]
      have Lsv : Hid (rVal (mm (mm x x) y) y < pP) := hide (val_lt _ _)
      generalize rVal (mm (mm x x) y) y = s at *
      clear Hal
      obtain ⟨cy, fy⟩ := Gy.out.rules
      go_wp2_with fail
      refine (same_z y (decide (y = 0)) _ Ly.out rfl).mono ?_
      rintro e wc ⟨rfl, L⟩
      clear cy fy
      have Kx := hide (Blk.call Gx.out L)
      have Ky := hide (Blk.call Gy.out L)
      have Kr := hide (Blk.call Gr.out L)
      have Ks := hide (Blk.call Gs.out L)
      have KL := hide (HL.out.trans (L.mono HL.out.size))
      clear Gx Gy Gr Gs HL L
      have Gx := Kx
      have Gy := Ky
      have Gr := Kr
      have Gs := Ks
      have HL := KL
      clear Kx Ky Kr Ks KL
      generalize wc = y3 at *
      dsimp only
      obtain ⟨zero, hzero⟩ : ∃ b, b = decide (y = 0) := ⟨_, rfl⟩
      rw [← hzero]
      have Hz := hide hzero
      clear hzero
      go_wp2
      go_cut [12, 13] (fun s12 s wx => s12 = .bool zero ∧ s = .bool true ∧ Below y3.heap.size y3 wx)
      case first =>
        by_cases h1 : s = x
        · have Z := hide h1
          clear h1
          refine wp_region_held_drew (S := fun w' => Below y3.heap.size y3 w') (by kernel_rfl) (Below.refl _ _).drew (fun hHeld => ?_)
          refine wpAnyH_take (i := 0) (oi := { dst := some 63, op := Op.load 27 (Operand.tmp 10), type := 27, pos := "law.go:129", after := #[], guard := none }) (v := .agg (lits (s))) rfl (by kernel_rfl) (by kernel_rfl) (by kernel_rfl) (fun _ _ _ h => h) (yields_blk Gs.out (by rfl) 27 _ rfl rfl _ Try.underlying27 rfl cells27) hHeld ?_
          try simp only [Act.put, List.setIfInBounds_toArray, List.set_cons_zero, List.set_cons_succ]
          refine wpAnyH_take (i := 1) (oi := { dst := some 64, op := Op.load 27 (Operand.tmp 6), type := 27, pos := "law.go:129", after := #[], guard := none }) (v := .agg (lits (x))) rfl (by kernel_rfl) (by kernel_rfl) (by kernel_rfl) (fun _ _ _ h => h) (yields_blk Gx.out (by rfl) 27 _ rfl rfl _ Try.underlying27 rfl cells27) hHeld ?_
          try simp only [Act.put, List.setIfInBounds_toArray, List.set_cons_zero, List.set_cons_succ]
          refine wpAnyH_ready (rs := [2]) (by kernel_rfl) (by simp) ?_
          refine AllReadyH.cons (o := { dst := some 65, op := Op.call { callee := Callee.value (Operand.func 16), args := #[Operand.tmp 63, Operand.tmp 64], argTypes := #[27, 27] }, type := 4, pos := "law.go:129", after := #[{ on := 0, ground := Ground.data }, { on := 1, ground := Ground.data }], guard := none }) rfl (fun K hK => ?_) AllReadyH.nil
          go_simp
          refine (same_m s x true _ Lsv.out Lx.out (yes Z.out)).mono ?_
          rintro e u1 ⟨rfl, hb⟩
          have HT1 := hide (keepCall hb rfl hHeld)
          dsimp only
          refine hK.out _ _ HT1.out (fun hHeld => ?_)
          clear hK K hb
          try simp only [Act.put, List.setIfInBounds_toArray, List.set_cons_zero, List.set_cons_succ]
          refine wpAnyH_take (i := 3) (oi := { dst := some 66, op := Op.move (Operand.tmp 65), type := 4, pos := "law.go:129", after := #[{ on := 2, ground := Ground.data }, { on := 2, ground := Ground.chain }], guard := none }) (v := .bool true) rfl (by kernel_rfl) (by kernel_rfl) (by kernel_rfl) (fun _ _ _ h => h) (Or.inl ⟨by rfl, fun w hSw => by go_simp⟩) hHeld ?_
          try simp only [Act.put, List.setIfInBounds_toArray, List.set_cons_zero, List.set_cons_succ]
          refine wpAnyH_take (i := 4) (oi := { dst := some 67, op := Op.load 27 (Operand.tmp 10), type := 27, pos := "law.go:129", after := #[{ on := 3, ground := Ground.guard }], guard := some (3, false) }) (v := undef) rfl (by kernel_rfl) (by kernel_rfl) (by kernel_rfl) (fun _ _ _ h => h) (Or.inr ⟨by rfl, rfl⟩) hHeld ?_
          try simp only [Act.put, List.setIfInBounds_toArray, List.set_cons_zero, List.set_cons_succ]
          refine wpAnyH_take (i := 5) (oi := { dst := some 68, op := Op.load 27 (Operand.tmp 6), type := 27, pos := "law.go:129", after := #[{ on := 3, ground := Ground.guard }], guard := some (3, false) }) (v := undef) rfl (by kernel_rfl) (by kernel_rfl) (by kernel_rfl) (fun _ _ _ h => h) (Or.inr ⟨by rfl, rfl⟩) hHeld ?_
          try simp only [Act.put, List.setIfInBounds_toArray, List.set_cons_zero, List.set_cons_succ]
          refine wpAnyH_take (i := 6) (oi := { dst := some 69, op := Op.call { callee := Callee.value (Operand.func 25), args := #[Operand.tmp 68], argTypes := #[27] }, type := 27, pos := "law.go:129", after := #[{ on := 5, ground := Ground.data }, { on := 3, ground := Ground.chain }, { on := 3, ground := Ground.guard }], guard := some (3, false) }) (v := undef) rfl (by kernel_rfl) (by kernel_rfl) (by kernel_rfl) (fun _ _ _ h => h) (Or.inr ⟨by rfl, rfl⟩) hHeld ?_
          try simp only [Act.put, List.setIfInBounds_toArray, List.set_cons_zero, List.set_cons_succ]
          refine wpAnyH_take (i := 7) (oi := { dst := some 70, op := Op.call { callee := Callee.value (Operand.func 16), args := #[Operand.tmp 67, Operand.tmp 69], argTypes := #[27, 27] }, type := 4, pos := "law.go:129", after := #[{ on := 4, ground := Ground.data }, { on := 6, ground := Ground.data }, { on := 6, ground := Ground.chain }, { on := 3, ground := Ground.guard }], guard := some (3, false) }) (v := undef) rfl (by kernel_rfl) (by kernel_rfl) (by kernel_rfl) (fun _ _ _ h => h) (Or.inr ⟨by rfl, rfl⟩) hHeld ?_
          try simp only [Act.put, List.setIfInBounds_toArray, List.set_cons_zero, List.set_cons_succ]
          refine wpAnyH_take (i := 8) (oi := { dst := some 71, op := Op.pick (Operand.tmp 66) (Operand.const (Value.bool true)) (Operand.tmp 70), type := 4, pos := "law.go:129", after := #[{ on := 3, ground := Ground.data }, { on := 7, ground := Ground.data }], guard := none }) (v := .bool true) rfl (by kernel_rfl) (by kernel_rfl) (by kernel_rfl) (fun _ _ _ h => h) (Or.inl ⟨by rfl, fun w hSw => by go_simp⟩) hHeld ?_
          try simp only [Act.put, List.setIfInBounds_toArray, List.set_cons_zero, List.set_cons_succ]
          refine wpAnyH_take (i := 9) (oi := { dst := some 72, op := Op.move (Operand.tmp 71), type := 4, pos := "law.go:129", after := #[{ on := 8, ground := Ground.data }, { on := 7, ground := Ground.chain }], guard := none }) (v := .bool true) rfl (by kernel_rfl) (by kernel_rfl) (by kernel_rfl) (fun _ _ _ h => h) (Or.inl ⟨by rfl, fun w hSw => by go_simp⟩) hHeld ?_
          try simp only [Act.put, List.setIfInBounds_toArray, List.set_cons_zero, List.set_cons_succ]
          refine wpAnyH_take (i := 10) (oi := { dst := some 73, op := Op.move (Operand.tmp 12), type := 4, pos := "law.go:129", after := #[{ on := 9, ground := Ground.guard }], guard := some (9, false) }) (v := undef) rfl (by kernel_rfl) (by kernel_rfl) (by kernel_rfl) (fun _ _ _ h => h) (Or.inr ⟨by rfl, rfl⟩) hHeld ?_
          try simp only [Act.put, List.setIfInBounds_toArray, List.set_cons_zero, List.set_cons_succ]
          refine wpAnyH_take (i := 11) (oi := { dst := some 74, op := Op.pick (Operand.tmp 72) (Operand.const (Value.bool true)) (Operand.tmp 73), type := 4, pos := "law.go:129", after := #[{ on := 9, ground := Ground.data }, { on := 10, ground := Ground.data }], guard := none }) (v := .bool true) rfl (by kernel_rfl) (by kernel_rfl) (by kernel_rfl) (fun _ _ _ h => h) (Or.inl ⟨by rfl, fun w hSw => by go_simp⟩) hHeld ?_
          try simp only [Act.put, List.setIfInBounds_toArray, List.set_cons_zero, List.set_cons_succ]
          refine wpAnyH_take (i := 12) (oi := { dst := some 13, op := Op.assign (Operand.tmp 74), type := 4, pos := "law.go:129", after := #[{ on := 11, ground := Ground.data }, { on := 9, ground := Ground.chain }, { on := 0, ground := Ground.phase }, { on := 1, ground := Ground.phase }, { on := 2, ground := Ground.phase }, { on := 3, ground := Ground.phase }, { on := 4, ground := Ground.phase }, { on := 5, ground := Ground.phase }, { on := 6, ground := Ground.phase }, { on := 7, ground := Ground.phase }, { on := 8, ground := Ground.phase }, { on := 9, ground := Ground.phase }, { on := 10, ground := Ground.phase }, { on := 11, ground := Ground.phase }], guard := none }) (v := .bool true) rfl (by kernel_rfl) (by kernel_rfl) (by kernel_rfl) (fun _ _ _ h => h) (Or.inl ⟨by rfl, fun w hSw => by go_simp⟩) hHeld ?_
          try simp only [Act.put, List.setIfInBounds_toArray, List.set_cons_zero, List.set_cons_succ]
          refine wpAnyH_done (by kernel_rfl) ?_ _
          go_wp2
          go_meet
          case rel => exact ⟨rfl, rfl, HT1.out⟩
        · by_cases h2 : s = ng x
          · have Z := hide h1
            have Z2 := hide h2
            clear h1 h2
            refine wp_region_held_drew (S := fun w' => Below y3.heap.size y3 w') (by kernel_rfl) (Below.refl _ _).drew (fun hHeld => ?_)
            refine wpAnyH_take (i := 0) (oi := { dst := some 63, op := Op.load 27 (Operand.tmp 10), type := 27, pos := "law.go:129", after := #[], guard := none }) (v := .agg (lits (s))) rfl (by kernel_rfl) (by kernel_rfl) (by kernel_rfl) (fun _ _ _ h => h) (yields_blk Gs.out (by rfl) 27 _ rfl rfl _ Try.underlying27 rfl cells27) hHeld ?_
            try simp only [Act.put, List.setIfInBounds_toArray, List.set_cons_zero, List.set_cons_succ]
            refine wpAnyH_take (i := 1) (oi := { dst := some 64, op := Op.load 27 (Operand.tmp 6), type := 27, pos := "law.go:129", after := #[], guard := none }) (v := .agg (lits (x))) rfl (by kernel_rfl) (by kernel_rfl) (by kernel_rfl) (fun _ _ _ h => h) (yields_blk Gx.out (by rfl) 27 _ rfl rfl _ Try.underlying27 rfl cells27) hHeld ?_
            try simp only [Act.put, List.setIfInBounds_toArray, List.set_cons_zero, List.set_cons_succ]
            refine wpAnyH_ready (rs := [2]) (by kernel_rfl) (by simp) ?_
            refine AllReadyH.cons (o := { dst := some 65, op := Op.call { callee := Callee.value (Operand.func 16), args := #[Operand.tmp 63, Operand.tmp 64], argTypes := #[27, 27] }, type := 4, pos := "law.go:129", after := #[{ on := 0, ground := Ground.data }, { on := 1, ground := Ground.data }], guard := none }) rfl (fun K hK => ?_) AllReadyH.nil
            go_simp
            refine (same_m s x false _ Lsv.out Lx.out (no Z.out)).mono ?_
            rintro e u1 ⟨rfl, hb⟩
            have HT1 := hide (keepCall hb rfl hHeld)
            dsimp only
            refine hK.out _ _ HT1.out (fun hHeld => ?_)
            clear hK K hb
            try simp only [Act.put, List.setIfInBounds_toArray, List.set_cons_zero, List.set_cons_succ]
            refine wpAnyH_take (i := 3) (oi := { dst := some 66, op := Op.move (Operand.tmp 65), type := 4, pos := "law.go:129", after := #[{ on := 2, ground := Ground.data }, { on := 2, ground := Ground.chain }], guard := none }) (v := .bool false) rfl (by kernel_rfl) (by kernel_rfl) (by kernel_rfl) (fun _ _ _ h => h) (Or.inl ⟨by rfl, fun w hSw => by go_simp⟩) hHeld ?_
            try simp only [Act.put, List.setIfInBounds_toArray, List.set_cons_zero, List.set_cons_succ]
            refine wpAnyH_take (i := 4) (oi := { dst := some 67, op := Op.load 27 (Operand.tmp 10), type := 27, pos := "law.go:129", after := #[{ on := 3, ground := Ground.guard }], guard := some (3, false) }) (v := .agg (lits (s))) rfl (by kernel_rfl) (by kernel_rfl) (by kernel_rfl) (fun _ _ _ h => h) (yields_blk Gs.out (by rfl) 27 _ rfl rfl _ Try.underlying27 rfl cells27) hHeld ?_
            try simp only [Act.put, List.setIfInBounds_toArray, List.set_cons_zero, List.set_cons_succ]
            refine wpAnyH_take (i := 5) (oi := { dst := some 68, op := Op.load 27 (Operand.tmp 6), type := 27, pos := "law.go:129", after := #[{ on := 3, ground := Ground.guard }], guard := some (3, false) }) (v := .agg (lits (x))) rfl (by kernel_rfl) (by kernel_rfl) (by kernel_rfl) (fun _ _ _ h => h) (yields_blk Gx.out (by rfl) 27 _ rfl rfl _ Try.underlying27 rfl cells27) hHeld ?_
            try simp only [Act.put, List.setIfInBounds_toArray, List.set_cons_zero, List.set_cons_succ]
            refine wpAnyH_ready (rs := [6]) (by kernel_rfl) (by simp) ?_
            refine AllReadyH.cons (o := { dst := some 69, op := Op.call { callee := Callee.value (Operand.func 25), args := #[Operand.tmp 68], argTypes := #[27] }, type := 27, pos := "law.go:129", after := #[{ on := 5, ground := Ground.data }, { on := 3, ground := Ground.chain }, { on := 3, ground := Ground.guard }], guard := some (3, false) }) rfl (fun K hK => ?_) AllReadyH.nil
            go_simp
            refine (neg_m x _ Lx.out).mono ?_
            rintro e u2 ⟨rfl, hb⟩
            have HT2 := hide (keepCall hb rfl hHeld)
            dsimp only
            refine hK.out _ _ HT2.out (fun hHeld => ?_)
            clear hK K hb
            try simp only [Act.put, List.setIfInBounds_toArray, List.set_cons_zero, List.set_cons_succ]
            refine wpAnyH_ready (rs := [7]) (by kernel_rfl) (by simp) ?_
            refine AllReadyH.cons (o := { dst := some 70, op := Op.call { callee := Callee.value (Operand.func 16), args := #[Operand.tmp 67, Operand.tmp 69], argTypes := #[27, 27] }, type := 4, pos := "law.go:129", after := #[{ on := 4, ground := Ground.data }, { on := 6, ground := Ground.data }, { on := 6, ground := Ground.chain }, { on := 3, ground := Ground.guard }], guard := some (3, false) }) rfl (fun K hK => ?_) AllReadyH.nil
            go_simp
            refine (same_m s (ng x) true _ Lsv.out (ng_lt _) (yes Z2.out)).mono ?_
            rintro e u3 ⟨rfl, hb⟩
            have HT3 := hide (keepCall hb rfl hHeld)
            dsimp only
            refine hK.out _ _ HT3.out (fun hHeld => ?_)
            clear hK K hb
            try simp only [Act.put, List.setIfInBounds_toArray, List.set_cons_zero, List.set_cons_succ]
            refine wpAnyH_take (i := 8) (oi := { dst := some 71, op := Op.pick (Operand.tmp 66) (Operand.const (Value.bool true)) (Operand.tmp 70), type := 4, pos := "law.go:129", after := #[{ on := 3, ground := Ground.data }, { on := 7, ground := Ground.data }], guard := none }) (v := .bool true) rfl (by kernel_rfl) (by kernel_rfl) (by kernel_rfl) (fun _ _ _ h => h) (Or.inl ⟨by rfl, fun w hSw => by go_simp⟩) hHeld ?_
            try simp only [Act.put, List.setIfInBounds_toArray, List.set_cons_zero, List.set_cons_succ]
            refine wpAnyH_take (i := 9) (oi := { dst := some 72, op := Op.move (Operand.tmp 71), type := 4, pos := "law.go:129", after := #[{ on := 8, ground := Ground.data }, { on := 7, ground := Ground.chain }], guard := none }) (v := .bool true) rfl (by kernel_rfl) (by kernel_rfl) (by kernel_rfl) (fun _ _ _ h => h) (Or.inl ⟨by rfl, fun w hSw => by go_simp⟩) hHeld ?_
            try simp only [Act.put, List.setIfInBounds_toArray, List.set_cons_zero, List.set_cons_succ]
            refine wpAnyH_take (i := 10) (oi := { dst := some 73, op := Op.move (Operand.tmp 12), type := 4, pos := "law.go:129", after := #[{ on := 9, ground := Ground.guard }], guard := some (9, false) }) (v := undef) rfl (by kernel_rfl) (by kernel_rfl) (by kernel_rfl) (fun _ _ _ h => h) (Or.inr ⟨by rfl, rfl⟩) hHeld ?_
            try simp only [Act.put, List.setIfInBounds_toArray, List.set_cons_zero, List.set_cons_succ]
            refine wpAnyH_take (i := 11) (oi := { dst := some 74, op := Op.pick (Operand.tmp 72) (Operand.const (Value.bool true)) (Operand.tmp 73), type := 4, pos := "law.go:129", after := #[{ on := 9, ground := Ground.data }, { on := 10, ground := Ground.data }], guard := none }) (v := .bool true) rfl (by kernel_rfl) (by kernel_rfl) (by kernel_rfl) (fun _ _ _ h => h) (Or.inl ⟨by rfl, fun w hSw => by go_simp⟩) hHeld ?_
            try simp only [Act.put, List.setIfInBounds_toArray, List.set_cons_zero, List.set_cons_succ]
            refine wpAnyH_take (i := 12) (oi := { dst := some 13, op := Op.assign (Operand.tmp 74), type := 4, pos := "law.go:129", after := #[{ on := 11, ground := Ground.data }, { on := 9, ground := Ground.chain }, { on := 0, ground := Ground.phase }, { on := 1, ground := Ground.phase }, { on := 2, ground := Ground.phase }, { on := 3, ground := Ground.phase }, { on := 4, ground := Ground.phase }, { on := 5, ground := Ground.phase }, { on := 6, ground := Ground.phase }, { on := 7, ground := Ground.phase }, { on := 8, ground := Ground.phase }, { on := 9, ground := Ground.phase }, { on := 10, ground := Ground.phase }, { on := 11, ground := Ground.phase }], guard := none }) (v := .bool true) rfl (by kernel_rfl) (by kernel_rfl) (by kernel_rfl) (fun _ _ _ h => h) (Or.inl ⟨by rfl, fun w hSw => by go_simp⟩) hHeld ?_
            try simp only [Act.put, List.setIfInBounds_toArray, List.set_cons_zero, List.set_cons_succ]
            refine wpAnyH_done (by kernel_rfl) ?_ _
            go_wp2
            go_meet
            case rel => exact ⟨rfl, rfl, HT3.out⟩
          · have hz1 : zero = true := by rw [Hz.out]; rcases Hvs.out with h | h | h; exact absurd h h1; exact absurd h h2; simpa using h
            have Hz1 := hide hz1
            have Z := hide h1
            have Z2 := hide h2
            clear h1 h2
            rw [hz1]
            clear hz1
            refine wp_region_held_drew (S := fun w' => Below y3.heap.size y3 w') (by kernel_rfl) (Below.refl _ _).drew (fun hHeld => ?_)
            refine wpAnyH_take (i := 0) (oi := { dst := some 63, op := Op.load 27 (Operand.tmp 10), type := 27, pos := "law.go:129", after := #[], guard := none }) (v := .agg (lits (s))) rfl (by kernel_rfl) (by kernel_rfl) (by kernel_rfl) (fun _ _ _ h => h) (yields_blk Gs.out (by rfl) 27 _ rfl rfl _ Try.underlying27 rfl cells27) hHeld ?_
            try simp only [Act.put, List.setIfInBounds_toArray, List.set_cons_zero, List.set_cons_succ]
            refine wpAnyH_take (i := 1) (oi := { dst := some 64, op := Op.load 27 (Operand.tmp 6), type := 27, pos := "law.go:129", after := #[], guard := none }) (v := .agg (lits (x))) rfl (by kernel_rfl) (by kernel_rfl) (by kernel_rfl) (fun _ _ _ h => h) (yields_blk Gx.out (by rfl) 27 _ rfl rfl _ Try.underlying27 rfl cells27) hHeld ?_
            try simp only [Act.put, List.setIfInBounds_toArray, List.set_cons_zero, List.set_cons_succ]
            refine wpAnyH_ready (rs := [2]) (by kernel_rfl) (by simp) ?_
            refine AllReadyH.cons (o := { dst := some 65, op := Op.call { callee := Callee.value (Operand.func 16), args := #[Operand.tmp 63, Operand.tmp 64], argTypes := #[27, 27] }, type := 4, pos := "law.go:129", after := #[{ on := 0, ground := Ground.data }, { on := 1, ground := Ground.data }], guard := none }) rfl (fun K hK => ?_) AllReadyH.nil
            go_simp
            refine (same_m s x false _ Lsv.out Lx.out (no Z.out)).mono ?_
            rintro e u1 ⟨rfl, hb⟩
            have HT1 := hide (keepCall hb rfl hHeld)
            dsimp only
            refine hK.out _ _ HT1.out (fun hHeld => ?_)
            clear hK K hb
            try simp only [Act.put, List.setIfInBounds_toArray, List.set_cons_zero, List.set_cons_succ]
            refine wpAnyH_take (i := 3) (oi := { dst := some 66, op := Op.move (Operand.tmp 65), type := 4, pos := "law.go:129", after := #[{ on := 2, ground := Ground.data }, { on := 2, ground := Ground.chain }], guard := none }) (v := .bool false) rfl (by kernel_rfl) (by kernel_rfl) (by kernel_rfl) (fun _ _ _ h => h) (Or.inl ⟨by rfl, fun w hSw => by go_simp⟩) hHeld ?_
            try simp only [Act.put, List.setIfInBounds_toArray, List.set_cons_zero, List.set_cons_succ]
            refine wpAnyH_take (i := 4) (oi := { dst := some 67, op := Op.load 27 (Operand.tmp 10), type := 27, pos := "law.go:129", after := #[{ on := 3, ground := Ground.guard }], guard := some (3, false) }) (v := .agg (lits (s))) rfl (by kernel_rfl) (by kernel_rfl) (by kernel_rfl) (fun _ _ _ h => h) (yields_blk Gs.out (by rfl) 27 _ rfl rfl _ Try.underlying27 rfl cells27) hHeld ?_
            try simp only [Act.put, List.setIfInBounds_toArray, List.set_cons_zero, List.set_cons_succ]
            refine wpAnyH_take (i := 5) (oi := { dst := some 68, op := Op.load 27 (Operand.tmp 6), type := 27, pos := "law.go:129", after := #[{ on := 3, ground := Ground.guard }], guard := some (3, false) }) (v := .agg (lits (x))) rfl (by kernel_rfl) (by kernel_rfl) (by kernel_rfl) (fun _ _ _ h => h) (yields_blk Gx.out (by rfl) 27 _ rfl rfl _ Try.underlying27 rfl cells27) hHeld ?_
            try simp only [Act.put, List.setIfInBounds_toArray, List.set_cons_zero, List.set_cons_succ]
            refine wpAnyH_ready (rs := [6]) (by kernel_rfl) (by simp) ?_
            refine AllReadyH.cons (o := { dst := some 69, op := Op.call { callee := Callee.value (Operand.func 25), args := #[Operand.tmp 68], argTypes := #[27] }, type := 27, pos := "law.go:129", after := #[{ on := 5, ground := Ground.data }, { on := 3, ground := Ground.chain }, { on := 3, ground := Ground.guard }], guard := some (3, false) }) rfl (fun K hK => ?_) AllReadyH.nil
            go_simp
            refine (neg_m x _ Lx.out).mono ?_
            rintro e u2 ⟨rfl, hb⟩
            have HT2 := hide (keepCall hb rfl hHeld)
            dsimp only
            refine hK.out _ _ HT2.out (fun hHeld => ?_)
            clear hK K hb
            try simp only [Act.put, List.setIfInBounds_toArray, List.set_cons_zero, List.set_cons_succ]
            refine wpAnyH_ready (rs := [7]) (by kernel_rfl) (by simp) ?_
            refine AllReadyH.cons (o := { dst := some 70, op := Op.call { callee := Callee.value (Operand.func 16), args := #[Operand.tmp 67, Operand.tmp 69], argTypes := #[27, 27] }, type := 4, pos := "law.go:129", after := #[{ on := 4, ground := Ground.data }, { on := 6, ground := Ground.data }, { on := 6, ground := Ground.chain }, { on := 3, ground := Ground.guard }], guard := some (3, false) }) rfl (fun K hK => ?_) AllReadyH.nil
            go_simp
            refine (same_m s (ng x) false _ Lsv.out (ng_lt _) (no Z2.out)).mono ?_
            rintro e u3 ⟨rfl, hb⟩
            have HT3 := hide (keepCall hb rfl hHeld)
            dsimp only
            refine hK.out _ _ HT3.out (fun hHeld => ?_)
            clear hK K hb
            try simp only [Act.put, List.setIfInBounds_toArray, List.set_cons_zero, List.set_cons_succ]
            refine wpAnyH_take (i := 8) (oi := { dst := some 71, op := Op.pick (Operand.tmp 66) (Operand.const (Value.bool true)) (Operand.tmp 70), type := 4, pos := "law.go:129", after := #[{ on := 3, ground := Ground.data }, { on := 7, ground := Ground.data }], guard := none }) (v := .bool false) rfl (by kernel_rfl) (by kernel_rfl) (by kernel_rfl) (fun _ _ _ h => h) (Or.inl ⟨by rfl, fun w hSw => by go_simp⟩) hHeld ?_
            try simp only [Act.put, List.setIfInBounds_toArray, List.set_cons_zero, List.set_cons_succ]
            refine wpAnyH_take (i := 9) (oi := { dst := some 72, op := Op.move (Operand.tmp 71), type := 4, pos := "law.go:129", after := #[{ on := 8, ground := Ground.data }, { on := 7, ground := Ground.chain }], guard := none }) (v := .bool false) rfl (by kernel_rfl) (by kernel_rfl) (by kernel_rfl) (fun _ _ _ h => h) (Or.inl ⟨by rfl, fun w hSw => by go_simp⟩) hHeld ?_
            try simp only [Act.put, List.setIfInBounds_toArray, List.set_cons_zero, List.set_cons_succ]
            refine wpAnyH_take (i := 10) (oi := { dst := some 73, op := Op.move (Operand.tmp 12), type := 4, pos := "law.go:129", after := #[{ on := 9, ground := Ground.guard }], guard := some (9, false) }) (v := .bool true) rfl (by kernel_rfl) (by kernel_rfl) (by kernel_rfl) (fun _ _ _ h => h) (Or.inl ⟨by rfl, fun w hSw => by go_simp⟩) hHeld ?_
            try simp only [Act.put, List.setIfInBounds_toArray, List.set_cons_zero, List.set_cons_succ]
            refine wpAnyH_take (i := 11) (oi := { dst := some 74, op := Op.pick (Operand.tmp 72) (Operand.const (Value.bool true)) (Operand.tmp 73), type := 4, pos := "law.go:129", after := #[{ on := 9, ground := Ground.data }, { on := 10, ground := Ground.data }], guard := none }) (v := .bool true) rfl (by kernel_rfl) (by kernel_rfl) (by kernel_rfl) (fun _ _ _ h => h) (Or.inl ⟨by rfl, fun w hSw => by go_simp⟩) hHeld ?_
            try simp only [Act.put, List.setIfInBounds_toArray, List.set_cons_zero, List.set_cons_succ]
            refine wpAnyH_take (i := 12) (oi := { dst := some 13, op := Op.assign (Operand.tmp 74), type := 4, pos := "law.go:129", after := #[{ on := 11, ground := Ground.data }, { on := 9, ground := Ground.chain }, { on := 0, ground := Ground.phase }, { on := 1, ground := Ground.phase }, { on := 2, ground := Ground.phase }, { on := 3, ground := Ground.phase }, { on := 4, ground := Ground.phase }, { on := 5, ground := Ground.phase }, { on := 6, ground := Ground.phase }, { on := 7, ground := Ground.phase }, { on := 8, ground := Ground.phase }, { on := 9, ground := Ground.phase }, { on := 10, ground := Ground.phase }, { on := 11, ground := Ground.phase }], guard := none }) (v := .bool true) rfl (by kernel_rfl) (by kernel_rfl) (by kernel_rfl) (fun _ _ _ h => h) (Or.inl ⟨by rfl, fun w hSw => by go_simp⟩) hHeld ?_
            try simp only [Act.put, List.setIfInBounds_toArray, List.set_cons_zero, List.set_cons_succ]
            refine wpAnyH_done (by kernel_rfl) ?_ _
            go_wp2
            go_meet
            case rel => exact ⟨by rw [Hz1.out], rfl, HT3.out⟩
      case rest =>
        obtain ⟨rfl, rfl, L⟩ := hcut
        have Kx := hide (Blk.call Gx.out L)
        have Ky := hide (Blk.call Gy.out L)
        have Kr := hide (Blk.call Gr.out L)
        have Ks := hide (Blk.call Gs.out L)
        have KL := hide (HL.out.trans (L.mono HL.out.size))
        clear Gx Gy Gr Gs HL L
        have Gx := Kx
        have Gy := Ky
        have Gr := Kr
        have Gs := Ks
        have HL := KL
        clear Kx Ky Kr Ks KL
        generalize wc = y4 at *
        go_wp2
        have rux := (Gx.out).ruleOf
        have ruy := (Gy.out).ruleOf
        go_cut [14, 15] (fun s t wx => Newly2 y4 (rVal (am x x) y) (rOk (am x x) y) s t wx)
        case first =>
          go_region_held3 (fun w' => Below y4.heap.size y4 w') (first | assumption | exact (Below.refl _ _).drew | exact (keepAlloc (Below.refl _ _) _).drew | exact HT2.out | exact HT1.out | (refine keepAlloc ?_ _; assumption) | exact keepAlloc HT2.out _ | exact Below.row HT2.out HT1.out.size _ | exact Below.row HT2.out (Nat.le_refl _) _)
            (first
              | (go_at_call 18; refine (add_m x x _ Lx.out Lx.out).mono ?_; rintro e w1 ⟨rfl, hb1⟩; have HT1 := hide (keepCall hb1 rfl (by assumption)); (first | have E1 := ((Blk.new _ z4 27).drew).below hb1 (by simp) | have E1 := True.intro))
              | (go_at_call 28; refine (ratio_m (am x x) y _ (am_lt _ _) Ly.out).mono ?_; rw [fe_def (rVal (am x x) y)]; rintro e w2 ⟨rfl, hb2⟩; have HT2 := hide (keepCall hb2 rfl (by assumption)); (first | have E2 := (Blk.new _ z4 27).below hb2 (by simp) | have E2 := E1.below hb2 E1.lt | have E2 := True.intro); (first | obtain ⟨c2, f2⟩ := E2.rules | skip); (first | obtain ⟨r1, r2, r3, r4⟩ := E2.writes | skip); (first | have HEn := hide E2 | skip); clear E2))
          all_goals
            go_wp2
            go_meet
            case rel => first | exact ⟨rfl, Newly.late HT2.out⟩ | exact ⟨rfl, Newly.early HT1.out.size HEn.out HT2.out⟩ | exact ⟨rfl, Newly.early (Nat.le_refl _) HEn.out HT2.out⟩
        case rest =>
          clear rux ruy
          obtain ⟨rfl, bt, rfl, hbt, Bt, L⟩ := hcut
          have Gt0 := hide Bt
          clear Bt hbt
          have Kx := hide (Blk.call Gx.out L)
          have Ky := hide (Blk.call Gy.out L)
          have Kr := hide (Blk.call Gr.out L)
          have Ks := hide (Blk.call Gs.out L)
          have KL := hide (HL.out.trans (L.mono HL.out.size))
          clear Gx Gy Gr Gs HL L
          have Gx := Kx
          have Gy := Ky
          have Gr := Kr
          have Gs := Ks
          have HL := KL
          clear Kx Ky Kr Ks KL
          generalize wc = y5 at *
          have Gt := Gt0
          clear Gt0
          have Hone := hide (one_has x y Lx.out Ly.out)
          have Hnot := hide (fun h1 h2 => not_both x y Lx.out Ly.out h1 h2)
          clear Hvs
          obtain ⟨is, his⟩ : ∃ b, b = rOk x y := ⟨_, rfl⟩
          obtain ⟨tw, htw⟩ : ∃ b, b = rOk (am x x) y := ⟨_, rfl⟩
          rw [← his, ← htw] at Hone Hnot
          rw [← his, ← htw]
          clear his htw
          have hone : is = true ∨ tw = true ∨ zero = true := by
            rcases Hone.out with h | h | h
            · exact .inl h
            · exact .inr (.inl h)
            · right; right; rw [Hz.out]; simpa using h
          clear Hone
          obtain ⟨cx, fx⟩ := Gx.out.rules
          cases is <;> cases tw <;> cases zero
          case true.true.false | true.true.true =>
            have Z := hide (Hnot.out rfl rfl)
            clear hone
            go_wp2_with fail
            refine (same_z x true _ Lx.out (yes Z.out)).mono ?_
            rintro e wz ⟨rfl, L⟩
            have HLz := hide (HL.out.trans (L.mono HL.out.size))
            clear L cx fx
            dsimp only
            go_wp2
            go_ret
            exact ⟨rfl, HLz.out⟩
          all_goals first | (exfalso; simp at hone; done) | (clear hone; go_wp2; go_ret; exact ⟨rfl, HL.out⟩)
end Go.Proofs.Ytbjcfibpiiplaaa

/- FieldLoads' walk: for both rows of 32 bytes, and either bool, the law returns true. -/
import Derived.Test.YtbjcfibpiiplaaaLb
import Derived.Test.YtbjcfibpiiplaaaVd
import Derived.Test.YtbjcfibpiiplaaaVe
namespace Go.Proofs.Ytbjcfibpiiplaaa
open Go.RowKit

theorem pick_m (x y v : Nat) (b : Bool) (w : World) (h : (if b then x else y) = v) :
    Calls Try.prog 17 #[fe x, fe y, .bool b] w fun e w' => e = .returned (fe v) ∧ Below w.heap.size w w' := by
  subst h; exact pick_any x y b w
theorem all_bytes (x y : Nat) (hx : x < pP) (hy : y < pP) : ((List.range 32).all fun i => byt x i == byt y i) = decide (x = y) := by
  rw [Bool.eq_iff_iff, decide_eq_true_eq, List.all_eq_true]
  constructor
  · intro h
    have e : nb (byt x) 32 % pP = nb (byt y) 32 % pP := by rw [nb_congr (byt x) (byt y) 32 fun j hj => by simpa using h j (by simpa using hj)]
    rw [nb_back x hx, nb_back y hy] at e
    exact e
  · intro h i _
    rw [h]; simp
theorem byt_odd0 (x : Nat) : byt x 0 % 2 = x % 2 := by unfold byt; simp
theorem byt0_lt (x : Nat) : byt x 0 < 256 := Nat.mod_lt _ (by omega)
theorem tmod2 (n : Nat) : ((n : Nat) : Int).tmod 2 = (n : Int) % 2 := Int.tmod_eq_emod_of_nonneg (by omega)
theorem eq_dec1 (x : Nat) : (((byt x 0 : Nat) : Int) % 2 == 1) = decide (x % 2 = 1) := by
  have h := byt_odd0 x
  rw [Bool.eq_iff_iff, decide_eq_true_eq, beq_iff_eq]; omega
set_option maxRecDepth 100000 in
set_option maxHeartbeats 8000000 in
theorem loads_walk (f g : Nat → Nat) (b : Bool) (w : World) (hf : ∀ i, f i < 256) (hg : ∀ i, g i < 256) :
    Calls Try.prog 3 #[ba f, ba g, .bool b] w fun e w' => e = .returned (.bool true) ∧ Below w.heap.size w w' := by
  have Hf := hide hf
  have Hg := hide hg
  clear hf hg
  unfold ba
  have A_0 := hide ((Blk.new w (vals .u8 32 f) 22).alloc (.cells (vals .u8 32 g) 22))
  have B_0 := hide (Blk.new' (w.alloc (.cells (vals .u8 32 f) 22)) (w.heap.size + 1) (by simp) (vals .u8 32 g) 22)
  have L0 : Hid (Below w.heap.size w ((w.alloc (.cells (vals .u8 32 f) 22)).alloc (.cells (vals .u8 32 g) 22))) := hide (((Below.refl _ w).alloc (Nat.le_refl _) _).alloc (by simp) _)
  go_enter Try.func3, Try.ntmps3
  go_wp2_with fail
  refine (awake_at _ _ (by rfl)).mono ?_
  rintro e k1 ⟨rfl, hb⟩
  have A_1 := hide (A_0.out.call hb)
  have B_1 := hide (B_0.out.call hb)
  have Lw_1 := hide (L0.out.trans (hb.mono L0.out.size))
  clear A_0 B_0 L0 hb
  dsimp only
  go_wp2_with (first | (refine wpList_load_row rfl 22 _ rfl (w.heap.size) rfl 22 _ (0, 0) _ A_1.out Try.underlying22 rfl (by rw [vals_size]; exact cells22) ?_))
  refine (load_at f _ _ (by rfl) Hf.out).mono ?_
  rw [fe_def (nb f 32 % pP)]
  rintro e k2 ⟨rfl, hb⟩
  have A_2 := hide (A_1.out.call hb)
  have B_2 := hide (B_1.out.call hb)
  have Lw_2 := hide (Lw_1.out.trans (hb.mono Lw_1.out.size))
  clear A_1 B_1 Lw_1 hb
  dsimp only
  obtain ⟨x, hx⟩ : ∃ x, x = nb f 32 % pP := ⟨_, rfl⟩
  have Lx : Hid (x < pP) := hide (by rw [hx]; exact Nat.mod_lt _ pP_pos)
  rw [← hx]
  have Hx := hide hx
  clear hx
  have X_3 := hide (Blk.new k2 (lits x) 27)
  have A_3 := hide (A_2.out.alloc (.cells (lits x) 27))
  have B_3 := hide (B_2.out.alloc (.cells (lits x) 27))
  have Lw_3 := hide (Lw_2.out.alloc Lw_2.out.size (.cells (lits x) 27))
  clear A_2 B_2 Lw_2
  go_wp2_with (first | (refine wpList_load_row rfl 22 _ rfl (w.heap.size + 1) rfl 22 _ (0, 0) _ B_3.out Try.underlying22 rfl (by rw [vals_size]; exact cells22) ?_))
  refine (load_at g _ _ (by rfl) Hg.out).mono ?_
  rw [fe_def (nb g 32 % pP)]
  rintro e k4 ⟨rfl, hb⟩
  have A_4 := hide (A_3.out.call hb)
  have B_4 := hide (B_3.out.call hb)
  have X_4 := hide (X_3.out.call hb)
  have Lw_4 := hide (Lw_3.out.trans (hb.mono Lw_3.out.size))
  clear A_3 B_3 X_3 Lw_3 hb
  dsimp only
  obtain ⟨y, hy⟩ : ∃ y, y = nb g 32 % pP := ⟨_, rfl⟩
  have Ly : Hid (y < pP) := hide (by rw [hy]; exact Nat.mod_lt _ pP_pos)
  rw [← hy]
  have Hy := hide hy
  clear hy
  have Y_5 := hide (Blk.new k4 (lits y) 27)
  have A_5 := hide (A_4.out.alloc (.cells (lits y) 27))
  have B_5 := hide (B_4.out.alloc (.cells (lits y) 27))
  have X_5 := hide (X_4.out.alloc (.cells (lits y) 27))
  have Lw_5 := hide (Lw_4.out.alloc Lw_4.out.size (.cells (lits y) 27))
  clear A_4 B_4 X_4 Lw_4
  go_wp2_with (first | (refine wpList_load_row rfl 22 _ rfl (w.heap.size) rfl 22 _ (0, 0) _ A_5.out Try.underlying22 rfl (by rw [vals_size]; exact cells22) ?_))
  refine (refLoad_at f _ _ (by rfl) Hf.out).mono ?_
  rw [← Hx.out]
  rintro e k6 ⟨rfl, hb⟩
  have A_6 := hide (A_5.out.call hb)
  have B_6 := hide (B_5.out.call hb)
  have X_6 := hide (X_5.out.call hb)
  have Y_6 := hide (Y_5.out.call hb)
  have Lw_6 := hide (Lw_5.out.trans (hb.mono Lw_5.out.size))
  clear A_5 B_5 X_5 Y_5 Lw_5 hb
  dsimp only
  go_wp2_with fail
  refine (refBytes_at x _ _ (by rfl)).mono ?_
  rintro e k7 ⟨rfl, hb⟩
  have A_7 := hide (A_6.out.call hb)
  have B_7 := hide (B_6.out.call hb)
  have X_7 := hide (X_6.out.call hb)
  have Y_7 := hide (Y_6.out.call hb)
  have Lw_7 := hide (Lw_6.out.trans (hb.mono Lw_6.out.size))
  clear A_6 B_6 X_6 Y_6 Lw_6 hb
  unfold ba
  dsimp only
  go_wp2_with (first | (refine wpList_store_abs rfl 22 _ _ rfl k7.heap.size (vals .u8 32 (byt x)) rfl rfl 22 _ (Blk.new k7 _ _) (by rw [vals_size]; exact cells22) (by rw [vals_size]; rfl) (vals_one _ _ _) ?_; intro k8 Bn Sn; have A_8 := hide (Sn.other _ _ _ (Nat.ne_of_gt A_7.out.lt) (A_7.out.alloc _)); have B_8 := hide (Sn.other _ _ _ (Nat.ne_of_gt B_7.out.lt) (B_7.out.alloc _)); have X_8 := hide (Sn.other _ _ _ (Nat.ne_of_gt X_7.out.lt) (X_7.out.alloc _)); have Y_8 := hide (Sn.other _ _ _ (Nat.ne_of_gt Y_7.out.lt) (Y_7.out.alloc _)); have Lw_8 := hide (Sn.low _ _ (Lw_7.out.alloc Lw_7.out.size _) Lw_7.out.size); have M_8 := hide Bn; clear Bn Sn A_7 B_7 X_7 Y_7 Lw_7) | (refine wpList_load_row rfl 22 _ rfl (w.heap.size + 1) rfl 22 _ (0, 0) _ B_8.out Try.underlying22 rfl (by rw [vals_size]; exact cells22) ?_))
  refine (refLoad_at g _ _ (by rfl) Hg.out).mono ?_
  rw [← Hy.out]
  rintro e k9 ⟨rfl, hb⟩
  have A_9 := hide (A_8.out.call hb)
  have B_9 := hide (B_8.out.call hb)
  have X_9 := hide (X_8.out.call hb)
  have Y_9 := hide (Y_8.out.call hb)
  have M_9 := hide (M_8.out.call hb)
  have Lw_9 := hide (Lw_8.out.trans (hb.mono Lw_8.out.size))
  clear A_8 B_8 X_8 Y_8 M_8 Lw_8 hb
  dsimp only
  go_wp2_with fail
  refine (refBytes_at y _ _ (by rfl)).mono ?_
  rintro e k10 ⟨rfl, hb⟩
  have A_10 := hide (A_9.out.call hb)
  have B_10 := hide (B_9.out.call hb)
  have X_10 := hide (X_9.out.call hb)
  have Y_10 := hide (Y_9.out.call hb)
  have M_10 := hide (M_9.out.call hb)
  have Lw_10 := hide (Lw_9.out.trans (hb.mono Lw_9.out.size))
  clear A_9 B_9 X_9 Y_9 M_9 Lw_9 hb
  unfold ba
  dsimp only
  cases b
  case false =>
    go_wp2_with (first | (refine wpList_store_abs rfl 22 _ _ rfl k10.heap.size (vals .u8 32 (byt y)) rfl rfl 22 _ (Blk.new k10 _ _) (by rw [vals_size]; exact cells22) (by rw [vals_size]; rfl) (vals_one _ _ _) ?_; intro k11 Bn Sn; have A_11 := hide (Sn.other _ _ _ (Nat.ne_of_gt A_10.out.lt) (A_10.out.alloc _)); have B_11 := hide (Sn.other _ _ _ (Nat.ne_of_gt B_10.out.lt) (B_10.out.alloc _)); have X_11 := hide (Sn.other _ _ _ (Nat.ne_of_gt X_10.out.lt) (X_10.out.alloc _)); have Y_11 := hide (Sn.other _ _ _ (Nat.ne_of_gt Y_10.out.lt) (Y_10.out.alloc _)); have M_11 := hide (Sn.other _ _ _ (Nat.ne_of_gt M_10.out.lt) (M_10.out.alloc _)); have Lw_11 := hide (Sn.low _ _ (Lw_10.out.alloc Lw_10.out.size _) Lw_10.out.size); have N_11 := hide Bn; clear Bn Sn A_10 B_10 X_10 Y_10 M_10 Lw_10) | (refine wpList_load_row rfl 22 _ rfl (k10.heap.size) rfl 22 _ (0, 0) _ N_11.out Try.underlying22 rfl (by rw [vals_size]; exact cells22) ?_) | (refine wpList_store_abs rfl 22 _ _ rfl k11.heap.size (vals .u8 32 (byt y)) rfl rfl 22 _ (Blk.new k11 _ _) (by rw [vals_size]; exact cells22) (by rw [vals_size]; rfl) (vals_one _ _ _) ?_; intro k12 Bn Sn; have A_12 := hide (Sn.other _ _ _ (Nat.ne_of_gt A_11.out.lt) (A_11.out.alloc _)); have neA := hide (Nat.ne_of_gt A_11.out.lt); have B_12 := hide (Sn.other _ _ _ (Nat.ne_of_gt B_11.out.lt) (B_11.out.alloc _)); have neB := hide (Nat.ne_of_gt B_11.out.lt); have X_12 := hide (Sn.other _ _ _ (Nat.ne_of_gt X_11.out.lt) (X_11.out.alloc _)); have neX := hide (Nat.ne_of_gt X_11.out.lt); have Y_12 := hide (Sn.other _ _ _ (Nat.ne_of_gt Y_11.out.lt) (Y_11.out.alloc _)); have neY := hide (Nat.ne_of_gt Y_11.out.lt); have M_12 := hide (Sn.other _ _ _ (Nat.ne_of_gt M_11.out.lt) (M_11.out.alloc _)); have neM := hide (Nat.ne_of_gt M_11.out.lt); have N_12 := hide (Sn.other _ _ _ (Nat.ne_of_gt N_11.out.lt) (N_11.out.alloc _)); have neN := hide (Nat.ne_of_gt N_11.out.lt); have Lw_12 := hide (Sn.low _ _ (Lw_11.out.alloc Lw_11.out.size _) Lw_11.out.size); have leW := hide Lw_11.out.size; have V_12 := hide Bn; clear Bn Sn A_11 B_11 X_11 Y_11 M_11 N_11 Lw_11) | (refine wpList_load_row rfl 27 _ rfl (k2.heap.size) rfl 27 _ (0, 0) _ X_12.out Try.underlying27 rfl cells27 ?_))
    clear neA neB neX neY neM neN leW
    refine (bytes_at x _ _ (by rfl)).mono ?_
    rintro e k13 ⟨rfl, hb⟩
    have A_13 := hide (A_12.out.call hb)
    have B_13 := hide (B_12.out.call hb)
    have X_13 := hide (X_12.out.call hb)
    have Y_13 := hide (Y_12.out.call hb)
    have M_13 := hide (M_12.out.call hb)
    have N_13 := hide (N_12.out.call hb)
    have V_13 := hide (V_12.out.call hb)
    have Lw_13 := hide (Lw_12.out.trans (hb.mono Lw_12.out.size))
    clear A_12 B_12 X_12 Y_12 M_12 N_12 V_12 Lw_12 hb
    unfold ba
    dsimp only
    go_wp2_with fail
    refine (load_at (byt x) _ _ (by rfl) (byt_lt x)).mono ?_
    rw [nb_back x Lx.out, fe_def x]
    rintro e k14 ⟨rfl, hb⟩
    have A_14 := hide (A_13.out.call hb)
    have B_14 := hide (B_13.out.call hb)
    have X_14 := hide (X_13.out.call hb)
    have Y_14 := hide (Y_13.out.call hb)
    have M_14 := hide (M_13.out.call hb)
    have N_14 := hide (N_13.out.call hb)
    have V_14 := hide (V_13.out.call hb)
    have Lw_14 := hide (Lw_13.out.trans (hb.mono Lw_13.out.size))
    clear A_13 B_13 X_13 Y_13 M_13 N_13 V_13 Lw_13 hb
    dsimp only
    have Z_15 := hide (Blk.new k14 (lits x) 27)
    have A_15 := hide (A_14.out.alloc (.cells (lits x) 27))
    have B_15 := hide (B_14.out.alloc (.cells (lits x) 27))
    have X_15 := hide (X_14.out.alloc (.cells (lits x) 27))
    have Y_15 := hide (Y_14.out.alloc (.cells (lits x) 27))
    have M_15 := hide (M_14.out.alloc (.cells (lits x) 27))
    have N_15 := hide (N_14.out.alloc (.cells (lits x) 27))
    have V_15 := hide (V_14.out.alloc (.cells (lits x) 27))
    have Lw_15 := hide (Lw_14.out.alloc Lw_14.out.size (.cells (lits x) 27))
    clear A_14 B_14 X_14 Y_14 M_14 N_14 V_14 Lw_14
    go_wp2
    generalize k14.alloc (.cells (lits x) 27) = w0 at *
    have he := eq_vals' (byt x) (byt x) true (all_self _)
    have hxy := eq_vals' (byt x) (byt y) (decide (x = y)) (all_bytes x y Lx.out Ly.out)
    have hev := eq_vals' (byt y) (byt y) true (all_self _)
    have hb0 := byt0_lt x
    refine wp_region_held_drew (S := fun w' => Below w0.heap.size w0 w') (by kernel_rfl) (Below.refl _ _).drew (fun hHeld => ?_)
    refine wpAnyH_take (i := 0) (oi := { dst := some 31, op := Op.move (Operand.tmp 7), type := 4, pos := "law.go:37", after := #[], guard := none }) (v := .bool true) rfl (by kernel_rfl) (by kernel_rfl) (by kernel_rfl) (fun _ _ _ h => h) (Or.inl ⟨by rfl, fun w hSw => by go_simp⟩) hHeld ?_
    try simp only [Act.put, List.setIfInBounds_toArray, List.set_cons_zero, List.set_cons_succ]
    refine wpAnyH_take (i := 1) (oi := { dst := some 32, op := Op.move (Operand.tmp 31), type := 4, pos := "law.go:37", after := #[{ on := 0, ground := Ground.data }], guard := none }) (v := .bool true) rfl (by kernel_rfl) (by kernel_rfl) (by kernel_rfl) (fun _ _ _ h => h) (Or.inl ⟨by rfl, fun w hSw => by go_simp⟩) hHeld ?_
    try simp only [Act.put, List.setIfInBounds_toArray, List.set_cons_zero, List.set_cons_succ]
    refine wpAnyH_take (i := 2) (oi := { dst := some 33, op := Op.load 27 (Operand.tmp 8), type := 27, pos := "law.go:37", after := #[{ on := 1, ground := Ground.guard }], guard := some (1, true) }) (v := .agg (lits (x))) rfl (by kernel_rfl) (by kernel_rfl) (by kernel_rfl) (fun _ _ _ h => h) (yields_blk X_15.out (by rfl) 27 _ rfl rfl _ Try.underlying27 rfl cells27) hHeld ?_
    try simp only [Act.put, List.setIfInBounds_toArray, List.set_cons_zero, List.set_cons_succ]
    refine wpAnyH_take (i := 4) (oi := { dst := some 35, op := Op.load 22 (Operand.tmp 10), type := 22, pos := "law.go:37", after := #[{ on := 1, ground := Ground.guard }], guard := some (1, true) }) (v := .agg (vals .u8 32 (byt x))) rfl (by kernel_rfl) (by kernel_rfl) (by kernel_rfl) (fun _ _ _ h => h) (yields_blk M_15.out (by rfl) 22 _ rfl rfl _ Try.underlying22 rfl (by rw [vals_size]; exact cells22)) hHeld ?_
    try simp only [Act.put, List.setIfInBounds_toArray, List.set_cons_zero, List.set_cons_succ]
    refine wpAnyH_ready (rs := [3]) (by kernel_rfl) (by simp) ?_
    refine AllReadyH.cons (o := { dst := some 34, op := Op.call { callee := Callee.value (Operand.func 14), args := #[Operand.tmp 33], argTypes := #[27] }, type := 22, pos := "law.go:37", after := #[{ on := 2, ground := Ground.data }, { on := 1, ground := Ground.chain }, { on := 1, ground := Ground.guard }], guard := some (1, true) }) rfl (fun K hK => ?_) AllReadyH.nil
    go_simp
    refine (bytes_at x _ _ (by rfl)).mono ?_
    unfold ba
    rintro e u1 ⟨rfl, hb⟩
    have HT1 := hide (keepCall hb rfl hHeld)
    dsimp only
    refine hK.out _ _ HT1.out (fun hHeld => ?_)
    clear hK K hb
    try simp only [Act.put, List.setIfInBounds_toArray, List.set_cons_zero, List.set_cons_succ]
    refine wpAnyH_take (i := 5) (oi := { dst := some 36, op := Op.binOp BinOp.eql 22 (Operand.tmp 34) (Operand.tmp 35) 22, type := 4, pos := "law.go:37", after := #[{ on := 3, ground := Ground.data }, { on := 4, ground := Ground.data }, { on := 1, ground := Ground.guard }], guard := some (1, true) }) (v := .bool true) rfl (by kernel_rfl) (by kernel_rfl) (by kernel_rfl) (fun _ _ _ h => h) (Or.inl ⟨by rfl, fun w hSw => by go_simp⟩) hHeld ?_
    try simp only [Act.put, List.setIfInBounds_toArray, List.set_cons_zero, List.set_cons_succ]
    refine wpAnyH_take (i := 6) (oi := { dst := some 37, op := Op.pick (Operand.tmp 32) (Operand.tmp 36) (Operand.const (Value.bool false)), type := 4, pos := "law.go:37", after := #[{ on := 1, ground := Ground.data }, { on := 5, ground := Ground.data }], guard := none }) (v := .bool true) rfl (by kernel_rfl) (by kernel_rfl) (by kernel_rfl) (fun _ _ _ h => h) (Or.inl ⟨by rfl, fun w hSw => by go_simp⟩) hHeld ?_
    try simp only [Act.put, List.setIfInBounds_toArray, List.set_cons_zero, List.set_cons_succ]
    refine wpAnyH_take (i := 7) (oi := { dst := some 38, op := Op.move (Operand.tmp 37), type := 4, pos := "law.go:37", after := #[{ on := 6, ground := Ground.data }, { on := 3, ground := Ground.chain }], guard := none }) (v := .bool true) rfl (by kernel_rfl) (by kernel_rfl) (by kernel_rfl) (fun _ _ _ h => h) (Or.inl ⟨by rfl, fun w hSw => by go_simp⟩) hHeld ?_
    try simp only [Act.put, List.setIfInBounds_toArray, List.set_cons_zero, List.set_cons_succ]
    refine wpAnyH_take (i := 8) (oi := { dst := some 39, op := Op.load 27 (Operand.tmp 8), type := 27, pos := "law.go:37", after := #[{ on := 7, ground := Ground.guard }], guard := some (7, true) }) (v := .agg (lits (x))) rfl (by kernel_rfl) (by kernel_rfl) (by kernel_rfl) (fun _ _ _ h => h) (yields_blk X_15.out (by rfl) 27 _ rfl rfl _ Try.underlying27 rfl cells27) hHeld ?_
    try simp only [Act.put, List.setIfInBounds_toArray, List.set_cons_zero, List.set_cons_succ]
    refine wpAnyH_take (i := 10) (oi := { dst := some 41, op := Op.indexAddr 22 (Operand.tmp 10) (Operand.const (Value.int IntKind.i64 0)), type := 0, pos := "law.go:37", after := #[{ on := 7, ground := Ground.guard }], guard := some (7, true) }) (v := .pointer (some ⟨k7.heap.size, 0, none⟩)) rfl (by kernel_rfl) (by kernel_rfl) (by kernel_rfl) (fun _ _ _ h => h) (Or.inl ⟨by rfl, fun w hSw => by go_simp⟩) hHeld ?_
    try simp only [Act.put, List.setIfInBounds_toArray, List.set_cons_zero, List.set_cons_succ]
    refine wpAnyH_take (i := 11) (oi := { dst := some 42, op := Op.load 5 (Operand.tmp 41), type := 5, pos := "law.go:37", after := #[{ on := 10, ground := Ground.data }, { on := 7, ground := Ground.guard }], guard := some (7, true) }) (v := .int .u8 ((byt x 0 : Nat) : Int)) rfl (by kernel_rfl) (by kernel_rfl) (by kernel_rfl) (fun _ _ _ h => h) (Or.inl ⟨by rfl, fun w hSw => by have c0 := (M_15.out.call hSw).cell 0; rw [vals_get _ _ _ _ (by omega)] at c0; go_simp⟩) hHeld ?_
    try simp only [Act.put, List.setIfInBounds_toArray, List.set_cons_zero, List.set_cons_succ]
    refine wpAnyH_take (i := 12) (oi := { dst := some 43, op := Op.binOp BinOp.rem 5 (Operand.tmp 42) (Operand.const (Value.int IntKind.u8 2)) 5, type := 5, pos := "law.go:37", after := #[{ on := 11, ground := Ground.data }, { on := 7, ground := Ground.guard }], guard := some (7, true) }) (v := .int .u8 ((byt x 0 % 2 : Nat) : Int)) rfl (by kernel_rfl) (by kernel_rfl) (by kernel_rfl) (fun _ _ _ h => h) (Or.inl ⟨by rfl, fun w hSw => by go_simp; exact tmod2 _⟩) hHeld ?_
    try simp only [Act.put, List.setIfInBounds_toArray, List.set_cons_zero, List.set_cons_succ]
    refine wpAnyH_take (i := 13) (oi := { dst := some 44, op := Op.binOp BinOp.eql 5 (Operand.tmp 43) (Operand.const (Value.int IntKind.u8 1)) 5, type := 4, pos := "law.go:37", after := #[{ on := 12, ground := Ground.data }, { on := 7, ground := Ground.guard }], guard := some (7, true) }) (v := .bool (decide (x % 2 = 1))) rfl (by kernel_rfl) (by kernel_rfl) (by kernel_rfl) (fun _ _ _ h => h) (Or.inl ⟨by rfl, fun w hSw => by go_simp; exact eq_dec1 x⟩) hHeld ?_
    try simp only [Act.put, List.setIfInBounds_toArray, List.set_cons_zero, List.set_cons_succ]
    refine wpAnyH_ready (rs := [9]) (by kernel_rfl) (by simp) ?_
    refine AllReadyH.cons (o := { dst := some 40, op := Op.call { callee := Callee.value (Operand.func 15), args := #[Operand.tmp 39], argTypes := #[27] }, type := 4, pos := "law.go:37", after := #[{ on := 8, ground := Ground.data }, { on := 7, ground := Ground.chain }, { on := 7, ground := Ground.guard }], guard := some (7, true) }) rfl (fun K hK => ?_) AllReadyH.nil
    go_simp
    refine (odd_any x _).mono ?_
    rintro e u2 ⟨rfl, hb⟩
    have HT2 := hide (keepCall hb rfl hHeld)
    dsimp only
    refine hK.out _ _ HT2.out (fun hHeld => ?_)
    clear hK K hb
    try simp only [Act.put, List.setIfInBounds_toArray, List.set_cons_zero, List.set_cons_succ]
    refine wpAnyH_take (i := 14) (oi := { dst := some 45, op := Op.binOp BinOp.eql 4 (Operand.tmp 40) (Operand.tmp 44) 4, type := 4, pos := "law.go:37", after := #[{ on := 9, ground := Ground.data }, { on := 13, ground := Ground.data }, { on := 7, ground := Ground.guard }], guard := some (7, true) }) (v := .bool true) rfl (by kernel_rfl) (by kernel_rfl) (by kernel_rfl) (fun _ _ _ h => h) (Or.inl ⟨by rfl, fun w hSw => by go_simp⟩) hHeld ?_
    try simp only [Act.put, List.setIfInBounds_toArray, List.set_cons_zero, List.set_cons_succ]
    refine wpAnyH_take (i := 15) (oi := { dst := some 46, op := Op.pick (Operand.tmp 38) (Operand.tmp 45) (Operand.const (Value.bool false)), type := 4, pos := "law.go:37", after := #[{ on := 7, ground := Ground.data }, { on := 14, ground := Ground.data }], guard := none }) (v := .bool true) rfl (by kernel_rfl) (by kernel_rfl) (by kernel_rfl) (fun _ _ _ h => h) (Or.inl ⟨by rfl, fun w hSw => by go_simp⟩) hHeld ?_
    try simp only [Act.put, List.setIfInBounds_toArray, List.set_cons_zero, List.set_cons_succ]
    refine wpAnyH_take (i := 16) (oi := { dst := some 47, op := Op.move (Operand.tmp 46), type := 4, pos := "law.go:37", after := #[{ on := 15, ground := Ground.data }, { on := 9, ground := Ground.chain }], guard := none }) (v := .bool true) rfl (by kernel_rfl) (by kernel_rfl) (by kernel_rfl) (fun _ _ _ h => h) (Or.inl ⟨by rfl, fun w hSw => by go_simp⟩) hHeld ?_
    try simp only [Act.put, List.setIfInBounds_toArray, List.set_cons_zero, List.set_cons_succ]
    refine wpAnyH_take (i := 17) (oi := { dst := some 48, op := Op.load 27 (Operand.tmp 8), type := 27, pos := "law.go:37", after := #[{ on := 16, ground := Ground.guard }], guard := some (16, true) }) (v := .agg (lits (x))) rfl (by kernel_rfl) (by kernel_rfl) (by kernel_rfl) (fun _ _ _ h => h) (yields_blk X_15.out (by rfl) 27 _ rfl rfl _ Try.underlying27 rfl cells27) hHeld ?_
    try simp only [Act.put, List.setIfInBounds_toArray, List.set_cons_zero, List.set_cons_succ]
    refine wpAnyH_take (i := 18) (oi := { dst := some 49, op := Op.load 27 (Operand.tmp 9), type := 27, pos := "law.go:37", after := #[{ on := 16, ground := Ground.guard }], guard := some (16, true) }) (v := .agg (lits (y))) rfl (by kernel_rfl) (by kernel_rfl) (by kernel_rfl) (fun _ _ _ h => h) (yields_blk Y_15.out (by rfl) 27 _ rfl rfl _ Try.underlying27 rfl cells27) hHeld ?_
    try simp only [Act.put, List.setIfInBounds_toArray, List.set_cons_zero, List.set_cons_succ]
    refine wpAnyH_take (i := 20) (oi := { dst := some 51, op := Op.load 22 (Operand.tmp 10), type := 22, pos := "law.go:37", after := #[{ on := 16, ground := Ground.guard }], guard := some (16, true) }) (v := .agg (vals .u8 32 (byt x))) rfl (by kernel_rfl) (by kernel_rfl) (by kernel_rfl) (fun _ _ _ h => h) (yields_blk M_15.out (by rfl) 22 _ rfl rfl _ Try.underlying22 rfl (by rw [vals_size]; exact cells22)) hHeld ?_
    try simp only [Act.put, List.setIfInBounds_toArray, List.set_cons_zero, List.set_cons_succ]
    refine wpAnyH_take (i := 21) (oi := { dst := some 52, op := Op.load 22 (Operand.tmp 11), type := 22, pos := "law.go:37", after := #[{ on := 16, ground := Ground.guard }], guard := some (16, true) }) (v := .agg (vals .u8 32 (byt y))) rfl (by kernel_rfl) (by kernel_rfl) (by kernel_rfl) (fun _ _ _ h => h) (yields_blk N_15.out (by rfl) 22 _ rfl rfl _ Try.underlying22 rfl (by rw [vals_size]; exact cells22)) hHeld ?_
    try simp only [Act.put, List.setIfInBounds_toArray, List.set_cons_zero, List.set_cons_succ]
    refine wpAnyH_take (i := 22) (oi := { dst := some 53, op := Op.binOp BinOp.eql 22 (Operand.tmp 51) (Operand.tmp 52) 22, type := 4, pos := "law.go:37", after := #[{ on := 20, ground := Ground.data }, { on := 21, ground := Ground.data }, { on := 16, ground := Ground.guard }], guard := some (16, true) }) (v := .bool (decide (x = y))) rfl (by kernel_rfl) (by kernel_rfl) (by kernel_rfl) (fun _ _ _ h => h) (Or.inl ⟨by rfl, fun w hSw => by go_simp⟩) hHeld ?_
    try simp only [Act.put, List.setIfInBounds_toArray, List.set_cons_zero, List.set_cons_succ]
    refine wpAnyH_ready (rs := [19]) (by kernel_rfl) (by simp) ?_
    refine AllReadyH.cons (o := { dst := some 50, op := Op.call { callee := Callee.value (Operand.func 16), args := #[Operand.tmp 48, Operand.tmp 49], argTypes := #[27, 27] }, type := 4, pos := "law.go:37", after := #[{ on := 17, ground := Ground.data }, { on := 18, ground := Ground.data }, { on := 16, ground := Ground.chain }, { on := 16, ground := Ground.guard }], guard := some (16, true) }) rfl (fun K hK => ?_) AllReadyH.nil
    go_simp
    refine (same_any x y _ Lx.out Ly.out).mono ?_
    rintro e u3 ⟨rfl, hb⟩
    have HT3 := hide (keepCall hb rfl hHeld)
    dsimp only
    refine hK.out _ _ HT3.out (fun hHeld => ?_)
    clear hK K hb
    try simp only [Act.put, List.setIfInBounds_toArray, List.set_cons_zero, List.set_cons_succ]
    refine wpAnyH_take (i := 23) (oi := { dst := some 54, op := Op.binOp BinOp.eql 4 (Operand.tmp 50) (Operand.tmp 53) 4, type := 4, pos := "law.go:37", after := #[{ on := 19, ground := Ground.data }, { on := 22, ground := Ground.data }, { on := 16, ground := Ground.guard }], guard := some (16, true) }) (v := .bool true) rfl (by kernel_rfl) (by kernel_rfl) (by kernel_rfl) (fun _ _ _ h => h) (Or.inl ⟨by rfl, fun w hSw => by go_simp⟩) hHeld ?_
    try simp only [Act.put, List.setIfInBounds_toArray, List.set_cons_zero, List.set_cons_succ]
    refine wpAnyH_take (i := 24) (oi := { dst := some 55, op := Op.pick (Operand.tmp 47) (Operand.tmp 54) (Operand.const (Value.bool false)), type := 4, pos := "law.go:37", after := #[{ on := 16, ground := Ground.data }, { on := 23, ground := Ground.data }], guard := none }) (v := .bool true) rfl (by kernel_rfl) (by kernel_rfl) (by kernel_rfl) (fun _ _ _ h => h) (Or.inl ⟨by rfl, fun w hSw => by go_simp⟩) hHeld ?_
    try simp only [Act.put, List.setIfInBounds_toArray, List.set_cons_zero, List.set_cons_succ]
    refine wpAnyH_take (i := 25) (oi := { dst := some 56, op := Op.move (Operand.tmp 55), type := 4, pos := "law.go:37", after := #[{ on := 24, ground := Ground.data }, { on := 19, ground := Ground.chain }], guard := none }) (v := .bool true) rfl (by kernel_rfl) (by kernel_rfl) (by kernel_rfl) (fun _ _ _ h => h) (Or.inl ⟨by rfl, fun w hSw => by go_simp⟩) hHeld ?_
    try simp only [Act.put, List.setIfInBounds_toArray, List.set_cons_zero, List.set_cons_succ]
    refine wpAnyH_take (i := 26) (oi := { dst := some 57, op := Op.load 27 (Operand.tmp 8), type := 27, pos := "law.go:37", after := #[{ on := 25, ground := Ground.guard }], guard := some (25, true) }) (v := .agg (lits (x))) rfl (by kernel_rfl) (by kernel_rfl) (by kernel_rfl) (fun _ _ _ h => h) (yields_blk X_15.out (by rfl) 27 _ rfl rfl _ Try.underlying27 rfl cells27) hHeld ?_
    try simp only [Act.put, List.setIfInBounds_toArray, List.set_cons_zero, List.set_cons_succ]
    refine wpAnyH_take (i := 27) (oi := { dst := some 58, op := Op.load 27 (Operand.tmp 9), type := 27, pos := "law.go:37", after := #[{ on := 25, ground := Ground.guard }], guard := some (25, true) }) (v := .agg (lits (y))) rfl (by kernel_rfl) (by kernel_rfl) (by kernel_rfl) (fun _ _ _ h => h) (yields_blk Y_15.out (by rfl) 27 _ rfl rfl _ Try.underlying27 rfl cells27) hHeld ?_
    try simp only [Act.put, List.setIfInBounds_toArray, List.set_cons_zero, List.set_cons_succ]
    refine wpAnyH_take (i := 28) (oi := { dst := some 59, op := Op.move (Operand.tmp 2), type := 4, pos := "law.go:37", after := #[{ on := 25, ground := Ground.guard }], guard := some (25, true) }) (v := .bool false) rfl (by kernel_rfl) (by kernel_rfl) (by kernel_rfl) (fun _ _ _ h => h) (Or.inl ⟨by rfl, fun w hSw => by go_simp⟩) hHeld ?_
    try simp only [Act.put, List.setIfInBounds_toArray, List.set_cons_zero, List.set_cons_succ]
    refine wpAnyH_take (i := 31) (oi := { dst := some 62, op := Op.load 22 (Operand.tmp 12), type := 22, pos := "law.go:37", after := #[{ on := 25, ground := Ground.guard }], guard := some (25, true) }) (v := .agg (vals .u8 32 (byt y))) rfl (by kernel_rfl) (by kernel_rfl) (by kernel_rfl) (fun _ _ _ h => h) (yields_blk V_15.out (by rfl) 22 _ rfl rfl _ Try.underlying22 rfl (by rw [vals_size]; exact cells22)) hHeld ?_
    try simp only [Act.put, List.setIfInBounds_toArray, List.set_cons_zero, List.set_cons_succ]
    refine wpAnyH_ready (rs := [29]) (by kernel_rfl) (by simp) ?_
    refine AllReadyH.cons (o := { dst := some 60, op := Op.call { callee := Callee.value (Operand.func 17), args := #[Operand.tmp 57, Operand.tmp 58, Operand.tmp 59], argTypes := #[27, 27, 4] }, type := 27, pos := "law.go:37", after := #[{ on := 26, ground := Ground.data }, { on := 27, ground := Ground.data }, { on := 28, ground := Ground.data }, { on := 25, ground := Ground.chain }, { on := 25, ground := Ground.guard }], guard := some (25, true) }) rfl (fun K hK => ?_) AllReadyH.nil
    go_simp
    refine (pick_m x y y false _ rfl).mono ?_
    rintro e u4 ⟨rfl, hb⟩
    have HT4 := hide (keepCall hb rfl hHeld)
    dsimp only
    refine hK.out _ _ HT4.out (fun hHeld => ?_)
    clear hK K hb
    try simp only [Act.put, List.setIfInBounds_toArray, List.set_cons_zero, List.set_cons_succ]
    refine wpAnyH_ready (rs := [30]) (by kernel_rfl) (by simp) ?_
    refine AllReadyH.cons (o := { dst := some 61, op := Op.call { callee := Callee.value (Operand.func 14), args := #[Operand.tmp 60], argTypes := #[27] }, type := 22, pos := "law.go:37", after := #[{ on := 29, ground := Ground.data }, { on := 29, ground := Ground.chain }, { on := 25, ground := Ground.guard }], guard := some (25, true) }) rfl (fun K hK => ?_) AllReadyH.nil
    go_simp
    refine (bytes_at y _ _ (by rfl)).mono ?_
    unfold ba
    rintro e u5 ⟨rfl, hb⟩
    have HT5 := hide (keepCall hb rfl hHeld)
    dsimp only
    refine hK.out _ _ HT5.out (fun hHeld => ?_)
    clear hK K hb
    try simp only [Act.put, List.setIfInBounds_toArray, List.set_cons_zero, List.set_cons_succ]
    refine wpAnyH_take (i := 32) (oi := { dst := some 63, op := Op.binOp BinOp.eql 22 (Operand.tmp 61) (Operand.tmp 62) 22, type := 4, pos := "law.go:37", after := #[{ on := 30, ground := Ground.data }, { on := 31, ground := Ground.data }, { on := 25, ground := Ground.guard }], guard := some (25, true) }) (v := .bool true) rfl (by kernel_rfl) (by kernel_rfl) (by kernel_rfl) (fun _ _ _ h => h) (Or.inl ⟨by rfl, fun w hSw => by go_simp⟩) hHeld ?_
    try simp only [Act.put, List.setIfInBounds_toArray, List.set_cons_zero, List.set_cons_succ]
    refine wpAnyH_take (i := 33) (oi := { dst := some 64, op := Op.pick (Operand.tmp 56) (Operand.tmp 63) (Operand.const (Value.bool false)), type := 4, pos := "law.go:37", after := #[{ on := 25, ground := Ground.data }, { on := 32, ground := Ground.data }], guard := none }) (v := .bool true) rfl (by kernel_rfl) (by kernel_rfl) (by kernel_rfl) (fun _ _ _ h => h) (Or.inl ⟨by rfl, fun w hSw => by go_simp⟩) hHeld ?_
    try simp only [Act.put, List.setIfInBounds_toArray, List.set_cons_zero, List.set_cons_succ]
    refine wpAnyH_take (i := 34) (oi := { dst := some 65, op := Op.move (Operand.tmp 64), type := 4, pos := "law.go:37", after := #[{ on := 33, ground := Ground.data }, { on := 30, ground := Ground.chain }], guard := none }) (v := .bool true) rfl (by kernel_rfl) (by kernel_rfl) (by kernel_rfl) (fun _ _ _ h => h) (Or.inl ⟨by rfl, fun w hSw => by go_simp⟩) hHeld ?_
    try simp only [Act.put, List.setIfInBounds_toArray, List.set_cons_zero, List.set_cons_succ]
    refine wpAnyH_take (i := 35) (oi := { dst := some 66, op := Op.load 27 (Operand.tmp 13), type := 27, pos := "law.go:37", after := #[{ on := 34, ground := Ground.guard }], guard := some (34, true) }) (v := .agg (lits (x))) rfl (by kernel_rfl) (by kernel_rfl) (by kernel_rfl) (fun _ _ _ h => h) (yields_blk Z_15.out (by rfl) 27 _ rfl rfl _ Try.underlying27 rfl cells27) hHeld ?_
    try simp only [Act.put, List.setIfInBounds_toArray, List.set_cons_zero, List.set_cons_succ]
    refine wpAnyH_take (i := 37) (oi := { dst := some 68, op := Op.load 22 (Operand.tmp 10), type := 22, pos := "law.go:37", after := #[{ on := 34, ground := Ground.guard }], guard := some (34, true) }) (v := .agg (vals .u8 32 (byt x))) rfl (by kernel_rfl) (by kernel_rfl) (by kernel_rfl) (fun _ _ _ h => h) (yields_blk M_15.out (by rfl) 22 _ rfl rfl _ Try.underlying22 rfl (by rw [vals_size]; exact cells22)) hHeld ?_
    try simp only [Act.put, List.setIfInBounds_toArray, List.set_cons_zero, List.set_cons_succ]
    refine wpAnyH_ready (rs := [36]) (by kernel_rfl) (by simp) ?_
    refine AllReadyH.cons (o := { dst := some 67, op := Op.call { callee := Callee.value (Operand.func 14), args := #[Operand.tmp 66], argTypes := #[27] }, type := 22, pos := "law.go:37", after := #[{ on := 35, ground := Ground.data }, { on := 34, ground := Ground.chain }, { on := 34, ground := Ground.guard }], guard := some (34, true) }) rfl (fun K hK => ?_) AllReadyH.nil
    go_simp
    refine (bytes_at x _ _ (by rfl)).mono ?_
    unfold ba
    rintro e u6 ⟨rfl, hb⟩
    have HT6 := hide (keepCall hb rfl hHeld)
    dsimp only
    refine hK.out _ _ HT6.out (fun hHeld => ?_)
    clear hK K hb
    try simp only [Act.put, List.setIfInBounds_toArray, List.set_cons_zero, List.set_cons_succ]
    refine wpAnyH_take (i := 38) (oi := { dst := some 69, op := Op.binOp BinOp.eql 22 (Operand.tmp 67) (Operand.tmp 68) 22, type := 4, pos := "law.go:37", after := #[{ on := 36, ground := Ground.data }, { on := 37, ground := Ground.data }, { on := 34, ground := Ground.guard }], guard := some (34, true) }) (v := .bool true) rfl (by kernel_rfl) (by kernel_rfl) (by kernel_rfl) (fun _ _ _ h => h) (Or.inl ⟨by rfl, fun w hSw => by go_simp⟩) hHeld ?_
    try simp only [Act.put, List.setIfInBounds_toArray, List.set_cons_zero, List.set_cons_succ]
    refine wpAnyH_take (i := 39) (oi := { dst := some 70, op := Op.pick (Operand.tmp 65) (Operand.tmp 69) (Operand.const (Value.bool false)), type := 4, pos := "law.go:37", after := #[{ on := 34, ground := Ground.data }, { on := 38, ground := Ground.data }], guard := none }) (v := .bool true) rfl (by kernel_rfl) (by kernel_rfl) (by kernel_rfl) (fun _ _ _ h => h) (Or.inl ⟨by rfl, fun w hSw => by go_simp⟩) hHeld ?_
    try simp only [Act.put, List.setIfInBounds_toArray, List.set_cons_zero, List.set_cons_succ]
    refine wpAnyH_take (i := 40) (oi := { dst := some 6, op := Op.assign (Operand.tmp 70), type := 4, pos := "law.go:37", after := #[{ on := 39, ground := Ground.data }, { on := 36, ground := Ground.chain }, { on := 0, ground := Ground.phase }, { on := 1, ground := Ground.phase }, { on := 2, ground := Ground.phase }, { on := 3, ground := Ground.phase }, { on := 4, ground := Ground.phase }, { on := 5, ground := Ground.phase }, { on := 6, ground := Ground.phase }, { on := 7, ground := Ground.phase }, { on := 8, ground := Ground.phase }, { on := 9, ground := Ground.phase }, { on := 10, ground := Ground.phase }, { on := 11, ground := Ground.phase }, { on := 12, ground := Ground.phase }, { on := 13, ground := Ground.phase }, { on := 14, ground := Ground.phase }, { on := 15, ground := Ground.phase }, { on := 16, ground := Ground.phase }, { on := 17, ground := Ground.phase }, { on := 18, ground := Ground.phase }, { on := 19, ground := Ground.phase }, { on := 20, ground := Ground.phase }, { on := 21, ground := Ground.phase }, { on := 22, ground := Ground.phase }, { on := 23, ground := Ground.phase }, { on := 24, ground := Ground.phase }, { on := 25, ground := Ground.phase }, { on := 26, ground := Ground.phase }, { on := 27, ground := Ground.phase }, { on := 28, ground := Ground.phase }, { on := 29, ground := Ground.phase }, { on := 30, ground := Ground.phase }, { on := 31, ground := Ground.phase }, { on := 32, ground := Ground.phase }, { on := 33, ground := Ground.phase }, { on := 34, ground := Ground.phase }, { on := 35, ground := Ground.phase }, { on := 36, ground := Ground.phase }, { on := 37, ground := Ground.phase }, { on := 38, ground := Ground.phase }, { on := 39, ground := Ground.phase }], guard := none }) (v := .bool true) rfl (by kernel_rfl) (by kernel_rfl) (by kernel_rfl) (fun _ _ _ h => h) (Or.inl ⟨by rfl, fun w hSw => by go_simp⟩) hHeld ?_
    try simp only [Act.put, List.setIfInBounds_toArray, List.set_cons_zero, List.set_cons_succ]
    refine wpAnyH_done (by kernel_rfl) ?_ _
    go_wp2
    go_ret
    exact ⟨rfl, keepLow Lw_15.out HT6.out⟩
  case true =>
    go_wp2_with (first | (refine wpList_store_abs rfl 22 _ _ rfl k10.heap.size (vals .u8 32 (byt y)) rfl rfl 22 _ (Blk.new k10 _ _) (by rw [vals_size]; exact cells22) (by rw [vals_size]; rfl) (vals_one _ _ _) ?_; intro k11 Bn Sn; have A_11 := hide (Sn.other _ _ _ (Nat.ne_of_gt A_10.out.lt) (A_10.out.alloc _)); have B_11 := hide (Sn.other _ _ _ (Nat.ne_of_gt B_10.out.lt) (B_10.out.alloc _)); have X_11 := hide (Sn.other _ _ _ (Nat.ne_of_gt X_10.out.lt) (X_10.out.alloc _)); have Y_11 := hide (Sn.other _ _ _ (Nat.ne_of_gt Y_10.out.lt) (Y_10.out.alloc _)); have M_11 := hide (Sn.other _ _ _ (Nat.ne_of_gt M_10.out.lt) (M_10.out.alloc _)); have Lw_11 := hide (Sn.low _ _ (Lw_10.out.alloc Lw_10.out.size _) Lw_10.out.size); have N_11 := hide Bn; clear Bn Sn A_10 B_10 X_10 Y_10 M_10 Lw_10) | (refine wpList_load_row rfl 22 _ rfl (k10.heap.size) rfl 22 _ (0, 0) _ N_11.out Try.underlying22 rfl (by rw [vals_size]; exact cells22) ?_) | (refine wpList_store_abs rfl 22 _ _ rfl k11.heap.size (vals .u8 32 (byt y)) rfl rfl 22 _ (Blk.new k11 _ _) (by rw [vals_size]; exact cells22) (by rw [vals_size]; rfl) (vals_one _ _ _) ?_; intro k12 Bn Sn; have A_12 := hide (Sn.other _ _ _ (Nat.ne_of_gt A_11.out.lt) (A_11.out.alloc _)); have neA := hide (Nat.ne_of_gt A_11.out.lt); have B_12 := hide (Sn.other _ _ _ (Nat.ne_of_gt B_11.out.lt) (B_11.out.alloc _)); have neB := hide (Nat.ne_of_gt B_11.out.lt); have X_12 := hide (Sn.other _ _ _ (Nat.ne_of_gt X_11.out.lt) (X_11.out.alloc _)); have neX := hide (Nat.ne_of_gt X_11.out.lt); have Y_12 := hide (Sn.other _ _ _ (Nat.ne_of_gt Y_11.out.lt) (Y_11.out.alloc _)); have neY := hide (Nat.ne_of_gt Y_11.out.lt); have M_12 := hide (Sn.other _ _ _ (Nat.ne_of_gt M_11.out.lt) (M_11.out.alloc _)); have neM := hide (Nat.ne_of_gt M_11.out.lt); have N_12 := hide (Sn.other _ _ _ (Nat.ne_of_gt N_11.out.lt) (N_11.out.alloc _)); have neN := hide (Nat.ne_of_gt N_11.out.lt); have Lw_12 := hide (Sn.low _ _ (Lw_11.out.alloc Lw_11.out.size _) Lw_11.out.size); have leW := hide Lw_11.out.size; have V_12 := hide Bn; clear Bn Sn A_11 B_11 X_11 Y_11 M_11 N_11 Lw_11) | (refine wpList_load_row rfl 22 _ rfl (k7.heap.size) rfl 22 _ (0, 0) _ M_12.out Try.underlying22 rfl (by rw [vals_size]; exact cells22) ?_) | (refine wpList_store_abs rfl 22 _ _ rfl (k11.heap.size) (vals .u8 32 (byt x)) rfl rfl 22 _ V_12.out (by rw [vals_size]; exact cells22) (by rw [vals_size, vals_size]) (vals_one _ _ _) ?_; intro k13 Bn Sn; have A_13 := hide (Sn.other _ _ _ neA.out A_12.out); have B_13 := hide (Sn.other _ _ _ neB.out B_12.out); have X_13 := hide (Sn.other _ _ _ neX.out X_12.out); have Y_13 := hide (Sn.other _ _ _ neY.out Y_12.out); have M_13 := hide (Sn.other _ _ _ neM.out M_12.out); have N_13 := hide (Sn.other _ _ _ neN.out N_12.out); have Lw_13 := hide (Sn.low _ _ Lw_12.out leW.out); have V_13 := hide Bn; clear Bn Sn A_12 B_12 X_12 Y_12 M_12 N_12 V_12 Lw_12) | (refine wpList_load_row rfl 27 _ rfl (k2.heap.size) rfl 27 _ (0, 0) _ X_13.out Try.underlying27 rfl cells27 ?_))
    clear neA neB neX neY neM neN leW
    refine (bytes_at x _ _ (by rfl)).mono ?_
    rintro e k14 ⟨rfl, hb⟩
    have A_14 := hide (A_13.out.call hb)
    have B_14 := hide (B_13.out.call hb)
    have X_14 := hide (X_13.out.call hb)
    have Y_14 := hide (Y_13.out.call hb)
    have M_14 := hide (M_13.out.call hb)
    have N_14 := hide (N_13.out.call hb)
    have V_14 := hide (V_13.out.call hb)
    have Lw_14 := hide (Lw_13.out.trans (hb.mono Lw_13.out.size))
    clear A_13 B_13 X_13 Y_13 M_13 N_13 V_13 Lw_13 hb
    unfold ba
    dsimp only
    go_wp2_with fail
    refine (load_at (byt x) _ _ (by rfl) (byt_lt x)).mono ?_
    rw [nb_back x Lx.out, fe_def x]
    rintro e k15 ⟨rfl, hb⟩
    have A_15 := hide (A_14.out.call hb)
    have B_15 := hide (B_14.out.call hb)
    have X_15 := hide (X_14.out.call hb)
    have Y_15 := hide (Y_14.out.call hb)
    have M_15 := hide (M_14.out.call hb)
    have N_15 := hide (N_14.out.call hb)
    have V_15 := hide (V_14.out.call hb)
    have Lw_15 := hide (Lw_14.out.trans (hb.mono Lw_14.out.size))
    clear A_14 B_14 X_14 Y_14 M_14 N_14 V_14 Lw_14 hb
    dsimp only
    have Z_16 := hide (Blk.new k15 (lits x) 27)
    have A_16 := hide (A_15.out.alloc (.cells (lits x) 27))
    have B_16 := hide (B_15.out.alloc (.cells (lits x) 27))
    have X_16 := hide (X_15.out.alloc (.cells (lits x) 27))
    have Y_16 := hide (Y_15.out.alloc (.cells (lits x) 27))
    have M_16 := hide (M_15.out.alloc (.cells (lits x) 27))
    have N_16 := hide (N_15.out.alloc (.cells (lits x) 27))
    have V_16 := hide (V_15.out.alloc (.cells (lits x) 27))
    have Lw_16 := hide (Lw_15.out.alloc Lw_15.out.size (.cells (lits x) 27))
    clear A_15 B_15 X_15 Y_15 M_15 N_15 V_15 Lw_15
    go_wp2
    generalize k15.alloc (.cells (lits x) 27) = w0 at *
    have he := eq_vals' (byt x) (byt x) true (all_self _)
    have hxy := eq_vals' (byt x) (byt y) (decide (x = y)) (all_bytes x y Lx.out Ly.out)
    have hb0 := byt0_lt x
    refine wp_region_held_drew (S := fun w' => Below w0.heap.size w0 w') (by kernel_rfl) (Below.refl _ _).drew (fun hHeld => ?_)
    refine wpAnyH_take (i := 0) (oi := { dst := some 31, op := Op.move (Operand.tmp 7), type := 4, pos := "law.go:37", after := #[], guard := none }) (v := .bool true) rfl (by kernel_rfl) (by kernel_rfl) (by kernel_rfl) (fun _ _ _ h => h) (Or.inl ⟨by rfl, fun w hSw => by go_simp⟩) hHeld ?_
    try simp only [Act.put, List.setIfInBounds_toArray, List.set_cons_zero, List.set_cons_succ]
    refine wpAnyH_take (i := 1) (oi := { dst := some 32, op := Op.move (Operand.tmp 31), type := 4, pos := "law.go:37", after := #[{ on := 0, ground := Ground.data }], guard := none }) (v := .bool true) rfl (by kernel_rfl) (by kernel_rfl) (by kernel_rfl) (fun _ _ _ h => h) (Or.inl ⟨by rfl, fun w hSw => by go_simp⟩) hHeld ?_
    try simp only [Act.put, List.setIfInBounds_toArray, List.set_cons_zero, List.set_cons_succ]
    refine wpAnyH_take (i := 2) (oi := { dst := some 33, op := Op.load 27 (Operand.tmp 8), type := 27, pos := "law.go:37", after := #[{ on := 1, ground := Ground.guard }], guard := some (1, true) }) (v := .agg (lits (x))) rfl (by kernel_rfl) (by kernel_rfl) (by kernel_rfl) (fun _ _ _ h => h) (yields_blk X_16.out (by rfl) 27 _ rfl rfl _ Try.underlying27 rfl cells27) hHeld ?_
    try simp only [Act.put, List.setIfInBounds_toArray, List.set_cons_zero, List.set_cons_succ]
    refine wpAnyH_take (i := 4) (oi := { dst := some 35, op := Op.load 22 (Operand.tmp 10), type := 22, pos := "law.go:37", after := #[{ on := 1, ground := Ground.guard }], guard := some (1, true) }) (v := .agg (vals .u8 32 (byt x))) rfl (by kernel_rfl) (by kernel_rfl) (by kernel_rfl) (fun _ _ _ h => h) (yields_blk M_16.out (by rfl) 22 _ rfl rfl _ Try.underlying22 rfl (by rw [vals_size]; exact cells22)) hHeld ?_
    try simp only [Act.put, List.setIfInBounds_toArray, List.set_cons_zero, List.set_cons_succ]
    refine wpAnyH_ready (rs := [3]) (by kernel_rfl) (by simp) ?_
    refine AllReadyH.cons (o := { dst := some 34, op := Op.call { callee := Callee.value (Operand.func 14), args := #[Operand.tmp 33], argTypes := #[27] }, type := 22, pos := "law.go:37", after := #[{ on := 2, ground := Ground.data }, { on := 1, ground := Ground.chain }, { on := 1, ground := Ground.guard }], guard := some (1, true) }) rfl (fun K hK => ?_) AllReadyH.nil
    go_simp
    refine (bytes_at x _ _ (by rfl)).mono ?_
    unfold ba
    rintro e u1 ⟨rfl, hb⟩
    have HT1 := hide (keepCall hb rfl hHeld)
    dsimp only
    refine hK.out _ _ HT1.out (fun hHeld => ?_)
    clear hK K hb
    try simp only [Act.put, List.setIfInBounds_toArray, List.set_cons_zero, List.set_cons_succ]
    refine wpAnyH_take (i := 5) (oi := { dst := some 36, op := Op.binOp BinOp.eql 22 (Operand.tmp 34) (Operand.tmp 35) 22, type := 4, pos := "law.go:37", after := #[{ on := 3, ground := Ground.data }, { on := 4, ground := Ground.data }, { on := 1, ground := Ground.guard }], guard := some (1, true) }) (v := .bool true) rfl (by kernel_rfl) (by kernel_rfl) (by kernel_rfl) (fun _ _ _ h => h) (Or.inl ⟨by rfl, fun w hSw => by go_simp⟩) hHeld ?_
    try simp only [Act.put, List.setIfInBounds_toArray, List.set_cons_zero, List.set_cons_succ]
    refine wpAnyH_take (i := 6) (oi := { dst := some 37, op := Op.pick (Operand.tmp 32) (Operand.tmp 36) (Operand.const (Value.bool false)), type := 4, pos := "law.go:37", after := #[{ on := 1, ground := Ground.data }, { on := 5, ground := Ground.data }], guard := none }) (v := .bool true) rfl (by kernel_rfl) (by kernel_rfl) (by kernel_rfl) (fun _ _ _ h => h) (Or.inl ⟨by rfl, fun w hSw => by go_simp⟩) hHeld ?_
    try simp only [Act.put, List.setIfInBounds_toArray, List.set_cons_zero, List.set_cons_succ]
    refine wpAnyH_take (i := 7) (oi := { dst := some 38, op := Op.move (Operand.tmp 37), type := 4, pos := "law.go:37", after := #[{ on := 6, ground := Ground.data }, { on := 3, ground := Ground.chain }], guard := none }) (v := .bool true) rfl (by kernel_rfl) (by kernel_rfl) (by kernel_rfl) (fun _ _ _ h => h) (Or.inl ⟨by rfl, fun w hSw => by go_simp⟩) hHeld ?_
    try simp only [Act.put, List.setIfInBounds_toArray, List.set_cons_zero, List.set_cons_succ]
    refine wpAnyH_take (i := 8) (oi := { dst := some 39, op := Op.load 27 (Operand.tmp 8), type := 27, pos := "law.go:37", after := #[{ on := 7, ground := Ground.guard }], guard := some (7, true) }) (v := .agg (lits (x))) rfl (by kernel_rfl) (by kernel_rfl) (by kernel_rfl) (fun _ _ _ h => h) (yields_blk X_16.out (by rfl) 27 _ rfl rfl _ Try.underlying27 rfl cells27) hHeld ?_
    try simp only [Act.put, List.setIfInBounds_toArray, List.set_cons_zero, List.set_cons_succ]
    refine wpAnyH_take (i := 10) (oi := { dst := some 41, op := Op.indexAddr 22 (Operand.tmp 10) (Operand.const (Value.int IntKind.i64 0)), type := 0, pos := "law.go:37", after := #[{ on := 7, ground := Ground.guard }], guard := some (7, true) }) (v := .pointer (some ⟨k7.heap.size, 0, none⟩)) rfl (by kernel_rfl) (by kernel_rfl) (by kernel_rfl) (fun _ _ _ h => h) (Or.inl ⟨by rfl, fun w hSw => by go_simp⟩) hHeld ?_
    try simp only [Act.put, List.setIfInBounds_toArray, List.set_cons_zero, List.set_cons_succ]
    refine wpAnyH_take (i := 11) (oi := { dst := some 42, op := Op.load 5 (Operand.tmp 41), type := 5, pos := "law.go:37", after := #[{ on := 10, ground := Ground.data }, { on := 7, ground := Ground.guard }], guard := some (7, true) }) (v := .int .u8 ((byt x 0 : Nat) : Int)) rfl (by kernel_rfl) (by kernel_rfl) (by kernel_rfl) (fun _ _ _ h => h) (Or.inl ⟨by rfl, fun w hSw => by have c0 := (M_16.out.call hSw).cell 0; rw [vals_get _ _ _ _ (by omega)] at c0; go_simp⟩) hHeld ?_
    try simp only [Act.put, List.setIfInBounds_toArray, List.set_cons_zero, List.set_cons_succ]
    refine wpAnyH_take (i := 12) (oi := { dst := some 43, op := Op.binOp BinOp.rem 5 (Operand.tmp 42) (Operand.const (Value.int IntKind.u8 2)) 5, type := 5, pos := "law.go:37", after := #[{ on := 11, ground := Ground.data }, { on := 7, ground := Ground.guard }], guard := some (7, true) }) (v := .int .u8 ((byt x 0 % 2 : Nat) : Int)) rfl (by kernel_rfl) (by kernel_rfl) (by kernel_rfl) (fun _ _ _ h => h) (Or.inl ⟨by rfl, fun w hSw => by go_simp; exact tmod2 _⟩) hHeld ?_
    try simp only [Act.put, List.setIfInBounds_toArray, List.set_cons_zero, List.set_cons_succ]
    refine wpAnyH_take (i := 13) (oi := { dst := some 44, op := Op.binOp BinOp.eql 5 (Operand.tmp 43) (Operand.const (Value.int IntKind.u8 1)) 5, type := 4, pos := "law.go:37", after := #[{ on := 12, ground := Ground.data }, { on := 7, ground := Ground.guard }], guard := some (7, true) }) (v := .bool (decide (x % 2 = 1))) rfl (by kernel_rfl) (by kernel_rfl) (by kernel_rfl) (fun _ _ _ h => h) (Or.inl ⟨by rfl, fun w hSw => by go_simp; exact eq_dec1 x⟩) hHeld ?_
    try simp only [Act.put, List.setIfInBounds_toArray, List.set_cons_zero, List.set_cons_succ]
    refine wpAnyH_ready (rs := [9]) (by kernel_rfl) (by simp) ?_
    refine AllReadyH.cons (o := { dst := some 40, op := Op.call { callee := Callee.value (Operand.func 15), args := #[Operand.tmp 39], argTypes := #[27] }, type := 4, pos := "law.go:37", after := #[{ on := 8, ground := Ground.data }, { on := 7, ground := Ground.chain }, { on := 7, ground := Ground.guard }], guard := some (7, true) }) rfl (fun K hK => ?_) AllReadyH.nil
    go_simp
    refine (odd_any x _).mono ?_
    rintro e u2 ⟨rfl, hb⟩
    have HT2 := hide (keepCall hb rfl hHeld)
    dsimp only
    refine hK.out _ _ HT2.out (fun hHeld => ?_)
    clear hK K hb
    try simp only [Act.put, List.setIfInBounds_toArray, List.set_cons_zero, List.set_cons_succ]
    refine wpAnyH_take (i := 14) (oi := { dst := some 45, op := Op.binOp BinOp.eql 4 (Operand.tmp 40) (Operand.tmp 44) 4, type := 4, pos := "law.go:37", after := #[{ on := 9, ground := Ground.data }, { on := 13, ground := Ground.data }, { on := 7, ground := Ground.guard }], guard := some (7, true) }) (v := .bool true) rfl (by kernel_rfl) (by kernel_rfl) (by kernel_rfl) (fun _ _ _ h => h) (Or.inl ⟨by rfl, fun w hSw => by go_simp⟩) hHeld ?_
    try simp only [Act.put, List.setIfInBounds_toArray, List.set_cons_zero, List.set_cons_succ]
    refine wpAnyH_take (i := 15) (oi := { dst := some 46, op := Op.pick (Operand.tmp 38) (Operand.tmp 45) (Operand.const (Value.bool false)), type := 4, pos := "law.go:37", after := #[{ on := 7, ground := Ground.data }, { on := 14, ground := Ground.data }], guard := none }) (v := .bool true) rfl (by kernel_rfl) (by kernel_rfl) (by kernel_rfl) (fun _ _ _ h => h) (Or.inl ⟨by rfl, fun w hSw => by go_simp⟩) hHeld ?_
    try simp only [Act.put, List.setIfInBounds_toArray, List.set_cons_zero, List.set_cons_succ]
    refine wpAnyH_take (i := 16) (oi := { dst := some 47, op := Op.move (Operand.tmp 46), type := 4, pos := "law.go:37", after := #[{ on := 15, ground := Ground.data }, { on := 9, ground := Ground.chain }], guard := none }) (v := .bool true) rfl (by kernel_rfl) (by kernel_rfl) (by kernel_rfl) (fun _ _ _ h => h) (Or.inl ⟨by rfl, fun w hSw => by go_simp⟩) hHeld ?_
    try simp only [Act.put, List.setIfInBounds_toArray, List.set_cons_zero, List.set_cons_succ]
    refine wpAnyH_take (i := 17) (oi := { dst := some 48, op := Op.load 27 (Operand.tmp 8), type := 27, pos := "law.go:37", after := #[{ on := 16, ground := Ground.guard }], guard := some (16, true) }) (v := .agg (lits (x))) rfl (by kernel_rfl) (by kernel_rfl) (by kernel_rfl) (fun _ _ _ h => h) (yields_blk X_16.out (by rfl) 27 _ rfl rfl _ Try.underlying27 rfl cells27) hHeld ?_
    try simp only [Act.put, List.setIfInBounds_toArray, List.set_cons_zero, List.set_cons_succ]
    refine wpAnyH_take (i := 18) (oi := { dst := some 49, op := Op.load 27 (Operand.tmp 9), type := 27, pos := "law.go:37", after := #[{ on := 16, ground := Ground.guard }], guard := some (16, true) }) (v := .agg (lits (y))) rfl (by kernel_rfl) (by kernel_rfl) (by kernel_rfl) (fun _ _ _ h => h) (yields_blk Y_16.out (by rfl) 27 _ rfl rfl _ Try.underlying27 rfl cells27) hHeld ?_
    try simp only [Act.put, List.setIfInBounds_toArray, List.set_cons_zero, List.set_cons_succ]
    refine wpAnyH_take (i := 20) (oi := { dst := some 51, op := Op.load 22 (Operand.tmp 10), type := 22, pos := "law.go:37", after := #[{ on := 16, ground := Ground.guard }], guard := some (16, true) }) (v := .agg (vals .u8 32 (byt x))) rfl (by kernel_rfl) (by kernel_rfl) (by kernel_rfl) (fun _ _ _ h => h) (yields_blk M_16.out (by rfl) 22 _ rfl rfl _ Try.underlying22 rfl (by rw [vals_size]; exact cells22)) hHeld ?_
    try simp only [Act.put, List.setIfInBounds_toArray, List.set_cons_zero, List.set_cons_succ]
    refine wpAnyH_take (i := 21) (oi := { dst := some 52, op := Op.load 22 (Operand.tmp 11), type := 22, pos := "law.go:37", after := #[{ on := 16, ground := Ground.guard }], guard := some (16, true) }) (v := .agg (vals .u8 32 (byt y))) rfl (by kernel_rfl) (by kernel_rfl) (by kernel_rfl) (fun _ _ _ h => h) (yields_blk N_16.out (by rfl) 22 _ rfl rfl _ Try.underlying22 rfl (by rw [vals_size]; exact cells22)) hHeld ?_
    try simp only [Act.put, List.setIfInBounds_toArray, List.set_cons_zero, List.set_cons_succ]
    refine wpAnyH_take (i := 22) (oi := { dst := some 53, op := Op.binOp BinOp.eql 22 (Operand.tmp 51) (Operand.tmp 52) 22, type := 4, pos := "law.go:37", after := #[{ on := 20, ground := Ground.data }, { on := 21, ground := Ground.data }, { on := 16, ground := Ground.guard }], guard := some (16, true) }) (v := .bool (decide (x = y))) rfl (by kernel_rfl) (by kernel_rfl) (by kernel_rfl) (fun _ _ _ h => h) (Or.inl ⟨by rfl, fun w hSw => by go_simp⟩) hHeld ?_
    try simp only [Act.put, List.setIfInBounds_toArray, List.set_cons_zero, List.set_cons_succ]
    refine wpAnyH_ready (rs := [19]) (by kernel_rfl) (by simp) ?_
    refine AllReadyH.cons (o := { dst := some 50, op := Op.call { callee := Callee.value (Operand.func 16), args := #[Operand.tmp 48, Operand.tmp 49], argTypes := #[27, 27] }, type := 4, pos := "law.go:37", after := #[{ on := 17, ground := Ground.data }, { on := 18, ground := Ground.data }, { on := 16, ground := Ground.chain }, { on := 16, ground := Ground.guard }], guard := some (16, true) }) rfl (fun K hK => ?_) AllReadyH.nil
    go_simp
    refine (same_any x y _ Lx.out Ly.out).mono ?_
    rintro e u3 ⟨rfl, hb⟩
    have HT3 := hide (keepCall hb rfl hHeld)
    dsimp only
    refine hK.out _ _ HT3.out (fun hHeld => ?_)
    clear hK K hb
    try simp only [Act.put, List.setIfInBounds_toArray, List.set_cons_zero, List.set_cons_succ]
    refine wpAnyH_take (i := 23) (oi := { dst := some 54, op := Op.binOp BinOp.eql 4 (Operand.tmp 50) (Operand.tmp 53) 4, type := 4, pos := "law.go:37", after := #[{ on := 19, ground := Ground.data }, { on := 22, ground := Ground.data }, { on := 16, ground := Ground.guard }], guard := some (16, true) }) (v := .bool true) rfl (by kernel_rfl) (by kernel_rfl) (by kernel_rfl) (fun _ _ _ h => h) (Or.inl ⟨by rfl, fun w hSw => by go_simp⟩) hHeld ?_
    try simp only [Act.put, List.setIfInBounds_toArray, List.set_cons_zero, List.set_cons_succ]
    refine wpAnyH_take (i := 24) (oi := { dst := some 55, op := Op.pick (Operand.tmp 47) (Operand.tmp 54) (Operand.const (Value.bool false)), type := 4, pos := "law.go:37", after := #[{ on := 16, ground := Ground.data }, { on := 23, ground := Ground.data }], guard := none }) (v := .bool true) rfl (by kernel_rfl) (by kernel_rfl) (by kernel_rfl) (fun _ _ _ h => h) (Or.inl ⟨by rfl, fun w hSw => by go_simp⟩) hHeld ?_
    try simp only [Act.put, List.setIfInBounds_toArray, List.set_cons_zero, List.set_cons_succ]
    refine wpAnyH_take (i := 25) (oi := { dst := some 56, op := Op.move (Operand.tmp 55), type := 4, pos := "law.go:37", after := #[{ on := 24, ground := Ground.data }, { on := 19, ground := Ground.chain }], guard := none }) (v := .bool true) rfl (by kernel_rfl) (by kernel_rfl) (by kernel_rfl) (fun _ _ _ h => h) (Or.inl ⟨by rfl, fun w hSw => by go_simp⟩) hHeld ?_
    try simp only [Act.put, List.setIfInBounds_toArray, List.set_cons_zero, List.set_cons_succ]
    refine wpAnyH_take (i := 26) (oi := { dst := some 57, op := Op.load 27 (Operand.tmp 8), type := 27, pos := "law.go:37", after := #[{ on := 25, ground := Ground.guard }], guard := some (25, true) }) (v := .agg (lits (x))) rfl (by kernel_rfl) (by kernel_rfl) (by kernel_rfl) (fun _ _ _ h => h) (yields_blk X_16.out (by rfl) 27 _ rfl rfl _ Try.underlying27 rfl cells27) hHeld ?_
    try simp only [Act.put, List.setIfInBounds_toArray, List.set_cons_zero, List.set_cons_succ]
    refine wpAnyH_take (i := 27) (oi := { dst := some 58, op := Op.load 27 (Operand.tmp 9), type := 27, pos := "law.go:37", after := #[{ on := 25, ground := Ground.guard }], guard := some (25, true) }) (v := .agg (lits (y))) rfl (by kernel_rfl) (by kernel_rfl) (by kernel_rfl) (fun _ _ _ h => h) (yields_blk Y_16.out (by rfl) 27 _ rfl rfl _ Try.underlying27 rfl cells27) hHeld ?_
    try simp only [Act.put, List.setIfInBounds_toArray, List.set_cons_zero, List.set_cons_succ]
    refine wpAnyH_take (i := 28) (oi := { dst := some 59, op := Op.move (Operand.tmp 2), type := 4, pos := "law.go:37", after := #[{ on := 25, ground := Ground.guard }], guard := some (25, true) }) (v := .bool true) rfl (by kernel_rfl) (by kernel_rfl) (by kernel_rfl) (fun _ _ _ h => h) (Or.inl ⟨by rfl, fun w hSw => by go_simp⟩) hHeld ?_
    try simp only [Act.put, List.setIfInBounds_toArray, List.set_cons_zero, List.set_cons_succ]
    refine wpAnyH_take (i := 31) (oi := { dst := some 62, op := Op.load 22 (Operand.tmp 12), type := 22, pos := "law.go:37", after := #[{ on := 25, ground := Ground.guard }], guard := some (25, true) }) (v := .agg (vals .u8 32 (byt x))) rfl (by kernel_rfl) (by kernel_rfl) (by kernel_rfl) (fun _ _ _ h => h) (yields_blk V_16.out (by rfl) 22 _ rfl rfl _ Try.underlying22 rfl (by rw [vals_size]; exact cells22)) hHeld ?_
    try simp only [Act.put, List.setIfInBounds_toArray, List.set_cons_zero, List.set_cons_succ]
    refine wpAnyH_ready (rs := [29]) (by kernel_rfl) (by simp) ?_
    refine AllReadyH.cons (o := { dst := some 60, op := Op.call { callee := Callee.value (Operand.func 17), args := #[Operand.tmp 57, Operand.tmp 58, Operand.tmp 59], argTypes := #[27, 27, 4] }, type := 27, pos := "law.go:37", after := #[{ on := 26, ground := Ground.data }, { on := 27, ground := Ground.data }, { on := 28, ground := Ground.data }, { on := 25, ground := Ground.chain }, { on := 25, ground := Ground.guard }], guard := some (25, true) }) rfl (fun K hK => ?_) AllReadyH.nil
    go_simp
    refine (pick_m x y x true _ rfl).mono ?_
    rintro e u4 ⟨rfl, hb⟩
    have HT4 := hide (keepCall hb rfl hHeld)
    dsimp only
    refine hK.out _ _ HT4.out (fun hHeld => ?_)
    clear hK K hb
    try simp only [Act.put, List.setIfInBounds_toArray, List.set_cons_zero, List.set_cons_succ]
    refine wpAnyH_ready (rs := [30]) (by kernel_rfl) (by simp) ?_
    refine AllReadyH.cons (o := { dst := some 61, op := Op.call { callee := Callee.value (Operand.func 14), args := #[Operand.tmp 60], argTypes := #[27] }, type := 22, pos := "law.go:37", after := #[{ on := 29, ground := Ground.data }, { on := 29, ground := Ground.chain }, { on := 25, ground := Ground.guard }], guard := some (25, true) }) rfl (fun K hK => ?_) AllReadyH.nil
    go_simp
    refine (bytes_at x _ _ (by rfl)).mono ?_
    unfold ba
    rintro e u5 ⟨rfl, hb⟩
    have HT5 := hide (keepCall hb rfl hHeld)
    dsimp only
    refine hK.out _ _ HT5.out (fun hHeld => ?_)
    clear hK K hb
    try simp only [Act.put, List.setIfInBounds_toArray, List.set_cons_zero, List.set_cons_succ]
    refine wpAnyH_take (i := 32) (oi := { dst := some 63, op := Op.binOp BinOp.eql 22 (Operand.tmp 61) (Operand.tmp 62) 22, type := 4, pos := "law.go:37", after := #[{ on := 30, ground := Ground.data }, { on := 31, ground := Ground.data }, { on := 25, ground := Ground.guard }], guard := some (25, true) }) (v := .bool true) rfl (by kernel_rfl) (by kernel_rfl) (by kernel_rfl) (fun _ _ _ h => h) (Or.inl ⟨by rfl, fun w hSw => by go_simp⟩) hHeld ?_
    try simp only [Act.put, List.setIfInBounds_toArray, List.set_cons_zero, List.set_cons_succ]
    refine wpAnyH_take (i := 33) (oi := { dst := some 64, op := Op.pick (Operand.tmp 56) (Operand.tmp 63) (Operand.const (Value.bool false)), type := 4, pos := "law.go:37", after := #[{ on := 25, ground := Ground.data }, { on := 32, ground := Ground.data }], guard := none }) (v := .bool true) rfl (by kernel_rfl) (by kernel_rfl) (by kernel_rfl) (fun _ _ _ h => h) (Or.inl ⟨by rfl, fun w hSw => by go_simp⟩) hHeld ?_
    try simp only [Act.put, List.setIfInBounds_toArray, List.set_cons_zero, List.set_cons_succ]
    refine wpAnyH_take (i := 34) (oi := { dst := some 65, op := Op.move (Operand.tmp 64), type := 4, pos := "law.go:37", after := #[{ on := 33, ground := Ground.data }, { on := 30, ground := Ground.chain }], guard := none }) (v := .bool true) rfl (by kernel_rfl) (by kernel_rfl) (by kernel_rfl) (fun _ _ _ h => h) (Or.inl ⟨by rfl, fun w hSw => by go_simp⟩) hHeld ?_
    try simp only [Act.put, List.setIfInBounds_toArray, List.set_cons_zero, List.set_cons_succ]
    refine wpAnyH_take (i := 35) (oi := { dst := some 66, op := Op.load 27 (Operand.tmp 13), type := 27, pos := "law.go:37", after := #[{ on := 34, ground := Ground.guard }], guard := some (34, true) }) (v := .agg (lits (x))) rfl (by kernel_rfl) (by kernel_rfl) (by kernel_rfl) (fun _ _ _ h => h) (yields_blk Z_16.out (by rfl) 27 _ rfl rfl _ Try.underlying27 rfl cells27) hHeld ?_
    try simp only [Act.put, List.setIfInBounds_toArray, List.set_cons_zero, List.set_cons_succ]
    refine wpAnyH_take (i := 37) (oi := { dst := some 68, op := Op.load 22 (Operand.tmp 10), type := 22, pos := "law.go:37", after := #[{ on := 34, ground := Ground.guard }], guard := some (34, true) }) (v := .agg (vals .u8 32 (byt x))) rfl (by kernel_rfl) (by kernel_rfl) (by kernel_rfl) (fun _ _ _ h => h) (yields_blk M_16.out (by rfl) 22 _ rfl rfl _ Try.underlying22 rfl (by rw [vals_size]; exact cells22)) hHeld ?_
    try simp only [Act.put, List.setIfInBounds_toArray, List.set_cons_zero, List.set_cons_succ]
    refine wpAnyH_ready (rs := [36]) (by kernel_rfl) (by simp) ?_
    refine AllReadyH.cons (o := { dst := some 67, op := Op.call { callee := Callee.value (Operand.func 14), args := #[Operand.tmp 66], argTypes := #[27] }, type := 22, pos := "law.go:37", after := #[{ on := 35, ground := Ground.data }, { on := 34, ground := Ground.chain }, { on := 34, ground := Ground.guard }], guard := some (34, true) }) rfl (fun K hK => ?_) AllReadyH.nil
    go_simp
    refine (bytes_at x _ _ (by rfl)).mono ?_
    unfold ba
    rintro e u6 ⟨rfl, hb⟩
    have HT6 := hide (keepCall hb rfl hHeld)
    dsimp only
    refine hK.out _ _ HT6.out (fun hHeld => ?_)
    clear hK K hb
    try simp only [Act.put, List.setIfInBounds_toArray, List.set_cons_zero, List.set_cons_succ]
    refine wpAnyH_take (i := 38) (oi := { dst := some 69, op := Op.binOp BinOp.eql 22 (Operand.tmp 67) (Operand.tmp 68) 22, type := 4, pos := "law.go:37", after := #[{ on := 36, ground := Ground.data }, { on := 37, ground := Ground.data }, { on := 34, ground := Ground.guard }], guard := some (34, true) }) (v := .bool true) rfl (by kernel_rfl) (by kernel_rfl) (by kernel_rfl) (fun _ _ _ h => h) (Or.inl ⟨by rfl, fun w hSw => by go_simp⟩) hHeld ?_
    try simp only [Act.put, List.setIfInBounds_toArray, List.set_cons_zero, List.set_cons_succ]
    refine wpAnyH_take (i := 39) (oi := { dst := some 70, op := Op.pick (Operand.tmp 65) (Operand.tmp 69) (Operand.const (Value.bool false)), type := 4, pos := "law.go:37", after := #[{ on := 34, ground := Ground.data }, { on := 38, ground := Ground.data }], guard := none }) (v := .bool true) rfl (by kernel_rfl) (by kernel_rfl) (by kernel_rfl) (fun _ _ _ h => h) (Or.inl ⟨by rfl, fun w hSw => by go_simp⟩) hHeld ?_
    try simp only [Act.put, List.setIfInBounds_toArray, List.set_cons_zero, List.set_cons_succ]
    refine wpAnyH_take (i := 40) (oi := { dst := some 6, op := Op.assign (Operand.tmp 70), type := 4, pos := "law.go:37", after := #[{ on := 39, ground := Ground.data }, { on := 36, ground := Ground.chain }, { on := 0, ground := Ground.phase }, { on := 1, ground := Ground.phase }, { on := 2, ground := Ground.phase }, { on := 3, ground := Ground.phase }, { on := 4, ground := Ground.phase }, { on := 5, ground := Ground.phase }, { on := 6, ground := Ground.phase }, { on := 7, ground := Ground.phase }, { on := 8, ground := Ground.phase }, { on := 9, ground := Ground.phase }, { on := 10, ground := Ground.phase }, { on := 11, ground := Ground.phase }, { on := 12, ground := Ground.phase }, { on := 13, ground := Ground.phase }, { on := 14, ground := Ground.phase }, { on := 15, ground := Ground.phase }, { on := 16, ground := Ground.phase }, { on := 17, ground := Ground.phase }, { on := 18, ground := Ground.phase }, { on := 19, ground := Ground.phase }, { on := 20, ground := Ground.phase }, { on := 21, ground := Ground.phase }, { on := 22, ground := Ground.phase }, { on := 23, ground := Ground.phase }, { on := 24, ground := Ground.phase }, { on := 25, ground := Ground.phase }, { on := 26, ground := Ground.phase }, { on := 27, ground := Ground.phase }, { on := 28, ground := Ground.phase }, { on := 29, ground := Ground.phase }, { on := 30, ground := Ground.phase }, { on := 31, ground := Ground.phase }, { on := 32, ground := Ground.phase }, { on := 33, ground := Ground.phase }, { on := 34, ground := Ground.phase }, { on := 35, ground := Ground.phase }, { on := 36, ground := Ground.phase }, { on := 37, ground := Ground.phase }, { on := 38, ground := Ground.phase }, { on := 39, ground := Ground.phase }], guard := none }) (v := .bool true) rfl (by kernel_rfl) (by kernel_rfl) (by kernel_rfl) (fun _ _ _ h => h) (Or.inl ⟨by rfl, fun w hSw => by go_simp⟩) hHeld ?_
    try simp only [Act.put, List.setIfInBounds_toArray, List.set_cons_zero, List.set_cons_succ]
    refine wpAnyH_done (by kernel_rfl) ?_ _
    go_wp2
    go_ret
    exact ⟨rfl, keepLow Lw_16.out HT6.out⟩
end Go.Proofs.Ytbjcfibpiiplaaa

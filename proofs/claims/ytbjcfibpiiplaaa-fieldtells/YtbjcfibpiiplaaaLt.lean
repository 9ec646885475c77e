/- FieldTells' walk: for both rows of 32 bytes the law returns true. -/
import Derived.Test.YtbjcfibpiiplaaaLo
import Derived.Test.YtbjcfibpiiplaaaLb
import Derived.Test.YtbjcfibpiiplaaaVe
import Derived.Test.YtbjcfibpiiplaaaVn
namespace Go.Proofs.Ytbjcfibpiiplaaa
open Go.RowKit

theorem refAdd_m (a b : Nat) (w : World) (ha : a < pP) (hb : b < pP) :
    Calls Try.prog 19 #[rn a, rn b] w fun e w' => e = .returned (rn (am a b)) ∧ Below w.heap.size w w' := refAdd_any a b w (lt256 ha) (lt256 hb)
theorem refSub_m (a b : Nat) (w : World) (ha : a < pP) (hb : b < pP) :
    Calls Try.prog 21 #[rn a, rn b] w fun e w' => e = .returned (rn (sm a b)) ∧ Below w.heap.size w w' := by
  have h := refSub_any a b w (lt256 ha) (Nat.le_of_lt hb)
  rw [← Nat.add_sub_assoc (Nat.le_of_lt hb)] at h
  exact h
theorem refNeg_m (z a : Nat) (w : World) (hz : z = 0) (ha : a < pP) :
    Calls Try.prog 21 #[rn z, rn a] w fun e w' => e = .returned (rn (ng a)) ∧ Below w.heap.size w w' := by
  subst hz
  have h := refSub_any 0 a w (by omega) (Nat.le_of_lt ha)
  rw [res_ng] at h
  exact h
theorem refMul_m (a b : Nat) (w : World) (ha : a < pP) (hb : b < pP) :
    Calls Try.prog 23 #[rn a, rn b] w fun e w' => e = .returned (rn (mm a b)) ∧ Below w.heap.size w w' := refMul_any a b w (lt256 ha) (lt256 hb)
theorem refInv_m (a : Nat) (w : World) (ha : a < pP) :
    Calls Try.prog 27 #[rn a] w fun e w' => e = .returned (rn (invV a)) ∧ Below w.heap.size w w' := by
  rw [inv_pow a ha]; exact refInv_any a w (lt256 ha)
theorem refInv_n (a i : Nat) (w : World) (ha : a < pP) (h : invV a = i) :
    Calls Try.prog 27 #[rn a] w fun e w' => e = .returned (rn i) ∧ Below w.heap.size w w' := by subst h; exact refInv_m a w ha
theorem inv_n (a i : Nat) (w : World) (ha : a < pP) (h : invV a = i) :
    Calls Try.prog 26 #[fe a] w fun e w' => e = .returned (fe i) ∧ Below w.heap.size w w' := by subst h; exact inv_m a w ha
theorem ratio_n (u v r : Nat) (ok : Bool) (args : Array Value) (w : World) (h : args = #[fe u, fe v]) (hu : u < pP) (hv : v < pP) (h1 : rVal u v = r) (h2 : rOk u v = ok) :
    Calls Try.prog 28 args w fun e w' => e = .returned (.tuple #[fe r, .bool ok]) ∧ Below w.heap.size w w' := by subst h1 h2; exact ratio_at u v args w h hu hv
theorem refRatio_at (u v : Nat) (args : Array Value) (w : World) (h : args = #[rn u, rn v]) (hu : u < pP) (hv : v < pP) :
    Calls Try.prog 29 args w fun e w' => e = .returned (.tuple #[rn (rVal u v), .bool (rOk u v)]) ∧ Below w.heap.size w w' := by subst h; exact refRatio_any u v w hu hv
theorem refRatio_n (u v r : Nat) (ok : Bool) (args : Array Value) (w : World) (h : args = #[rn u, rn v]) (hu : u < pP) (hv : v < pP) (h1 : rVal u v = r) (h2 : rOk u v = ok) :
    Calls Try.prog 29 args w fun e w' => e = .returned (.tuple #[rn r, .bool ok]) ∧ Below w.heap.size w w' := by subst h1 h2; exact refRatio_at u v args w h hu hv
theorem add_n (x y s : Nat) (w : World) (hx : x < pP) (hy : y < pP) (h : am x y = s) :
    Calls Try.prog 18 #[fe x, fe y] w fun e w' => e = .returned (fe s) ∧ Below w.heap.size w w' := by subst h; exact add_m x y w hx hy
theorem sub_n (x y s : Nat) (w : World) (hx : x < pP) (hy : y < pP) (h : sm x y = s) :
    Calls Try.prog 20 #[fe x, fe y] w fun e w' => e = .returned (fe s) ∧ Below w.heap.size w w' := by subst h; exact sub_m2 x y w hx hy
theorem mul_n (x y s : Nat) (w : World) (hx : x < pP) (hy : y < pP) (h : mm x y = s) :
    Calls Try.prog 22 #[fe x, fe y] w fun e w' => e = .returned (fe s) ∧ Below w.heap.size w w' := by subst h; exact mul_m x y w hx hy
theorem refAdd_n (x y s : Nat) (w : World) (hx : x < pP) (hy : y < pP) (h : am x y = s) :
    Calls Try.prog 19 #[rn x, rn y] w fun e w' => e = .returned (rn s) ∧ Below w.heap.size w w' := by subst h; exact refAdd_m x y w hx hy
theorem refSub_n (x y s : Nat) (w : World) (hx : x < pP) (hy : y < pP) (h : sm x y = s) :
    Calls Try.prog 21 #[rn x, rn y] w fun e w' => e = .returned (rn s) ∧ Below w.heap.size w w' := by subst h; exact refSub_m x y w hx hy
theorem refMul_n (x y s : Nat) (w : World) (hx : x < pP) (hy : y < pP) (h : mm x y = s) :
    Calls Try.prog 23 #[rn x, rn y] w fun e w' => e = .returned (rn s) ∧ Below w.heap.size w w' := by subst h; exact refMul_m x y w hx hy
theorem sq_n (x s : Nat) (w : World) (hx : x < pP) (h : mm x x = s) :
    Calls Try.prog 24 #[fe x] w fun e w' => e = .returned (fe s) ∧ Below w.heap.size w w' := by subst h; exact sq_m x w hx
theorem neg_n (x s : Nat) (w : World) (hx : x < pP) (h : ng x = s) :
    Calls Try.prog 25 #[fe x] w fun e w' => e = .returned (fe s) ∧ Below w.heap.size w w' := by subst h; exact neg_m x w hx
theorem refNeg_n (z x s : Nat) (w : World) (hz : z = 0) (hx : x < pP) (h : ng x = s) :
    Calls Try.prog 21 #[rn z, rn x] w fun e w' => e = .returned (rn s) ∧ Below w.heap.size w w' := by subst h; exact refNeg_m z x w hz hx
theorem built_none : Try.prog.built 31 [] = some (vals .u64 16 (dg 0)) := by rw [← zero16]; exact built31
theorem eq_byt (n : Nat) (w : World) : (Op.equalIn 10000 22 (.agg (vals .u8 32 (byt n))) (.agg (vals .u8 32 (byt n)))).run Try.prog w = .ok true w := eq_vals' (byt n) (byt n) true (all_self _) w
set_option maxRecDepth 100000 in
set_option maxHeartbeats 8000000 in
theorem tells_walk (f g : Nat → Nat) (w : World) (hf : ∀ i, f i < 256) (hg : ∀ i, g i < 256) :
    Calls Try.prog 4 #[ba f, ba g] w fun e w' => e = .returned (.bool true) ∧ Below w.heap.size w w' := by
  have Hf := hide hf
  have Hg := hide hg
  clear hf hg
  unfold ba
  have A_0 := hide ((Blk.new w (vals .u8 32 f) 22).alloc (.cells (vals .u8 32 g) 22))
  have B_0 := hide (Blk.new' (w.alloc (.cells (vals .u8 32 f) 22)) (w.heap.size + 1) (by simp) (vals .u8 32 g) 22)
  have L0 : Hid (Below w.heap.size w ((w.alloc (.cells (vals .u8 32 f) 22)).alloc (.cells (vals .u8 32 g) 22))) := hide (((Below.refl _ w).alloc (Nat.le_refl _) _).alloc (by simp) _)
  go_enter Try.func4, Try.ntmps4
  go_wp2_with fail
  refine (awake_at _ _ (by rfl)).mono ?_
  rintro e k1 ⟨rfl, hb⟩
  have A_1 := hide (A_0.out.call hb)
  have B_1 := hide (B_0.out.call hb)
  have Lw_1 := hide (L0.out.trans (hb.mono L0.out.size))
  clear A_0 B_0 L0 hb
  dsimp only
  go_wp2_with (first | (refine wpList_load_row rfl 22 _ rfl (w.heap.size) rfl 22 _ (0, 0) _ A_1.out Try.underlying22 rfl (by rw [vals_size]; exact cells22) ?_))
  refine (load_at f _ _ (by rfl) Hf.out).mono ?_
  rw [fe_def (nb f 32 % pP)]
  rintro e k2 ⟨rfl, hb⟩
  have A_2 := hide (A_1.out.call hb)
  have B_2 := hide (B_1.out.call hb)
  have Lw_2 := hide (Lw_1.out.trans (hb.mono Lw_1.out.size))
  clear A_1 B_1 Lw_1 hb
  dsimp only
  obtain ⟨x, hx⟩ : ∃ x, x = nb f 32 % pP := ⟨_, rfl⟩
  have Lx : Hid (x < pP) := hide (by rw [hx]; exact Nat.mod_lt _ pP_pos)
  rw [← hx]
  have Hx := hide hx
  clear hx
  have X_3 := hide (Blk.new k2 (lits x) 27)
  have A_3 := hide (A_2.out.alloc (.cells (lits x) 27))
  have B_3 := hide (B_2.out.alloc (.cells (lits x) 27))
  have Lw_3 := hide (Lw_2.out.alloc Lw_2.out.size (.cells (lits x) 27))
  clear A_2 B_2 Lw_2
  go_wp2_with (first | (refine wpList_load_row rfl 22 _ rfl (w.heap.size + 1) rfl 22 _ (0, 0) _ B_3.out Try.underlying22 rfl (by rw [vals_size]; exact cells22) ?_))
  refine (load_at g _ _ (by rfl) Hg.out).mono ?_
  rw [fe_def (nb g 32 % pP)]
  rintro e k4 ⟨rfl, hb⟩
  have A_4 := hide (A_3.out.call hb)
  have B_4 := hide (B_3.out.call hb)
  have X_4 := hide (X_3.out.call hb)
  have Lw_4 := hide (Lw_3.out.trans (hb.mono Lw_3.out.size))
  clear A_3 B_3 X_3 Lw_3 hb
  dsimp only
  obtain ⟨y, hy⟩ : ∃ y, y = nb g 32 % pP := ⟨_, rfl⟩
  have Ly : Hid (y < pP) := hide (by rw [hy]; exact Nat.mod_lt _ pP_pos)
  rw [← hy]
  have Hy := hide hy
  clear hy
  have Y_5 := hide (Blk.new k4 (lits y) 27)
  have A_5 := hide (A_4.out.alloc (.cells (lits y) 27))
  have B_5 := hide (B_4.out.alloc (.cells (lits y) 27))
  have X_5 := hide (X_4.out.alloc (.cells (lits y) 27))
  have Lw_5 := hide (Lw_4.out.alloc Lw_4.out.size (.cells (lits y) 27))
  clear A_4 B_4 X_4 Lw_4
  go_wp2_with (first | (refine wpList_load_row rfl 22 _ rfl (w.heap.size) rfl 22 _ (0, 0) _ A_5.out Try.underlying22 rfl (by rw [vals_size]; exact cells22) ?_))
  refine (refLoad_at f _ _ (by rfl) Hf.out).mono ?_
  rw [← Hx.out]
  rintro e k6 ⟨rfl, hb⟩
  have A_6 := hide (A_5.out.call hb)
  have B_6 := hide (B_5.out.call hb)
  have X_6 := hide (X_5.out.call hb)
  have Y_6 := hide (Y_5.out.call hb)
  have Lw_6 := hide (Lw_5.out.trans (hb.mono Lw_5.out.size))
  clear A_5 B_5 X_5 Y_5 Lw_5 hb
  unfold rn
  dsimp only
  go_wp2_with (first | (refine wpList_store_abs rfl 31 _ _ rfl k6.heap.size (vals .u64 16 (dg x)) rfl rfl 31 _ (Blk.new k6 _ _) (by rw [vals_size]; exact cells31) (by rw [vals_size]; rfl) (vals_one _ _ _) ?_; intro k7 Bn Sn; have A_7 := hide (Sn.other _ _ _ (Nat.ne_of_gt A_6.out.lt) (A_6.out.alloc _)); have B_7 := hide (Sn.other _ _ _ (Nat.ne_of_gt B_6.out.lt) (B_6.out.alloc _)); have X_7 := hide (Sn.other _ _ _ (Nat.ne_of_gt X_6.out.lt) (X_6.out.alloc _)); have Y_7 := hide (Sn.other _ _ _ (Nat.ne_of_gt Y_6.out.lt) (Y_6.out.alloc _)); have Lw_7 := hide (Sn.low _ _ (Lw_6.out.alloc Lw_6.out.size _) Lw_6.out.size); have M_7 := hide Bn; clear Bn Sn A_6 B_6 X_6 Y_6 Lw_6) | (refine wpList_load_row rfl 22 _ rfl (w.heap.size + 1) rfl 22 _ (0, 0) _ B_7.out Try.underlying22 rfl (by rw [vals_size]; exact cells22) ?_))
  refine (refLoad_at g _ _ (by rfl) Hg.out).mono ?_
  rw [← Hy.out]
  rintro e k8 ⟨rfl, hb⟩
  have A_8 := hide (A_7.out.call hb)
  have B_8 := hide (B_7.out.call hb)
  have X_8 := hide (X_7.out.call hb)
  have Y_8 := hide (Y_7.out.call hb)
  have M_8 := hide (M_7.out.call hb)
  have Lw_8 := hide (Lw_7.out.trans (hb.mono Lw_7.out.size))
  clear A_7 B_7 X_7 Y_7 M_7 Lw_7 hb
  unfold rn
  dsimp only
  go_upto_region 6 with (first | (refine wpList_store_abs rfl 31 _ _ rfl k8.heap.size (vals .u64 16 (dg y)) rfl rfl 31 _ (Blk.new k8 _ _) (by rw [vals_size]; exact cells31) (by rw [vals_size]; rfl) (vals_one _ _ _) ?_; intro k9 Bn Sn; have A_9 := hide (Sn.other _ _ _ (Nat.ne_of_gt A_8.out.lt) (A_8.out.alloc _)); have B_9 := hide (Sn.other _ _ _ (Nat.ne_of_gt B_8.out.lt) (B_8.out.alloc _)); have X_9 := hide (Sn.other _ _ _ (Nat.ne_of_gt X_8.out.lt) (X_8.out.alloc _)); have Y_9 := hide (Sn.other _ _ _ (Nat.ne_of_gt Y_8.out.lt) (Y_8.out.alloc _)); have M_9 := hide (Sn.other _ _ _ (Nat.ne_of_gt M_8.out.lt) (M_8.out.alloc _)); have Lw_9 := hide (Sn.low _ _ (Lw_8.out.alloc Lw_8.out.size _) Lw_8.out.size); have N_9 := hide Bn; clear Bn Sn A_8 B_8 X_8 Y_8 M_8 Lw_8))
  clear A_9 B_9
  have he := eq_byt
  obtain ⟨iv, hiv⟩ : ∃ iv, invV x = iv := ⟨_, rfl⟩
  have Hiv := hide hiv
  obtain ⟨rv, hrv⟩ : ∃ rv, rVal x y = rv := ⟨_, rfl⟩
  have Hrv := hide hrv
  obtain ⟨ok, hok⟩ : ∃ ok, rOk x y = ok := ⟨_, rfl⟩
  have Hok := hide hok
  obtain ⟨z0, hz0⟩ : ∃ z0, z0 = 0 := ⟨_, rfl⟩
  have Hz0 := hide hz0
  obtain ⟨s1, hs1⟩ : ∃ s1, am x y = s1 := ⟨_, rfl⟩
  have Hs1 := hide hs1
  obtain ⟨s2, hs2⟩ : ∃ s2, sm x y = s2 := ⟨_, rfl⟩
  have Hs2 := hide hs2
  obtain ⟨s3, hs3⟩ : ∃ s3, mm x y = s3 := ⟨_, rfl⟩
  have Hs3 := hide hs3
  obtain ⟨s4, hs4⟩ : ∃ s4, mm x x = s4 := ⟨_, rfl⟩
  have Hs4 := hide hs4
  obtain ⟨s5, hs5⟩ : ∃ s5, ng x = s5 := ⟨_, rfl⟩
  have Hs5 := hide hs5
  clear hiv hrv hok hz0 hs1 hs2 hs3 hs4 hs5
  refine wp_region_held_drew (S := fun w' => Below k9.heap.size k9 w') (by kernel_rfl) (Below.refl _ _).drew (fun hHeld => ?_)
  refine wpAnyH_take (i := 0) (oi := { dst := some 25, op := Op.load 27 (Operand.tmp 6), type := 27, pos := "law.go:47", after := #[], guard := none }) (v := .agg (lits (x))) rfl (by kernel_rfl) (by kernel_rfl) (by kernel_rfl) (fun _ _ _ h => h) (yields_blk X_9.out (by rfl) 27 _ rfl rfl _ Try.underlying27 rfl cells27) hHeld ?_
  try simp only [Act.put, List.setIfInBounds_toArray, List.set_cons_zero, List.set_cons_succ]
  refine wpAnyH_take (i := 1) (oi := { dst := some 26, op := Op.load 27 (Operand.tmp 7), type := 27, pos := "law.go:47", after := #[], guard := none }) (v := .agg (lits (y))) rfl (by kernel_rfl) (by kernel_rfl) (by kernel_rfl) (fun _ _ _ h => h) (yields_blk Y_9.out (by rfl) 27 _ rfl rfl _ Try.underlying27 rfl cells27) hHeld ?_
  try simp only [Act.put, List.setIfInBounds_toArray, List.set_cons_zero, List.set_cons_succ]
  refine wpAnyH_take (i := 4) (oi := { dst := some 29, op := Op.load 31 (Operand.tmp 8), type := 31, pos := "law.go:47", after := #[], guard := none }) (v := .agg (vals .u64 16 (dg (x)))) rfl (by kernel_rfl) (by kernel_rfl) (by kernel_rfl) (fun _ _ _ h => h) (yields_blk M_9.out (by rfl) 31 _ rfl rfl _ Try.underlying31 rfl (by rw [vals_size]; exact cells31)) hHeld ?_
  try simp only [Act.put, List.setIfInBounds_toArray, List.set_cons_zero, List.set_cons_succ]
  refine wpAnyH_take (i := 5) (oi := { dst := some 30, op := Op.load 31 (Operand.tmp 9), type := 31, pos := "law.go:47", after := #[], guard := none }) (v := .agg (vals .u64 16 (dg (y)))) rfl (by kernel_rfl) (by kernel_rfl) (by kernel_rfl) (fun _ _ _ h => h) (yields_blk N_9.out (by rfl) 31 _ rfl rfl _ Try.underlying31 rfl (by rw [vals_size]; exact cells31)) hHeld ?_
  try simp only [Act.put, List.setIfInBounds_toArray, List.set_cons_zero, List.set_cons_succ]
  refine wpAnyH_ready (rs := [2]) (by kernel_rfl) (by simp) ?_
  refine AllReadyH.cons (o := { dst := some 27, op := Op.call { callee := Callee.value (Operand.func 18), args := #[Operand.tmp 25, Operand.tmp 26], argTypes := #[27, 27] }, type := 27, pos := "law.go:47", after := #[{ on := 0, ground := Ground.data }, { on := 1, ground := Ground.data }], guard := none }) rfl (fun K hK => ?_) AllReadyH.nil
  go_simp
  refine (add_n x y s1 _ Lx.out Ly.out Hs1.out).mono ?_
  rintro e u1 ⟨rfl, hb⟩
  have HT1 := hide (keepCall hb rfl hHeld)
  dsimp only
  refine hK.out _ _ HT1.out (fun hHeld => ?_)
  clear hK K hb
  try simp only [Act.put, List.setIfInBounds_toArray, List.set_cons_zero, List.set_cons_succ]
  refine wpAnyH_ready (rs := [3]) (by kernel_rfl) (by simp) ?_
  refine AllReadyH.cons (o := { dst := some 28, op := Op.call { callee := Callee.value (Operand.func 14), args := #[Operand.tmp 27], argTypes := #[27] }, type := 22, pos := "law.go:47", after := #[{ on := 2, ground := Ground.data }, { on := 2, ground := Ground.chain }], guard := none }) rfl (fun K hK => ?_) AllReadyH.nil
  go_simp
  refine (bytes_at (s1) _ _ (by rfl)).mono ?_
  unfold ba
  rintro e u2 ⟨rfl, hb⟩
  have HT2 := hide (keepCall hb rfl hHeld)
  dsimp only
  refine hK.out _ _ HT2.out (fun hHeld => ?_)
  clear hK K hb
  try simp only [Act.put, List.setIfInBounds_toArray, List.set_cons_zero, List.set_cons_succ]
  refine wpAnyH_ready (rs := [6]) (by kernel_rfl) (by simp) ?_
  refine AllReadyH.cons (o := { dst := some 31, op := Op.call { callee := Callee.value (Operand.func 19), args := #[Operand.tmp 29, Operand.tmp 30], argTypes := #[31, 31] }, type := 31, pos := "law.go:47", after := #[{ on := 4, ground := Ground.data }, { on := 5, ground := Ground.data }, { on := 3, ground := Ground.chain }], guard := none }) rfl (fun K hK => ?_) AllReadyH.nil
  go_simp
  refine (refAdd_n x y s1 _ Lx.out Ly.out Hs1.out).mono ?_
  unfold rn
  rintro e u3 ⟨rfl, hb⟩
  have HT3 := hide (keepCall hb rfl hHeld)
  dsimp only
  refine hK.out _ _ HT3.out (fun hHeld => ?_)
  clear hK K hb
  try simp only [Act.put, List.setIfInBounds_toArray, List.set_cons_zero, List.set_cons_succ]
  refine wpAnyH_ready (rs := [7]) (by kernel_rfl) (by simp) ?_
  refine AllReadyH.cons (o := { dst := some 32, op := Op.call { callee := Callee.value (Operand.func 12), args := #[Operand.tmp 31], argTypes := #[31] }, type := 22, pos := "law.go:47", after := #[{ on := 6, ground := Ground.data }, { on := 6, ground := Ground.chain }], guard := none }) rfl (fun K hK => ?_) AllReadyH.nil
  go_simp
  refine (refBytes_at (s1) _ _ (by rfl)).mono ?_
  unfold ba
  rintro e u4 ⟨rfl, hb⟩
  have HT4 := hide (keepCall hb rfl hHeld)
  dsimp only
  refine hK.out _ _ HT4.out (fun hHeld => ?_)
  clear hK K hb
  try simp only [Act.put, List.setIfInBounds_toArray, List.set_cons_zero, List.set_cons_succ]
  refine wpAnyH_take (i := 8) (oi := { dst := some 33, op := Op.binOp BinOp.eql 22 (Operand.tmp 28) (Operand.tmp 32) 22, type := 4, pos := "law.go:47", after := #[{ on := 3, ground := Ground.data }, { on := 7, ground := Ground.data }], guard := none }) (v := .bool true) rfl (by kernel_rfl) (by kernel_rfl) (by kernel_rfl) (fun _ _ _ h => h) (Or.inl ⟨by rfl, fun w hSw => by go_simp⟩) hHeld ?_
  try simp only [Act.put, List.setIfInBounds_toArray, List.set_cons_zero, List.set_cons_succ]
  refine wpAnyH_take (i := 9) (oi := { dst := some 34, op := Op.move (Operand.tmp 33), type := 4, pos := "law.go:47", after := #[{ on := 8, ground := Ground.data }, { on := 7, ground := Ground.chain }], guard := none }) (v := .bool true) rfl (by kernel_rfl) (by kernel_rfl) (by kernel_rfl) (fun _ _ _ h => h) (Or.inl ⟨by rfl, fun w hSw => by go_simp⟩) hHeld ?_
  try simp only [Act.put, List.setIfInBounds_toArray, List.set_cons_zero, List.set_cons_succ]
  refine wpAnyH_take (i := 10) (oi := { dst := some 35, op := Op.load 27 (Operand.tmp 6), type := 27, pos := "law.go:47", after := #[{ on := 9, ground := Ground.guard }], guard := some (9, true) }) (v := .agg (lits (x))) rfl (by kernel_rfl) (by kernel_rfl) (by kernel_rfl) (fun _ _ _ h => h) (yields_blk X_9.out (by rfl) 27 _ rfl rfl _ Try.underlying27 rfl cells27) hHeld ?_
  try simp only [Act.put, List.setIfInBounds_toArray, List.set_cons_zero, List.set_cons_succ]
  refine wpAnyH_take (i := 11) (oi := { dst := some 36, op := Op.load 27 (Operand.tmp 7), type := 27, pos := "law.go:47", after := #[{ on := 9, ground := Ground.guard }], guard := some (9, true) }) (v := .agg (lits (y))) rfl (by kernel_rfl) (by kernel_rfl) (by kernel_rfl) (fun _ _ _ h => h) (yields_blk Y_9.out (by rfl) 27 _ rfl rfl _ Try.underlying27 rfl cells27) hHeld ?_
  try simp only [Act.put, List.setIfInBounds_toArray, List.set_cons_zero, List.set_cons_succ]
  refine wpAnyH_take (i := 14) (oi := { dst := some 39, op := Op.load 31 (Operand.tmp 8), type := 31, pos := "law.go:47", after := #[{ on := 9, ground := Ground.guard }], guard := some (9, true) }) (v := .agg (vals .u64 16 (dg (x)))) rfl (by kernel_rfl) (by kernel_rfl) (by kernel_rfl) (fun _ _ _ h => h) (yields_blk M_9.out (by rfl) 31 _ rfl rfl _ Try.underlying31 rfl (by rw [vals_size]; exact cells31)) hHeld ?_
  try simp only [Act.put, List.setIfInBounds_toArray, List.set_cons_zero, List.set_cons_succ]
  refine wpAnyH_take (i := 15) (oi := { dst := some 40, op := Op.load 31 (Operand.tmp 9), type := 31, pos := "law.go:47", after := #[{ on := 9, ground := Ground.guard }], guard := some (9, true) }) (v := .agg (vals .u64 16 (dg (y)))) rfl (by kernel_rfl) (by kernel_rfl) (by kernel_rfl) (fun _ _ _ h => h) (yields_blk N_9.out (by rfl) 31 _ rfl rfl _ Try.underlying31 rfl (by rw [vals_size]; exact cells31)) hHeld ?_
  try simp only [Act.put, List.setIfInBounds_toArray, List.set_cons_zero, List.set_cons_succ]
  refine wpAnyH_ready (rs := [12]) (by kernel_rfl) (by simp) ?_
  refine AllReadyH.cons (o := { dst := some 37, op := Op.call { callee := Callee.value (Operand.func 20), args := #[Operand.tmp 35, Operand.tmp 36], argTypes := #[27, 27] }, type := 27, pos := "law.go:47", after := #[{ on := 10, ground := Ground.data }, { on := 11, ground := Ground.data }, { on := 9, ground := Ground.chain }, { on := 9, ground := Ground.guard }], guard := some (9, true) }) rfl (fun K hK => ?_) AllReadyH.nil
  go_simp
  refine (sub_n x y s2 _ Lx.out Ly.out Hs2.out).mono ?_
  rintro e u5 ⟨rfl, hb⟩
  have HT5 := hide (keepCall hb rfl hHeld)
  dsimp only
  refine hK.out _ _ HT5.out (fun hHeld => ?_)
  clear hK K hb
  try simp only [Act.put, List.setIfInBounds_toArray, List.set_cons_zero, List.set_cons_succ]
  refine wpAnyH_ready (rs := [13]) (by kernel_rfl) (by simp) ?_
  refine AllReadyH.cons (o := { dst := some 38, op := Op.call { callee := Callee.value (Operand.func 14), args := #[Operand.tmp 37], argTypes := #[27] }, type := 22, pos := "law.go:47", after := #[{ on := 12, ground := Ground.data }, { on := 12, ground := Ground.chain }, { on := 9, ground := Ground.guard }], guard := some (9, true) }) rfl (fun K hK => ?_) AllReadyH.nil
  go_simp
  refine (bytes_at (s2) _ _ (by rfl)).mono ?_
  unfold ba
  rintro e u6 ⟨rfl, hb⟩
  have HT6 := hide (keepCall hb rfl hHeld)
  dsimp only
  refine hK.out _ _ HT6.out (fun hHeld => ?_)
  clear hK K hb
  try simp only [Act.put, List.setIfInBounds_toArray, List.set_cons_zero, List.set_cons_succ]
  refine wpAnyH_ready (rs := [16]) (by kernel_rfl) (by simp) ?_
  refine AllReadyH.cons (o := { dst := some 41, op := Op.call { callee := Callee.value (Operand.func 21), args := #[Operand.tmp 39, Operand.tmp 40], argTypes := #[31, 31] }, type := 31, pos := "law.go:47", after := #[{ on := 14, ground := Ground.data }, { on := 15, ground := Ground.data }, { on := 13, ground := Ground.chain }, { on := 9, ground := Ground.guard }], guard := some (9, true) }) rfl (fun K hK => ?_) AllReadyH.nil
  go_simp
  refine (refSub_n x y s2 _ Lx.out Ly.out Hs2.out).mono ?_
  unfold rn
  rintro e u7 ⟨rfl, hb⟩
  have HT7 := hide (keepCall hb rfl hHeld)
  dsimp only
  refine hK.out _ _ HT7.out (fun hHeld => ?_)
  clear hK K hb
  try simp only [Act.put, List.setIfInBounds_toArray, List.set_cons_zero, List.set_cons_succ]
  refine wpAnyH_ready (rs := [17]) (by kernel_rfl) (by simp) ?_
  refine AllReadyH.cons (o := { dst := some 42, op := Op.call { callee := Callee.value (Operand.func 12), args := #[Operand.tmp 41], argTypes := #[31] }, type := 22, pos := "law.go:47", after := #[{ on := 16, ground := Ground.data }, { on := 16, ground := Ground.chain }, { on := 9, ground := Ground.guard }], guard := some (9, true) }) rfl (fun K hK => ?_) AllReadyH.nil
  go_simp
  refine (refBytes_at (s2) _ _ (by rfl)).mono ?_
  unfold ba
  rintro e u8 ⟨rfl, hb⟩
  have HT8 := hide (keepCall hb rfl hHeld)
  dsimp only
  refine hK.out _ _ HT8.out (fun hHeld => ?_)
  clear hK K hb
  try simp only [Act.put, List.setIfInBounds_toArray, List.set_cons_zero, List.set_cons_succ]
  refine wpAnyH_take (i := 18) (oi := { dst := some 43, op := Op.binOp BinOp.eql 22 (Operand.tmp 38) (Operand.tmp 42) 22, type := 4, pos := "law.go:47", after := #[{ on := 13, ground := Ground.data }, { on := 17, ground := Ground.data }, { on := 9, ground := Ground.guard }], guard := some (9, true) }) (v := .bool true) rfl (by kernel_rfl) (by kernel_rfl) (by kernel_rfl) (fun _ _ _ h => h) (Or.inl ⟨by rfl, fun w hSw => by go_simp⟩) hHeld ?_
  try simp only [Act.put, List.setIfInBounds_toArray, List.set_cons_zero, List.set_cons_succ]
  refine wpAnyH_take (i := 19) (oi := { dst := some 44, op := Op.pick (Operand.tmp 34) (Operand.tmp 43) (Operand.const (Value.bool false)), type := 4, pos := "law.go:47", after := #[{ on := 9, ground := Ground.data }, { on := 18, ground := Ground.data }], guard := none }) (v := .bool true) rfl (by kernel_rfl) (by kernel_rfl) (by kernel_rfl) (fun _ _ _ h => h) (Or.inl ⟨by rfl, fun w hSw => by go_simp⟩) hHeld ?_
  try simp only [Act.put, List.setIfInBounds_toArray, List.set_cons_zero, List.set_cons_succ]
  refine wpAnyH_take (i := 20) (oi := { dst := some 45, op := Op.move (Operand.tmp 44), type := 4, pos := "law.go:47", after := #[{ on := 19, ground := Ground.data }, { on := 17, ground := Ground.chain }], guard := none }) (v := .bool true) rfl (by kernel_rfl) (by kernel_rfl) (by kernel_rfl) (fun _ _ _ h => h) (Or.inl ⟨by rfl, fun w hSw => by go_simp⟩) hHeld ?_
  try simp only [Act.put, List.setIfInBounds_toArray, List.set_cons_zero, List.set_cons_succ]
  refine wpAnyH_take (i := 21) (oi := { dst := some 46, op := Op.load 27 (Operand.tmp 6), type := 27, pos := "law.go:47", after := #[{ on := 20, ground := Ground.guard }], guard := some (20, true) }) (v := .agg (lits (x))) rfl (by kernel_rfl) (by kernel_rfl) (by kernel_rfl) (fun _ _ _ h => h) (yields_blk X_9.out (by rfl) 27 _ rfl rfl _ Try.underlying27 rfl cells27) hHeld ?_
  try simp only [Act.put, List.setIfInBounds_toArray, List.set_cons_zero, List.set_cons_succ]
  refine wpAnyH_take (i := 22) (oi := { dst := some 47, op := Op.load 27 (Operand.tmp 7), type := 27, pos := "law.go:47", after := #[{ on := 20, ground := Ground.guard }], guard := some (20, true) }) (v := .agg (lits (y))) rfl (by kernel_rfl) (by kernel_rfl) (by kernel_rfl) (fun _ _ _ h => h) (yields_blk Y_9.out (by rfl) 27 _ rfl rfl _ Try.underlying27 rfl cells27) hHeld ?_
  try simp only [Act.put, List.setIfInBounds_toArray, List.set_cons_zero, List.set_cons_succ]
  refine wpAnyH_take (i := 25) (oi := { dst := some 50, op := Op.load 31 (Operand.tmp 8), type := 31, pos := "law.go:47", after := #[{ on := 20, ground := Ground.guard }], guard := some (20, true) }) (v := .agg (vals .u64 16 (dg (x)))) rfl (by kernel_rfl) (by kernel_rfl) (by kernel_rfl) (fun _ _ _ h => h) (yields_blk M_9.out (by rfl) 31 _ rfl rfl _ Try.underlying31 rfl (by rw [vals_size]; exact cells31)) hHeld ?_
  try simp only [Act.put, List.setIfInBounds_toArray, List.set_cons_zero, List.set_cons_succ]
  refine wpAnyH_take (i := 26) (oi := { dst := some 51, op := Op.load 31 (Operand.tmp 9), type := 31, pos := "law.go:47", after := #[{ on := 20, ground := Ground.guard }], guard := some (20, true) }) (v := .agg (vals .u64 16 (dg (y)))) rfl (by kernel_rfl) (by kernel_rfl) (by kernel_rfl) (fun _ _ _ h => h) (yields_blk N_9.out (by rfl) 31 _ rfl rfl _ Try.underlying31 rfl (by rw [vals_size]; exact cells31)) hHeld ?_
  try simp only [Act.put, List.setIfInBounds_toArray, List.set_cons_zero, List.set_cons_succ]
  refine wpAnyH_ready (rs := [23]) (by kernel_rfl) (by simp) ?_
  refine AllReadyH.cons (o := { dst := some 48, op := Op.call { callee := Callee.value (Operand.func 22), args := #[Operand.tmp 46, Operand.tmp 47], argTypes := #[27, 27] }, type := 27, pos := "law.go:47", after := #[{ on := 21, ground := Ground.data }, { on := 22, ground := Ground.data }, { on := 20, ground := Ground.chain }, { on := 20, ground := Ground.guard }], guard := some (20, true) }) rfl (fun K hK => ?_) AllReadyH.nil
  go_simp
  refine (mul_n x y s3 _ Lx.out Ly.out Hs3.out).mono ?_
  rintro e u9 ⟨rfl, hb⟩
  have HT9 := hide (keepCall hb rfl hHeld)
  dsimp only
  refine hK.out _ _ HT9.out (fun hHeld => ?_)
  clear hK K hb
  try simp only [Act.put, List.setIfInBounds_toArray, List.set_cons_zero, List.set_cons_succ]
  refine wpAnyH_ready (rs := [24]) (by kernel_rfl) (by simp) ?_
  refine AllReadyH.cons (o := { dst := some 49, op := Op.call { callee := Callee.value (Operand.func 14), args := #[Operand.tmp 48], argTypes := #[27] }, type := 22, pos := "law.go:47", after := #[{ on := 23, ground := Ground.data }, { on := 23, ground := Ground.chain }, { on := 20, ground := Ground.guard }], guard := some (20, true) }) rfl (fun K hK => ?_) AllReadyH.nil
  go_simp
  refine (bytes_at (s3) _ _ (by rfl)).mono ?_
  unfold ba
  rintro e u10 ⟨rfl, hb⟩
  have HT10 := hide (keepCall hb rfl hHeld)
  dsimp only
  refine hK.out _ _ HT10.out (fun hHeld => ?_)
  clear hK K hb
  try simp only [Act.put, List.setIfInBounds_toArray, List.set_cons_zero, List.set_cons_succ]
  refine wpAnyH_ready (rs := [27]) (by kernel_rfl) (by simp) ?_
  refine AllReadyH.cons (o := { dst := some 52, op := Op.call { callee := Callee.value (Operand.func 23), args := #[Operand.tmp 50, Operand.tmp 51], argTypes := #[31, 31] }, type := 31, pos := "law.go:47", after := #[{ on := 25, ground := Ground.data }, { on := 26, ground := Ground.data }, { on := 24, ground := Ground.chain }, { on := 20, ground := Ground.guard }], guard := some (20, true) }) rfl (fun K hK => ?_) AllReadyH.nil
  go_simp
  refine (refMul_n x y s3 _ Lx.out Ly.out Hs3.out).mono ?_
  unfold rn
  rintro e u11 ⟨rfl, hb⟩
  have HT11 := hide (keepCall hb rfl hHeld)
  dsimp only
  refine hK.out _ _ HT11.out (fun hHeld => ?_)
  clear hK K hb
  try simp only [Act.put, List.setIfInBounds_toArray, List.set_cons_zero, List.set_cons_succ]
  refine wpAnyH_ready (rs := [28]) (by kernel_rfl) (by simp) ?_
  refine AllReadyH.cons (o := { dst := some 53, op := Op.call { callee := Callee.value (Operand.func 12), args := #[Operand.tmp 52], argTypes := #[31] }, type := 22, pos := "law.go:47", after := #[{ on := 27, ground := Ground.data }, { on := 27, ground := Ground.chain }, { on := 20, ground := Ground.guard }], guard := some (20, true) }) rfl (fun K hK => ?_) AllReadyH.nil
  go_simp
  refine (refBytes_at (s3) _ _ (by rfl)).mono ?_
  unfold ba
  rintro e u12 ⟨rfl, hb⟩
  have HT12 := hide (keepCall hb rfl hHeld)
  dsimp only
  refine hK.out _ _ HT12.out (fun hHeld => ?_)
  clear hK K hb
  try simp only [Act.put, List.setIfInBounds_toArray, List.set_cons_zero, List.set_cons_succ]
  refine wpAnyH_take (i := 29) (oi := { dst := some 54, op := Op.binOp BinOp.eql 22 (Operand.tmp 49) (Operand.tmp 53) 22, type := 4, pos := "law.go:47", after := #[{ on := 24, ground := Ground.data }, { on := 28, ground := Ground.data }, { on := 20, ground := Ground.guard }], guard := some (20, true) }) (v := .bool true) rfl (by kernel_rfl) (by kernel_rfl) (by kernel_rfl) (fun _ _ _ h => h) (Or.inl ⟨by rfl, fun w hSw => by go_simp⟩) hHeld ?_
  try simp only [Act.put, List.setIfInBounds_toArray, List.set_cons_zero, List.set_cons_succ]
  refine wpAnyH_take (i := 30) (oi := { dst := some 55, op := Op.pick (Operand.tmp 45) (Operand.tmp 54) (Operand.const (Value.bool false)), type := 4, pos := "law.go:47", after := #[{ on := 20, ground := Ground.data }, { on := 29, ground := Ground.data }], guard := none }) (v := .bool true) rfl (by kernel_rfl) (by kernel_rfl) (by kernel_rfl) (fun _ _ _ h => h) (Or.inl ⟨by rfl, fun w hSw => by go_simp⟩) hHeld ?_
  try simp only [Act.put, List.setIfInBounds_toArray, List.set_cons_zero, List.set_cons_succ]
  refine wpAnyH_take (i := 31) (oi := { dst := some 10, op := Op.assign (Operand.tmp 55), type := 4, pos := "law.go:47", after := #[{ on := 30, ground := Ground.data }, { on := 28, ground := Ground.chain }, { on := 0, ground := Ground.phase }, { on := 1, ground := Ground.phase }, { on := 2, ground := Ground.phase }, { on := 3, ground := Ground.phase }, { on := 4, ground := Ground.phase }, { on := 5, ground := Ground.phase }, { on := 6, ground := Ground.phase }, { on := 7, ground := Ground.phase }, { on := 8, ground := Ground.phase }, { on := 9, ground := Ground.phase }, { on := 10, ground := Ground.phase }, { on := 11, ground := Ground.phase }, { on := 12, ground := Ground.phase }, { on := 13, ground := Ground.phase }, { on := 14, ground := Ground.phase }, { on := 15, ground := Ground.phase }, { on := 16, ground := Ground.phase }, { on := 17, ground := Ground.phase }, { on := 18, ground := Ground.phase }, { on := 19, ground := Ground.phase }, { on := 20, ground := Ground.phase }, { on := 21, ground := Ground.phase }, { on := 22, ground := Ground.phase }, { on := 23, ground := Ground.phase }, { on := 24, ground := Ground.phase }, { on := 25, ground := Ground.phase }, { on := 26, ground := Ground.phase }, { on := 27, ground := Ground.phase }, { on := 28, ground := Ground.phase }, { on := 29, ground := Ground.phase }, { on := 30, ground := Ground.phase }], guard := none }) (v := .bool true) rfl (by kernel_rfl) (by kernel_rfl) (by kernel_rfl) (fun _ _ _ h => h) (Or.inl ⟨by rfl, fun w hSw => by go_simp⟩) hHeld ?_
  try simp only [Act.put, List.setIfInBounds_toArray, List.set_cons_zero, List.set_cons_succ]
  refine wpAnyH_done (by kernel_rfl) ?_ _
  go_upto_region 7 with (fail)
  have X_10 := hide (X_9.out.call HT12.out)
  have Y_10 := hide (Y_9.out.call HT12.out)
  have M_10 := hide (M_9.out.call HT12.out)
  have N_10 := hide (N_9.out.call HT12.out)
  have Lw_10 := hide (Lw_9.out.trans (HT12.out.mono Lw_9.out.size))
  clear X_9 Y_9 M_9 N_9 Lw_9 hHeld
  refine wp_region_held_drew (S := fun w' => Below u12.heap.size u12 w') (by kernel_rfl) (Below.refl _ _).drew (fun hHeld => ?_)
  refine wpAnyH_take (i := 0) (oi := { dst := some 56, op := Op.load 27 (Operand.tmp 6), type := 27, pos := "law.go:48", after := #[], guard := none }) (v := .agg (lits (x))) rfl (by kernel_rfl) (by kernel_rfl) (by kernel_rfl) (fun _ _ _ h => h) (yields_blk X_10.out (by rfl) 27 _ rfl rfl _ Try.underlying27 rfl cells27) hHeld ?_
  try simp only [Act.put, List.setIfInBounds_toArray, List.set_cons_zero, List.set_cons_succ]
  refine wpAnyH_take (i := 3) (oi := { dst := some 59, op := Op.load 31 (Operand.tmp 8), type := 31, pos := "law.go:48", after := #[], guard := none }) (v := .agg (vals .u64 16 (dg (x)))) rfl (by kernel_rfl) (by kernel_rfl) (by kernel_rfl) (fun _ _ _ h => h) (yields_blk M_10.out (by rfl) 31 _ rfl rfl _ Try.underlying31 rfl (by rw [vals_size]; exact cells31)) hHeld ?_
  try simp only [Act.put, List.setIfInBounds_toArray, List.set_cons_zero, List.set_cons_succ]
  refine wpAnyH_take (i := 4) (oi := { dst := some 60, op := Op.load 31 (Operand.tmp 8), type := 31, pos := "law.go:48", after := #[], guard := none }) (v := .agg (vals .u64 16 (dg (x)))) rfl (by kernel_rfl) (by kernel_rfl) (by kernel_rfl) (fun _ _ _ h => h) (yields_blk M_10.out (by rfl) 31 _ rfl rfl _ Try.underlying31 rfl (by rw [vals_size]; exact cells31)) hHeld ?_
  try simp only [Act.put, List.setIfInBounds_toArray, List.set_cons_zero, List.set_cons_succ]
  refine wpAnyH_ready (rs := [1]) (by kernel_rfl) (by simp) ?_
  refine AllReadyH.cons (o := { dst := some 57, op := Op.call { callee := Callee.value (Operand.func 24), args := #[Operand.tmp 56], argTypes := #[27] }, type := 27, pos := "law.go:48", after := #[{ on := 0, ground := Ground.data }], guard := none }) rfl (fun K hK => ?_) AllReadyH.nil
  go_simp
  refine (sq_n x s4 _ Lx.out Hs4.out).mono ?_
  rintro e u13 ⟨rfl, hb⟩
  have HT13 := hide (keepCall hb rfl hHeld)
  dsimp only
  refine hK.out _ _ HT13.out (fun hHeld => ?_)
  clear hK K hb
  try simp only [Act.put, List.setIfInBounds_toArray, List.set_cons_zero, List.set_cons_succ]
  refine wpAnyH_ready (rs := [2]) (by kernel_rfl) (by simp) ?_
  refine AllReadyH.cons (o := { dst := some 58, op := Op.call { callee := Callee.value (Operand.func 14), args := #[Operand.tmp 57], argTypes := #[27] }, type := 22, pos := "law.go:48", after := #[{ on := 1, ground := Ground.data }, { on := 1, ground := Ground.chain }], guard := none }) rfl (fun K hK => ?_) AllReadyH.nil
  go_simp
  refine (bytes_at (s4) _ _ (by rfl)).mono ?_
  unfold ba
  rintro e u14 ⟨rfl, hb⟩
  have HT14 := hide (keepCall hb rfl hHeld)
  dsimp only
  refine hK.out _ _ HT14.out (fun hHeld => ?_)
  clear hK K hb
  try simp only [Act.put, List.setIfInBounds_toArray, List.set_cons_zero, List.set_cons_succ]
  refine wpAnyH_ready (rs := [5]) (by kernel_rfl) (by simp) ?_
  refine AllReadyH.cons (o := { dst := some 61, op := Op.call { callee := Callee.value (Operand.func 23), args := #[Operand.tmp 59, Operand.tmp 60], argTypes := #[31, 31] }, type := 31, pos := "law.go:48", after := #[{ on := 3, ground := Ground.data }, { on := 4, ground := Ground.data }, { on := 2, ground := Ground.chain }], guard := none }) rfl (fun K hK => ?_) AllReadyH.nil
  go_simp
  refine (refMul_n x x s4 _ Lx.out Lx.out Hs4.out).mono ?_
  unfold rn
  rintro e u15 ⟨rfl, hb⟩
  have HT15 := hide (keepCall hb rfl hHeld)
  dsimp only
  refine hK.out _ _ HT15.out (fun hHeld => ?_)
  clear hK K hb
  try simp only [Act.put, List.setIfInBounds_toArray, List.set_cons_zero, List.set_cons_succ]
  refine wpAnyH_ready (rs := [6]) (by kernel_rfl) (by simp) ?_
  refine AllReadyH.cons (o := { dst := some 62, op := Op.call { callee := Callee.value (Operand.func 12), args := #[Operand.tmp 61], argTypes := #[31] }, type := 22, pos := "law.go:48", after := #[{ on := 5, ground := Ground.data }, { on := 5, ground := Ground.chain }], guard := none }) rfl (fun K hK => ?_) AllReadyH.nil
  go_simp
  refine (refBytes_at (s4) _ _ (by rfl)).mono ?_
  unfold ba
  rintro e u16 ⟨rfl, hb⟩
  have HT16 := hide (keepCall hb rfl hHeld)
  dsimp only
  refine hK.out _ _ HT16.out (fun hHeld => ?_)
  clear hK K hb
  try simp only [Act.put, List.setIfInBounds_toArray, List.set_cons_zero, List.set_cons_succ]
  refine wpAnyH_take (i := 7) (oi := { dst := some 63, op := Op.binOp BinOp.eql 22 (Operand.tmp 58) (Operand.tmp 62) 22, type := 4, pos := "law.go:48", after := #[{ on := 2, ground := Ground.data }, { on := 6, ground := Ground.data }], guard := none }) (v := .bool true) rfl (by kernel_rfl) (by kernel_rfl) (by kernel_rfl) (fun _ _ _ h => h) (Or.inl ⟨by rfl, fun w hSw => by go_simp⟩) hHeld ?_
  try simp only [Act.put, List.setIfInBounds_toArray, List.set_cons_zero, List.set_cons_succ]
  refine wpAnyH_take (i := 8) (oi := { dst := some 64, op := Op.move (Operand.tmp 63), type := 4, pos := "law.go:48", after := #[{ on := 7, ground := Ground.data }, { on := 6, ground := Ground.chain }], guard := none }) (v := .bool true) rfl (by kernel_rfl) (by kernel_rfl) (by kernel_rfl) (fun _ _ _ h => h) (Or.inl ⟨by rfl, fun w hSw => by go_simp⟩) hHeld ?_
  try simp only [Act.put, List.setIfInBounds_toArray, List.set_cons_zero, List.set_cons_succ]
  refine wpAnyH_take (i := 9) (oi := { dst := some 65, op := Op.load 27 (Operand.tmp 6), type := 27, pos := "law.go:48", after := #[{ on := 8, ground := Ground.guard }], guard := some (8, true) }) (v := .agg (lits (x))) rfl (by kernel_rfl) (by kernel_rfl) (by kernel_rfl) (fun _ _ _ h => h) (yields_blk X_10.out (by rfl) 27 _ rfl rfl _ Try.underlying27 rfl cells27) hHeld ?_
  try simp only [Act.put, List.setIfInBounds_toArray, List.set_cons_zero, List.set_cons_succ]
  refine wpAnyH_take (i := 12) (oi := { dst := some 68, op := Op.build 31 #[], type := 31, pos := "law.go:48", after := #[{ on := 8, ground := Ground.guard }], guard := some (8, true) }) (v := .agg (vals .u64 16 (dg z0))) rfl (by kernel_rfl) (by kernel_rfl) (by kernel_rfl) (fun _ _ _ h => h) (yields_build (by rfl) 31 _ rfl (by simp only [List.map_toArray, List.map_nil]; rw [Hz0.out]; exact built_none)) hHeld ?_
  try simp only [Act.put, List.setIfInBounds_toArray, List.set_cons_zero, List.set_cons_succ]
  refine wpAnyH_take (i := 13) (oi := { dst := some 69, op := Op.load 31 (Operand.tmp 8), type := 31, pos := "law.go:48", after := #[{ on := 8, ground := Ground.guard }], guard := some (8, true) }) (v := .agg (vals .u64 16 (dg (x)))) rfl (by kernel_rfl) (by kernel_rfl) (by kernel_rfl) (fun _ _ _ h => h) (yields_blk M_10.out (by rfl) 31 _ rfl rfl _ Try.underlying31 rfl (by rw [vals_size]; exact cells31)) hHeld ?_
  try simp only [Act.put, List.setIfInBounds_toArray, List.set_cons_zero, List.set_cons_succ]
  refine wpAnyH_ready (rs := [10]) (by kernel_rfl) (by simp) ?_
  refine AllReadyH.cons (o := { dst := some 66, op := Op.call { callee := Callee.value (Operand.func 25), args := #[Operand.tmp 65], argTypes := #[27] }, type := 27, pos := "law.go:48", after := #[{ on := 9, ground := Ground.data }, { on := 8, ground := Ground.chain }, { on := 8, ground := Ground.guard }], guard := some (8, true) }) rfl (fun K hK => ?_) AllReadyH.nil
  go_simp
  refine (neg_n x s5 _ Lx.out Hs5.out).mono ?_
  rintro e u17 ⟨rfl, hb⟩
  have HT17 := hide (keepCall hb rfl hHeld)
  dsimp only
  refine hK.out _ _ HT17.out (fun hHeld => ?_)
  clear hK K hb
  try simp only [Act.put, List.setIfInBounds_toArray, List.set_cons_zero, List.set_cons_succ]
  refine wpAnyH_ready (rs := [11]) (by kernel_rfl) (by simp) ?_
  refine AllReadyH.cons (o := { dst := some 67, op := Op.call { callee := Callee.value (Operand.func 14), args := #[Operand.tmp 66], argTypes := #[27] }, type := 22, pos := "law.go:48", after := #[{ on := 10, ground := Ground.data }, { on := 10, ground := Ground.chain }, { on := 8, ground := Ground.guard }], guard := some (8, true) }) rfl (fun K hK => ?_) AllReadyH.nil
  go_simp
  refine (bytes_at (s5) _ _ (by rfl)).mono ?_
  unfold ba
  rintro e u18 ⟨rfl, hb⟩
  have HT18 := hide (keepCall hb rfl hHeld)
  dsimp only
  refine hK.out _ _ HT18.out (fun hHeld => ?_)
  clear hK K hb
  try simp only [Act.put, List.setIfInBounds_toArray, List.set_cons_zero, List.set_cons_succ]
  refine wpAnyH_ready (rs := [14]) (by kernel_rfl) (by simp) ?_
  refine AllReadyH.cons (o := { dst := some 70, op := Op.call { callee := Callee.value (Operand.func 21), args := #[Operand.tmp 68, Operand.tmp 69], argTypes := #[31, 31] }, type := 31, pos := "law.go:48", after := #[{ on := 12, ground := Ground.data }, { on := 13, ground := Ground.data }, { on := 11, ground := Ground.chain }, { on := 8, ground := Ground.guard }], guard := some (8, true) }) rfl (fun K hK => ?_) AllReadyH.nil
  go_simp
  refine (refNeg_n z0 x s5 _ Hz0.out Lx.out Hs5.out).mono ?_
  unfold rn
  rintro e u19 ⟨rfl, hb⟩
  have HT19 := hide (keepCall hb rfl hHeld)
  dsimp only
  refine hK.out _ _ HT19.out (fun hHeld => ?_)
  clear hK K hb
  try simp only [Act.put, List.setIfInBounds_toArray, List.set_cons_zero, List.set_cons_succ]
  refine wpAnyH_ready (rs := [15]) (by kernel_rfl) (by simp) ?_
  refine AllReadyH.cons (o := { dst := some 71, op := Op.call { callee := Callee.value (Operand.func 12), args := #[Operand.tmp 70], argTypes := #[31] }, type := 22, pos := "law.go:48", after := #[{ on := 14, ground := Ground.data }, { on := 14, ground := Ground.chain }, { on := 8, ground := Ground.guard }], guard := some (8, true) }) rfl (fun K hK => ?_) AllReadyH.nil
  go_simp
  refine (refBytes_at (s5) _ _ (by rfl)).mono ?_
  unfold ba
  rintro e u20 ⟨rfl, hb⟩
  have HT20 := hide (keepCall hb rfl hHeld)
  dsimp only
  refine hK.out _ _ HT20.out (fun hHeld => ?_)
  clear hK K hb
  try simp only [Act.put, List.setIfInBounds_toArray, List.set_cons_zero, List.set_cons_succ]
  refine wpAnyH_take (i := 16) (oi := { dst := some 72, op := Op.binOp BinOp.eql 22 (Operand.tmp 67) (Operand.tmp 71) 22, type := 4, pos := "law.go:48", after := #[{ on := 11, ground := Ground.data }, { on := 15, ground := Ground.data }, { on := 8, ground := Ground.guard }], guard := some (8, true) }) (v := .bool true) rfl (by kernel_rfl) (by kernel_rfl) (by kernel_rfl) (fun _ _ _ h => h) (Or.inl ⟨by rfl, fun w hSw => by go_simp⟩) hHeld ?_
  try simp only [Act.put, List.setIfInBounds_toArray, List.set_cons_zero, List.set_cons_succ]
  refine wpAnyH_take (i := 17) (oi := { dst := some 73, op := Op.pick (Operand.tmp 64) (Operand.tmp 72) (Operand.const (Value.bool false)), type := 4, pos := "law.go:48", after := #[{ on := 8, ground := Ground.data }, { on := 16, ground := Ground.data }], guard := none }) (v := .bool true) rfl (by kernel_rfl) (by kernel_rfl) (by kernel_rfl) (fun _ _ _ h => h) (Or.inl ⟨by rfl, fun w hSw => by go_simp⟩) hHeld ?_
  try simp only [Act.put, List.setIfInBounds_toArray, List.set_cons_zero, List.set_cons_succ]
  refine wpAnyH_take (i := 18) (oi := { dst := some 74, op := Op.move (Operand.tmp 73), type := 4, pos := "law.go:48", after := #[{ on := 17, ground := Ground.data }, { on := 15, ground := Ground.chain }], guard := none }) (v := .bool true) rfl (by kernel_rfl) (by kernel_rfl) (by kernel_rfl) (fun _ _ _ h => h) (Or.inl ⟨by rfl, fun w hSw => by go_simp⟩) hHeld ?_
  try simp only [Act.put, List.setIfInBounds_toArray, List.set_cons_zero, List.set_cons_succ]
  refine wpAnyH_take (i := 19) (oi := { dst := some 75, op := Op.load 27 (Operand.tmp 6), type := 27, pos := "law.go:48", after := #[{ on := 18, ground := Ground.guard }], guard := some (18, true) }) (v := .agg (lits (x))) rfl (by kernel_rfl) (by kernel_rfl) (by kernel_rfl) (fun _ _ _ h => h) (yields_blk X_10.out (by rfl) 27 _ rfl rfl _ Try.underlying27 rfl cells27) hHeld ?_
  try simp only [Act.put, List.setIfInBounds_toArray, List.set_cons_zero, List.set_cons_succ]
  refine wpAnyH_take (i := 22) (oi := { dst := some 78, op := Op.load 31 (Operand.tmp 8), type := 31, pos := "law.go:48", after := #[{ on := 18, ground := Ground.guard }], guard := some (18, true) }) (v := .agg (vals .u64 16 (dg (x)))) rfl (by kernel_rfl) (by kernel_rfl) (by kernel_rfl) (fun _ _ _ h => h) (yields_blk M_10.out (by rfl) 31 _ rfl rfl _ Try.underlying31 rfl (by rw [vals_size]; exact cells31)) hHeld ?_
  try simp only [Act.put, List.setIfInBounds_toArray, List.set_cons_zero, List.set_cons_succ]
  refine wpAnyH_ready (rs := [20]) (by kernel_rfl) (by simp) ?_
  refine AllReadyH.cons (o := { dst := some 76, op := Op.call { callee := Callee.value (Operand.func 26), args := #[Operand.tmp 75], argTypes := #[27] }, type := 27, pos := "law.go:48", after := #[{ on := 19, ground := Ground.data }, { on := 18, ground := Ground.chain }, { on := 18, ground := Ground.guard }], guard := some (18, true) }) rfl (fun K hK => ?_) AllReadyH.nil
  go_simp
  refine (inv_n x iv _ Lx.out Hiv.out).mono ?_
  rintro e u21 ⟨rfl, hb⟩
  have HT21 := hide (keepCall hb rfl hHeld)
  dsimp only
  refine hK.out _ _ HT21.out (fun hHeld => ?_)
  clear hK K hb
  try simp only [Act.put, List.setIfInBounds_toArray, List.set_cons_zero, List.set_cons_succ]
  refine wpAnyH_ready (rs := [21]) (by kernel_rfl) (by simp) ?_
  refine AllReadyH.cons (o := { dst := some 77, op := Op.call { callee := Callee.value (Operand.func 14), args := #[Operand.tmp 76], argTypes := #[27] }, type := 22, pos := "law.go:48", after := #[{ on := 20, ground := Ground.data }, { on := 20, ground := Ground.chain }, { on := 18, ground := Ground.guard }], guard := some (18, true) }) rfl (fun K hK => ?_) AllReadyH.nil
  go_simp
  refine (bytes_at (iv) _ _ (by rfl)).mono ?_
  unfold ba
  rintro e u22 ⟨rfl, hb⟩
  have HT22 := hide (keepCall hb rfl hHeld)
  dsimp only
  refine hK.out _ _ HT22.out (fun hHeld => ?_)
  clear hK K hb
  try simp only [Act.put, List.setIfInBounds_toArray, List.set_cons_zero, List.set_cons_succ]
  refine wpAnyH_ready (rs := [23]) (by kernel_rfl) (by simp) ?_
  refine AllReadyH.cons (o := { dst := some 79, op := Op.call { callee := Callee.value (Operand.func 27), args := #[Operand.tmp 78], argTypes := #[31] }, type := 31, pos := "law.go:48", after := #[{ on := 22, ground := Ground.data }, { on := 21, ground := Ground.chain }, { on := 18, ground := Ground.guard }], guard := some (18, true) }) rfl (fun K hK => ?_) AllReadyH.nil
  go_simp
  refine (refInv_n x iv _ Lx.out Hiv.out).mono ?_
  unfold rn
  rintro e u23 ⟨rfl, hb⟩
  have HT23 := hide (keepCall hb rfl hHeld)
  dsimp only
  refine hK.out _ _ HT23.out (fun hHeld => ?_)
  clear hK K hb
  try simp only [Act.put, List.setIfInBounds_toArray, List.set_cons_zero, List.set_cons_succ]
  refine wpAnyH_ready (rs := [24]) (by kernel_rfl) (by simp) ?_
  refine AllReadyH.cons (o := { dst := some 80, op := Op.call { callee := Callee.value (Operand.func 12), args := #[Operand.tmp 79], argTypes := #[31] }, type := 22, pos := "law.go:48", after := #[{ on := 23, ground := Ground.data }, { on := 23, ground := Ground.chain }, { on := 18, ground := Ground.guard }], guard := some (18, true) }) rfl (fun K hK => ?_) AllReadyH.nil
  go_simp
  refine (refBytes_at (iv) _ _ (by rfl)).mono ?_
  unfold ba
  rintro e u24 ⟨rfl, hb⟩
  have HT24 := hide (keepCall hb rfl hHeld)
  dsimp only
  refine hK.out _ _ HT24.out (fun hHeld => ?_)
  clear hK K hb
  try simp only [Act.put, List.setIfInBounds_toArray, List.set_cons_zero, List.set_cons_succ]
  refine wpAnyH_take (i := 25) (oi := { dst := some 81, op := Op.binOp BinOp.eql 22 (Operand.tmp 77) (Operand.tmp 80) 22, type := 4, pos := "law.go:48", after := #[{ on := 21, ground := Ground.data }, { on := 24, ground := Ground.data }, { on := 18, ground := Ground.guard }], guard := some (18, true) }) (v := .bool true) rfl (by kernel_rfl) (by kernel_rfl) (by kernel_rfl) (fun _ _ _ h => h) (Or.inl ⟨by rfl, fun w hSw => by go_simp⟩) hHeld ?_
  try simp only [Act.put, List.setIfInBounds_toArray, List.set_cons_zero, List.set_cons_succ]
  refine wpAnyH_take (i := 26) (oi := { dst := some 82, op := Op.pick (Operand.tmp 74) (Operand.tmp 81) (Operand.const (Value.bool false)), type := 4, pos := "law.go:48", after := #[{ on := 18, ground := Ground.data }, { on := 25, ground := Ground.data }], guard := none }) (v := .bool true) rfl (by kernel_rfl) (by kernel_rfl) (by kernel_rfl) (fun _ _ _ h => h) (Or.inl ⟨by rfl, fun w hSw => by go_simp⟩) hHeld ?_
  try simp only [Act.put, List.setIfInBounds_toArray, List.set_cons_zero, List.set_cons_succ]
  refine wpAnyH_take (i := 27) (oi := { dst := some 11, op := Op.assign (Operand.tmp 82), type := 4, pos := "law.go:48", after := #[{ on := 26, ground := Ground.data }, { on := 24, ground := Ground.chain }, { on := 0, ground := Ground.phase }, { on := 1, ground := Ground.phase }, { on := 2, ground := Ground.phase }, { on := 3, ground := Ground.phase }, { on := 4, ground := Ground.phase }, { on := 5, ground := Ground.phase }, { on := 6, ground := Ground.phase }, { on := 7, ground := Ground.phase }, { on := 8, ground := Ground.phase }, { on := 9, ground := Ground.phase }, { on := 10, ground := Ground.phase }, { on := 11, ground := Ground.phase }, { on := 12, ground := Ground.phase }, { on := 13, ground := Ground.phase }, { on := 14, ground := Ground.phase }, { on := 15, ground := Ground.phase }, { on := 16, ground := Ground.phase }, { on := 17, ground := Ground.phase }, { on := 18, ground := Ground.phase }, { on := 19, ground := Ground.phase }, { on := 20, ground := Ground.phase }, { on := 21, ground := Ground.phase }, { on := 22, ground := Ground.phase }, { on := 23, ground := Ground.phase }, { on := 24, ground := Ground.phase }, { on := 25, ground := Ground.phase }, { on := 26, ground := Ground.phase }], guard := none }) (v := .bool true) rfl (by kernel_rfl) (by kernel_rfl) (by kernel_rfl) (fun _ _ _ h => h) (Or.inl ⟨by rfl, fun w hSw => by go_simp⟩) hHeld ?_
  try simp only [Act.put, List.setIfInBounds_toArray, List.set_cons_zero, List.set_cons_succ]
  refine wpAnyH_done (by kernel_rfl) ?_ _
  have X_11 := hide (X_10.out.call HT24.out)
  have Y_11 := hide (Y_10.out.call HT24.out)
  have M_11 := hide (M_10.out.call HT24.out)
  have N_11 := hide (N_10.out.call HT24.out)
  have Lw_11 := hide (Lw_10.out.trans (HT24.out.mono Lw_10.out.size))
  clear X_10 Y_10 M_10 N_10 Lw_10 hHeld
  go_wp2_with (first | (refine wpList_load_row rfl 27 _ rfl (k2.heap.size) rfl 27 _ (0, 0) _ X_11.out Try.underlying27 rfl cells27 ?_) | (refine wpList_load_row rfl 27 _ rfl (k4.heap.size) rfl 27 _ (0, 0) _ Y_11.out Try.underlying27 rfl cells27 ?_))
  refine (ratio_n x y rv ok _ _ (by rfl) Lx.out Ly.out Hrv.out Hok.out).mono ?_
  rw [fe_def rv]
  rintro e k12 ⟨rfl, hb⟩
  have X_12 := hide (X_11.out.call hb)
  have Y_12 := hide (Y_11.out.call hb)
  have M_12 := hide (M_11.out.call hb)
  have N_12 := hide (N_11.out.call hb)
  have Lw_12 := hide (Lw_11.out.trans (hb.mono Lw_11.out.size))
  clear X_11 Y_11 M_11 N_11 Lw_11 hb
  dsimp only
  have R_13 := hide (Blk.new k12 (lits rv) 27)
  have X_13 := hide (X_12.out.alloc (.cells (lits rv) 27))
  have Y_13 := hide (Y_12.out.alloc (.cells (lits rv) 27))
  have M_13 := hide (M_12.out.alloc (.cells (lits rv) 27))
  have N_13 := hide (N_12.out.alloc (.cells (lits rv) 27))
  have Lw_13 := hide (Lw_12.out.alloc Lw_12.out.size (.cells (lits rv) 27))
  clear X_12 Y_12 M_12 N_12 Lw_12
  go_wp2_with (first | (refine wpList_load_row rfl 31 _ rfl (k6.heap.size) rfl 31 _ (0, 0) _ M_13.out Try.underlying31 rfl (by rw [vals_size]; exact cells31) ?_) | (refine wpList_load_row rfl 31 _ rfl (k8.heap.size) rfl 31 _ (0, 0) _ N_13.out Try.underlying31 rfl (by rw [vals_size]; exact cells31) ?_))
  refine (refRatio_n x y rv ok _ _ (by rfl) Lx.out Ly.out Hrv.out Hok.out).mono ?_
  rintro e k14 ⟨rfl, hb⟩
  have X_14 := hide (X_13.out.call hb)
  have Y_14 := hide (Y_13.out.call hb)
  have M_14 := hide (M_13.out.call hb)
  have N_14 := hide (N_13.out.call hb)
  have R_14 := hide (R_13.out.call hb)
  have Lw_14 := hide (Lw_13.out.trans (hb.mono Lw_13.out.size))
  clear X_13 Y_13 M_13 N_13 R_13 Lw_13 hb
  unfold rn
  dsimp only
  go_upto_region 10 with (first | (refine wpList_store_abs rfl 31 _ _ rfl k14.heap.size (vals .u64 16 (dg rv)) rfl rfl 31 _ (Blk.new k14 _ _) (by rw [vals_size]; exact cells31) (by rw [vals_size]; rfl) (vals_one _ _ _) ?_; intro k15 Bn Sn; have X_15 := hide (Sn.other _ _ _ (Nat.ne_of_gt X_14.out.lt) (X_14.out.alloc _)); have Y_15 := hide (Sn.other _ _ _ (Nat.ne_of_gt Y_14.out.lt) (Y_14.out.alloc _)); have M_15 := hide (Sn.other _ _ _ (Nat.ne_of_gt M_14.out.lt) (M_14.out.alloc _)); have N_15 := hide (Sn.other _ _ _ (Nat.ne_of_gt N_14.out.lt) (N_14.out.alloc _)); have R_15 := hide (Sn.other _ _ _ (Nat.ne_of_gt R_14.out.lt) (R_14.out.alloc _)); have Lw_15 := hide (Sn.low _ _ (Lw_14.out.alloc Lw_14.out.size _) Lw_14.out.size); have S_15 := hide Bn; clear Bn Sn X_14 Y_14 M_14 N_14 R_14 Lw_14))
  refine wp_region_held_drew (S := fun w' => Below k15.heap.size k15 w') (by kernel_rfl) (Below.refl _ _).drew (fun hHeld => ?_)
  refine wpAnyH_take (i := 0) (oi := { dst := some 95, op := Op.move (Operand.tmp 5), type := 4, pos := "law.go:51", after := #[], guard := none }) (v := .bool true) rfl (by kernel_rfl) (by kernel_rfl) (by kernel_rfl) (fun _ _ _ h => h) (Or.inl ⟨by rfl, fun w hSw => by go_simp⟩) hHeld ?_
  try simp only [Act.put, List.setIfInBounds_toArray, List.set_cons_zero, List.set_cons_succ]
  refine wpAnyH_take (i := 1) (oi := { dst := some 96, op := Op.move (Operand.tmp 95), type := 4, pos := "law.go:51", after := #[{ on := 0, ground := Ground.data }], guard := none }) (v := .bool true) rfl (by kernel_rfl) (by kernel_rfl) (by kernel_rfl) (fun _ _ _ h => h) (Or.inl ⟨by rfl, fun w hSw => by go_simp⟩) hHeld ?_
  try simp only [Act.put, List.setIfInBounds_toArray, List.set_cons_zero, List.set_cons_succ]
  refine wpAnyH_take (i := 2) (oi := { dst := some 97, op := Op.move (Operand.tmp 10), type := 4, pos := "law.go:51", after := #[{ on := 1, ground := Ground.guard }], guard := some (1, true) }) (v := .bool true) rfl (by kernel_rfl) (by kernel_rfl) (by kernel_rfl) (fun _ _ _ h => h) (Or.inl ⟨by rfl, fun w hSw => by go_simp⟩) hHeld ?_
  try simp only [Act.put, List.setIfInBounds_toArray, List.set_cons_zero, List.set_cons_succ]
  refine wpAnyH_take (i := 3) (oi := { dst := some 98, op := Op.pick (Operand.tmp 96) (Operand.tmp 97) (Operand.const (Value.bool false)), type := 4, pos := "law.go:51", after := #[{ on := 1, ground := Ground.data }, { on := 2, ground := Ground.data }], guard := none }) (v := .bool true) rfl (by kernel_rfl) (by kernel_rfl) (by kernel_rfl) (fun _ _ _ h => h) (Or.inl ⟨by rfl, fun w hSw => by go_simp⟩) hHeld ?_
  try simp only [Act.put, List.setIfInBounds_toArray, List.set_cons_zero, List.set_cons_succ]
  refine wpAnyH_take (i := 4) (oi := { dst := some 99, op := Op.move (Operand.tmp 98), type := 4, pos := "law.go:51", after := #[{ on := 3, ground := Ground.data }, { on := 1, ground := Ground.chain }], guard := none }) (v := .bool true) rfl (by kernel_rfl) (by kernel_rfl) (by kernel_rfl) (fun _ _ _ h => h) (Or.inl ⟨by rfl, fun w hSw => by go_simp⟩) hHeld ?_
  try simp only [Act.put, List.setIfInBounds_toArray, List.set_cons_zero, List.set_cons_succ]
  refine wpAnyH_take (i := 5) (oi := { dst := some 100, op := Op.move (Operand.tmp 11), type := 4, pos := "law.go:51", after := #[{ on := 4, ground := Ground.guard }], guard := some (4, true) }) (v := .bool true) rfl (by kernel_rfl) (by kernel_rfl) (by kernel_rfl) (fun _ _ _ h => h) (Or.inl ⟨by rfl, fun w hSw => by go_simp⟩) hHeld ?_
  try simp only [Act.put, List.setIfInBounds_toArray, List.set_cons_zero, List.set_cons_succ]
  refine wpAnyH_take (i := 6) (oi := { dst := some 101, op := Op.pick (Operand.tmp 99) (Operand.tmp 100) (Operand.const (Value.bool false)), type := 4, pos := "law.go:51", after := #[{ on := 4, ground := Ground.data }, { on := 5, ground := Ground.data }], guard := none }) (v := .bool true) rfl (by kernel_rfl) (by kernel_rfl) (by kernel_rfl) (fun _ _ _ h => h) (Or.inl ⟨by rfl, fun w hSw => by go_simp⟩) hHeld ?_
  try simp only [Act.put, List.setIfInBounds_toArray, List.set_cons_zero, List.set_cons_succ]
  refine wpAnyH_take (i := 7) (oi := { dst := some 102, op := Op.move (Operand.tmp 101), type := 4, pos := "law.go:51", after := #[{ on := 6, ground := Ground.data }, { on := 4, ground := Ground.chain }], guard := none }) (v := .bool true) rfl (by kernel_rfl) (by kernel_rfl) (by kernel_rfl) (fun _ _ _ h => h) (Or.inl ⟨by rfl, fun w hSw => by go_simp⟩) hHeld ?_
  try simp only [Act.put, List.setIfInBounds_toArray, List.set_cons_zero, List.set_cons_succ]
  refine wpAnyH_take (i := 8) (oi := { dst := some 103, op := Op.load 27 (Operand.tmp 12), type := 27, pos := "law.go:51", after := #[{ on := 7, ground := Ground.guard }], guard := some (7, true) }) (v := .agg (lits (rv))) rfl (by kernel_rfl) (by kernel_rfl) (by kernel_rfl) (fun _ _ _ h => h) (yields_blk R_15.out (by rfl) 27 _ rfl rfl _ Try.underlying27 rfl cells27) hHeld ?_
  try simp only [Act.put, List.setIfInBounds_toArray, List.set_cons_zero, List.set_cons_succ]
  refine wpAnyH_take (i := 10) (oi := { dst := some 105, op := Op.load 31 (Operand.tmp 14), type := 31, pos := "law.go:51", after := #[{ on := 7, ground := Ground.guard }], guard := some (7, true) }) (v := .agg (vals .u64 16 (dg (rv)))) rfl (by kernel_rfl) (by kernel_rfl) (by kernel_rfl) (fun _ _ _ h => h) (yields_blk S_15.out (by rfl) 31 _ rfl rfl _ Try.underlying31 rfl (by rw [vals_size]; exact cells31)) hHeld ?_
  try simp only [Act.put, List.setIfInBounds_toArray, List.set_cons_zero, List.set_cons_succ]
  refine wpAnyH_ready (rs := [9]) (by kernel_rfl) (by simp) ?_
  refine AllReadyH.cons (o := { dst := some 104, op := Op.call { callee := Callee.value (Operand.func 14), args := #[Operand.tmp 103], argTypes := #[27] }, type := 22, pos := "law.go:51", after := #[{ on := 8, ground := Ground.data }, { on := 7, ground := Ground.chain }, { on := 7, ground := Ground.guard }], guard := some (7, true) }) rfl (fun K hK => ?_) AllReadyH.nil
  go_simp
  refine (bytes_at (rv) _ _ (by rfl)).mono ?_
  unfold ba
  rintro e u25 ⟨rfl, hb⟩
  have HT25 := hide (keepCall hb rfl hHeld)
  dsimp only
  refine hK.out _ _ HT25.out (fun hHeld => ?_)
  clear hK K hb
  try simp only [Act.put, List.setIfInBounds_toArray, List.set_cons_zero, List.set_cons_succ]
  refine wpAnyH_ready (rs := [11]) (by kernel_rfl) (by simp) ?_
  refine AllReadyH.cons (o := { dst := some 106, op := Op.call { callee := Callee.value (Operand.func 12), args := #[Operand.tmp 105], argTypes := #[31] }, type := 22, pos := "law.go:51", after := #[{ on := 10, ground := Ground.data }, { on := 9, ground := Ground.chain }, { on := 7, ground := Ground.guard }], guard := some (7, true) }) rfl (fun K hK => ?_) AllReadyH.nil
  go_simp
  refine (refBytes_at (rv) _ _ (by rfl)).mono ?_
  unfold ba
  rintro e u26 ⟨rfl, hb⟩
  have HT26 := hide (keepCall hb rfl hHeld)
  dsimp only
  refine hK.out _ _ HT26.out (fun hHeld => ?_)
  clear hK K hb
  try simp only [Act.put, List.setIfInBounds_toArray, List.set_cons_zero, List.set_cons_succ]
  refine wpAnyH_take (i := 12) (oi := { dst := some 107, op := Op.binOp BinOp.eql 22 (Operand.tmp 104) (Operand.tmp 106) 22, type := 4, pos := "law.go:51", after := #[{ on := 9, ground := Ground.data }, { on := 11, ground := Ground.data }, { on := 7, ground := Ground.guard }], guard := some (7, true) }) (v := .bool true) rfl (by kernel_rfl) (by kernel_rfl) (by kernel_rfl) (fun _ _ _ h => h) (Or.inl ⟨by rfl, fun w hSw => by go_simp⟩) hHeld ?_
  try simp only [Act.put, List.setIfInBounds_toArray, List.set_cons_zero, List.set_cons_succ]
  refine wpAnyH_take (i := 13) (oi := { dst := some 108, op := Op.pick (Operand.tmp 102) (Operand.tmp 107) (Operand.const (Value.bool false)), type := 4, pos := "law.go:51", after := #[{ on := 7, ground := Ground.data }, { on := 12, ground := Ground.data }], guard := none }) (v := .bool true) rfl (by kernel_rfl) (by kernel_rfl) (by kernel_rfl) (fun _ _ _ h => h) (Or.inl ⟨by rfl, fun w hSw => by go_simp⟩) hHeld ?_
  try simp only [Act.put, List.setIfInBounds_toArray, List.set_cons_zero, List.set_cons_succ]
  refine wpAnyH_take (i := 14) (oi := { dst := some 109, op := Op.move (Operand.tmp 108), type := 4, pos := "law.go:51", after := #[{ on := 13, ground := Ground.data }, { on := 11, ground := Ground.chain }], guard := none }) (v := .bool true) rfl (by kernel_rfl) (by kernel_rfl) (by kernel_rfl) (fun _ _ _ h => h) (Or.inl ⟨by rfl, fun w hSw => by go_simp⟩) hHeld ?_
  try simp only [Act.put, List.setIfInBounds_toArray, List.set_cons_zero, List.set_cons_succ]
  refine wpAnyH_take (i := 15) (oi := { dst := some 110, op := Op.move (Operand.tmp 13), type := 4, pos := "law.go:51", after := #[{ on := 14, ground := Ground.guard }], guard := some (14, true) }) (v := .bool ok) rfl (by kernel_rfl) (by kernel_rfl) (by kernel_rfl) (fun _ _ _ h => h) (Or.inl ⟨by rfl, fun w hSw => by go_simp⟩) hHeld ?_
  try simp only [Act.put, List.setIfInBounds_toArray, List.set_cons_zero, List.set_cons_succ]
  refine wpAnyH_take (i := 16) (oi := { dst := some 111, op := Op.move (Operand.tmp 15), type := 4, pos := "law.go:51", after := #[{ on := 14, ground := Ground.guard }], guard := some (14, true) }) (v := .bool ok) rfl (by kernel_rfl) (by kernel_rfl) (by kernel_rfl) (fun _ _ _ h => h) (Or.inl ⟨by rfl, fun w hSw => by go_simp⟩) hHeld ?_
  try simp only [Act.put, List.setIfInBounds_toArray, List.set_cons_zero, List.set_cons_succ]
  refine wpAnyH_take (i := 17) (oi := { dst := some 112, op := Op.binOp BinOp.eql 4 (Operand.tmp 110) (Operand.tmp 111) 4, type := 4, pos := "law.go:51", after := #[{ on := 15, ground := Ground.data }, { on := 16, ground := Ground.data }, { on := 14, ground := Ground.guard }], guard := some (14, true) }) (v := .bool true) rfl (by kernel_rfl) (by kernel_rfl) (by kernel_rfl) (fun _ _ _ h => h) (Or.inl ⟨by rfl, fun w hSw => by go_simp⟩) hHeld ?_
  try simp only [Act.put, List.setIfInBounds_toArray, List.set_cons_zero, List.set_cons_succ]
  refine wpAnyH_take (i := 18) (oi := { dst := some 113, op := Op.pick (Operand.tmp 109) (Operand.tmp 112) (Operand.const (Value.bool false)), type := 4, pos := "law.go:51", after := #[{ on := 14, ground := Ground.data }, { on := 17, ground := Ground.data }], guard := none }) (v := .bool true) rfl (by kernel_rfl) (by kernel_rfl) (by kernel_rfl) (fun _ _ _ h => h) (Or.inl ⟨by rfl, fun w hSw => by go_simp⟩) hHeld ?_
  try simp only [Act.put, List.setIfInBounds_toArray, List.set_cons_zero, List.set_cons_succ]
  refine wpAnyH_take (i := 19) (oi := { dst := some 4, op := Op.assign (Operand.tmp 113), type := 4, pos := "law.go:51", after := #[{ on := 18, ground := Ground.data }, { on := 14, ground := Ground.chain }, { on := 0, ground := Ground.phase }, { on := 1, ground := Ground.phase }, { on := 2, ground := Ground.phase }, { on := 3, ground := Ground.phase }, { on := 4, ground := Ground.phase }, { on := 5, ground := Ground.phase }, { on := 6, ground := Ground.phase }, { on := 7, ground := Ground.phase }, { on := 8, ground := Ground.phase }, { on := 9, ground := Ground.phase }, { on := 10, ground := Ground.phase }, { on := 11, ground := Ground.phase }, { on := 12, ground := Ground.phase }, { on := 13, ground := Ground.phase }, { on := 14, ground := Ground.phase }, { on := 15, ground := Ground.phase }, { on := 16, ground := Ground.phase }, { on := 17, ground := Ground.phase }, { on := 18, ground := Ground.phase }], guard := none }) (v := .bool true) rfl (by kernel_rfl) (by kernel_rfl) (by kernel_rfl) (fun _ _ _ h => h) (Or.inl ⟨by rfl, fun w hSw => by go_simp⟩) hHeld ?_
  try simp only [Act.put, List.setIfInBounds_toArray, List.set_cons_zero, List.set_cons_succ]
  refine wpAnyH_done (by kernel_rfl) ?_ _
  go_wp2
  go_ret
  exact ⟨rfl, keepLow Lw_15.out HT26.out⟩
end Go.Proofs.Ytbjcfibpiiplaaa

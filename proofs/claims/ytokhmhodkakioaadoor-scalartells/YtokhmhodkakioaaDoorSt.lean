/- ScalarTells' walk: for all bytes the law returns true. -/
import Derived.Test.YtokhmhodkakioaaDoorSo
import Derived.Test.YtokhmhodkakioaaDoorRd
namespace Go.Proofs.YtokhmhodkakioaaDoor
open Go.RowKit

set_option maxRecDepth 100000 in
set_option maxHeartbeats 8000000 in
theorem tells_walk (f a b c : Nat → Nat) (w : World) (hG : Glob w) (hf : ∀ i, f i < 256) (ha : ∀ i, a i < 256) (hb : ∀ i, b i < 256) (hc : ∀ i, c i < 256) :
    Calls Tryd.prog 3 #[bb f, ba a, ba b, ba c] w fun e w' => e = .returned (.bool true) ∧ Below w.heap.size w w' := by
  have HG := hide hG
  have Hf := hide hf
  have Ha := hide ha
  have Hb := hide hb
  have Hc := hide hc
  obtain ⟨r, hr⟩ : ∃ r, nb f 64 % qL = r := ⟨_, rfl⟩
  have Hr := hide hr
  obtain ⟨m, hm⟩ : ∃ m, (nb a 32 * nb b 32 + nb c 32) % qL = m := ⟨_, rfl⟩
  have Hm := hide hm
  obtain ⟨k, hk⟩ : ∃ k, decide (nb a 32 < qL) = k := ⟨_, rfl⟩
  have Hk := hide hk
  clear hG hf ha hb hc hr hm hk
  unfold ba bb
  have F_0 := hide ((((Blk.new w (vals .u8 64 f) 22).alloc (.cells (vals .u8 32 a) 23)).alloc (.cells (vals .u8 32 b) 23)).alloc (.cells (vals .u8 32 c) 23))
  have A_0 := hide (((Blk.new' (w.alloc (.cells (vals .u8 64 f) 22)) (w.heap.size + 1) (by simp) (vals .u8 32 a) 23).alloc (.cells (vals .u8 32 b) 23)).alloc (.cells (vals .u8 32 c) 23))
  have B_0 := hide ((Blk.new' ((w.alloc (.cells (vals .u8 64 f) 22)).alloc (.cells (vals .u8 32 a) 23)) (w.heap.size + 2) (by simp) (vals .u8 32 b) 23).alloc (.cells (vals .u8 32 c) 23))
  have C_0 := hide (Blk.new' (((w.alloc (.cells (vals .u8 64 f) 22)).alloc (.cells (vals .u8 32 a) 23)).alloc (.cells (vals .u8 32 b) 23)) (w.heap.size + 3) (by simp) (vals .u8 32 c) 23)
  have L_0 : Hid (Below w.heap.size w ((((w.alloc (.cells (vals .u8 64 f) 22)).alloc (.cells (vals .u8 32 a) 23)).alloc (.cells (vals .u8 32 b) 23)).alloc (.cells (vals .u8 32 c) 23))) := hide (((((Below.refl _ w).alloc (Nat.le_refl _) _).alloc (by simp) _).alloc (by simp; omega) _).alloc (by simp; omega) _)
  go_enter Tryd.func3, Tryd.ntmps3
  go_upto_region 2 with (first
      | (go_at_call 7; refine (awake_at _ _ rfl (HG.out.low L_0.out)).mono ?_; rintro e k1 ⟨rfl, hb⟩; have F_1 := hide (F_0.out.call hb); have A_1 := hide (A_0.out.call hb); have B_1 := hide (B_0.out.call hb); have C_1 := hide (C_0.out.call hb); have L_1 := hide (L_0.out.trans (hb.mono L_0.out.size)); clear hb F_0 A_0 B_0 C_0 L_0; dsimp only))
  have hq1 := eq_same (byt r) (byt r) fun _ _ => rfl
  have hq2 := eq_same (byt m) (byt m) fun _ _ => rfl
  have hq3 := eq_same (byt qL) (byt qL) fun _ _ => rfl
  have hbb := bool_eq k
  refine wp_region_held_drew (S := fun w' => Below k1.heap.size k1 w') (by kernel_rfl) (Below.refl _ _).drew (fun hHeld => ?_)
  refine wpAnyH_take (i := 0) (oi := { dst := some 11, op := Op.move (Operand.tmp 9), type := 4, pos := "law.go:29", after := #[], guard := none }) (v := .bool true) rfl (by kernel_rfl) (by kernel_rfl) (by kernel_rfl) (fun _ _ _ h => h) (Or.inl ⟨by rfl, fun w hSw => by go_simp⟩) hHeld ?_
  try simp only [Act.put, List.setIfInBounds_toArray, List.set_cons_zero, List.set_cons_succ]
  refine wpAnyH_take (i := 1) (oi := { dst := some 12, op := Op.move (Operand.tmp 11), type := 4, pos := "law.go:29", after := #[{ on := 0, ground := Ground.data }], guard := none }) (v := .bool true) rfl (by kernel_rfl) (by kernel_rfl) (by kernel_rfl) (fun _ _ _ h => h) (Or.inl ⟨by rfl, fun w hSw => by go_simp⟩) hHeld ?_
  try simp only [Act.put, List.setIfInBounds_toArray, List.set_cons_zero, List.set_cons_succ]
  refine wpAnyH_take (i := 2) (oi := { dst := some 13, op := Op.load 22 (Operand.tmp 4), type := 22, pos := "law.go:29", after := #[{ on := 1, ground := Ground.guard }], guard := some (1, true) }) (v := .agg (vals .u8 64 f)) rfl (by kernel_rfl) (by kernel_rfl) (by kernel_rfl) (fun _ _ _ h => h) (yields_blk F_1.out (by rfl) 22 _ rfl rfl _ Tryd.underlying22 rfl (by rw [vals_size]; exact cells22)) hHeld ?_
  try simp only [Act.put, List.setIfInBounds_toArray, List.set_cons_zero, List.set_cons_succ]
  refine wpAnyH_take (i := 4) (oi := { dst := some 15, op := Op.load 22 (Operand.tmp 4), type := 22, pos := "law.go:29", after := #[{ on := 1, ground := Ground.guard }], guard := some (1, true) }) (v := .agg (vals .u8 64 f)) rfl (by kernel_rfl) (by kernel_rfl) (by kernel_rfl) (fun _ _ _ h => h) (yields_blk F_1.out (by rfl) 22 _ rfl rfl _ Tryd.underlying22 rfl (by rw [vals_size]; exact cells22)) hHeld ?_
  try simp only [Act.put, List.setIfInBounds_toArray, List.set_cons_zero, List.set_cons_succ]
  refine wpAnyH_ready (rs := [3]) (by kernel_rfl) (by simp) ?_
  refine AllReadyH.cons (o := { dst := some 14, op := Op.call { callee := Callee.value (Operand.func 8), args := #[Operand.tmp 13], argTypes := #[22] }, type := 23, pos := "law.go:29", after := #[{ on := 2, ground := Ground.data }, { on := 1, ground := Ground.chain }, { on := 1, ground := Ground.guard }], guard := some (1, true) }) rfl (fun K hK => ?_) AllReadyH.nil
  go_simp
  refine (reduce_n f r _ _ (by rfl) ((HG.out.low L_1.out).low hHeld) Hf.out Hr.out).mono ?_
  unfold ba
  rintro e u2 ⟨rfl, hb⟩
  have HT2 := hide (keepCall hb rfl hHeld)
  dsimp only
  refine hK.out _ _ HT2.out (fun hHeld => ?_)
  clear hK K hb
  try simp only [Act.put, List.setIfInBounds_toArray, List.set_cons_zero, List.set_cons_succ]
  refine wpAnyH_ready (rs := [5]) (by kernel_rfl) (by simp) ?_
  refine AllReadyH.cons (o := { dst := some 16, op := Op.call { callee := Callee.value (Operand.func 9), args := #[Operand.tmp 15], argTypes := #[22] }, type := 23, pos := "law.go:29", after := #[{ on := 4, ground := Ground.data }, { on := 3, ground := Ground.chain }, { on := 1, ground := Ground.guard }], guard := some (1, true) }) rfl (fun K hK => ?_) AllReadyH.nil
  go_simp
  refine (rReduce_n f r _ _ (by rfl) Hf.out Hr.out).mono ?_
  unfold ba
  rintro e u3 ⟨rfl, hb⟩
  have HT3 := hide (keepCall hb rfl hHeld)
  dsimp only
  refine hK.out _ _ HT3.out (fun hHeld => ?_)
  clear hK K hb
  try simp only [Act.put, List.setIfInBounds_toArray, List.set_cons_zero, List.set_cons_succ]
  refine wpAnyH_take (i := 6) (oi := { dst := some 17, op := Op.binOp BinOp.eql 23 (Operand.tmp 14) (Operand.tmp 16) 23, type := 4, pos := "law.go:29", after := #[{ on := 3, ground := Ground.data }, { on := 5, ground := Ground.data }, { on := 1, ground := Ground.guard }], guard := some (1, true) }) (v := .bool true) rfl (by kernel_rfl) (by kernel_rfl) (by kernel_rfl) (fun _ _ _ h => h) (Or.inl ⟨by rfl, fun w hSw => by go_simp⟩) hHeld ?_
  try simp only [Act.put, List.setIfInBounds_toArray, List.set_cons_zero, List.set_cons_succ]
  refine wpAnyH_take (i := 7) (oi := { dst := some 18, op := Op.pick (Operand.tmp 12) (Operand.tmp 17) (Operand.const (Value.bool false)), type := 4, pos := "law.go:29", after := #[{ on := 1, ground := Ground.data }, { on := 6, ground := Ground.data }], guard := none }) (v := .bool true) rfl (by kernel_rfl) (by kernel_rfl) (by kernel_rfl) (fun _ _ _ h => h) (Or.inl ⟨by rfl, fun w hSw => by go_simp⟩) hHeld ?_
  try simp only [Act.put, List.setIfInBounds_toArray, List.set_cons_zero, List.set_cons_succ]
  refine wpAnyH_take (i := 8) (oi := { dst := some 19, op := Op.move (Operand.tmp 18), type := 4, pos := "law.go:29", after := #[{ on := 7, ground := Ground.data }, { on := 5, ground := Ground.chain }], guard := none }) (v := .bool true) rfl (by kernel_rfl) (by kernel_rfl) (by kernel_rfl) (fun _ _ _ h => h) (Or.inl ⟨by rfl, fun w hSw => by go_simp⟩) hHeld ?_
  try simp only [Act.put, List.setIfInBounds_toArray, List.set_cons_zero, List.set_cons_succ]
  refine wpAnyH_take (i := 9) (oi := { dst := some 20, op := Op.load 23 (Operand.tmp 5), type := 23, pos := "law.go:29", after := #[{ on := 8, ground := Ground.guard }], guard := some (8, true) }) (v := .agg (vals .u8 32 a)) rfl (by kernel_rfl) (by kernel_rfl) (by kernel_rfl) (fun _ _ _ h => h) (yields_blk A_1.out (by rfl) 23 _ rfl rfl _ Tryd.underlying23 rfl (by rw [vals_size]; exact cells23)) hHeld ?_
  try simp only [Act.put, List.setIfInBounds_toArray, List.set_cons_zero, List.set_cons_succ]
  refine wpAnyH_take (i := 10) (oi := { dst := some 21, op := Op.load 23 (Operand.tmp 6), type := 23, pos := "law.go:29", after := #[{ on := 8, ground := Ground.guard }], guard := some (8, true) }) (v := .agg (vals .u8 32 b)) rfl (by kernel_rfl) (by kernel_rfl) (by kernel_rfl) (fun _ _ _ h => h) (yields_blk B_1.out (by rfl) 23 _ rfl rfl _ Tryd.underlying23 rfl (by rw [vals_size]; exact cells23)) hHeld ?_
  try simp only [Act.put, List.setIfInBounds_toArray, List.set_cons_zero, List.set_cons_succ]
  refine wpAnyH_take (i := 11) (oi := { dst := some 22, op := Op.load 23 (Operand.tmp 7), type := 23, pos := "law.go:29", after := #[{ on := 8, ground := Ground.guard }], guard := some (8, true) }) (v := .agg (vals .u8 32 c)) rfl (by kernel_rfl) (by kernel_rfl) (by kernel_rfl) (fun _ _ _ h => h) (yields_blk C_1.out (by rfl) 23 _ rfl rfl _ Tryd.underlying23 rfl (by rw [vals_size]; exact cells23)) hHeld ?_
  try simp only [Act.put, List.setIfInBounds_toArray, List.set_cons_zero, List.set_cons_succ]
  refine wpAnyH_take (i := 13) (oi := { dst := some 24, op := Op.load 23 (Operand.tmp 5), type := 23, pos := "law.go:29", after := #[{ on := 8, ground := Ground.guard }], guard := some (8, true) }) (v := .agg (vals .u8 32 a)) rfl (by kernel_rfl) (by kernel_rfl) (by kernel_rfl) (fun _ _ _ h => h) (yields_blk A_1.out (by rfl) 23 _ rfl rfl _ Tryd.underlying23 rfl (by rw [vals_size]; exact cells23)) hHeld ?_
  try simp only [Act.put, List.setIfInBounds_toArray, List.set_cons_zero, List.set_cons_succ]
  refine wpAnyH_take (i := 14) (oi := { dst := some 25, op := Op.load 23 (Operand.tmp 6), type := 23, pos := "law.go:29", after := #[{ on := 8, ground := Ground.guard }], guard := some (8, true) }) (v := .agg (vals .u8 32 b)) rfl (by kernel_rfl) (by kernel_rfl) (by kernel_rfl) (fun _ _ _ h => h) (yields_blk B_1.out (by rfl) 23 _ rfl rfl _ Tryd.underlying23 rfl (by rw [vals_size]; exact cells23)) hHeld ?_
  try simp only [Act.put, List.setIfInBounds_toArray, List.set_cons_zero, List.set_cons_succ]
  refine wpAnyH_take (i := 15) (oi := { dst := some 26, op := Op.load 23 (Operand.tmp 7), type := 23, pos := "law.go:29", after := #[{ on := 8, ground := Ground.guard }], guard := some (8, true) }) (v := .agg (vals .u8 32 c)) rfl (by kernel_rfl) (by kernel_rfl) (by kernel_rfl) (fun _ _ _ h => h) (yields_blk C_1.out (by rfl) 23 _ rfl rfl _ Tryd.underlying23 rfl (by rw [vals_size]; exact cells23)) hHeld ?_
  try simp only [Act.put, List.setIfInBounds_toArray, List.set_cons_zero, List.set_cons_succ]
  refine wpAnyH_ready (rs := [12]) (by kernel_rfl) (by simp) ?_
  refine AllReadyH.cons (o := { dst := some 23, op := Op.call { callee := Callee.value (Operand.func 10), args := #[Operand.tmp 20, Operand.tmp 21, Operand.tmp 22], argTypes := #[23, 23, 23] }, type := 23, pos := "law.go:29", after := #[{ on := 9, ground := Ground.data }, { on := 10, ground := Ground.data }, { on := 11, ground := Ground.data }, { on := 8, ground := Ground.chain }, { on := 8, ground := Ground.guard }], guard := some (8, true) }) rfl (fun K hK => ?_) AllReadyH.nil
  go_simp
  refine (muladd_n a b c m _ _ (by rfl) ((HG.out.low L_1.out).low hHeld) Ha.out Hb.out Hc.out Hm.out).mono ?_
  unfold ba
  rintro e u4 ⟨rfl, hb⟩
  have HT4 := hide (keepCall hb rfl hHeld)
  dsimp only
  refine hK.out _ _ HT4.out (fun hHeld => ?_)
  clear hK K hb
  try simp only [Act.put, List.setIfInBounds_toArray, List.set_cons_zero, List.set_cons_succ]
  refine wpAnyH_ready (rs := [16]) (by kernel_rfl) (by simp) ?_
  refine AllReadyH.cons (o := { dst := some 27, op := Op.call { callee := Callee.value (Operand.func 11), args := #[Operand.tmp 24, Operand.tmp 25, Operand.tmp 26], argTypes := #[23, 23, 23] }, type := 23, pos := "law.go:29", after := #[{ on := 13, ground := Ground.data }, { on := 14, ground := Ground.data }, { on := 15, ground := Ground.data }, { on := 12, ground := Ground.chain }, { on := 8, ground := Ground.guard }], guard := some (8, true) }) rfl (fun K hK => ?_) AllReadyH.nil
  go_simp
  refine (rMulAdd_n a b c m _ _ (by rfl) Ha.out Hb.out Hc.out Hm.out).mono ?_
  unfold ba
  rintro e u5 ⟨rfl, hb⟩
  have HT5 := hide (keepCall hb rfl hHeld)
  dsimp only
  refine hK.out _ _ HT5.out (fun hHeld => ?_)
  clear hK K hb
  try simp only [Act.put, List.setIfInBounds_toArray, List.set_cons_zero, List.set_cons_succ]
  refine wpAnyH_take (i := 17) (oi := { dst := some 28, op := Op.binOp BinOp.eql 23 (Operand.tmp 23) (Operand.tmp 27) 23, type := 4, pos := "law.go:29", after := #[{ on := 12, ground := Ground.data }, { on := 16, ground := Ground.data }, { on := 8, ground := Ground.guard }], guard := some (8, true) }) (v := .bool true) rfl (by kernel_rfl) (by kernel_rfl) (by kernel_rfl) (fun _ _ _ h => h) (Or.inl ⟨by rfl, fun w hSw => by go_simp⟩) hHeld ?_
  try simp only [Act.put, List.setIfInBounds_toArray, List.set_cons_zero, List.set_cons_succ]
  refine wpAnyH_take (i := 18) (oi := { dst := some 29, op := Op.pick (Operand.tmp 19) (Operand.tmp 28) (Operand.const (Value.bool false)), type := 4, pos := "law.go:29", after := #[{ on := 8, ground := Ground.data }, { on := 17, ground := Ground.data }], guard := none }) (v := .bool true) rfl (by kernel_rfl) (by kernel_rfl) (by kernel_rfl) (fun _ _ _ h => h) (Or.inl ⟨by rfl, fun w hSw => by go_simp⟩) hHeld ?_
  try simp only [Act.put, List.setIfInBounds_toArray, List.set_cons_zero, List.set_cons_succ]
  refine wpAnyH_take (i := 19) (oi := { dst := some 30, op := Op.move (Operand.tmp 29), type := 4, pos := "law.go:29", after := #[{ on := 18, ground := Ground.data }, { on := 16, ground := Ground.chain }], guard := none }) (v := .bool true) rfl (by kernel_rfl) (by kernel_rfl) (by kernel_rfl) (fun _ _ _ h => h) (Or.inl ⟨by rfl, fun w hSw => by go_simp⟩) hHeld ?_
  try simp only [Act.put, List.setIfInBounds_toArray, List.set_cons_zero, List.set_cons_succ]
  refine wpAnyH_take (i := 20) (oi := { dst := some 31, op := Op.load 23 (Operand.tmp 5), type := 23, pos := "law.go:29", after := #[{ on := 19, ground := Ground.guard }], guard := some (19, true) }) (v := .agg (vals .u8 32 a)) rfl (by kernel_rfl) (by kernel_rfl) (by kernel_rfl) (fun _ _ _ h => h) (yields_blk A_1.out (by rfl) 23 _ rfl rfl _ Tryd.underlying23 rfl (by rw [vals_size]; exact cells23)) hHeld ?_
  try simp only [Act.put, List.setIfInBounds_toArray, List.set_cons_zero, List.set_cons_succ]
  refine wpAnyH_take (i := 22) (oi := { dst := some 33, op := Op.load 23 (Operand.tmp 5), type := 23, pos := "law.go:29", after := #[{ on := 19, ground := Ground.guard }], guard := some (19, true) }) (v := .agg (vals .u8 32 a)) rfl (by kernel_rfl) (by kernel_rfl) (by kernel_rfl) (fun _ _ _ h => h) (yields_blk A_1.out (by rfl) 23 _ rfl rfl _ Tryd.underlying23 rfl (by rw [vals_size]; exact cells23)) hHeld ?_
  try simp only [Act.put, List.setIfInBounds_toArray, List.set_cons_zero, List.set_cons_succ]
  refine wpAnyH_ready (rs := [21]) (by kernel_rfl) (by simp) ?_
  refine AllReadyH.cons (o := { dst := some 32, op := Op.call { callee := Callee.value (Operand.func 12), args := #[Operand.tmp 31], argTypes := #[23] }, type := 4, pos := "law.go:29", after := #[{ on := 20, ground := Ground.data }, { on := 19, ground := Ground.chain }, { on := 19, ground := Ground.guard }], guard := some (19, true) }) rfl (fun K hK => ?_) AllReadyH.nil
  go_simp
  refine (fine_n a k _ _ (by rfl) ((HG.out.low L_1.out).low hHeld) Ha.out Hk.out).mono ?_
  rintro e u6 ⟨rfl, hb⟩
  have HT6 := hide (keepCall hb rfl hHeld)
  dsimp only
  refine hK.out _ _ HT6.out (fun hHeld => ?_)
  clear hK K hb
  try simp only [Act.put, List.setIfInBounds_toArray, List.set_cons_zero, List.set_cons_succ]
  refine wpAnyH_ready (rs := [23]) (by kernel_rfl) (by simp) ?_
  refine AllReadyH.cons (o := { dst := some 34, op := Op.call { callee := Callee.value (Operand.func 13), args := #[Operand.tmp 33], argTypes := #[23] }, type := 4, pos := "law.go:29", after := #[{ on := 22, ground := Ground.data }, { on := 21, ground := Ground.chain }, { on := 19, ground := Ground.guard }], guard := some (19, true) }) rfl (fun K hK => ?_) AllReadyH.nil
  go_simp
  refine (rFine_n a k _ _ (by rfl) Ha.out Hk.out).mono ?_
  rintro e u7 ⟨rfl, hb⟩
  have HT7 := hide (keepCall hb rfl hHeld)
  dsimp only
  refine hK.out _ _ HT7.out (fun hHeld => ?_)
  clear hK K hb
  try simp only [Act.put, List.setIfInBounds_toArray, List.set_cons_zero, List.set_cons_succ]
  refine wpAnyH_take (i := 24) (oi := { dst := some 35, op := Op.binOp BinOp.eql 4 (Operand.tmp 32) (Operand.tmp 34) 4, type := 4, pos := "law.go:29", after := #[{ on := 21, ground := Ground.data }, { on := 23, ground := Ground.data }, { on := 19, ground := Ground.guard }], guard := some (19, true) }) (v := .bool true) rfl (by kernel_rfl) (by kernel_rfl) (by kernel_rfl) (fun _ _ _ h => h) (Or.inl ⟨by rfl, fun w hSw => by go_simp⟩) hHeld ?_
  try simp only [Act.put, List.setIfInBounds_toArray, List.set_cons_zero, List.set_cons_succ]
  refine wpAnyH_take (i := 25) (oi := { dst := some 36, op := Op.pick (Operand.tmp 30) (Operand.tmp 35) (Operand.const (Value.bool false)), type := 4, pos := "law.go:29", after := #[{ on := 19, ground := Ground.data }, { on := 24, ground := Ground.data }], guard := none }) (v := .bool true) rfl (by kernel_rfl) (by kernel_rfl) (by kernel_rfl) (fun _ _ _ h => h) (Or.inl ⟨by rfl, fun w hSw => by go_simp⟩) hHeld ?_
  try simp only [Act.put, List.setIfInBounds_toArray, List.set_cons_zero, List.set_cons_succ]
  refine wpAnyH_take (i := 26) (oi := { dst := some 37, op := Op.move (Operand.tmp 36), type := 4, pos := "law.go:29", after := #[{ on := 25, ground := Ground.data }, { on := 23, ground := Ground.chain }], guard := none }) (v := .bool true) rfl (by kernel_rfl) (by kernel_rfl) (by kernel_rfl) (fun _ _ _ h => h) (Or.inl ⟨by rfl, fun w hSw => by go_simp⟩) hHeld ?_
  try simp only [Act.put, List.setIfInBounds_toArray, List.set_cons_zero, List.set_cons_succ]
  refine wpAnyH_ready (rs := [27]) (by kernel_rfl) (by simp) ?_
  refine AllReadyH.cons (o := { dst := some 38, op := Op.call { callee := Callee.value (Operand.func 14), args := #[], argTypes := #[] }, type := 23, pos := "law.go:29", after := #[{ on := 26, ground := Ground.chain }, { on := 26, ground := Ground.guard }], guard := some (26, true) }) rfl (fun K hK => ?_) AllReadyH.nil
  go_simp
  refine (order_at _ _ (by rfl) ((HG.out.low L_1.out).low hHeld)).mono ?_
  unfold ba
  rintro e u8 ⟨rfl, hb⟩
  have HT8 := hide (keepCall hb rfl hHeld)
  dsimp only
  refine hK.out _ _ HT8.out (fun hHeld => ?_)
  clear hK K hb
  try simp only [Act.put, List.setIfInBounds_toArray, List.set_cons_zero, List.set_cons_succ]
  refine wpAnyH_ready (rs := [28]) (by kernel_rfl) (by simp) ?_
  refine AllReadyH.cons (o := { dst := some 39, op := Op.call { callee := Callee.value (Operand.func 15), args := #[], argTypes := #[] }, type := 23, pos := "law.go:29", after := #[{ on := 27, ground := Ground.chain }, { on := 26, ground := Ground.guard }], guard := some (26, true) }) rfl (fun K hK => ?_) AllReadyH.nil
  go_simp
  refine (rOrder_at _ _ (by rfl)).mono ?_
  unfold ba
  rintro e u9 ⟨rfl, hb⟩
  have HT9 := hide (keepCall hb rfl hHeld)
  dsimp only
  refine hK.out _ _ HT9.out (fun hHeld => ?_)
  clear hK K hb
  try simp only [Act.put, List.setIfInBounds_toArray, List.set_cons_zero, List.set_cons_succ]
  refine wpAnyH_take (i := 29) (oi := { dst := some 40, op := Op.binOp BinOp.eql 23 (Operand.tmp 38) (Operand.tmp 39) 23, type := 4, pos := "law.go:29", after := #[{ on := 27, ground := Ground.data }, { on := 28, ground := Ground.data }, { on := 26, ground := Ground.guard }], guard := some (26, true) }) (v := .bool true) rfl (by kernel_rfl) (by kernel_rfl) (by kernel_rfl) (fun _ _ _ h => h) (Or.inl ⟨by rfl, fun w hSw => by go_simp⟩) hHeld ?_
  try simp only [Act.put, List.setIfInBounds_toArray, List.set_cons_zero, List.set_cons_succ]
  refine wpAnyH_take (i := 30) (oi := { dst := some 41, op := Op.pick (Operand.tmp 37) (Operand.tmp 40) (Operand.const (Value.bool false)), type := 4, pos := "law.go:29", after := #[{ on := 26, ground := Ground.data }, { on := 29, ground := Ground.data }], guard := none }) (v := .bool true) rfl (by kernel_rfl) (by kernel_rfl) (by kernel_rfl) (fun _ _ _ h => h) (Or.inl ⟨by rfl, fun w hSw => by go_simp⟩) hHeld ?_
  try simp only [Act.put, List.setIfInBounds_toArray, List.set_cons_zero, List.set_cons_succ]
  refine wpAnyH_take (i := 31) (oi := { dst := some 8, op := Op.assign (Operand.tmp 41), type := 4, pos := "law.go:29", after := #[{ on := 30, ground := Ground.data }, { on := 28, ground := Ground.chain }, { on := 0, ground := Ground.phase }, { on := 1, ground := Ground.phase }, { on := 2, ground := Ground.phase }, { on := 3, ground := Ground.phase }, { on := 4, ground := Ground.phase }, { on := 5, ground := Ground.phase }, { on := 6, ground := Ground.phase }, { on := 7, ground := Ground.phase }, { on := 8, ground := Ground.phase }, { on := 9, ground := Ground.phase }, { on := 10, ground := Ground.phase }, { on := 11, ground := Ground.phase }, { on := 12, ground := Ground.phase }, { on := 13, ground := Ground.phase }, { on := 14, ground := Ground.phase }, { on := 15, ground := Ground.phase }, { on := 16, ground := Ground.phase }, { on := 17, ground := Ground.phase }, { on := 18, ground := Ground.phase }, { on := 19, ground := Ground.phase }, { on := 20, ground := Ground.phase }, { on := 21, ground := Ground.phase }, { on := 22, ground := Ground.phase }, { on := 23, ground := Ground.phase }, { on := 24, ground := Ground.phase }, { on := 25, ground := Ground.phase }, { on := 26, ground := Ground.phase }, { on := 27, ground := Ground.phase }, { on := 28, ground := Ground.phase }, { on := 29, ground := Ground.phase }, { on := 30, ground := Ground.phase }], guard := none }) (v := .bool true) rfl (by kernel_rfl) (by kernel_rfl) (by kernel_rfl) (fun _ _ _ h => h) (Or.inl ⟨by rfl, fun w hSw => by go_simp⟩) hHeld ?_
  try simp only [Act.put, List.setIfInBounds_toArray, List.set_cons_zero, List.set_cons_succ]
  refine wpAnyH_done (by kernel_rfl) ?_ _
  have F_10 := hide (F_1.out.call HT9.out)
  have A_10 := hide (A_1.out.call HT9.out)
  have B_10 := hide (B_1.out.call HT9.out)
  have C_10 := hide (C_1.out.call HT9.out)
  have L_10 := hide (keepLow2 L_1.out HT9.out)
  clear hHeld
  go_wp2
  go_ret
  exact ⟨rfl, L_10.out⟩
end Go.Proofs.YtokhmhodkakioaaDoor

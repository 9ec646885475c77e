/- ScalarOnce's walk: for all bytes and numbers the law returns true. -/
import Derived.Test.YtokhmhodkakioaaDoorSm
namespace Go.Proofs.YtokhmhodkakioaaDoor
open Go.RowKit

theorem nb_modq (n : Nat) : nb (byt (n % qL)) 32 = n % qL := by
  have h := Nat.mod_lt n qL_pos
  rw [nb_byt, Nat.mod_eq_of_lt (Nat.lt_trans h qL_lt256)]
theorem once_mod (t n : Nat) : (nb (oneB t) 32 * nb (byt qL) 32 + n) % qL = n % qL := by
  rw [nb_q, Nat.add_comm, Nat.add_mul_mod_self_right]
theorem one_mod (n : Nat) : (n * nb (oneB 1) 32 + nb (fun _ => 0) 32) % qL = n % qL := by
  rw [nb_one 1 31, nb_zero, Nat.mul_one, Nat.add_zero]
/-- A number's bytes modulo the order are its own just if it is below the order. -/
theorem same_iff (f : Nat → Nat) (hf : ∀ i, f i < 256) : ((List.range 32).all fun i => byt (nb f 32 % qL) i == f i) = decide (nb f 32 < qL) := by
  rw [Bool.eq_iff_iff, decide_eq_true_eq, List.all_eq_true]
  constructor
  · intro h
    have e : nb (byt (nb f 32 % qL)) 32 = nb f 32 := nb_congr _ _ 32 fun j hj => by simpa using h j (by simpa using hj)
    rw [nb_modq] at e
    have h1 := Nat.mod_lt (nb f 32) qL_pos
    omega
  · intro h i hi
    rw [Nat.mod_eq_of_lt h, byt_nb f hf 32 i (by simpa using hi)]
    simp
theorem bool_eq (b : Bool) : (b == b) = true := by simp

set_option maxRecDepth 100000 in
set_option maxHeartbeats 8000000 in
theorem once_walk (f : Nat → Nat) (t : Nat) (w : World) (hG : Glob w) (hf : ∀ i, f i < 256) (ht : t < 256) :
    Calls Tryd.prog 5 #[ba f, .int .u8 t] w fun e w' => e = .returned (.bool true) ∧ Below w.heap.size w w' := by
  have HG := hide hG
  have Hf := hide hf
  have Ht := hide ht
  obtain ⟨r, hr⟩ : ∃ r, nb f 32 % qL = r := ⟨_, rfl⟩
  have Hr := hide hr
  have Hrr : Hid (nb (byt r) 32 % qL = r) := hide (by rw [← hr, nb_modq, Nat.mod_mod])
  have Hs := hide (same_iff f hf)
  rw [hr] at Hs
  obtain ⟨b, hb⟩ : ∃ b, decide (nb f 32 < qL) = b := ⟨_, rfl⟩
  have Hb := hide hb
  rw [hb] at Hs
  clear hG hf ht hr hb
  unfold ba
  have F_0 := hide (Blk.new w (vals .u8 32 f) 23)
  have L_0 := hide ((Below.refl w.heap.size w).alloc (Nat.le_refl _) (.cells (vals .u8 32 f) 23))
  go_enter Tryd.func5, Tryd.ntmps5
  go_upto_region 3 with (first
      | (go_at_call 7; refine (awake_at _ _ rfl (HG.out.low L_0.out)).mono ?_; rintro e k1 ⟨rfl, hb⟩; have F_1 := hide (F_0.out.call hb); have L_1 := hide (L_0.out.trans (hb.mono L_0.out.size)); clear hb F_0 L_0; dsimp only)
      | (refine wpList_store_abs rfl 23 _ _ rfl k1.heap.size (vals .u8 32 (oneB 1)) rfl rfl 23 _ (Blk.new k1 _ _) (by rw [vals_size]; exact cells23) (by rw [vals_size]; rfl) (vals_one _ _ _) ?_; intro k2 Bn Sn; have neOF := hide (Nat.ne_of_gt F_1.out.lt); have leO := hide L_1.out.size; have F_2 := hide (Sn.other _ _ _ (Nat.ne_of_gt F_1.out.lt) (F_1.out.alloc _)); have L_2 := hide (Sn.low _ _ (L_1.out.alloc L_1.out.size _) L_1.out.size); have O_2 := hide Bn; clear Bn Sn F_1 L_1))
  go_upto_region 4 with (first
      | (refine wpList_load_w (by rfl) 23 _ rfl (w.heap.size) rfl 23 _ (0, 0) _ F_2.out Tryd.underlying23 rfl (by rw [vals_size]; exact cells23) ?_)
      | (go_at_call 16; refine (wide_at f _ _ rfl).mono ?_; unfold bb; rintro e k3 ⟨rfl, hb⟩; have F_3 := hide (F_2.out.call hb); have O_3 := hide (O_2.out.call hb); have L_3 := hide (L_2.out.trans (hb.mono L_2.out.size)); clear hb F_2 O_2 L_2; dsimp only)
      | (go_at_call 8; refine (reduce_n (wd f) r _ _ rfl (HG.out.low L_3.out) (wd_lt _ Hf.out) (by rw [nb_wd]; exact Hr.out)).mono ?_; unfold ba; rintro e k4 ⟨rfl, hb⟩; have F_4 := hide (F_3.out.call hb); have O_4 := hide (O_3.out.call hb); have L_4 := hide (L_3.out.trans (hb.mono L_3.out.size)); clear hb F_3 O_3 L_3; dsimp only)
      | (refine wpList_store_abs rfl 23 _ _ rfl k4.heap.size (vals .u8 32 (byt r)) rfl rfl 23 _ (Blk.new k4 _ _) (by rw [vals_size]; exact cells23) (by rw [vals_size]; rfl) (vals_one _ _ _) ?_; intro k5 Bn Sn; have neRF := hide (Nat.ne_of_gt F_4.out.lt); have neRO := hide (Nat.ne_of_gt O_4.out.lt); have leR := hide L_4.out.size; have F_5 := hide (Sn.other _ _ _ (Nat.ne_of_gt F_4.out.lt) (F_4.out.alloc _)); have O_5 := hide (Sn.other _ _ _ (Nat.ne_of_gt O_4.out.lt) (O_4.out.alloc _)); have L_5 := hide (Sn.low _ _ (L_4.out.alloc L_4.out.size _) L_4.out.size); have R_5 := hide Bn; clear Bn Sn F_4 O_4 L_4))
  go_upto_region 5 with (first
      | (refine wpList_load_w (by rfl) 23 _ rfl (k4.heap.size) rfl 23 _ (0, 0) _ R_5.out Tryd.underlying23 rfl (by rw [vals_size]; exact cells23) ?_)
      | (go_at_call 16; refine (wide_at (byt r) _ _ rfl).mono ?_; unfold bb; rintro e k6 ⟨rfl, hb⟩; have F_6 := hide (F_5.out.call hb); have O_6 := hide (O_5.out.call hb); have R_6 := hide (R_5.out.call hb); have L_6 := hide (L_5.out.trans (hb.mono L_5.out.size)); clear hb F_5 O_5 R_5 L_5; dsimp only)
      | (go_at_call 8; refine (reduce_n (wd (byt r)) r _ _ rfl (HG.out.low L_6.out) (wd_lt _ (byt_lt _)) (by rw [nb_wd]; exact Hrr.out)).mono ?_; unfold ba; rintro e k7 ⟨rfl, hb⟩; have F_7 := hide (F_6.out.call hb); have O_7 := hide (O_6.out.call hb); have R_7 := hide (R_6.out.call hb); have L_7 := hide (L_6.out.trans (hb.mono L_6.out.size)); clear hb F_6 O_6 R_6 L_6; dsimp only)
      | (refine wpList_store_abs rfl 23 _ _ rfl k7.heap.size (vals .u8 32 (byt r)) rfl rfl 23 _ (Blk.new k7 _ _) (by rw [vals_size]; exact cells23) (by rw [vals_size]; rfl) (vals_one _ _ _) ?_; intro k8 Bn Sn; have neSF := hide (Nat.ne_of_gt F_7.out.lt); have neSO := hide (Nat.ne_of_gt O_7.out.lt); have neSR := hide (Nat.ne_of_gt R_7.out.lt); have leS := hide L_7.out.size; have F_8 := hide (Sn.other _ _ _ (Nat.ne_of_gt F_7.out.lt) (F_7.out.alloc _)); have O_8 := hide (Sn.other _ _ _ (Nat.ne_of_gt O_7.out.lt) (O_7.out.alloc _)); have R_8 := hide (Sn.other _ _ _ (Nat.ne_of_gt R_7.out.lt) (R_7.out.alloc _)); have L_8 := hide (Sn.low _ _ (L_7.out.alloc L_7.out.size _) L_7.out.size); have S_8 := hide Bn; clear Bn Sn F_7 O_7 R_7 L_7))
  generalize hpo : k1.heap.size = po at *
  clear hpo
  generalize hpr : k4.heap.size = pr at *
  clear hpr
  generalize hps : k7.heap.size = ps at *
  clear hps
  simp only [Act.put]
  go_cut [9] (fun s wx => ∃ b, s = .pointer (some ⟨b, 0, none⟩) ∧ k8.heap.size ≤ b ∧ Blk wx b (vals .u8 32 (byt r)) 23 ∧ Below k8.heap.size k8 wx)
  case first =>
    refine wp_region_held_drew (S := fun w' => Below k8.heap.size k8 w') (by kernel_rfl) (Below.refl _ _).drew (fun hHeld => ?_)
    refine wpAnyH_take (i := 0) (oi := { dst := some 18, op := Op.move (Operand.tmp 1), type := 5, pos := "law.go:52", after := #[], guard := none }) (v := .int .u8 t) rfl (by kernel_rfl) (by kernel_rfl) (by kernel_rfl) (fun _ _ _ h => h) (Or.inl ⟨by rfl, fun w hSw => by go_simp⟩) hHeld ?_
    try simp only [Act.put, List.setIfInBounds_toArray, List.set_cons_zero, List.set_cons_succ]
    refine wpAnyH_take (i := 1) (oi := { dst := some 19, op := Op.build 23 #[(0, Operand.tmp 18)], type := 23, pos := "law.go:52", after := #[{ on := 0, ground := Ground.data }], guard := none }) (v := .agg (vals .u8 32 (oneB t))) rfl (by kernel_rfl) (by kernel_rfl) (by kernel_rfl) (fun _ _ _ h => h) (yields_build (by rfl) 23 _ rfl (by simp only [List.map_toArray, List.map_cons, List.map_nil]; exact builtOne t)) hHeld ?_
    try simp only [Act.put, List.setIfInBounds_toArray, List.set_cons_zero, List.set_cons_succ]
    refine wpAnyH_take (i := 3) (oi := { dst := some 21, op := Op.load 23 (Operand.tmp 2), type := 23, pos := "law.go:52", after := #[], guard := none }) (v := .agg (vals .u8 32 f)) rfl (by kernel_rfl) (by kernel_rfl) (by kernel_rfl) (fun _ _ _ h => h) (yields_blk F_8.out (by rfl) 23 _ rfl rfl _ Tryd.underlying23 rfl (by rw [vals_size]; exact cells23)) hHeld ?_
    try simp only [Act.put, List.setIfInBounds_toArray, List.set_cons_zero, List.set_cons_succ]
    refine wpAnyH_ready (rs := [2, 5]) (by kernel_rfl) (by simp) ?_
    refine AllReadyH.cons (o := { dst := some 20, op := Op.call { callee := Callee.value (Operand.func 14), args := #[], argTypes := #[] }, type := 23, pos := "law.go:52", after := #[], guard := none }) rfl (fun K hK => ?_) ?_
    · skip
      go_simp
      refine (order_at _ _ (by rfl) ((HG.out.low L_8.out).low hHeld)).mono ?_
      unfold ba
      rintro e x1 ⟨rfl, hb⟩
      dsimp only
      refine hK.out _ _ (keepCall hb rfl hHeld) (fun hHeld => ?_)
      clear hK K hb
      try simp only [Act.put, List.setIfInBounds_toArray, List.set_cons_zero, List.set_cons_succ]
      refine wpAnyH_ready (rs := [4, 5]) (by kernel_rfl) (by simp) ?_
      refine AllReadyH.cons (o := { dst := some 22, op := Op.call { callee := Callee.value (Operand.func 10), args := #[Operand.tmp 19, Operand.tmp 20, Operand.tmp 21], argTypes := #[23, 23, 23] }, type := 23, pos := "law.go:52", after := #[{ on := 1, ground := Ground.data }, { on := 2, ground := Ground.data }, { on := 3, ground := Ground.data }, { on := 2, ground := Ground.chain }], guard := none }) rfl (fun K hK => ?_) ?_
      · skip
        go_simp
        refine (muladd_n (oneB t) (byt qL) f r _ _ (by rfl) ((HG.out.low L_8.out).low hHeld) (oneB_lt t Ht.out) (byt_lt _) Hf.out (by rw [once_mod]; exact Hr.out)).mono ?_
        unfold ba
        rintro e x2 ⟨rfl, hb⟩
        dsimp only
        refine hK.out _ _ (keepCall hb rfl hHeld) (fun hHeld => ?_)
        clear hK K hb
        try simp only [Act.put, List.setIfInBounds_toArray, List.set_cons_zero, List.set_cons_succ]
        refine wpAnyH_ready (rs := [5]) (by kernel_rfl) (by simp) ?_
        refine AllReadyH.cons (o := { dst := some 9, op := Op.alloc 23, type := 0, pos := "law.go:52", after := #[], guard := none }) rfl (fun K hK => ?_) AllReadyH.nil
        have Ea := hide (Blk.new x2 (vals .u8 32 (fun _ => 0)) 23)
        have lea := hide hHeld.size
        go_simp
        refine hK.out _ _ (hHeld.alloc hHeld.size _) (fun hHeld => ?_)
        clear hK K
        try simp only [Act.put, List.setIfInBounds_toArray, List.set_cons_zero, List.set_cons_succ]
        refine wpAnyH_ready (rs := [6]) (by kernel_rfl) (by simp) ?_
        refine AllReadyH.cons (o := { dst := none, op := Op.store 23 (Operand.tmp 9) (Operand.tmp 22), type := 0, pos := "law.go:52", after := #[{ on := 5, ground := Ground.data }, { on := 4, ground := Ground.data }, { on := 4, ground := Ground.chain }, { on := 0, ground := Ground.phase }, { on := 1, ground := Ground.phase }, { on := 2, ground := Ground.phase }, { on := 3, ground := Ground.phase }, { on := 4, ground := Ground.phase }, { on := 5, ground := Ground.phase }], guard := none }) rfl (fun K hK => ?_) AllReadyH.nil
        rw [if_pos (by rfl)]
        refine wp_store_row 23 _ _ rfl (x2.heap.size) (vals .u8 32 (byt r)) rfl rfl 23 _ Ea.out (by rw [vals_size]; exact cells23) (by rw [vals_size]; rfl) (vals_one _ _ _) ?_
        refine hK.out _ _ (Below.row hHeld lea.out _) (fun hHeld => ?_)
        clear hK K
        simp only [Act.put]
        refine wpAnyH_done (by kernel_rfl) ?_ _
        go_wp2
        go_meet
        case rel => exact ⟨_, rfl, lea.out, (Ea.out).row _, hHeld⟩
      · refine AllReadyH.cons (o := { dst := some 9, op := Op.alloc 23, type := 0, pos := "law.go:52", after := #[], guard := none }) rfl (fun K hK => ?_) AllReadyH.nil
        have Ea := hide (Blk.new x1 (vals .u8 32 (fun _ => 0)) 23)
        have lea := hide hHeld.size
        go_simp
        refine hK.out _ _ (hHeld.alloc hHeld.size _) (fun hHeld => ?_)
        clear hK K
        try simp only [Act.put, List.setIfInBounds_toArray, List.set_cons_zero, List.set_cons_succ]
        refine wpAnyH_ready (rs := [4]) (by kernel_rfl) (by simp) ?_
        refine AllReadyH.cons (o := { dst := some 22, op := Op.call { callee := Callee.value (Operand.func 10), args := #[Operand.tmp 19, Operand.tmp 20, Operand.tmp 21], argTypes := #[23, 23, 23] }, type := 23, pos := "law.go:52", after := #[{ on := 1, ground := Ground.data }, { on := 2, ground := Ground.data }, { on := 3, ground := Ground.data }, { on := 2, ground := Ground.chain }], guard := none }) rfl (fun K hK => ?_) AllReadyH.nil
        go_simp
        refine (muladd_n (oneB t) (byt qL) f r _ _ (by rfl) ((HG.out.low L_8.out).low hHeld) (oneB_lt t Ht.out) (byt_lt _) Hf.out (by rw [once_mod]; exact Hr.out)).mono ?_
        unfold ba
        rintro e x3 ⟨rfl, hb⟩
        have Eb3 := hide (Ea.out.call hb)
        dsimp only
        refine hK.out _ _ (keepCall hb rfl hHeld) (fun hHeld => ?_)
        clear hK K hb
        try simp only [Act.put, List.setIfInBounds_toArray, List.set_cons_zero, List.set_cons_succ]
        refine wpAnyH_ready (rs := [6]) (by kernel_rfl) (by simp) ?_
        refine AllReadyH.cons (o := { dst := none, op := Op.store 23 (Operand.tmp 9) (Operand.tmp 22), type := 0, pos := "law.go:52", after := #[{ on := 5, ground := Ground.data }, { on := 4, ground := Ground.data }, { on := 4, ground := Ground.chain }, { on := 0, ground := Ground.phase }, { on := 1, ground := Ground.phase }, { on := 2, ground := Ground.phase }, { on := 3, ground := Ground.phase }, { on := 4, ground := Ground.phase }, { on := 5, ground := Ground.phase }], guard := none }) rfl (fun K hK => ?_) AllReadyH.nil
        rw [if_pos (by rfl)]
        refine wp_store_row 23 _ _ rfl (x1.heap.size) (vals .u8 32 (byt r)) rfl rfl 23 _ Eb3.out (by rw [vals_size]; exact cells23) (by rw [vals_size, vals_size]) (vals_one _ _ _) ?_
        refine hK.out _ _ (Below.row hHeld lea.out _) (fun hHeld => ?_)
        clear hK K
        simp only [Act.put]
        refine wpAnyH_done (by kernel_rfl) ?_ _
        go_wp2
        go_meet
        case rel => exact ⟨_, rfl, lea.out, (Eb3.out).row _, hHeld⟩
    · refine AllReadyH.cons (o := { dst := some 9, op := Op.alloc 23, type := 0, pos := "law.go:52", after := #[], guard := none }) rfl (fun K hK => ?_) AllReadyH.nil
      have Ea := hide (Blk.new k8.drew (vals .u8 32 (fun _ => 0)) 23)
      have lea := hide hHeld.size
      go_simp
      refine hK.out _ _ (hHeld.alloc hHeld.size _) (fun hHeld => ?_)
      clear hK K
      try simp only [Act.put, List.setIfInBounds_toArray, List.set_cons_zero, List.set_cons_succ]
      refine wpAnyH_ready (rs := [2]) (by kernel_rfl) (by simp) ?_
      refine AllReadyH.cons (o := { dst := some 20, op := Op.call { callee := Callee.value (Operand.func 14), args := #[], argTypes := #[] }, type := 23, pos := "law.go:52", after := #[], guard := none }) rfl (fun K hK => ?_) AllReadyH.nil
      go_simp
      refine (order_at _ _ (by rfl) ((HG.out.low L_8.out).low hHeld)).mono ?_
      unfold ba
      rintro e x4 ⟨rfl, hb⟩
      have Eb4 := hide (Ea.out.call hb)
      dsimp only
      refine hK.out _ _ (keepCall hb rfl hHeld) (fun hHeld => ?_)
      clear hK K hb
      try simp only [Act.put, List.setIfInBounds_toArray, List.set_cons_zero, List.set_cons_succ]
      refine wpAnyH_ready (rs := [4]) (by kernel_rfl) (by simp) ?_
      refine AllReadyH.cons (o := { dst := some 22, op := Op.call { callee := Callee.value (Operand.func 10), args := #[Operand.tmp 19, Operand.tmp 20, Operand.tmp 21], argTypes := #[23, 23, 23] }, type := 23, pos := "law.go:52", after := #[{ on := 1, ground := Ground.data }, { on := 2, ground := Ground.data }, { on := 3, ground := Ground.data }, { on := 2, ground := Ground.chain }], guard := none }) rfl (fun K hK => ?_) AllReadyH.nil
      go_simp
      refine (muladd_n (oneB t) (byt qL) f r _ _ (by rfl) ((HG.out.low L_8.out).low hHeld) (oneB_lt t Ht.out) (byt_lt _) Hf.out (by rw [once_mod]; exact Hr.out)).mono ?_
      unfold ba
      rintro e x5 ⟨rfl, hb⟩
      have Eb5 := hide (Eb4.out.call hb)
      dsimp only
      refine hK.out _ _ (keepCall hb rfl hHeld) (fun hHeld => ?_)
      clear hK K hb
      try simp only [Act.put, List.setIfInBounds_toArray, List.set_cons_zero, List.set_cons_succ]
      refine wpAnyH_ready (rs := [6]) (by kernel_rfl) (by simp) ?_
      refine AllReadyH.cons (o := { dst := none, op := Op.store 23 (Operand.tmp 9) (Operand.tmp 22), type := 0, pos := "law.go:52", after := #[{ on := 5, ground := Ground.data }, { on := 4, ground := Ground.data }, { on := 4, ground := Ground.chain }, { on := 0, ground := Ground.phase }, { on := 1, ground := Ground.phase }, { on := 2, ground := Ground.phase }, { on := 3, ground := Ground.phase }, { on := 4, ground := Ground.phase }, { on := 5, ground := Ground.phase }], guard := none }) rfl (fun K hK => ?_) AllReadyH.nil
      rw [if_pos (by rfl)]
      refine wp_store_row 23 _ _ rfl (k8.drew.heap.size) (vals .u8 32 (byt r)) rfl rfl 23 _ Eb5.out (by rw [vals_size]; exact cells23) (by rw [vals_size, vals_size]) (vals_one _ _ _) ?_
      refine hK.out _ _ (Below.row hHeld lea.out _) (fun hHeld => ?_)
      clear hK K
      simp only [Act.put]
      refine wpAnyH_done (by kernel_rfl) ?_ _
      go_wp2
      go_meet
      case rel => exact ⟨_, rfl, lea.out, (Eb5.out).row _, hHeld⟩
  case rest =>
    obtain ⟨pm, rfl, hle, Bn, Ln⟩ := hcut
    have F_9 := hide (F_8.out.call Ln)
    have neMF := hide (Nat.ne_of_gt (Nat.lt_of_lt_of_le F_8.out.lt hle))
    have O_9 := hide (O_8.out.call Ln)
    have neMO := hide (Nat.ne_of_gt (Nat.lt_of_lt_of_le O_8.out.lt hle))
    have R_9 := hide (R_8.out.call Ln)
    have neMR := hide (Nat.ne_of_gt (Nat.lt_of_lt_of_le R_8.out.lt hle))
    have S_9 := hide (S_8.out.call Ln)
    have neMS := hide (Nat.ne_of_gt (Nat.lt_of_lt_of_le S_8.out.lt hle))
    have L_9 := hide (L_8.out.trans (Ln.mono L_8.out.size))
    have leM := hide (Nat.le_trans L_8.out.size hle)
    have M_9 := hide Bn
    clear F_8 O_8 R_8 S_8 L_8 Bn Ln hle
    generalize wc = k9 at *
    go_upto_region 6 with (fail)
    have heqr := eq_same (byt r) (byt r) fun _ _ => rfl
    have heqb := eq_vals' (byt r) f b Hs.out
    have hbb := bool_eq b
    refine wp_region_held_drew (S := fun w' => Below k9.heap.size k9 w') (by kernel_rfl) (Below.refl _ _).drew (fun hHeld => ?_)
    refine wpAnyH_take (i := 0) (oi := { dst := some 23, op := Op.move (Operand.tmp 5), type := 4, pos := "law.go:53", after := #[], guard := none }) (v := .bool true) rfl (by kernel_rfl) (by kernel_rfl) (by kernel_rfl) (fun _ _ _ h => h) (Or.inl ⟨by rfl, fun w hSw => by go_simp⟩) hHeld ?_
    try simp only [Act.put, List.setIfInBounds_toArray, List.set_cons_zero, List.set_cons_succ]
    refine wpAnyH_take (i := 1) (oi := { dst := some 24, op := Op.move (Operand.tmp 23), type := 4, pos := "law.go:53", after := #[{ on := 0, ground := Ground.data }], guard := none }) (v := .bool true) rfl (by kernel_rfl) (by kernel_rfl) (by kernel_rfl) (fun _ _ _ h => h) (Or.inl ⟨by rfl, fun w hSw => by go_simp⟩) hHeld ?_
    try simp only [Act.put, List.setIfInBounds_toArray, List.set_cons_zero, List.set_cons_succ]
    refine wpAnyH_take (i := 2) (oi := { dst := some 25, op := Op.load 23 (Operand.tmp 8), type := 23, pos := "law.go:53", after := #[{ on := 1, ground := Ground.guard }], guard := some (1, true) }) (v := .agg (vals .u8 32 (byt r))) rfl (by kernel_rfl) (by kernel_rfl) (by kernel_rfl) (fun _ _ _ h => h) (yields_blk S_9.out (by rfl) 23 _ rfl rfl _ Tryd.underlying23 rfl (by rw [vals_size]; exact cells23)) hHeld ?_
    try simp only [Act.put, List.setIfInBounds_toArray, List.set_cons_zero, List.set_cons_succ]
    refine wpAnyH_take (i := 3) (oi := { dst := some 26, op := Op.load 23 (Operand.tmp 7), type := 23, pos := "law.go:53", after := #[{ on := 1, ground := Ground.guard }], guard := some (1, true) }) (v := .agg (vals .u8 32 (byt r))) rfl (by kernel_rfl) (by kernel_rfl) (by kernel_rfl) (fun _ _ _ h => h) (yields_blk R_9.out (by rfl) 23 _ rfl rfl _ Tryd.underlying23 rfl (by rw [vals_size]; exact cells23)) hHeld ?_
    try simp only [Act.put, List.setIfInBounds_toArray, List.set_cons_zero, List.set_cons_succ]
    refine wpAnyH_take (i := 4) (oi := { dst := some 27, op := Op.binOp BinOp.eql 23 (Operand.tmp 25) (Operand.tmp 26) 23, type := 4, pos := "law.go:53", after := #[{ on := 2, ground := Ground.data }, { on := 3, ground := Ground.data }, { on := 1, ground := Ground.guard }], guard := some (1, true) }) (v := .bool true) rfl (by kernel_rfl) (by kernel_rfl) (by kernel_rfl) (fun _ _ _ h => h) (Or.inl ⟨by rfl, fun w hSw => by go_simp⟩) hHeld ?_
    try simp only [Act.put, List.setIfInBounds_toArray, List.set_cons_zero, List.set_cons_succ]
    refine wpAnyH_take (i := 5) (oi := { dst := some 28, op := Op.pick (Operand.tmp 24) (Operand.tmp 27) (Operand.const (Value.bool false)), type := 4, pos := "law.go:53", after := #[{ on := 1, ground := Ground.data }, { on := 4, ground := Ground.data }], guard := none }) (v := .bool true) rfl (by kernel_rfl) (by kernel_rfl) (by kernel_rfl) (fun _ _ _ h => h) (Or.inl ⟨by rfl, fun w hSw => by go_simp⟩) hHeld ?_
    try simp only [Act.put, List.setIfInBounds_toArray, List.set_cons_zero, List.set_cons_succ]
    refine wpAnyH_take (i := 6) (oi := { dst := some 29, op := Op.move (Operand.tmp 28), type := 4, pos := "law.go:53", after := #[{ on := 5, ground := Ground.data }, { on := 1, ground := Ground.chain }], guard := none }) (v := .bool true) rfl (by kernel_rfl) (by kernel_rfl) (by kernel_rfl) (fun _ _ _ h => h) (Or.inl ⟨by rfl, fun w hSw => by go_simp⟩) hHeld ?_
    try simp only [Act.put, List.setIfInBounds_toArray, List.set_cons_zero, List.set_cons_succ]
    refine wpAnyH_take (i := 7) (oi := { dst := some 30, op := Op.load 23 (Operand.tmp 7), type := 23, pos := "law.go:53", after := #[{ on := 6, ground := Ground.guard }], guard := some (6, true) }) (v := .agg (vals .u8 32 (byt r))) rfl (by kernel_rfl) (by kernel_rfl) (by kernel_rfl) (fun _ _ _ h => h) (yields_blk R_9.out (by rfl) 23 _ rfl rfl _ Tryd.underlying23 rfl (by rw [vals_size]; exact cells23)) hHeld ?_
    try simp only [Act.put, List.setIfInBounds_toArray, List.set_cons_zero, List.set_cons_succ]
    refine wpAnyH_take (i := 8) (oi := { dst := some 31, op := Op.load 23 (Operand.tmp 2), type := 23, pos := "law.go:53", after := #[{ on := 6, ground := Ground.guard }], guard := some (6, true) }) (v := .agg (vals .u8 32 f)) rfl (by kernel_rfl) (by kernel_rfl) (by kernel_rfl) (fun _ _ _ h => h) (yields_blk F_9.out (by rfl) 23 _ rfl rfl _ Tryd.underlying23 rfl (by rw [vals_size]; exact cells23)) hHeld ?_
    try simp only [Act.put, List.setIfInBounds_toArray, List.set_cons_zero, List.set_cons_succ]
    refine wpAnyH_take (i := 9) (oi := { dst := some 32, op := Op.binOp BinOp.eql 23 (Operand.tmp 30) (Operand.tmp 31) 23, type := 4, pos := "law.go:53", after := #[{ on := 7, ground := Ground.data }, { on := 8, ground := Ground.data }, { on := 6, ground := Ground.guard }], guard := some (6, true) }) (v := .bool b) rfl (by kernel_rfl) (by kernel_rfl) (by kernel_rfl) (fun _ _ _ h => h) (Or.inl ⟨by rfl, fun w hSw => by go_simp⟩) hHeld ?_
    try simp only [Act.put, List.setIfInBounds_toArray, List.set_cons_zero, List.set_cons_succ]
    refine wpAnyH_take (i := 10) (oi := { dst := some 33, op := Op.load 23 (Operand.tmp 2), type := 23, pos := "law.go:53", after := #[{ on := 6, ground := Ground.guard }], guard := some (6, true) }) (v := .agg (vals .u8 32 f)) rfl (by kernel_rfl) (by kernel_rfl) (by kernel_rfl) (fun _ _ _ h => h) (yields_blk F_9.out (by rfl) 23 _ rfl rfl _ Tryd.underlying23 rfl (by rw [vals_size]; exact cells23)) hHeld ?_
    try simp only [Act.put, List.setIfInBounds_toArray, List.set_cons_zero, List.set_cons_succ]
    refine wpAnyH_ready (rs := [11]) (by kernel_rfl) (by simp) ?_
    refine AllReadyH.cons (o := { dst := some 34, op := Op.call { callee := Callee.value (Operand.func 12), args := #[Operand.tmp 33], argTypes := #[23] }, type := 4, pos := "law.go:53", after := #[{ on := 10, ground := Ground.data }, { on := 6, ground := Ground.chain }, { on := 6, ground := Ground.guard }], guard := some (6, true) }) rfl (fun K hK => ?_) AllReadyH.nil
    go_simp
    refine (fine_n f b _ _ (by rfl) ((HG.out.low L_9.out).low hHeld) Hf.out Hb.out).mono ?_
    rintro e u10 ⟨rfl, hb⟩
    have HT10 := hide (keepCall hb rfl hHeld)
    dsimp only
    refine hK.out _ _ HT10.out (fun hHeld => ?_)
    clear hK K hb
    try simp only [Act.put, List.setIfInBounds_toArray, List.set_cons_zero, List.set_cons_succ]
    refine wpAnyH_take (i := 12) (oi := { dst := some 35, op := Op.binOp BinOp.eql 4 (Operand.tmp 32) (Operand.tmp 34) 4, type := 4, pos := "law.go:53", after := #[{ on := 9, ground := Ground.data }, { on := 11, ground := Ground.data }, { on := 6, ground := Ground.guard }], guard := some (6, true) }) (v := .bool true) rfl (by kernel_rfl) (by kernel_rfl) (by kernel_rfl) (fun _ _ _ h => h) (Or.inl ⟨by rfl, fun w hSw => by go_simp⟩) hHeld ?_
    try simp only [Act.put, List.setIfInBounds_toArray, List.set_cons_zero, List.set_cons_succ]
    refine wpAnyH_take (i := 13) (oi := { dst := some 36, op := Op.pick (Operand.tmp 29) (Operand.tmp 35) (Operand.const (Value.bool false)), type := 4, pos := "law.go:53", after := #[{ on := 6, ground := Ground.data }, { on := 12, ground := Ground.data }], guard := none }) (v := .bool true) rfl (by kernel_rfl) (by kernel_rfl) (by kernel_rfl) (fun _ _ _ h => h) (Or.inl ⟨by rfl, fun w hSw => by go_simp⟩) hHeld ?_
    try simp only [Act.put, List.setIfInBounds_toArray, List.set_cons_zero, List.set_cons_succ]
    refine wpAnyH_take (i := 14) (oi := { dst := some 37, op := Op.move (Operand.tmp 36), type := 4, pos := "law.go:53", after := #[{ on := 13, ground := Ground.data }, { on := 11, ground := Ground.chain }], guard := none }) (v := .bool true) rfl (by kernel_rfl) (by kernel_rfl) (by kernel_rfl) (fun _ _ _ h => h) (Or.inl ⟨by rfl, fun w hSw => by go_simp⟩) hHeld ?_
    try simp only [Act.put, List.setIfInBounds_toArray, List.set_cons_zero, List.set_cons_succ]
    refine wpAnyH_take (i := 15) (oi := { dst := some 38, op := Op.load 23 (Operand.tmp 9), type := 23, pos := "law.go:53", after := #[{ on := 14, ground := Ground.guard }], guard := some (14, true) }) (v := .agg (vals .u8 32 (byt r))) rfl (by kernel_rfl) (by kernel_rfl) (by kernel_rfl) (fun _ _ _ h => h) (yields_blk M_9.out (by rfl) 23 _ rfl rfl _ Tryd.underlying23 rfl (by rw [vals_size]; exact cells23)) hHeld ?_
    try simp only [Act.put, List.setIfInBounds_toArray, List.set_cons_zero, List.set_cons_succ]
    refine wpAnyH_take (i := 16) (oi := { dst := some 39, op := Op.load 23 (Operand.tmp 7), type := 23, pos := "law.go:53", after := #[{ on := 14, ground := Ground.guard }], guard := some (14, true) }) (v := .agg (vals .u8 32 (byt r))) rfl (by kernel_rfl) (by kernel_rfl) (by kernel_rfl) (fun _ _ _ h => h) (yields_blk R_9.out (by rfl) 23 _ rfl rfl _ Tryd.underlying23 rfl (by rw [vals_size]; exact cells23)) hHeld ?_
    try simp only [Act.put, List.setIfInBounds_toArray, List.set_cons_zero, List.set_cons_succ]
    refine wpAnyH_take (i := 17) (oi := { dst := some 40, op := Op.binOp BinOp.eql 23 (Operand.tmp 38) (Operand.tmp 39) 23, type := 4, pos := "law.go:53", after := #[{ on := 15, ground := Ground.data }, { on := 16, ground := Ground.data }, { on := 14, ground := Ground.guard }], guard := some (14, true) }) (v := .bool true) rfl (by kernel_rfl) (by kernel_rfl) (by kernel_rfl) (fun _ _ _ h => h) (Or.inl ⟨by rfl, fun w hSw => by go_simp⟩) hHeld ?_
    try simp only [Act.put, List.setIfInBounds_toArray, List.set_cons_zero, List.set_cons_succ]
    refine wpAnyH_take (i := 18) (oi := { dst := some 41, op := Op.pick (Operand.tmp 37) (Operand.tmp 40) (Operand.const (Value.bool false)), type := 4, pos := "law.go:53", after := #[{ on := 14, ground := Ground.data }, { on := 17, ground := Ground.data }], guard := none }) (v := .bool true) rfl (by kernel_rfl) (by kernel_rfl) (by kernel_rfl) (fun _ _ _ h => h) (Or.inl ⟨by rfl, fun w hSw => by go_simp⟩) hHeld ?_
    try simp only [Act.put, List.setIfInBounds_toArray, List.set_cons_zero, List.set_cons_succ]
    refine wpAnyH_take (i := 19) (oi := { dst := some 42, op := Op.move (Operand.tmp 41), type := 4, pos := "law.go:53", after := #[{ on := 18, ground := Ground.data }, { on := 14, ground := Ground.chain }], guard := none }) (v := .bool true) rfl (by kernel_rfl) (by kernel_rfl) (by kernel_rfl) (fun _ _ _ h => h) (Or.inl ⟨by rfl, fun w hSw => by go_simp⟩) hHeld ?_
    try simp only [Act.put, List.setIfInBounds_toArray, List.set_cons_zero, List.set_cons_succ]
    refine wpAnyH_take (i := 20) (oi := { dst := some 43, op := Op.load 23 (Operand.tmp 2), type := 23, pos := "law.go:53", after := #[{ on := 19, ground := Ground.guard }], guard := some (19, true) }) (v := .agg (vals .u8 32 f)) rfl (by kernel_rfl) (by kernel_rfl) (by kernel_rfl) (fun _ _ _ h => h) (yields_blk F_9.out (by rfl) 23 _ rfl rfl _ Tryd.underlying23 rfl (by rw [vals_size]; exact cells23)) hHeld ?_
    try simp only [Act.put, List.setIfInBounds_toArray, List.set_cons_zero, List.set_cons_succ]
    refine wpAnyH_take (i := 21) (oi := { dst := some 44, op := Op.load 23 (Operand.tmp 6), type := 23, pos := "law.go:53", after := #[{ on := 19, ground := Ground.guard }], guard := some (19, true) }) (v := .agg (vals .u8 32 (oneB 1))) rfl (by kernel_rfl) (by kernel_rfl) (by kernel_rfl) (fun _ _ _ h => h) (yields_blk O_9.out (by rfl) 23 _ rfl rfl _ Tryd.underlying23 rfl (by rw [vals_size]; exact cells23)) hHeld ?_
    try simp only [Act.put, List.setIfInBounds_toArray, List.set_cons_zero, List.set_cons_succ]
    refine wpAnyH_take (i := 22) (oi := { dst := some 45, op := Op.build 23 #[], type := 23, pos := "law.go:53", after := #[{ on := 19, ground := Ground.guard }], guard := some (19, true) }) (v := .agg (vals .u8 32 (fun _ => 0))) rfl (by kernel_rfl) (by kernel_rfl) (by kernel_rfl) (fun _ _ _ h => h) (yields_build (by rfl) 23 _ rfl (by simp only [List.map_toArray, List.map_nil]; exact built23)) hHeld ?_
    try simp only [Act.put, List.setIfInBounds_toArray, List.set_cons_zero, List.set_cons_succ]
    refine wpAnyH_take (i := 24) (oi := { dst := some 47, op := Op.load 23 (Operand.tmp 7), type := 23, pos := "law.go:53", after := #[{ on := 19, ground := Ground.guard }], guard := some (19, true) }) (v := .agg (vals .u8 32 (byt r))) rfl (by kernel_rfl) (by kernel_rfl) (by kernel_rfl) (fun _ _ _ h => h) (yields_blk R_9.out (by rfl) 23 _ rfl rfl _ Tryd.underlying23 rfl (by rw [vals_size]; exact cells23)) hHeld ?_
    try simp only [Act.put, List.setIfInBounds_toArray, List.set_cons_zero, List.set_cons_succ]
    refine wpAnyH_ready (rs := [23]) (by kernel_rfl) (by simp) ?_
    refine AllReadyH.cons (o := { dst := some 46, op := Op.call { callee := Callee.value (Operand.func 10), args := #[Operand.tmp 43, Operand.tmp 44, Operand.tmp 45], argTypes := #[23, 23, 23] }, type := 23, pos := "law.go:53", after := #[{ on := 20, ground := Ground.data }, { on := 21, ground := Ground.data }, { on := 22, ground := Ground.data }, { on := 19, ground := Ground.chain }, { on := 19, ground := Ground.guard }], guard := some (19, true) }) rfl (fun K hK => ?_) AllReadyH.nil
    go_simp
    refine (muladd_n f (oneB 1) (fun _ => 0) r _ _ (by rfl) ((HG.out.low L_9.out).low hHeld) Hf.out (oneB_lt 1 (by omega)) (fun _ => by omega) (by rw [one_mod]; exact Hr.out)).mono ?_
    unfold ba
    rintro e u11 ⟨rfl, hb⟩
    have HT11 := hide (keepCall hb rfl hHeld)
    dsimp only
    refine hK.out _ _ HT11.out (fun hHeld => ?_)
    clear hK K hb
    try simp only [Act.put, List.setIfInBounds_toArray, List.set_cons_zero, List.set_cons_succ]
    refine wpAnyH_take (i := 25) (oi := { dst := some 48, op := Op.binOp BinOp.eql 23 (Operand.tmp 46) (Operand.tmp 47) 23, type := 4, pos := "law.go:53", after := #[{ on := 23, ground := Ground.data }, { on := 24, ground := Ground.data }, { on := 19, ground := Ground.guard }], guard := some (19, true) }) (v := .bool true) rfl (by kernel_rfl) (by kernel_rfl) (by kernel_rfl) (fun _ _ _ h => h) (Or.inl ⟨by rfl, fun w hSw => by go_simp⟩) hHeld ?_
    try simp only [Act.put, List.setIfInBounds_toArray, List.set_cons_zero, List.set_cons_succ]
    refine wpAnyH_take (i := 26) (oi := { dst := some 49, op := Op.pick (Operand.tmp 42) (Operand.tmp 48) (Operand.const (Value.bool false)), type := 4, pos := "law.go:53", after := #[{ on := 19, ground := Ground.data }, { on := 25, ground := Ground.data }], guard := none }) (v := .bool true) rfl (by kernel_rfl) (by kernel_rfl) (by kernel_rfl) (fun _ _ _ h => h) (Or.inl ⟨by rfl, fun w hSw => by go_simp⟩) hHeld ?_
    try simp only [Act.put, List.setIfInBounds_toArray, List.set_cons_zero, List.set_cons_succ]
    refine wpAnyH_take (i := 27) (oi := { dst := some 4, op := Op.assign (Operand.tmp 49), type := 4, pos := "law.go:53", after := #[{ on := 26, ground := Ground.data }, { on := 23, ground := Ground.chain }, { on := 0, ground := Ground.phase }, { on := 1, ground := Ground.phase }, { on := 2, ground := Ground.phase }, { on := 3, ground := Ground.phase }, { on := 4, ground := Ground.phase }, { on := 5, ground := Ground.phase }, { on := 6, ground := Ground.phase }, { on := 7, ground := Ground.phase }, { on := 8, ground := Ground.phase }, { on := 9, ground := Ground.phase }, { on := 10, ground := Ground.phase }, { on := 11, ground := Ground.phase }, { on := 12, ground := Ground.phase }, { on := 13, ground := Ground.phase }, { on := 14, ground := Ground.phase }, { on := 15, ground := Ground.phase }, { on := 16, ground := Ground.phase }, { on := 17, ground := Ground.phase }, { on := 18, ground := Ground.phase }, { on := 19, ground := Ground.phase }, { on := 20, ground := Ground.phase }, { on := 21, ground := Ground.phase }, { on := 22, ground := Ground.phase }, { on := 23, ground := Ground.phase }, { on := 24, ground := Ground.phase }, { on := 25, ground := Ground.phase }, { on := 26, ground := Ground.phase }], guard := none }) (v := .bool true) rfl (by kernel_rfl) (by kernel_rfl) (by kernel_rfl) (fun _ _ _ h => h) (Or.inl ⟨by rfl, fun w hSw => by go_simp⟩) hHeld ?_
    try simp only [Act.put, List.setIfInBounds_toArray, List.set_cons_zero, List.set_cons_succ]
    refine wpAnyH_done (by kernel_rfl) ?_ _
    have F_12 := hide (F_9.out.call HT11.out)
    have O_12 := hide (O_9.out.call HT11.out)
    have R_12 := hide (R_9.out.call HT11.out)
    have S_12 := hide (S_9.out.call HT11.out)
    have M_12 := hide (M_9.out.call HT11.out)
    have L_12 := hide (keepLow2 L_9.out HT11.out)
    clear hHeld
    go_wp2
    go_ret
    exact ⟨rfl, L_12.out⟩
end Go.Proofs.YtokhmhodkakioaaDoor

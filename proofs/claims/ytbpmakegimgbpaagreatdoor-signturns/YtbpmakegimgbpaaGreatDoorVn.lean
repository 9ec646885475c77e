/- Walks of the reference: Ratio. -/
import Derived.Test.YtbpmakegimgbpaaGreatDoorJv
import Derived.Test.YtbpmakegimgbpaaGreatDoorRs
namespace Go.Proofs.YtbpmakegimgbpaaGreatDoor.F
set_option maxRecDepth 100000
open Go.RowKit

theorem eq_n (f g : Nat → Nat) (b : Bool) (h : ((List.range 16).all fun i => f i == g i) = b) (w : World) : (Op.equalIn 10000 58 (.agg (vals .u64 16 f)) (.agg (vals .u64 16 g))).run Tryz.prog w = .ok b w := by
  rw [← h]; exact run_equal_vals (P := Tryz.prog) w 9998 58 44 16 .u64 Tryz.underlying58 Tryz.underlying44 size24 f g
theorem all16 (x y : Nat) (hx : x < 2 ^ 256) (hy : y < 2 ^ 256) : ((List.range 16).all fun i => dg x i == dg y i) = decide (x = y) := by
  rw [Bool.eq_iff_iff, decide_eq_true_eq, List.all_eq_true]
  constructor
  · intro h
    have e : pv (dg x) 16 = pv (dg y) 16 := pv_congr _ _ 16 fun j hj => by simpa using h j (by simpa using hj)
    rw [pv_dg, pv_dg, Nat.mod_eq_of_lt (show x < 2 ^ (16 * 16) from hx), Nat.mod_eq_of_lt (show y < 2 ^ (16 * 16) from hy)] at e
    exact e
  · intro h i _
    rw [h]; simp
theorem zero16 : vals .u64 16 (fun _ => 0) = vals .u64 16 (dg 0) := vals_congr _ _ _ _ fun j _ => by unfold dg; rw [Nat.zero_div, Nat.zero_mod]
def NewlyN (w0 : World) (v : Nat) (s : Value) (wx : World) : Prop := ∃ b, s = .pointer (some ⟨b, 0, none⟩) ∧ w0.heap.size ≤ b ∧ Blk wx b (vals .u64 16 (dg v)) 58 ∧ Below w0.heap.size w0 wx
theorem dgPm1 : ∀ j, j < 16 → (if j = 0 then 65516 else dg pP j) = dg (pP - 1) j := by
  have h : ∀ j : Fin 16, (if j.val = 0 then 65516 else dg pP j.val) = dg (pP - 1) j.val := by decide +kernel
  intro j hj
  exact h ⟨j, hj⟩
theorem dg_zero_odd (x : Nat) : dg x 0 % 2 = x % 2 := by unfold dg; simp
theorem zero_mm (x : Nat) : mm 0 x = 0 := by unfold mm; rw [Nat.zero_mul, Nat.zero_mod]
theorem val_of_zero (u v : Nat) (h : u = 0) : rVal u v = 0 := by
  have h1 : rRoot u v = 0 := by unfold rRoot; rw [h, zero_mm, zero_mm]
  have h2 : rRoot1 u v = 0 := by unfold rRoot1; rw [h1]; split; exact zero_mm _; rfl
  unfold rVal rPick
  rw [h2]
  split <;> rfl
theorem results_two {P : Program} {fn : Func} {p q : Tmp} {ty : TypeId} (h : fn.results = #[.cell p ty, .tmp q]) (tmps : Array Value) (w : World) (g : Nat) (t : TypeId) (cs : Array Value) (fr : Nat × Nat) (d : TypeDesc) (v : Value)
    (hp : tmps.getD p undef = .pointer (some ⟨g, 0, none⟩)) (hq : tmps.getD q undef = v) (hg : w.heap[g]? = some (.cells cs t fr))
    (hu : P.underlying ty = some d) (hd : (match d with | .struct _ | .array _ _ => true | _ => false) = true) (hi : (P.info? ty).map (·.size) = some cs.size) :
    (results fn tmps).run P w = .ok (.tuple #[.agg cs, v]) w := by
  have hp' : tmps[p]?.getD undef = .pointer (some ⟨g, 0, none⟩) := by simpa using hp
  have hq' : tmps[q]?.getD undef = v := by simpa using hq
  simp [results, h, hp', hq', asAddr, run_loadVar_row w g t ty cs fr d hg hu hd hi]
theorem lt256 {x : Nat} (h : x < pP) : x < 2 ^ 256 := Nat.lt_trans h pP_lt
set_option maxHeartbeats 8000000 in
theorem refRatio_any (u v : Nat) (w : World) (hu : u < pP) (hv : v < pP) :
    Calls Tryz.prog 72 #[rn u, rn v] w fun e w' => e = .returned (.tuple #[rn (rVal u v), .bool (rOk u v)]) ∧ Below w.heap.size w w' := by
  have Hu := hide hu
  have Hv := hide hv
  clear hu hv
  unfold rn
  have U_0 := hide ((((Blk.new w (vals .u64 16 (dg u)) 58).alloc (.cells (vals .u64 16 (dg v)) 58)).alloc (.cells (vals .u64 16 (fun _ => 0)) 58)))
  have V_0 := hide ((Blk.new' (w.alloc (.cells (vals .u64 16 (dg u)) 58)) (w.heap.size + 1) (by simp) (vals .u64 16 (dg v)) 58).alloc (.cells (vals .u64 16 (fun _ => 0)) 58))
  have Z_0 := hide (Blk.new' ((w.alloc (.cells (vals .u64 16 (dg u)) 58)).alloc (.cells (vals .u64 16 (dg v)) 58)) (w.heap.size + 2) (by simp) (vals .u64 16 (fun _ => 0)) 58)
  have L_0 : Hid (Below w.heap.size w (((w.alloc (.cells (vals .u64 16 (dg u)) 58)).alloc (.cells (vals .u64 16 (dg v)) 58)).alloc (.cells (vals .u64 16 (fun _ => 0)) 58))) := hide ((((Below.refl _ w).alloc (Nat.le_refl _) _).alloc (by simp) _).alloc (by simp; omega) _)
  go_enter Tryz.func72, Tryz.ntmps72
  go_upto_region 2 with (first
    | (refine wpList_build rfl 58 #[] rfl (by simp [built31]) ?_; simp only [List.map_toArray, List.map_nil, built31, Option.getD_some])
    | (refine wpList_store_abs rfl 58 _ _ rfl (w.heap.size + 3) (vals .u64 16 (fun _ => 0)) rfl rfl 58 _ (Blk.new' _ _ (by simp) _ _) (by rw [vals_size]; exact cells31) (by rw [vals_size]; rfl) (vals_one _ _ _) ?_; intro k1 Bn Sn; have U_1 := hide (Sn.other _ _ _ (by omega) (U_0.out.alloc _)); have V_1 := hide (Sn.other _ _ _ (by omega) (V_0.out.alloc _)); have Z_1 := hide (Sn.other _ _ _ (by omega) (Z_0.out.alloc _)); have L_1 := hide (Sn.low _ _ (L_0.out.alloc L_0.out.size _) (by omega)); have N_1 := hide (Bn.cast zero16); clear Bn Sn U_0 V_0 Z_0 L_0))
  have h0l : (0 : Nat) < 2 ^ 256 := by omega
  have Hu2 := hide (lt256 Hu.out)
  have Hv2 := hide (lt256 Hv.out)
  have H0 := hide h0l
  clear h0l
  by_cases hu0 : u = 0
  · have he := eq_n (dg u) (dg 0) true (by rw [all16 u 0 Hu2.out H0.out]; exact decide_eq_true hu0)
    have Hok := hide (show rOk u v = true by rw [hu0]; exact ok_zero v)
    have Hval := hide (val_of_zero u v hu0)
    clear hu0
    go_upto_region 3 with (first | (refine wpList_load_row rfl 58 _ rfl (w.heap.size) rfl 58 _ (0, 0) _ U_1.out Tryz.underlying58 rfl (by rw [vals_size]; exact cells31) ?_) | (refine wpList_load_row rfl 58 _ rfl (w.heap.size + 3) rfl 58 _ (0, 0) _ N_1.out Tryz.underlying58 rfl (by rw [vals_size]; exact cells31) ?_))
    go_wp2_with (first | (refine wpList_load_row rfl 58 _ rfl (w.heap.size + 3) rfl 58 _ (0, 0) _ N_1.out Tryz.underlying58 rfl (by rw [vals_size]; exact cells31) ?_) | (refine wpList_store_row rfl 58 _ _ rfl (w.heap.size + 2) (vals .u64 16 (dg (0))) rfl rfl 58 _ Z_1.out (by rw [vals_size]; exact cells31) (by rw [vals_size, vals_size]) (vals_one _ _ _) ?_))
    refine bodyPost_ret (v := .tuple #[.agg (vals .u64 16 (dg (0))), .bool true]) (results_two Tryz.results72 _ _ (w.heap.size + 2) 58 _ (0, 0) _ _ rfl rfl (Z_1.out.row _) Tryz.underlying58 rfl (by rw [vals_size]; exact cells31)) rfl ⟨by rw [Hval.out, Hok.out], ?_⟩
    exact Below.row L_1.out (by omega) _
  have he := eq_n (dg u) (dg 0) false (by rw [all16 u 0 Hu2.out H0.out]; exact decide_eq_false hu0)
  have Hu0 := hide hu0
  clear hu0
  go_upto_region 4 with (first | (refine wpList_load_row rfl 58 _ rfl (w.heap.size) rfl 58 _ (0, 0) _ U_1.out Tryz.underlying58 rfl (by rw [vals_size]; exact cells31) ?_) | (refine wpList_load_row rfl 58 _ rfl (w.heap.size + 3) rfl 58 _ (0, 0) _ N_1.out Tryz.underlying58 rfl (by rw [vals_size]; exact cells31) ?_))
  clear he
  by_cases hv0 : v = 0
  · have he := eq_n (dg v) (dg 0) true (by rw [all16 v 0 Hv2.out H0.out]; exact decide_eq_true hv0)
    have Hok := hide (show rOk u v = false by rw [hv0]; exact ok_div0 u Hu.out Hu0.out)
    have Hval := hide (val_none u v Hok.out)
    clear hv0
    go_upto_region 5 with (first | (refine wpList_load_row rfl 58 _ rfl (w.heap.size + 1) rfl 58 _ (0, 0) _ V_1.out Tryz.underlying58 rfl (by rw [vals_size]; exact cells31) ?_) | (refine wpList_load_row rfl 58 _ rfl (w.heap.size + 3) rfl 58 _ (0, 0) _ N_1.out Tryz.underlying58 rfl (by rw [vals_size]; exact cells31) ?_))
    go_wp2_with (first | (refine wpList_load_row rfl 58 _ rfl (w.heap.size + 3) rfl 58 _ (0, 0) _ N_1.out Tryz.underlying58 rfl (by rw [vals_size]; exact cells31) ?_) | (refine wpList_store_row rfl 58 _ _ rfl (w.heap.size + 2) (vals .u64 16 (dg (0))) rfl rfl 58 _ Z_1.out (by rw [vals_size]; exact cells31) (by rw [vals_size, vals_size]) (vals_one _ _ _) ?_))
    refine bodyPost_ret (v := .tuple #[.agg (vals .u64 16 (dg (0))), .bool false]) (results_two Tryz.results72 _ _ (w.heap.size + 2) 58 _ (0, 0) _ _ rfl rfl (Z_1.out.row _) Tryz.underlying58 rfl (by rw [vals_size]; exact cells31)) rfl ⟨by rw [Hval.out, Hok.out], ?_⟩
    exact Below.row L_1.out (by omega) _
  have he := eq_n (dg v) (dg 0) false (by rw [all16 v 0 Hv2.out H0.out]; exact decide_eq_false hv0)
  have Hv0 := hide hv0
  clear hv0
  go_upto_region 6 with (first | (refine wpList_load_row rfl 58 _ rfl (w.heap.size + 1) rfl 58 _ (0, 0) _ V_1.out Tryz.underlying58 rfl (by rw [vals_size]; exact cells31) ?_) | (refine wpList_load_row rfl 58 _ rfl (w.heap.size + 3) rfl 58 _ (0, 0) _ N_1.out Tryz.underlying58 rfl (by rw [vals_size]; exact cells31) ?_))
  clear he
  go_cut [7] (fun s wx => NewlyN k1 (sQ u v) s wx)
  case first =>
    obtain ⟨i, hi⟩ : ∃ i, i = pm v (pP - 2) := ⟨_, rfl⟩
    have Hi := hide hi
    have Hi2 : Hid (i < 2 ^ 256) := hide (by rw [hi]; exact lt256 (pm_lt _ _))
    have Hq : Hid (mm u i = sQ u v) := hide (by rw [hi]; rfl)
    clear hi
    refine wp_region_held_drew (S := fun w' => Below k1.heap.size k1 w') (by kernel_rfl) (Below.refl _ _).drew (fun hHeld => ?_)
    refine wpAnyH_take (i := 0) (oi := { dst := some 19, op := Op.load 58 (Operand.tmp 2), type := 58, pos := "ref.go:168", after := #[], guard := none }) (v := .agg (vals .u64 16 (dg (u)))) rfl (by kernel_rfl) (by kernel_rfl) (by kernel_rfl) (fun _ _ _ h => h) (yields_blk U_1.out (by rfl) 58 _ rfl rfl _ Tryz.underlying58 rfl (by rw [vals_size]; exact cells31)) hHeld ?_
    try simp only [Act.put, List.setIfInBounds_toArray, List.set_cons_zero, List.set_cons_succ]
    refine wpAnyH_take (i := 1) (oi := { dst := some 20, op := Op.load 58 (Operand.tmp 3), type := 58, pos := "ref.go:168", after := #[], guard := none }) (v := .agg (vals .u64 16 (dg (v)))) rfl (by kernel_rfl) (by kernel_rfl) (by kernel_rfl) (fun _ _ _ h => h) (yields_blk V_1.out (by rfl) 58 _ rfl rfl _ Tryz.underlying58 rfl (by rw [vals_size]; exact cells31)) hHeld ?_
    try simp only [Act.put, List.setIfInBounds_toArray, List.set_cons_zero, List.set_cons_succ]
    refine wpAnyH_ready (rs := [2, 4]) (by kernel_rfl) (by simp) ?_
    refine AllReadyH.cons (o := { dst := some 21, op := Op.call { callee := Callee.value (Operand.func 75), args := #[Operand.tmp 20], argTypes := #[58] }, type := 58, pos := "ref.go:168", after := #[{ on := 1, ground := Ground.data }], guard := none }) rfl (fun K hK => ?_) ?_
    · skip
      go_simp
      refine (refInv_at v _ _ (by rfl) Hv2.out).mono ?_
      rw [← Hi.out]
      unfold rn
      rintro e a1 ⟨rfl, hb⟩
      have HTa1 := hide (keepCall hb rfl hHeld)
      dsimp only
      refine hK.out _ _ HTa1.out (fun hHeld => ?_)
      clear hK K hb
      try simp only [Act.put, List.setIfInBounds_toArray, List.set_cons_zero, List.set_cons_succ]
      refine wpAnyH_ready (rs := [3, 4]) (by kernel_rfl) (by simp) ?_
      refine AllReadyH.cons (o := { dst := some 22, op := Op.call { callee := Callee.value (Operand.func 67), args := #[Operand.tmp 19, Operand.tmp 21], argTypes := #[58, 58] }, type := 58, pos := "ref.go:168", after := #[{ on := 0, ground := Ground.data }, { on := 2, ground := Ground.data }, { on := 2, ground := Ground.chain }], guard := none }) rfl (fun K hK => ?_) ?_
      · skip
        go_simp
        refine (refMul_at u i _ _ (by rfl) Hu2.out Hi2.out).mono ?_
        rw [Hq.out]
        unfold rn
        rintro e a2 ⟨rfl, hb⟩
        have HTa2 := hide (keepCall hb rfl hHeld)
        dsimp only
        refine hK.out _ _ HTa2.out (fun hHeld => ?_)
        clear hK K hb
        try simp only [Act.put, List.setIfInBounds_toArray, List.set_cons_zero, List.set_cons_succ]
        refine wpAnyH_ready (rs := [4]) (by kernel_rfl) (by simp) ?_
        refine AllReadyH.cons (o := { dst := some 7, op := Op.alloc 58, type := 0, pos := "ref.go:168", after := #[], guard := none }) rfl (fun K hK => ?_) AllReadyH.nil
        go_simp
        refine hK.out _ _ (keepAlloc hHeld _) (fun hHeld => ?_)
        clear hK K
        try simp only [Act.put, List.setIfInBounds_toArray, List.set_cons_zero, List.set_cons_succ]
        refine wpAnyH_ready (rs := [5]) (by kernel_rfl) (by simp) ?_
        refine AllReadyH.cons (o := { dst := none, op := Op.store 58 (Operand.tmp 7) (Operand.tmp 22), type := 0, pos := "ref.go:168", after := #[{ on := 4, ground := Ground.data }, { on := 3, ground := Ground.data }, { on := 3, ground := Ground.chain }, { on := 0, ground := Ground.phase }, { on := 1, ground := Ground.phase }, { on := 2, ground := Ground.phase }, { on := 3, ground := Ground.phase }, { on := 4, ground := Ground.phase }], guard := none }) rfl (fun K hK => ?_) AllReadyH.nil
        rw [if_pos (by rfl)]
        refine wp_store_row 58 _ _ rfl (a2.heap.size) (vals .u64 16 (dg (sQ u v))) rfl rfl 58 _ (Blk.new a2 _ _) (by rw [vals_size]; exact cells31) (by rw [vals_size]; rfl) (vals_one _ _ _) ?_
        refine hK.out _ _ (Below.row hHeld HTa2.out.size _) (fun hHeld => ?_)
        clear hK K
        simp only [Act.put]
        refine wpAnyH_done (by kernel_rfl) ?_ _
        go_wp2
        go_meet
        case rel => exact ⟨_, rfl, HTa2.out.size, ((Blk.new a2 _ _)).row _, hHeld⟩
      · refine AllReadyH.cons (o := { dst := some 7, op := Op.alloc 58, type := 0, pos := "ref.go:168", after := #[], guard := none }) rfl (fun K hK => ?_) AllReadyH.nil
        go_simp
        refine hK.out _ _ (keepAlloc hHeld _) (fun hHeld => ?_)
        clear hK K
        try simp only [Act.put, List.setIfInBounds_toArray, List.set_cons_zero, List.set_cons_succ]
        refine wpAnyH_ready (rs := [3]) (by kernel_rfl) (by simp) ?_
        refine AllReadyH.cons (o := { dst := some 22, op := Op.call { callee := Callee.value (Operand.func 67), args := #[Operand.tmp 19, Operand.tmp 21], argTypes := #[58, 58] }, type := 58, pos := "ref.go:168", after := #[{ on := 0, ground := Ground.data }, { on := 2, ground := Ground.data }, { on := 2, ground := Ground.chain }], guard := none }) rfl (fun K hK => ?_) AllReadyH.nil
        have Ea := hide (Blk.new a1 (vals .u64 16 (fun _ => 0)) 58)
        go_simp
        refine (refMul_at u i _ _ (by rfl) Hu2.out Hi2.out).mono ?_
        rw [Hq.out]
        unfold rn
        rintro e a2 ⟨rfl, hb⟩
        have HTa2 := hide (keepCall hb rfl hHeld)
        have Eb := hide (Ea.out.call hb)
        dsimp only
        refine hK.out _ _ HTa2.out (fun hHeld => ?_)
        clear hK K hb
        try simp only [Act.put, List.setIfInBounds_toArray, List.set_cons_zero, List.set_cons_succ]
        refine wpAnyH_ready (rs := [5]) (by kernel_rfl) (by simp) ?_
        refine AllReadyH.cons (o := { dst := none, op := Op.store 58 (Operand.tmp 7) (Operand.tmp 22), type := 0, pos := "ref.go:168", after := #[{ on := 4, ground := Ground.data }, { on := 3, ground := Ground.data }, { on := 3, ground := Ground.chain }, { on := 0, ground := Ground.phase }, { on := 1, ground := Ground.phase }, { on := 2, ground := Ground.phase }, { on := 3, ground := Ground.phase }, { on := 4, ground := Ground.phase }], guard := none }) rfl (fun K hK => ?_) AllReadyH.nil
        rw [if_pos (by rfl)]
        refine wp_store_row 58 _ _ rfl (a1.heap.size) (vals .u64 16 (dg (sQ u v))) rfl rfl 58 _ Eb.out (by rw [vals_size]; exact cells31) (by rw [vals_size, vals_size]) (vals_one _ _ _) ?_
        refine hK.out _ _ (Below.row hHeld HTa1.out.size _) (fun hHeld => ?_)
        clear hK K
        simp only [Act.put]
        refine wpAnyH_done (by kernel_rfl) ?_ _
        go_wp2
        go_meet
        case rel => exact ⟨_, rfl, HTa1.out.size, (Eb.out).row _, hHeld⟩
    · refine AllReadyH.cons (o := { dst := some 7, op := Op.alloc 58, type := 0, pos := "ref.go:168", after := #[], guard := none }) rfl (fun K hK => ?_) AllReadyH.nil
      have Ea := hide (Blk.new k1.drew (vals .u64 16 (fun _ => 0)) 58)
      go_simp
      refine hK.out _ _ (keepAlloc hHeld _) (fun hHeld => ?_)
      clear hK K
      try simp only [Act.put, List.setIfInBounds_toArray, List.set_cons_zero, List.set_cons_succ]
      refine wpAnyH_ready (rs := [2]) (by kernel_rfl) (by simp) ?_
      refine AllReadyH.cons (o := { dst := some 21, op := Op.call { callee := Callee.value (Operand.func 75), args := #[Operand.tmp 20], argTypes := #[58] }, type := 58, pos := "ref.go:168", after := #[{ on := 1, ground := Ground.data }], guard := none }) rfl (fun K hK => ?_) AllReadyH.nil
      go_simp
      refine (refInv_at v _ _ (by rfl) Hv2.out).mono ?_
      rw [← Hi.out]
      unfold rn
      rintro e a1 ⟨rfl, hb⟩
      have HTa1 := hide (keepCall hb rfl hHeld)
      have Eb := hide (Ea.out.call hb)
      dsimp only
      refine hK.out _ _ HTa1.out (fun hHeld => ?_)
      clear hK K hb
      try simp only [Act.put, List.setIfInBounds_toArray, List.set_cons_zero, List.set_cons_succ]
      refine wpAnyH_ready (rs := [3]) (by kernel_rfl) (by simp) ?_
      refine AllReadyH.cons (o := { dst := some 22, op := Op.call { callee := Callee.value (Operand.func 67), args := #[Operand.tmp 19, Operand.tmp 21], argTypes := #[58, 58] }, type := 58, pos := "ref.go:168", after := #[{ on := 0, ground := Ground.data }, { on := 2, ground := Ground.data }, { on := 2, ground := Ground.chain }], guard := none }) rfl (fun K hK => ?_) AllReadyH.nil
      go_simp
      refine (refMul_at u i _ _ (by rfl) Hu2.out Hi2.out).mono ?_
      rw [Hq.out]
      unfold rn
      rintro e a2 ⟨rfl, hb⟩
      have HTa2 := hide (keepCall hb rfl hHeld)
      have Ec := hide (Eb.out.call hb)
      dsimp only
      refine hK.out _ _ HTa2.out (fun hHeld => ?_)
      clear hK K hb
      try simp only [Act.put, List.setIfInBounds_toArray, List.set_cons_zero, List.set_cons_succ]
      refine wpAnyH_ready (rs := [5]) (by kernel_rfl) (by simp) ?_
      refine AllReadyH.cons (o := { dst := none, op := Op.store 58 (Operand.tmp 7) (Operand.tmp 22), type := 0, pos := "ref.go:168", after := #[{ on := 4, ground := Ground.data }, { on := 3, ground := Ground.data }, { on := 3, ground := Ground.chain }, { on := 0, ground := Ground.phase }, { on := 1, ground := Ground.phase }, { on := 2, ground := Ground.phase }, { on := 3, ground := Ground.phase }, { on := 4, ground := Ground.phase }], guard := none }) rfl (fun K hK => ?_) AllReadyH.nil
      rw [if_pos (by rfl)]
      refine wp_store_row 58 _ _ rfl (k1.heap.size) (vals .u64 16 (dg (sQ u v))) rfl rfl 58 _ Ec.out (by rw [vals_size]; exact cells31) (by rw [vals_size, vals_size]) (vals_one _ _ _) ?_
      refine hK.out _ _ (Below.row hHeld (Nat.le_refl _) _) (fun hHeld => ?_)
      clear hK K
      simp only [Act.put]
      refine wpAnyH_done (by kernel_rfl) ?_ _
      go_wp2
      go_meet
      case rel => exact ⟨_, rfl, (Nat.le_refl _), (Ec.out).row _, hHeld⟩
  case rest =>
    obtain ⟨bq, rfl, hbq, Bq, Lq⟩ := hcut
    have U_2 := hide (U_1.out.call Lq)
    have neUQ := hide (Nat.ne_of_gt (Nat.lt_of_lt_of_le U_1.out.lt hbq))
    have V_2 := hide (V_1.out.call Lq)
    have neVQ := hide (Nat.ne_of_gt (Nat.lt_of_lt_of_le V_1.out.lt hbq))
    have Z_2 := hide (Z_1.out.call Lq)
    have neZQ := hide (Nat.ne_of_gt (Nat.lt_of_lt_of_le Z_1.out.lt hbq))
    have N_2 := hide (N_1.out.call Lq)
    have neNQ := hide (Nat.ne_of_gt (Nat.lt_of_lt_of_le N_1.out.lt hbq))
    have L_2 := hide (L_1.out.trans (Lq.mono L_1.out.size))
    have Q_2 := hide Bq
    have leQ := hide (Nat.le_trans L_1.out.size hbq)
    clear U_1 V_1 Z_1 N_1 L_1 Bq Lq hbq
    generalize wc = k2 at *
    have Hq2 := hide (lt256 (sQ_lt u v))
    obtain ⟨b, hb⟩ : ∃ b, b = 2 := ⟨_, rfl⟩
    have Hb := hide hb
    clear hb
    have Hsame := hide (ok_same b u v Hb.out Hu.out Hv.out Hv0.out)
    have Hsv := hide (fun h1 h2 => val_same b u v Hv.out Hv0.out h1 h2)
    obtain ⟨q, hqq⟩ : ∃ q, q = sQ u v := ⟨_, rfl⟩
    rw [← hqq] at Hq2 Hsame Hsv Q_2
    clear hqq
    have Hr0l := hide (lt256 (sR0_lt q))
    obtain ⟨r0, hr0⟩ : ∃ r0, r0 = sR0 q := ⟨_, rfl⟩
    have Hr0 : Hid (pm q ((pP + 3) / 2 ^ 3) = r0) := hide (by rw [hr0]; rfl)
    have HR0 := hide hr0
    rw [← hr0] at Hr0l
    clear hr0
    go_upto_region 8 with (first | (refine wpList_load_row rfl 58 _ rfl (bq) rfl 58 _ (0, 0) _ Q_2.out Tryz.underlying58 rfl (by rw [vals_size]; exact cells31) ?_) | (go_at_call 109; refine (refRoot_at q _ _ rfl Hq2.out).mono ?_; rw [Hr0.out]; unfold rn; rintro r k3 ⟨rfl, hb⟩; have U_3 := hide (U_2.out.call hb); have V_3 := hide (V_2.out.call hb); have Z_3 := hide (Z_2.out.call hb); have N_3 := hide (N_2.out.call hb); have Q_3 := hide (Q_2.out.call hb); have L_3 := hide (L_2.out.trans (hb.mono L_2.out.size)); clear U_2 V_2 Z_2 N_2 Q_2 L_2 hb; dsimp only) | (refine wpList_store_abs rfl 58 _ _ rfl k3.heap.size (vals .u64 16 (dg (r0))) rfl rfl 58 _ (Blk.new k3 _ _) (by rw [vals_size]; exact cells31) (by rw [vals_size]; rfl) (vals_one _ _ _) ?_; intro k4 Bn Sn; have U_4 := hide (Sn.other _ _ _ (Nat.ne_of_gt U_3.out.lt) (U_3.out.alloc _)); have neUR := hide (Nat.ne_of_gt U_3.out.lt); have V_4 := hide (Sn.other _ _ _ (Nat.ne_of_gt V_3.out.lt) (V_3.out.alloc _)); have neVR := hide (Nat.ne_of_gt V_3.out.lt); have Z_4 := hide (Sn.other _ _ _ (Nat.ne_of_gt Z_3.out.lt) (Z_3.out.alloc _)); have neZR := hide (Nat.ne_of_gt Z_3.out.lt); have N_4 := hide (Sn.other _ _ _ (Nat.ne_of_gt N_3.out.lt) (N_3.out.alloc _)); have neNR := hide (Nat.ne_of_gt N_3.out.lt); have Q_4 := hide (Sn.other _ _ _ (Nat.ne_of_gt Q_3.out.lt) (Q_3.out.alloc _)); have neQR := hide (Nat.ne_of_gt Q_3.out.lt); have L_4 := hide (Sn.low _ _ (L_3.out.alloc L_3.out.size _) L_3.out.size); have leR := hide L_3.out.size; have R_4 := hide Bn; clear Bn Sn U_3 V_3 Z_3 N_3 Q_3 L_3))
    by_cases h1 : mm r0 r0 = q
    · have HR1 : Hid (r0 = sR1 b q) := hide (by unfold sR1; rw [← HR0.out, if_pos h1])
      have Hr1l : Hid (r0 < pP) := hide (by rw [HR0.out]; exact sR0_lt q)
      have he := eq_n (dg (mm r0 r0)) (dg q) true (by rw [all16 _ _ (lt256 (mm_lt _ _)) Hq2.out]; exact decide_eq_true h1)
      clear h1
      refine wp_region_held_drew (S := fun w' => Below k4.heap.size k4 w') (by kernel_rfl) (Below.refl _ _).drew (fun hHeld => ?_)
      refine wpAnyH_take (i := 0) (oi := { dst := some 25, op := Op.load 58 (Operand.tmp 8), type := 58, pos := "ref.go:170", after := #[], guard := none }) (v := .agg (vals .u64 16 (dg (r0)))) rfl (by kernel_rfl) (by kernel_rfl) (by kernel_rfl) (fun _ _ _ h => h) (yields_blk R_4.out (by rfl) 58 _ rfl rfl _ Tryz.underlying58 rfl (by rw [vals_size]; exact cells31)) hHeld ?_
      try simp only [Act.put, List.setIfInBounds_toArray, List.set_cons_zero, List.set_cons_succ]
      refine wpAnyH_take (i := 1) (oi := { dst := some 26, op := Op.load 58 (Operand.tmp 8), type := 58, pos := "ref.go:170", after := #[], guard := none }) (v := .agg (vals .u64 16 (dg (r0)))) rfl (by kernel_rfl) (by kernel_rfl) (by kernel_rfl) (fun _ _ _ h => h) (yields_blk R_4.out (by rfl) 58 _ rfl rfl _ Tryz.underlying58 rfl (by rw [vals_size]; exact cells31)) hHeld ?_
      try simp only [Act.put, List.setIfInBounds_toArray, List.set_cons_zero, List.set_cons_succ]
      refine wpAnyH_take (i := 3) (oi := { dst := some 28, op := Op.load 58 (Operand.tmp 7), type := 58, pos := "ref.go:170", after := #[], guard := none }) (v := .agg (vals .u64 16 (dg (q)))) rfl (by kernel_rfl) (by kernel_rfl) (by kernel_rfl) (fun _ _ _ h => h) (yields_blk Q_4.out (by rfl) 58 _ rfl rfl _ Tryz.underlying58 rfl (by rw [vals_size]; exact cells31)) hHeld ?_
      try simp only [Act.put, List.setIfInBounds_toArray, List.set_cons_zero, List.set_cons_succ]
      refine wpAnyH_ready (rs := [2]) (by kernel_rfl) (by simp) ?_
      refine AllReadyH.cons (o := { dst := some 27, op := Op.call { callee := Callee.value (Operand.func 67), args := #[Operand.tmp 25, Operand.tmp 26], argTypes := #[58, 58] }, type := 58, pos := "ref.go:170", after := #[{ on := 0, ground := Ground.data }, { on := 1, ground := Ground.data }], guard := none }) rfl (fun K hK => ?_) AllReadyH.nil
      go_simp
      refine (refMul_at r0 r0 _ _ (by rfl) Hr0l.out Hr0l.out).mono ?_
      unfold rn
      rintro e s ⟨rfl, hb⟩
      have HTs := hide (keepCall hb rfl hHeld)
      dsimp only
      refine hK.out _ _ HTs.out (fun hHeld => ?_)
      clear hK K hb
      try simp only [Act.put, List.setIfInBounds_toArray, List.set_cons_zero, List.set_cons_succ]
      refine wpAnyH_take (i := 4) (oi := { dst := some 29, op := Op.binOp BinOp.neq 58 (Operand.tmp 27) (Operand.tmp 28) 58, type := 4, pos := "ref.go:170", after := #[{ on := 2, ground := Ground.data }, { on := 3, ground := Ground.data }], guard := none }) (v := .bool false) rfl (by kernel_rfl) (by kernel_rfl) (by kernel_rfl) (fun _ _ _ h => h) (Or.inl ⟨by rfl, fun w hSw => by go_simp⟩) hHeld ?_
      try simp only [Act.put, List.setIfInBounds_toArray, List.set_cons_zero, List.set_cons_succ]
      refine wpAnyH_done (by kernel_rfl) ?_ _
      clear he
      have U_5 := hide (U_4.out.call HTs.out)
      have V_5 := hide (V_4.out.call HTs.out)
      have Z_5 := hide (Z_4.out.call HTs.out)
      have N_5 := hide (N_4.out.call HTs.out)
      have Q_5 := hide (Q_4.out.call HTs.out)
      have R_5 := hide (R_4.out.call HTs.out)
      have L_5 := hide (L_4.out.trans (HTs.out.mono L_4.out.size))
      clear U_4 V_4 Z_4 N_4 Q_4 R_4 L_4 hHeld
      go_upto_region 12 with (fail)
      clear Hr0 HR0 Hr0l
      obtain ⟨r1, hr1⟩ : ∃ r1, r1 = r0 := ⟨_, rfl⟩
      rw [← hr1] at HR1 Hr1l R_5
      clear hr1
      have Hr1l2 := hide (lt256 Hr1l.out)
      by_cases h2 : mm r1 r1 = q
      · have Hok : Hid (rOk u v = true) := hide (by rw [← Hsame.out, ← HR1.out]; exact decide_eq_true h2)
        have Hval : Hid (rVal u v = sRes r1) := hide (by have := Hsv.out (by rw [← HR1.out]; exact h2) Hok.out; rw [← HR1.out] at this; exact this.symm)
        have he := eq_n (dg (mm r1 r1)) (dg q) true (by rw [all16 _ _ (lt256 (mm_lt _ _)) Hq2.out]; exact decide_eq_true h2)
        clear h2
        refine wp_region_held_drew (S := fun w' => Below s.heap.size s w') (by kernel_rfl) (Below.refl _ _).drew (fun hHeld => ?_)
        refine wpAnyH_take (i := 0) (oi := { dst := some 42, op := Op.load 58 (Operand.tmp 8), type := 58, pos := "ref.go:175", after := #[], guard := none }) (v := .agg (vals .u64 16 (dg (r1)))) rfl (by kernel_rfl) (by kernel_rfl) (by kernel_rfl) (fun _ _ _ h => h) (yields_blk R_5.out (by rfl) 58 _ rfl rfl _ Tryz.underlying58 rfl (by rw [vals_size]; exact cells31)) hHeld ?_
        try simp only [Act.put, List.setIfInBounds_toArray, List.set_cons_zero, List.set_cons_succ]
        refine wpAnyH_take (i := 1) (oi := { dst := some 43, op := Op.load 58 (Operand.tmp 8), type := 58, pos := "ref.go:175", after := #[], guard := none }) (v := .agg (vals .u64 16 (dg (r1)))) rfl (by kernel_rfl) (by kernel_rfl) (by kernel_rfl) (fun _ _ _ h => h) (yields_blk R_5.out (by rfl) 58 _ rfl rfl _ Tryz.underlying58 rfl (by rw [vals_size]; exact cells31)) hHeld ?_
        try simp only [Act.put, List.setIfInBounds_toArray, List.set_cons_zero, List.set_cons_succ]
        refine wpAnyH_take (i := 3) (oi := { dst := some 45, op := Op.load 58 (Operand.tmp 7), type := 58, pos := "ref.go:175", after := #[], guard := none }) (v := .agg (vals .u64 16 (dg (q)))) rfl (by kernel_rfl) (by kernel_rfl) (by kernel_rfl) (fun _ _ _ h => h) (yields_blk Q_5.out (by rfl) 58 _ rfl rfl _ Tryz.underlying58 rfl (by rw [vals_size]; exact cells31)) hHeld ?_
        try simp only [Act.put, List.setIfInBounds_toArray, List.set_cons_zero, List.set_cons_succ]
        refine wpAnyH_ready (rs := [2]) (by kernel_rfl) (by simp) ?_
        refine AllReadyH.cons (o := { dst := some 44, op := Op.call { callee := Callee.value (Operand.func 67), args := #[Operand.tmp 42, Operand.tmp 43], argTypes := #[58, 58] }, type := 58, pos := "ref.go:175", after := #[{ on := 0, ground := Ground.data }, { on := 1, ground := Ground.data }], guard := none }) rfl (fun K hK => ?_) AllReadyH.nil
        go_simp
        refine (refMul_at r1 r1 _ _ (by rfl) Hr1l2.out Hr1l2.out).mono ?_
        unfold rn
        rintro e ta ⟨rfl, hb⟩
        have HTta := hide (keepCall hb rfl hHeld)
        dsimp only
        refine hK.out _ _ HTta.out (fun hHeld => ?_)
        clear hK K hb
        try simp only [Act.put, List.setIfInBounds_toArray, List.set_cons_zero, List.set_cons_succ]
        refine wpAnyH_take (i := 4) (oi := { dst := some 46, op := Op.binOp BinOp.neq 58 (Operand.tmp 44) (Operand.tmp 45) 58, type := 4, pos := "ref.go:175", after := #[{ on := 2, ground := Ground.data }, { on := 3, ground := Ground.data }], guard := none }) (v := .bool false) rfl (by kernel_rfl) (by kernel_rfl) (by kernel_rfl) (fun _ _ _ h => h) (Or.inl ⟨by rfl, fun w hSw => by go_simp⟩) hHeld ?_
        try simp only [Act.put, List.setIfInBounds_toArray, List.set_cons_zero, List.set_cons_succ]
        refine wpAnyH_done (by kernel_rfl) ?_ _
        clear he
        have U_6 := hide (U_5.out.call HTta.out)
        have V_6 := hide (V_5.out.call HTta.out)
        have Z_6 := hide (Z_5.out.call HTta.out)
        have N_6 := hide (N_5.out.call HTta.out)
        have Q_6 := hide (Q_5.out.call HTta.out)
        have R_6 := hide (R_5.out.call HTta.out)
        have L_6 := hide (L_5.out.trans (HTta.out.mono L_5.out.size))
        clear U_5 V_5 Z_5 N_5 Q_5 R_5 L_5 hHeld
        have c0 := R_6.out.cell 0
        rw [vals_get _ _ _ _ (by omega)] at c0
        have hd0 := dg_lt r1 0
        have hdo := dg_zero_odd r1
        by_cases hod : r1 % 2 = 1
        · have hm : ((dg r1 0 : Nat) : Int) % 2 = 1 := by omega
          have hm2 : ((dg r1 0 : Nat) : Int).tmod 2 = 1 := by rw [Int.tmod_eq_emod_of_nonneg (by omega)]; exact hm
          have Hre : Hid (sRes r1 = (0 + (pP - r1)) % pP) := hide (by unfold sRes; rw [if_pos hod])
          clear hdo hod hd0
          go_upto_region 16 with (first | (refine wpList_load_row rfl 58 _ rfl (w.heap.size + 3) rfl 58 _ (0, 0) _ N_6.out Tryz.underlying58 rfl (by rw [vals_size]; exact cells31) ?_) | (refine wpList_load_row rfl 58 _ rfl (k3.heap.size) rfl 58 _ (0, 0) _ R_6.out Tryz.underlying58 rfl (by rw [vals_size]; exact cells31) ?_) | (go_at_call 68; refine (refSub_at 0 r1 _ _ rfl H0.out (Nat.le_of_lt Hr1l.out)).mono ?_; rw [← Hre.out]; unfold rn; rintro r k7 ⟨rfl, hb⟩; have U_7 := hide (U_6.out.call hb); have V_7 := hide (V_6.out.call hb); have Z_7 := hide (Z_6.out.call hb); have N_7 := hide (N_6.out.call hb); have Q_7 := hide (Q_6.out.call hb); have R_7 := hide (R_6.out.call hb); have L_7 := hide (L_6.out.trans (hb.mono L_6.out.size)); clear U_6 V_6 Z_6 N_6 Q_6 R_6 L_6 hb; dsimp only) | (refine wpList_store_abs rfl 58 _ _ rfl (k3.heap.size) (vals .u64 16 (dg (sRes r1))) rfl rfl 58 _ R_7.out (by rw [vals_size]; exact cells31) (by rw [vals_size, vals_size]) (vals_one _ _ _) ?_; intro k8 Bn Sn; have U_8 := hide (Sn.other _ _ _ neUR.out U_7.out); have V_8 := hide (Sn.other _ _ _ neVR.out V_7.out); have Z_8 := hide (Sn.other _ _ _ neZR.out Z_7.out); have N_8 := hide (Sn.other _ _ _ neNR.out N_7.out); have Q_8 := hide (Sn.other _ _ _ neQR.out Q_7.out); have L_8 := hide (Sn.low _ _ L_7.out leR.out); have R_8 := hide Bn; clear Bn Sn U_7 V_7 Z_7 N_7 Q_7 R_7 L_7))
          clear c0 hm hm2
          go_wp2_with (first | (refine wpList_load_row rfl 58 _ rfl (k3.heap.size) rfl 58 _ (0, 0) _ R_8.out Tryz.underlying58 rfl (by rw [vals_size]; exact cells31) ?_) | (refine wpList_store_row rfl 58 _ _ rfl (w.heap.size + 2) (vals .u64 16 (dg (sRes r1))) rfl rfl 58 _ Z_8.out (by rw [vals_size]; exact cells31) (by rw [vals_size, vals_size]) (vals_one _ _ _) ?_))
          refine bodyPost_ret (v := .tuple #[.agg (vals .u64 16 (dg (sRes r1))), .bool true]) (results_two Tryz.results72 _ _ (w.heap.size + 2) 58 _ (0, 0) _ _ rfl rfl (Z_8.out.row _) Tryz.underlying58 rfl (by rw [vals_size]; exact cells31)) rfl ⟨by rw [Hval.out, Hok.out], ?_⟩
          exact Below.row L_8.out (by omega) _
        · have hm : ((dg r1 0 : Nat) : Int) % 2 = 0 := by omega
          have hm2 : ((dg r1 0 : Nat) : Int).tmod 2 = 0 := by rw [Int.tmod_eq_emod_of_nonneg (by omega)]; exact hm
          have Hre : Hid (sRes r1 = r1) := hide (by unfold sRes; rw [if_neg hod])
          rw [Hre.out] at Hval
          clear hdo hod hd0
          go_upto_region 16 with (fail)
          clear c0 hm hm2
          go_wp2_with (first | (refine wpList_load_row rfl 58 _ rfl (k3.heap.size) rfl 58 _ (0, 0) _ R_6.out Tryz.underlying58 rfl (by rw [vals_size]; exact cells31) ?_) | (refine wpList_store_row rfl 58 _ _ rfl (w.heap.size + 2) (vals .u64 16 (dg (r1))) rfl rfl 58 _ Z_6.out (by rw [vals_size]; exact cells31) (by rw [vals_size, vals_size]) (vals_one _ _ _) ?_))
          refine bodyPost_ret (v := .tuple #[.agg (vals .u64 16 (dg (r1))), .bool true]) (results_two Tryz.results72 _ _ (w.heap.size + 2) 58 _ (0, 0) _ _ rfl rfl (Z_6.out.row _) Tryz.underlying58 rfl (by rw [vals_size]; exact cells31)) rfl ⟨by rw [Hval.out, Hok.out], ?_⟩
          exact Below.row L_6.out (by omega) _
      · have Hok : Hid (rOk u v = false) := hide (by rw [← Hsame.out, ← HR1.out]; exact decide_eq_false h2)
        have Hval := hide (val_none u v Hok.out)
        have he := eq_n (dg (mm r1 r1)) (dg q) false (by rw [all16 _ _ (lt256 (mm_lt _ _)) Hq2.out]; exact decide_eq_false h2)
        clear h2
        refine wp_region_held_drew (S := fun w' => Below s.heap.size s w') (by kernel_rfl) (Below.refl _ _).drew (fun hHeld => ?_)
        refine wpAnyH_take (i := 0) (oi := { dst := some 42, op := Op.load 58 (Operand.tmp 8), type := 58, pos := "ref.go:175", after := #[], guard := none }) (v := .agg (vals .u64 16 (dg (r1)))) rfl (by kernel_rfl) (by kernel_rfl) (by kernel_rfl) (fun _ _ _ h => h) (yields_blk R_5.out (by rfl) 58 _ rfl rfl _ Tryz.underlying58 rfl (by rw [vals_size]; exact cells31)) hHeld ?_
        try simp only [Act.put, List.setIfInBounds_toArray, List.set_cons_zero, List.set_cons_succ]
        refine wpAnyH_take (i := 1) (oi := { dst := some 43, op := Op.load 58 (Operand.tmp 8), type := 58, pos := "ref.go:175", after := #[], guard := none }) (v := .agg (vals .u64 16 (dg (r1)))) rfl (by kernel_rfl) (by kernel_rfl) (by kernel_rfl) (fun _ _ _ h => h) (yields_blk R_5.out (by rfl) 58 _ rfl rfl _ Tryz.underlying58 rfl (by rw [vals_size]; exact cells31)) hHeld ?_
        try simp only [Act.put, List.setIfInBounds_toArray, List.set_cons_zero, List.set_cons_succ]
        refine wpAnyH_take (i := 3) (oi := { dst := some 45, op := Op.load 58 (Operand.tmp 7), type := 58, pos := "ref.go:175", after := #[], guard := none }) (v := .agg (vals .u64 16 (dg (q)))) rfl (by kernel_rfl) (by kernel_rfl) (by kernel_rfl) (fun _ _ _ h => h) (yields_blk Q_5.out (by rfl) 58 _ rfl rfl _ Tryz.underlying58 rfl (by rw [vals_size]; exact cells31)) hHeld ?_
        try simp only [Act.put, List.setIfInBounds_toArray, List.set_cons_zero, List.set_cons_succ]
        refine wpAnyH_ready (rs := [2]) (by kernel_rfl) (by simp) ?_
        refine AllReadyH.cons (o := { dst := some 44, op := Op.call { callee := Callee.value (Operand.func 67), args := #[Operand.tmp 42, Operand.tmp 43], argTypes := #[58, 58] }, type := 58, pos := "ref.go:175", after := #[{ on := 0, ground := Ground.data }, { on := 1, ground := Ground.data }], guard := none }) rfl (fun K hK => ?_) AllReadyH.nil
        go_simp
        refine (refMul_at r1 r1 _ _ (by rfl) Hr1l2.out Hr1l2.out).mono ?_
        unfold rn
        rintro e ta ⟨rfl, hb⟩
        have HTta := hide (keepCall hb rfl hHeld)
        dsimp only
        refine hK.out _ _ HTta.out (fun hHeld => ?_)
        clear hK K hb
        try simp only [Act.put, List.setIfInBounds_toArray, List.set_cons_zero, List.set_cons_succ]
        refine wpAnyH_take (i := 4) (oi := { dst := some 46, op := Op.binOp BinOp.neq 58 (Operand.tmp 44) (Operand.tmp 45) 58, type := 4, pos := "ref.go:175", after := #[{ on := 2, ground := Ground.data }, { on := 3, ground := Ground.data }], guard := none }) (v := .bool true) rfl (by kernel_rfl) (by kernel_rfl) (by kernel_rfl) (fun _ _ _ h => h) (Or.inl ⟨by rfl, fun w hSw => by go_simp⟩) hHeld ?_
        try simp only [Act.put, List.setIfInBounds_toArray, List.set_cons_zero, List.set_cons_succ]
        refine wpAnyH_done (by kernel_rfl) ?_ _
        clear he
        have U_6 := hide (U_5.out.call HTta.out)
        have V_6 := hide (V_5.out.call HTta.out)
        have Z_6 := hide (Z_5.out.call HTta.out)
        have N_6 := hide (N_5.out.call HTta.out)
        have Q_6 := hide (Q_5.out.call HTta.out)
        have R_6 := hide (R_5.out.call HTta.out)
        have L_6 := hide (L_5.out.trans (HTta.out.mono L_5.out.size))
        clear U_5 V_5 Z_5 N_5 Q_5 R_5 L_5 hHeld
        go_upto_region 13 with (fail)
        go_wp2_with (first | (refine wpList_load_row rfl 58 _ rfl (w.heap.size + 3) rfl 58 _ (0, 0) _ N_6.out Tryz.underlying58 rfl (by rw [vals_size]; exact cells31) ?_) | (refine wpList_store_row rfl 58 _ _ rfl (w.heap.size + 2) (vals .u64 16 (dg (0))) rfl rfl 58 _ Z_6.out (by rw [vals_size]; exact cells31) (by rw [vals_size, vals_size]) (vals_one _ _ _) ?_))
        refine bodyPost_ret (v := .tuple #[.agg (vals .u64 16 (dg (0))), .bool false]) (results_two Tryz.results72 _ _ (w.heap.size + 2) 58 _ (0, 0) _ _ rfl rfl (Z_6.out.row _) Tryz.underlying58 rfl (by rw [vals_size]; exact cells31)) rfl ⟨by rw [Hval.out, Hok.out], ?_⟩
        exact Below.row L_6.out (by omega) _
    · have HR1 : Hid (mm r0 (sI b) = sR1 b q) := hide (by unfold sR1; rw [← HR0.out, if_neg h1])
      have he := eq_n (dg (mm r0 r0)) (dg q) false (by rw [all16 _ _ (lt256 (mm_lt _ _)) Hq2.out]; exact decide_eq_false h1)
      clear h1
      refine wp_region_held_drew (S := fun w' => Below k4.heap.size k4 w') (by kernel_rfl) (Below.refl _ _).drew (fun hHeld => ?_)
      refine wpAnyH_take (i := 0) (oi := { dst := some 25, op := Op.load 58 (Operand.tmp 8), type := 58, pos := "ref.go:170", after := #[], guard := none }) (v := .agg (vals .u64 16 (dg (r0)))) rfl (by kernel_rfl) (by kernel_rfl) (by kernel_rfl) (fun _ _ _ h => h) (yields_blk R_4.out (by rfl) 58 _ rfl rfl _ Tryz.underlying58 rfl (by rw [vals_size]; exact cells31)) hHeld ?_
      try simp only [Act.put, List.setIfInBounds_toArray, List.set_cons_zero, List.set_cons_succ]
      refine wpAnyH_take (i := 1) (oi := { dst := some 26, op := Op.load 58 (Operand.tmp 8), type := 58, pos := "ref.go:170", after := #[], guard := none }) (v := .agg (vals .u64 16 (dg (r0)))) rfl (by kernel_rfl) (by kernel_rfl) (by kernel_rfl) (fun _ _ _ h => h) (yields_blk R_4.out (by rfl) 58 _ rfl rfl _ Tryz.underlying58 rfl (by rw [vals_size]; exact cells31)) hHeld ?_
      try simp only [Act.put, List.setIfInBounds_toArray, List.set_cons_zero, List.set_cons_succ]
      refine wpAnyH_take (i := 3) (oi := { dst := some 28, op := Op.load 58 (Operand.tmp 7), type := 58, pos := "ref.go:170", after := #[], guard := none }) (v := .agg (vals .u64 16 (dg (q)))) rfl (by kernel_rfl) (by kernel_rfl) (by kernel_rfl) (fun _ _ _ h => h) (yields_blk Q_4.out (by rfl) 58 _ rfl rfl _ Tryz.underlying58 rfl (by rw [vals_size]; exact cells31)) hHeld ?_
      try simp only [Act.put, List.setIfInBounds_toArray, List.set_cons_zero, List.set_cons_succ]
      refine wpAnyH_ready (rs := [2]) (by kernel_rfl) (by simp) ?_
      refine AllReadyH.cons (o := { dst := some 27, op := Op.call { callee := Callee.value (Operand.func 67), args := #[Operand.tmp 25, Operand.tmp 26], argTypes := #[58, 58] }, type := 58, pos := "ref.go:170", after := #[{ on := 0, ground := Ground.data }, { on := 1, ground := Ground.data }], guard := none }) rfl (fun K hK => ?_) AllReadyH.nil
      go_simp
      refine (refMul_at r0 r0 _ _ (by rfl) Hr0l.out Hr0l.out).mono ?_
      unfold rn
      rintro e s ⟨rfl, hb⟩
      have HTs := hide (keepCall hb rfl hHeld)
      dsimp only
      refine hK.out _ _ HTs.out (fun hHeld => ?_)
      clear hK K hb
      try simp only [Act.put, List.setIfInBounds_toArray, List.set_cons_zero, List.set_cons_succ]
      refine wpAnyH_take (i := 4) (oi := { dst := some 29, op := Op.binOp BinOp.neq 58 (Operand.tmp 27) (Operand.tmp 28) 58, type := 4, pos := "ref.go:170", after := #[{ on := 2, ground := Ground.data }, { on := 3, ground := Ground.data }], guard := none }) (v := .bool true) rfl (by kernel_rfl) (by kernel_rfl) (by kernel_rfl) (fun _ _ _ h => h) (Or.inl ⟨by rfl, fun w hSw => by go_simp⟩) hHeld ?_
      try simp only [Act.put, List.setIfInBounds_toArray, List.set_cons_zero, List.set_cons_succ]
      refine wpAnyH_done (by kernel_rfl) ?_ _
      clear he
      have U_5 := hide (U_4.out.call HTs.out)
      have V_5 := hide (V_4.out.call HTs.out)
      have Z_5 := hide (Z_4.out.call HTs.out)
      have N_5 := hide (N_4.out.call HTs.out)
      have Q_5 := hide (Q_4.out.call HTs.out)
      have R_5 := hide (R_4.out.call HTs.out)
      have L_5 := hide (L_4.out.trans (HTs.out.mono L_4.out.size))
      clear U_4 V_4 Z_4 N_4 Q_4 R_4 L_4 hHeld
      go_upto_region 10 with (first | (go_at_call 108; refine (refP_at _ _ rfl).mono ?_; unfold rn; rintro r k6 ⟨rfl, hb⟩; have U_6 := hide (U_5.out.call hb); have V_6 := hide (V_5.out.call hb); have Z_6 := hide (Z_5.out.call hb); have N_6 := hide (N_5.out.call hb); have Q_6 := hide (Q_5.out.call hb); have R_6 := hide (R_5.out.call hb); have L_6 := hide (L_5.out.trans (hb.mono L_5.out.size)); clear U_5 V_5 Z_5 N_5 Q_5 R_5 L_5 hb; dsimp only) | (refine wpList_store_abs rfl 58 _ _ rfl k6.heap.size (vals .u64 16 (dg (pP))) rfl rfl 58 _ (Blk.new k6 _ _) (by rw [vals_size]; exact cells31) (by rw [vals_size]; rfl) (vals_one _ _ _) ?_; intro k7 Bn Sn; have U_7 := hide (Sn.other _ _ _ (Nat.ne_of_gt U_6.out.lt) (U_6.out.alloc _)); have neUE := hide (Nat.ne_of_gt U_6.out.lt); have V_7 := hide (Sn.other _ _ _ (Nat.ne_of_gt V_6.out.lt) (V_6.out.alloc _)); have neVE := hide (Nat.ne_of_gt V_6.out.lt); have Z_7 := hide (Sn.other _ _ _ (Nat.ne_of_gt Z_6.out.lt) (Z_6.out.alloc _)); have neZE := hide (Nat.ne_of_gt Z_6.out.lt); have N_7 := hide (Sn.other _ _ _ (Nat.ne_of_gt N_6.out.lt) (N_6.out.alloc _)); have neNE := hide (Nat.ne_of_gt N_6.out.lt); have Q_7 := hide (Sn.other _ _ _ (Nat.ne_of_gt Q_6.out.lt) (Q_6.out.alloc _)); have neQE := hide (Nat.ne_of_gt Q_6.out.lt); have R_7 := hide (Sn.other _ _ _ (Nat.ne_of_gt R_6.out.lt) (R_6.out.alloc _)); have neRE := hide (Nat.ne_of_gt R_6.out.lt); have L_7 := hide (Sn.low _ _ (L_6.out.alloc L_6.out.size _) L_6.out.size); have leE := hide L_6.out.size; have E_7 := hide Bn; clear Bn Sn U_6 V_6 Z_6 N_6 Q_6 R_6 L_6))
      obtain ⟨x, hx⟩ : ∃ x, x = pP - 1 := ⟨_, rfl⟩
      have Hx := hide hx
      have Hx2 : Hid (x < 2 ^ 256) := hide (by rw [hx]; exact Nat.lt_of_le_of_lt (Nat.sub_le _ _) pP_lt)
      clear hx
      have c0 := E_7.out.cell 0
      rw [vals_get _ _ _ _ (by omega), dgP0] at c0
      have f0 := E_7.out.frozen 0
      go_upto_region 11 with (fail)
      clear c0 f0
      obtain ⟨ye, hye⟩ : ∃ ye, ye = k7.setCell ⟨k6.heap.size, 0, none⟩ (.int .u64 (65516 : Nat)) := ⟨_, rfl⟩
      rw [show (Value.int .u64 65516) = .int .u64 ((65516 : Nat) : Int) from rfl, ← hye]
      have U_8 : Hid (Blk ye (w.heap.size) (vals .u64 16 (dg (u))) 58) := hide (by rw [hye]; exact U_7.out.setOther _ _ neUE.out)
      have V_8 : Hid (Blk ye (w.heap.size + 1) (vals .u64 16 (dg (v))) 58) := hide (by rw [hye]; exact V_7.out.setOther _ _ neVE.out)
      have Z_8 : Hid (Blk ye (w.heap.size + 2) (vals .u64 16 (fun _ => 0)) 58) := hide (by rw [hye]; exact Z_7.out.setOther _ _ neZE.out)
      have N_8 : Hid (Blk ye (w.heap.size + 3) (vals .u64 16 (dg (0))) 58) := hide (by rw [hye]; exact N_7.out.setOther _ _ neNE.out)
      have Q_8 : Hid (Blk ye (bq) (vals .u64 16 (dg (q))) 58) := hide (by rw [hye]; exact Q_7.out.setOther _ _ neQE.out)
      have R_8 : Hid (Blk ye (k3.heap.size) (vals .u64 16 (dg (r0))) 58) := hide (by rw [hye]; exact R_7.out.setOther _ _ neRE.out)
      have E_8 : Hid (Blk ye (k6.heap.size) (vals .u64 16 (dg (x))) 58) := hide (by rw [hye]; exact (E_7.out.set 0 (.int .u64 (65516 : Nat))).cast (by rw [vals_set, Hx.out]; exact vals_congr _ _ _ _ fun j hj => dgPm1 j hj))
      have L_8 : Hid (Below w.heap.size w ye) := hide (by rw [hye]; exact L_7.out.setCell leE.out _)
      clear U_7 V_7 Z_7 N_7 Q_7 R_7 E_7 L_7 hye
      have Hsi : Hid (pm b (x / 2 / 2) = sI b) := hide (by rw [Hx.out]; rfl)
      have Hsil : Hid (sI b < 2 ^ 256) := hide (lt256 (pm_lt _ _))
      have Hbm : Hid (b % pP = b) := hide (by rw [Hb.out]; unfold pP; omega)
      have Hb2 : Hid (b < 2 ^ 256) := hide (by rw [Hb.out]; omega)
      have Hb3 : Hid (b < 65536) := hide (by rw [Hb.out]; omega)
      have Hxa : Hid (x / 2 < 2 ^ 256) := hide (Nat.lt_of_le_of_lt (Nat.div_le_self _ _) Hx2.out)
      have Hxb : Hid (x / 2 / 2 < 2 ^ 256) := hide (Nat.lt_of_le_of_lt (Nat.div_le_self _ _) Hxa.out)
      go_cut [35] (fun _ wx => Blk wx (w.heap.size) (vals .u64 16 (dg (u))) 58 ∧ Blk wx (w.heap.size + 1) (vals .u64 16 (dg (v))) 58 ∧ Blk wx (w.heap.size + 2) (vals .u64 16 (fun _ => 0)) 58 ∧ Blk wx (w.heap.size + 3) (vals .u64 16 (dg (0))) 58 ∧ Blk wx (bq) (vals .u64 16 (dg (q))) 58 ∧ Blk wx (k3.heap.size) (vals .u64 16 (dg (mm r0 (sI b)))) 58 ∧ Blk wx (k6.heap.size) (vals .u64 16 (dg (x))) 58 ∧ Below w.heap.size w wx)
      case first =>
        refine wp_region_held_drew (S := fun w' => Blk w' (k6.heap.size) (vals .u64 16 (dg (x))) 58 ∧ Below w.heap.size w w') (by kernel_rfl) ⟨E_8.out.drew, L_8.out.drew⟩ (fun hHeld => ?_)
        refine wpAnyH_take (i := 2) (oi := { dst := some 37, op := Op.load 58 (Operand.tmp 9), type := 58, pos := "ref.go:173", after := #[], guard := none }) (v := .agg (vals .u64 16 (dg (x)))) rfl (by kernel_rfl) (by kernel_rfl) (by kernel_rfl) (fun _ _ _ h => h) (yields_S (fun _ h => h.1) (by rfl) 58 _ rfl rfl _ Tryz.underlying58 rfl (by rw [vals_size]; exact cells31)) hHeld ?_
        try simp only [Act.put, List.setIfInBounds_toArray, List.set_cons_zero, List.set_cons_succ]
        have U_a := hide U_8.out.drew
        have V_a := hide V_8.out.drew
        have Z_a := hide Z_8.out.drew
        have N_a := hide N_8.out.drew
        have Q_a := hide Q_8.out.drew
        have R_a := hide R_8.out.drew
        refine wpAnyH_ready (rs := [0, 1]) (by kernel_rfl) (by simp) ?_
        refine AllReadyH.cons (o := { dst := some 35, op := Op.load 58 (Operand.tmp 8), type := 58, pos := "ref.go:173", after := #[], guard := none }) rfl (fun K hK => ?_) ?_
        · skip
          rw [if_pos (by rfl)]
          refine wp_load_row 58 _ rfl (k3.heap.size) rfl 58 _ (0, 0) _ R_a.out Tryz.underlying58 rfl (by rw [vals_size]; exact cells31) ?_
          refine hK.out _ _ hHeld (fun hHeld => ?_)
          clear hK K
          try simp only [Act.put, List.setIfInBounds_toArray, List.set_cons_zero, List.set_cons_succ]
          refine wpAnyH_ready (rs := [1]) (by kernel_rfl) (by simp) ?_
          refine AllReadyH.cons (o := { dst := some 36, op := Op.call { callee := Callee.value (Operand.func 69), args := #[Operand.const (Value.int IntKind.u64 2)], argTypes := #[44] }, type := 58, pos := "ref.go:173", after := #[], guard := none }) rfl (fun K hK => ?_) AllReadyH.nil
          go_simp
          refine (refOf_at b _ _ (by rw [Hb.out]; rfl) Hb3.out).mono ?_
          rw [Hbm.out]
          unfold rn
          rintro e z1 ⟨rfl, hb⟩
          have U_b := hide (U_a.out.call hb)
          have V_b := hide (V_a.out.call hb)
          have Z_b := hide (Z_a.out.call hb)
          have N_b := hide (N_a.out.call hb)
          have Q_b := hide (Q_a.out.call hb)
          have R_b := hide (R_a.out.call hb)
          clear U_a V_a Z_a N_a Q_a R_a
          dsimp only
          refine hK.out _ _ ⟨hHeld.1.call hb, hHeld.2.trans (hb.mono hHeld.2.size)⟩ (fun hHeld => ?_)
          clear hK K hb
          try simp only [Act.put, List.setIfInBounds_toArray, List.set_cons_zero, List.set_cons_succ]
          refine wpAnyH_ready (rs := [3]) (by kernel_rfl) (by simp) ?_
          refine AllReadyH.cons (o := { dst := some 38, op := Op.call { callee := Callee.value (Operand.func 111), args := #[Operand.tmp 37], argTypes := #[58] }, type := 58, pos := "ref.go:173", after := #[{ on := 2, ground := Ground.data }, { on := 1, ground := Ground.chain }], guard := none }) rfl (fun K hK => ?_) AllReadyH.nil
          go_simp
          refine (refHalf_at x _ _ (by rfl) Hx2.out).mono ?_
          unfold rn
          rintro e z3 ⟨rfl, hb⟩
          have U_c := hide (U_b.out.call hb)
          have V_c := hide (V_b.out.call hb)
          have Z_c := hide (Z_b.out.call hb)
          have N_c := hide (N_b.out.call hb)
          have Q_c := hide (Q_b.out.call hb)
          have R_c := hide (R_b.out.call hb)
          clear U_b V_b Z_b N_b Q_b R_b
          dsimp only
          refine hK.out _ _ ⟨hHeld.1.call hb, hHeld.2.trans (hb.mono hHeld.2.size)⟩ (fun hHeld => ?_)
          clear hK K hb
          try simp only [Act.put, List.setIfInBounds_toArray, List.set_cons_zero, List.set_cons_succ]
          refine wpAnyH_ready (rs := [4]) (by kernel_rfl) (by simp) ?_
          refine AllReadyH.cons (o := { dst := some 39, op := Op.call { callee := Callee.value (Operand.func 111), args := #[Operand.tmp 38], argTypes := #[58] }, type := 58, pos := "ref.go:173", after := #[{ on := 3, ground := Ground.data }, { on := 3, ground := Ground.chain }], guard := none }) rfl (fun K hK => ?_) AllReadyH.nil
          go_simp
          refine (refHalf_at (x / 2) _ _ (by rfl) Hxa.out).mono ?_
          unfold rn
          rintro e z4 ⟨rfl, hb⟩
          have U_d := hide (U_c.out.call hb)
          have V_d := hide (V_c.out.call hb)
          have Z_d := hide (Z_c.out.call hb)
          have N_d := hide (N_c.out.call hb)
          have Q_d := hide (Q_c.out.call hb)
          have R_d := hide (R_c.out.call hb)
          clear U_c V_c Z_c N_c Q_c R_c
          dsimp only
          refine hK.out _ _ ⟨hHeld.1.call hb, hHeld.2.trans (hb.mono hHeld.2.size)⟩ (fun hHeld => ?_)
          clear hK K hb
          try simp only [Act.put, List.setIfInBounds_toArray, List.set_cons_zero, List.set_cons_succ]
          refine wpAnyH_ready (rs := [5]) (by kernel_rfl) (by simp) ?_
          refine AllReadyH.cons (o := { dst := some 40, op := Op.call { callee := Callee.value (Operand.func 110), args := #[Operand.tmp 36, Operand.tmp 39], argTypes := #[58, 58] }, type := 58, pos := "ref.go:173", after := #[{ on := 1, ground := Ground.data }, { on := 4, ground := Ground.data }, { on := 4, ground := Ground.chain }], guard := none }) rfl (fun K hK => ?_) AllReadyH.nil
          go_simp
          refine (refPower_at b (x / 2 / 2) _ _ (by rfl) Hb2.out Hxb.out).mono ?_
          rw [Hsi.out]
          unfold rn
          rintro e z5 ⟨rfl, hb⟩
          have U_e := hide (U_d.out.call hb)
          have V_e := hide (V_d.out.call hb)
          have Z_e := hide (Z_d.out.call hb)
          have N_e := hide (N_d.out.call hb)
          have Q_e := hide (Q_d.out.call hb)
          have R_e := hide (R_d.out.call hb)
          clear U_d V_d Z_d N_d Q_d R_d
          dsimp only
          refine hK.out _ _ ⟨hHeld.1.call hb, hHeld.2.trans (hb.mono hHeld.2.size)⟩ (fun hHeld => ?_)
          clear hK K hb
          try simp only [Act.put, List.setIfInBounds_toArray, List.set_cons_zero, List.set_cons_succ]
          refine wpAnyH_ready (rs := [6]) (by kernel_rfl) (by simp) ?_
          refine AllReadyH.cons (o := { dst := some 41, op := Op.call { callee := Callee.value (Operand.func 67), args := #[Operand.tmp 35, Operand.tmp 40], argTypes := #[58, 58] }, type := 58, pos := "ref.go:173", after := #[{ on := 0, ground := Ground.data }, { on := 5, ground := Ground.data }, { on := 5, ground := Ground.chain }], guard := none }) rfl (fun K hK => ?_) AllReadyH.nil
          go_simp
          refine (refMul_at r0 (sI b) _ _ (by rfl) Hr0l.out Hsil.out).mono ?_
          unfold rn
          rintro e z6 ⟨rfl, hb⟩
          have U_f := hide (U_e.out.call hb)
          have V_f := hide (V_e.out.call hb)
          have Z_f := hide (Z_e.out.call hb)
          have N_f := hide (N_e.out.call hb)
          have Q_f := hide (Q_e.out.call hb)
          have R_f := hide (R_e.out.call hb)
          clear U_e V_e Z_e N_e Q_e R_e
          dsimp only
          refine hK.out _ _ ⟨hHeld.1.call hb, hHeld.2.trans (hb.mono hHeld.2.size)⟩ (fun hHeld => ?_)
          clear hK K hb
          try simp only [Act.put, List.setIfInBounds_toArray, List.set_cons_zero, List.set_cons_succ]
          refine wpAnyH_ready (rs := [7]) (by kernel_rfl) (by simp) ?_
          refine AllReadyH.cons (o := { dst := none, op := Op.store 58 (Operand.tmp 8) (Operand.tmp 41), type := 0, pos := "ref.go:173", after := #[{ on := 6, ground := Ground.data }, { on := 6, ground := Ground.chain }, { on := 0, ground := Ground.phase }, { on := 1, ground := Ground.phase }, { on := 2, ground := Ground.phase }, { on := 3, ground := Ground.phase }, { on := 4, ground := Ground.phase }, { on := 5, ground := Ground.phase }, { on := 6, ground := Ground.phase }], guard := none }) rfl (fun K hK => ?_) AllReadyH.nil
          rw [if_pos (by rfl)]
          refine wp_store_row 58 _ _ rfl (k3.heap.size) (vals .u64 16 (dg (mm r0 (sI b)))) rfl rfl 58 _ R_f.out (by rw [vals_size]; exact cells31) (by rw [vals_size, vals_size]) (vals_one _ _ _) ?_
          refine hK.out _ _ ⟨hHeld.1.rowOther _ neRE.out.symm, Below.row hHeld.2 leR.out _⟩ (fun hHeld => ?_)
          clear hK K
          simp only [Act.put]
          refine wpAnyH_done (by kernel_rfl) ?_ _
          go_wp2
          go_meet
          case rel => exact ⟨U_f.out.rowOther _ neUR.out, V_f.out.rowOther _ neVR.out, Z_f.out.rowOther _ neZR.out, N_f.out.rowOther _ neNR.out, Q_f.out.rowOther _ neQR.out, R_f.out.row _, hHeld.1, hHeld.2⟩
        · refine AllReadyH.cons (o := { dst := some 36, op := Op.call { callee := Callee.value (Operand.func 69), args := #[Operand.const (Value.int IntKind.u64 2)], argTypes := #[44] }, type := 58, pos := "ref.go:173", after := #[], guard := none }) rfl (fun K hK => ?_) AllReadyH.nil
          go_simp
          refine (refOf_at b _ _ (by rw [Hb.out]; rfl) Hb3.out).mono ?_
          rw [Hbm.out]
          unfold rn
          rintro e z1 ⟨rfl, hb⟩
          have U_b := hide (U_a.out.call hb)
          have V_b := hide (V_a.out.call hb)
          have Z_b := hide (Z_a.out.call hb)
          have N_b := hide (N_a.out.call hb)
          have Q_b := hide (Q_a.out.call hb)
          have R_b := hide (R_a.out.call hb)
          clear U_a V_a Z_a N_a Q_a R_a
          dsimp only
          refine hK.out _ _ ⟨hHeld.1.call hb, hHeld.2.trans (hb.mono hHeld.2.size)⟩ (fun hHeld => ?_)
          clear hK K hb
          try simp only [Act.put, List.setIfInBounds_toArray, List.set_cons_zero, List.set_cons_succ]
          refine wpAnyH_ready (rs := [0, 3]) (by kernel_rfl) (by simp) ?_
          refine AllReadyH.cons (o := { dst := some 35, op := Op.load 58 (Operand.tmp 8), type := 58, pos := "ref.go:173", after := #[], guard := none }) rfl (fun K hK => ?_) ?_
          · skip
            rw [if_pos (by rfl)]
            refine wp_load_row 58 _ rfl (k3.heap.size) rfl 58 _ (0, 0) _ R_b.out Tryz.underlying58 rfl (by rw [vals_size]; exact cells31) ?_
            refine hK.out _ _ hHeld (fun hHeld => ?_)
            clear hK K
            try simp only [Act.put, List.setIfInBounds_toArray, List.set_cons_zero, List.set_cons_succ]
            refine wpAnyH_ready (rs := [3]) (by kernel_rfl) (by simp) ?_
            refine AllReadyH.cons (o := { dst := some 38, op := Op.call { callee := Callee.value (Operand.func 111), args := #[Operand.tmp 37], argTypes := #[58] }, type := 58, pos := "ref.go:173", after := #[{ on := 2, ground := Ground.data }, { on := 1, ground := Ground.chain }], guard := none }) rfl (fun K hK => ?_) AllReadyH.nil
            go_simp
            refine (refHalf_at x _ _ (by rfl) Hx2.out).mono ?_
            unfold rn
            rintro e z3 ⟨rfl, hb⟩
            have U_c := hide (U_b.out.call hb)
            have V_c := hide (V_b.out.call hb)
            have Z_c := hide (Z_b.out.call hb)
            have N_c := hide (N_b.out.call hb)
            have Q_c := hide (Q_b.out.call hb)
            have R_c := hide (R_b.out.call hb)
            clear U_b V_b Z_b N_b Q_b R_b
            dsimp only
            refine hK.out _ _ ⟨hHeld.1.call hb, hHeld.2.trans (hb.mono hHeld.2.size)⟩ (fun hHeld => ?_)
            clear hK K hb
            try simp only [Act.put, List.setIfInBounds_toArray, List.set_cons_zero, List.set_cons_succ]
            refine wpAnyH_ready (rs := [4]) (by kernel_rfl) (by simp) ?_
            refine AllReadyH.cons (o := { dst := some 39, op := Op.call { callee := Callee.value (Operand.func 111), args := #[Operand.tmp 38], argTypes := #[58] }, type := 58, pos := "ref.go:173", after := #[{ on := 3, ground := Ground.data }, { on := 3, ground := Ground.chain }], guard := none }) rfl (fun K hK => ?_) AllReadyH.nil
            go_simp
            refine (refHalf_at (x / 2) _ _ (by rfl) Hxa.out).mono ?_
            unfold rn
            rintro e z4 ⟨rfl, hb⟩
            have U_d := hide (U_c.out.call hb)
            have V_d := hide (V_c.out.call hb)
            have Z_d := hide (Z_c.out.call hb)
            have N_d := hide (N_c.out.call hb)
            have Q_d := hide (Q_c.out.call hb)
            have R_d := hide (R_c.out.call hb)
            clear U_c V_c Z_c N_c Q_c R_c
            dsimp only
            refine hK.out _ _ ⟨hHeld.1.call hb, hHeld.2.trans (hb.mono hHeld.2.size)⟩ (fun hHeld => ?_)
            clear hK K hb
            try simp only [Act.put, List.setIfInBounds_toArray, List.set_cons_zero, List.set_cons_succ]
            refine wpAnyH_ready (rs := [5]) (by kernel_rfl) (by simp) ?_
            refine AllReadyH.cons (o := { dst := some 40, op := Op.call { callee := Callee.value (Operand.func 110), args := #[Operand.tmp 36, Operand.tmp 39], argTypes := #[58, 58] }, type := 58, pos := "ref.go:173", after := #[{ on := 1, ground := Ground.data }, { on := 4, ground := Ground.data }, { on := 4, ground := Ground.chain }], guard := none }) rfl (fun K hK => ?_) AllReadyH.nil
            go_simp
            refine (refPower_at b (x / 2 / 2) _ _ (by rfl) Hb2.out Hxb.out).mono ?_
            rw [Hsi.out]
            unfold rn
            rintro e z5 ⟨rfl, hb⟩
            have U_e := hide (U_d.out.call hb)
            have V_e := hide (V_d.out.call hb)
            have Z_e := hide (Z_d.out.call hb)
            have N_e := hide (N_d.out.call hb)
            have Q_e := hide (Q_d.out.call hb)
            have R_e := hide (R_d.out.call hb)
            clear U_d V_d Z_d N_d Q_d R_d
            dsimp only
            refine hK.out _ _ ⟨hHeld.1.call hb, hHeld.2.trans (hb.mono hHeld.2.size)⟩ (fun hHeld => ?_)
            clear hK K hb
            try simp only [Act.put, List.setIfInBounds_toArray, List.set_cons_zero, List.set_cons_succ]
            refine wpAnyH_ready (rs := [6]) (by kernel_rfl) (by simp) ?_
            refine AllReadyH.cons (o := { dst := some 41, op := Op.call { callee := Callee.value (Operand.func 67), args := #[Operand.tmp 35, Operand.tmp 40], argTypes := #[58, 58] }, type := 58, pos := "ref.go:173", after := #[{ on := 0, ground := Ground.data }, { on := 5, ground := Ground.data }, { on := 5, ground := Ground.chain }], guard := none }) rfl (fun K hK => ?_) AllReadyH.nil
            go_simp
            refine (refMul_at r0 (sI b) _ _ (by rfl) Hr0l.out Hsil.out).mono ?_
            unfold rn
            rintro e z6 ⟨rfl, hb⟩
            have U_f := hide (U_e.out.call hb)
            have V_f := hide (V_e.out.call hb)
            have Z_f := hide (Z_e.out.call hb)
            have N_f := hide (N_e.out.call hb)
            have Q_f := hide (Q_e.out.call hb)
            have R_f := hide (R_e.out.call hb)
            clear U_e V_e Z_e N_e Q_e R_e
            dsimp only
            refine hK.out _ _ ⟨hHeld.1.call hb, hHeld.2.trans (hb.mono hHeld.2.size)⟩ (fun hHeld => ?_)
            clear hK K hb
            try simp only [Act.put, List.setIfInBounds_toArray, List.set_cons_zero, List.set_cons_succ]
            refine wpAnyH_ready (rs := [7]) (by kernel_rfl) (by simp) ?_
            refine AllReadyH.cons (o := { dst := none, op := Op.store 58 (Operand.tmp 8) (Operand.tmp 41), type := 0, pos := "ref.go:173", after := #[{ on := 6, ground := Ground.data }, { on := 6, ground := Ground.chain }, { on := 0, ground := Ground.phase }, { on := 1, ground := Ground.phase }, { on := 2, ground := Ground.phase }, { on := 3, ground := Ground.phase }, { on := 4, ground := Ground.phase }, { on := 5, ground := Ground.phase }, { on := 6, ground := Ground.phase }], guard := none }) rfl (fun K hK => ?_) AllReadyH.nil
            rw [if_pos (by rfl)]
            refine wp_store_row 58 _ _ rfl (k3.heap.size) (vals .u64 16 (dg (mm r0 (sI b)))) rfl rfl 58 _ R_f.out (by rw [vals_size]; exact cells31) (by rw [vals_size, vals_size]) (vals_one _ _ _) ?_
            refine hK.out _ _ ⟨hHeld.1.rowOther _ neRE.out.symm, Below.row hHeld.2 leR.out _⟩ (fun hHeld => ?_)
            clear hK K
            simp only [Act.put]
            refine wpAnyH_done (by kernel_rfl) ?_ _
            go_wp2
            go_meet
            case rel => exact ⟨U_f.out.rowOther _ neUR.out, V_f.out.rowOther _ neVR.out, Z_f.out.rowOther _ neZR.out, N_f.out.rowOther _ neNR.out, Q_f.out.rowOther _ neQR.out, R_f.out.row _, hHeld.1, hHeld.2⟩
          · refine AllReadyH.cons (o := { dst := some 38, op := Op.call { callee := Callee.value (Operand.func 111), args := #[Operand.tmp 37], argTypes := #[58] }, type := 58, pos := "ref.go:173", after := #[{ on := 2, ground := Ground.data }, { on := 1, ground := Ground.chain }], guard := none }) rfl (fun K hK => ?_) AllReadyH.nil
            go_simp
            refine (refHalf_at x _ _ (by rfl) Hx2.out).mono ?_
            unfold rn
            rintro e z3 ⟨rfl, hb⟩
            have U_c := hide (U_b.out.call hb)
            have V_c := hide (V_b.out.call hb)
            have Z_c := hide (Z_b.out.call hb)
            have N_c := hide (N_b.out.call hb)
            have Q_c := hide (Q_b.out.call hb)
            have R_c := hide (R_b.out.call hb)
            clear U_b V_b Z_b N_b Q_b R_b
            dsimp only
            refine hK.out _ _ ⟨hHeld.1.call hb, hHeld.2.trans (hb.mono hHeld.2.size)⟩ (fun hHeld => ?_)
            clear hK K hb
            try simp only [Act.put, List.setIfInBounds_toArray, List.set_cons_zero, List.set_cons_succ]
            refine wpAnyH_ready (rs := [0, 4]) (by kernel_rfl) (by simp) ?_
            refine AllReadyH.cons (o := { dst := some 35, op := Op.load 58 (Operand.tmp 8), type := 58, pos := "ref.go:173", after := #[], guard := none }) rfl (fun K hK => ?_) ?_
            · skip
              rw [if_pos (by rfl)]
              refine wp_load_row 58 _ rfl (k3.heap.size) rfl 58 _ (0, 0) _ R_c.out Tryz.underlying58 rfl (by rw [vals_size]; exact cells31) ?_
              refine hK.out _ _ hHeld (fun hHeld => ?_)
              clear hK K
              try simp only [Act.put, List.setIfInBounds_toArray, List.set_cons_zero, List.set_cons_succ]
              refine wpAnyH_ready (rs := [4]) (by kernel_rfl) (by simp) ?_
              refine AllReadyH.cons (o := { dst := some 39, op := Op.call { callee := Callee.value (Operand.func 111), args := #[Operand.tmp 38], argTypes := #[58] }, type := 58, pos := "ref.go:173", after := #[{ on := 3, ground := Ground.data }, { on := 3, ground := Ground.chain }], guard := none }) rfl (fun K hK => ?_) AllReadyH.nil
              go_simp
              refine (refHalf_at (x / 2) _ _ (by rfl) Hxa.out).mono ?_
              unfold rn
              rintro e z4 ⟨rfl, hb⟩
              have U_d := hide (U_c.out.call hb)
              have V_d := hide (V_c.out.call hb)
              have Z_d := hide (Z_c.out.call hb)
              have N_d := hide (N_c.out.call hb)
              have Q_d := hide (Q_c.out.call hb)
              have R_d := hide (R_c.out.call hb)
              clear U_c V_c Z_c N_c Q_c R_c
              dsimp only
              refine hK.out _ _ ⟨hHeld.1.call hb, hHeld.2.trans (hb.mono hHeld.2.size)⟩ (fun hHeld => ?_)
              clear hK K hb
              try simp only [Act.put, List.setIfInBounds_toArray, List.set_cons_zero, List.set_cons_succ]
              refine wpAnyH_ready (rs := [5]) (by kernel_rfl) (by simp) ?_
              refine AllReadyH.cons (o := { dst := some 40, op := Op.call { callee := Callee.value (Operand.func 110), args := #[Operand.tmp 36, Operand.tmp 39], argTypes := #[58, 58] }, type := 58, pos := "ref.go:173", after := #[{ on := 1, ground := Ground.data }, { on := 4, ground := Ground.data }, { on := 4, ground := Ground.chain }], guard := none }) rfl (fun K hK => ?_) AllReadyH.nil
              go_simp
              refine (refPower_at b (x / 2 / 2) _ _ (by rfl) Hb2.out Hxb.out).mono ?_
              rw [Hsi.out]
              unfold rn
              rintro e z5 ⟨rfl, hb⟩
              have U_e := hide (U_d.out.call hb)
              have V_e := hide (V_d.out.call hb)
              have Z_e := hide (Z_d.out.call hb)
              have N_e := hide (N_d.out.call hb)
              have Q_e := hide (Q_d.out.call hb)
              have R_e := hide (R_d.out.call hb)
              clear U_d V_d Z_d N_d Q_d R_d
              dsimp only
              refine hK.out _ _ ⟨hHeld.1.call hb, hHeld.2.trans (hb.mono hHeld.2.size)⟩ (fun hHeld => ?_)
              clear hK K hb
              try simp only [Act.put, List.setIfInBounds_toArray, List.set_cons_zero, List.set_cons_succ]
              refine wpAnyH_ready (rs := [6]) (by kernel_rfl) (by simp) ?_
              refine AllReadyH.cons (o := { dst := some 41, op := Op.call { callee := Callee.value (Operand.func 67), args := #[Operand.tmp 35, Operand.tmp 40], argTypes := #[58, 58] }, type := 58, pos := "ref.go:173", after := #[{ on := 0, ground := Ground.data }, { on := 5, ground := Ground.data }, { on := 5, ground := Ground.chain }], guard := none }) rfl (fun K hK => ?_) AllReadyH.nil
              go_simp
              refine (refMul_at r0 (sI b) _ _ (by rfl) Hr0l.out Hsil.out).mono ?_
              unfold rn
              rintro e z6 ⟨rfl, hb⟩
              have U_f := hide (U_e.out.call hb)
              have V_f := hide (V_e.out.call hb)
              have Z_f := hide (Z_e.out.call hb)
              have N_f := hide (N_e.out.call hb)
              have Q_f := hide (Q_e.out.call hb)
              have R_f := hide (R_e.out.call hb)
              clear U_e V_e Z_e N_e Q_e R_e
              dsimp only
              refine hK.out _ _ ⟨hHeld.1.call hb, hHeld.2.trans (hb.mono hHeld.2.size)⟩ (fun hHeld => ?_)
              clear hK K hb
              try simp only [Act.put, List.setIfInBounds_toArray, List.set_cons_zero, List.set_cons_succ]
              refine wpAnyH_ready (rs := [7]) (by kernel_rfl) (by simp) ?_
              refine AllReadyH.cons (o := { dst := none, op := Op.store 58 (Operand.tmp 8) (Operand.tmp 41), type := 0, pos := "ref.go:173", after := #[{ on := 6, ground := Ground.data }, { on := 6, ground := Ground.chain }, { on := 0, ground := Ground.phase }, { on := 1, ground := Ground.phase }, { on := 2, ground := Ground.phase }, { on := 3, ground := Ground.phase }, { on := 4, ground := Ground.phase }, { on := 5, ground := Ground.phase }, { on := 6, ground := Ground.phase }], guard := none }) rfl (fun K hK => ?_) AllReadyH.nil
              rw [if_pos (by rfl)]
              refine wp_store_row 58 _ _ rfl (k3.heap.size) (vals .u64 16 (dg (mm r0 (sI b)))) rfl rfl 58 _ R_f.out (by rw [vals_size]; exact cells31) (by rw [vals_size, vals_size]) (vals_one _ _ _) ?_
              refine hK.out _ _ ⟨hHeld.1.rowOther _ neRE.out.symm, Below.row hHeld.2 leR.out _⟩ (fun hHeld => ?_)
              clear hK K
              simp only [Act.put]
              refine wpAnyH_done (by kernel_rfl) ?_ _
              go_wp2
              go_meet
              case rel => exact ⟨U_f.out.rowOther _ neUR.out, V_f.out.rowOther _ neVR.out, Z_f.out.rowOther _ neZR.out, N_f.out.rowOther _ neNR.out, Q_f.out.rowOther _ neQR.out, R_f.out.row _, hHeld.1, hHeld.2⟩
            · refine AllReadyH.cons (o := { dst := some 39, op := Op.call { callee := Callee.value (Operand.func 111), args := #[Operand.tmp 38], argTypes := #[58] }, type := 58, pos := "ref.go:173", after := #[{ on := 3, ground := Ground.data }, { on := 3, ground := Ground.chain }], guard := none }) rfl (fun K hK => ?_) AllReadyH.nil
              go_simp
              refine (refHalf_at (x / 2) _ _ (by rfl) Hxa.out).mono ?_
              unfold rn
              rintro e z4 ⟨rfl, hb⟩
              have U_d := hide (U_c.out.call hb)
              have V_d := hide (V_c.out.call hb)
              have Z_d := hide (Z_c.out.call hb)
              have N_d := hide (N_c.out.call hb)
              have Q_d := hide (Q_c.out.call hb)
              have R_d := hide (R_c.out.call hb)
              clear U_c V_c Z_c N_c Q_c R_c
              dsimp only
              refine hK.out _ _ ⟨hHeld.1.call hb, hHeld.2.trans (hb.mono hHeld.2.size)⟩ (fun hHeld => ?_)
              clear hK K hb
              try simp only [Act.put, List.setIfInBounds_toArray, List.set_cons_zero, List.set_cons_succ]
              refine wpAnyH_ready (rs := [0, 5]) (by kernel_rfl) (by simp) ?_
              refine AllReadyH.cons (o := { dst := some 35, op := Op.load 58 (Operand.tmp 8), type := 58, pos := "ref.go:173", after := #[], guard := none }) rfl (fun K hK => ?_) ?_
              · skip
                rw [if_pos (by rfl)]
                refine wp_load_row 58 _ rfl (k3.heap.size) rfl 58 _ (0, 0) _ R_d.out Tryz.underlying58 rfl (by rw [vals_size]; exact cells31) ?_
                refine hK.out _ _ hHeld (fun hHeld => ?_)
                clear hK K
                try simp only [Act.put, List.setIfInBounds_toArray, List.set_cons_zero, List.set_cons_succ]
                refine wpAnyH_ready (rs := [5]) (by kernel_rfl) (by simp) ?_
                refine AllReadyH.cons (o := { dst := some 40, op := Op.call { callee := Callee.value (Operand.func 110), args := #[Operand.tmp 36, Operand.tmp 39], argTypes := #[58, 58] }, type := 58, pos := "ref.go:173", after := #[{ on := 1, ground := Ground.data }, { on := 4, ground := Ground.data }, { on := 4, ground := Ground.chain }], guard := none }) rfl (fun K hK => ?_) AllReadyH.nil
                go_simp
                refine (refPower_at b (x / 2 / 2) _ _ (by rfl) Hb2.out Hxb.out).mono ?_
                rw [Hsi.out]
                unfold rn
                rintro e z5 ⟨rfl, hb⟩
                have U_e := hide (U_d.out.call hb)
                have V_e := hide (V_d.out.call hb)
                have Z_e := hide (Z_d.out.call hb)
                have N_e := hide (N_d.out.call hb)
                have Q_e := hide (Q_d.out.call hb)
                have R_e := hide (R_d.out.call hb)
                clear U_d V_d Z_d N_d Q_d R_d
                dsimp only
                refine hK.out _ _ ⟨hHeld.1.call hb, hHeld.2.trans (hb.mono hHeld.2.size)⟩ (fun hHeld => ?_)
                clear hK K hb
                try simp only [Act.put, List.setIfInBounds_toArray, List.set_cons_zero, List.set_cons_succ]
                refine wpAnyH_ready (rs := [6]) (by kernel_rfl) (by simp) ?_
                refine AllReadyH.cons (o := { dst := some 41, op := Op.call { callee := Callee.value (Operand.func 67), args := #[Operand.tmp 35, Operand.tmp 40], argTypes := #[58, 58] }, type := 58, pos := "ref.go:173", after := #[{ on := 0, ground := Ground.data }, { on := 5, ground := Ground.data }, { on := 5, ground := Ground.chain }], guard := none }) rfl (fun K hK => ?_) AllReadyH.nil
                go_simp
                refine (refMul_at r0 (sI b) _ _ (by rfl) Hr0l.out Hsil.out).mono ?_
                unfold rn
                rintro e z6 ⟨rfl, hb⟩
                have U_f := hide (U_e.out.call hb)
                have V_f := hide (V_e.out.call hb)
                have Z_f := hide (Z_e.out.call hb)
                have N_f := hide (N_e.out.call hb)
                have Q_f := hide (Q_e.out.call hb)
                have R_f := hide (R_e.out.call hb)
                clear U_e V_e Z_e N_e Q_e R_e
                dsimp only
                refine hK.out _ _ ⟨hHeld.1.call hb, hHeld.2.trans (hb.mono hHeld.2.size)⟩ (fun hHeld => ?_)
                clear hK K hb
                try simp only [Act.put, List.setIfInBounds_toArray, List.set_cons_zero, List.set_cons_succ]
                refine wpAnyH_ready (rs := [7]) (by kernel_rfl) (by simp) ?_
                refine AllReadyH.cons (o := { dst := none, op := Op.store 58 (Operand.tmp 8) (Operand.tmp 41), type := 0, pos := "ref.go:173", after := #[{ on := 6, ground := Ground.data }, { on := 6, ground := Ground.chain }, { on := 0, ground := Ground.phase }, { on := 1, ground := Ground.phase }, { on := 2, ground := Ground.phase }, { on := 3, ground := Ground.phase }, { on := 4, ground := Ground.phase }, { on := 5, ground := Ground.phase }, { on := 6, ground := Ground.phase }], guard := none }) rfl (fun K hK => ?_) AllReadyH.nil
                rw [if_pos (by rfl)]
                refine wp_store_row 58 _ _ rfl (k3.heap.size) (vals .u64 16 (dg (mm r0 (sI b)))) rfl rfl 58 _ R_f.out (by rw [vals_size]; exact cells31) (by rw [vals_size, vals_size]) (vals_one _ _ _) ?_
                refine hK.out _ _ ⟨hHeld.1.rowOther _ neRE.out.symm, Below.row hHeld.2 leR.out _⟩ (fun hHeld => ?_)
                clear hK K
                simp only [Act.put]
                refine wpAnyH_done (by kernel_rfl) ?_ _
                go_wp2
                go_meet
                case rel => exact ⟨U_f.out.rowOther _ neUR.out, V_f.out.rowOther _ neVR.out, Z_f.out.rowOther _ neZR.out, N_f.out.rowOther _ neNR.out, Q_f.out.rowOther _ neQR.out, R_f.out.row _, hHeld.1, hHeld.2⟩
              · refine AllReadyH.cons (o := { dst := some 40, op := Op.call { callee := Callee.value (Operand.func 110), args := #[Operand.tmp 36, Operand.tmp 39], argTypes := #[58, 58] }, type := 58, pos := "ref.go:173", after := #[{ on := 1, ground := Ground.data }, { on := 4, ground := Ground.data }, { on := 4, ground := Ground.chain }], guard := none }) rfl (fun K hK => ?_) AllReadyH.nil
                go_simp
                refine (refPower_at b (x / 2 / 2) _ _ (by rfl) Hb2.out Hxb.out).mono ?_
                rw [Hsi.out]
                unfold rn
                rintro e z5 ⟨rfl, hb⟩
                have U_e := hide (U_d.out.call hb)
                have V_e := hide (V_d.out.call hb)
                have Z_e := hide (Z_d.out.call hb)
                have N_e := hide (N_d.out.call hb)
                have Q_e := hide (Q_d.out.call hb)
                have R_e := hide (R_d.out.call hb)
                clear U_d V_d Z_d N_d Q_d R_d
                dsimp only
                refine hK.out _ _ ⟨hHeld.1.call hb, hHeld.2.trans (hb.mono hHeld.2.size)⟩ (fun hHeld => ?_)
                clear hK K hb
                try simp only [Act.put, List.setIfInBounds_toArray, List.set_cons_zero, List.set_cons_succ]
                refine wpAnyH_ready (rs := [0]) (by kernel_rfl) (by simp) ?_
                refine AllReadyH.cons (o := { dst := some 35, op := Op.load 58 (Operand.tmp 8), type := 58, pos := "ref.go:173", after := #[], guard := none }) rfl (fun K hK => ?_) AllReadyH.nil
                rw [if_pos (by rfl)]
                refine wp_load_row 58 _ rfl (k3.heap.size) rfl 58 _ (0, 0) _ R_e.out Tryz.underlying58 rfl (by rw [vals_size]; exact cells31) ?_
                refine hK.out _ _ hHeld (fun hHeld => ?_)
                clear hK K
                try simp only [Act.put, List.setIfInBounds_toArray, List.set_cons_zero, List.set_cons_succ]
                refine wpAnyH_ready (rs := [6]) (by kernel_rfl) (by simp) ?_
                refine AllReadyH.cons (o := { dst := some 41, op := Op.call { callee := Callee.value (Operand.func 67), args := #[Operand.tmp 35, Operand.tmp 40], argTypes := #[58, 58] }, type := 58, pos := "ref.go:173", after := #[{ on := 0, ground := Ground.data }, { on := 5, ground := Ground.data }, { on := 5, ground := Ground.chain }], guard := none }) rfl (fun K hK => ?_) AllReadyH.nil
                go_simp
                refine (refMul_at r0 (sI b) _ _ (by rfl) Hr0l.out Hsil.out).mono ?_
                unfold rn
                rintro e z6 ⟨rfl, hb⟩
                have U_f := hide (U_e.out.call hb)
                have V_f := hide (V_e.out.call hb)
                have Z_f := hide (Z_e.out.call hb)
                have N_f := hide (N_e.out.call hb)
                have Q_f := hide (Q_e.out.call hb)
                have R_f := hide (R_e.out.call hb)
                clear U_e V_e Z_e N_e Q_e R_e
                dsimp only
                refine hK.out _ _ ⟨hHeld.1.call hb, hHeld.2.trans (hb.mono hHeld.2.size)⟩ (fun hHeld => ?_)
                clear hK K hb
                try simp only [Act.put, List.setIfInBounds_toArray, List.set_cons_zero, List.set_cons_succ]
                refine wpAnyH_ready (rs := [7]) (by kernel_rfl) (by simp) ?_
                refine AllReadyH.cons (o := { dst := none, op := Op.store 58 (Operand.tmp 8) (Operand.tmp 41), type := 0, pos := "ref.go:173", after := #[{ on := 6, ground := Ground.data }, { on := 6, ground := Ground.chain }, { on := 0, ground := Ground.phase }, { on := 1, ground := Ground.phase }, { on := 2, ground := Ground.phase }, { on := 3, ground := Ground.phase }, { on := 4, ground := Ground.phase }, { on := 5, ground := Ground.phase }, { on := 6, ground := Ground.phase }], guard := none }) rfl (fun K hK => ?_) AllReadyH.nil
                rw [if_pos (by rfl)]
                refine wp_store_row 58 _ _ rfl (k3.heap.size) (vals .u64 16 (dg (mm r0 (sI b)))) rfl rfl 58 _ R_f.out (by rw [vals_size]; exact cells31) (by rw [vals_size, vals_size]) (vals_one _ _ _) ?_
                refine hK.out _ _ ⟨hHeld.1.rowOther _ neRE.out.symm, Below.row hHeld.2 leR.out _⟩ (fun hHeld => ?_)
                clear hK K
                simp only [Act.put]
                refine wpAnyH_done (by kernel_rfl) ?_ _
                go_wp2
                go_meet
                case rel => exact ⟨U_f.out.rowOther _ neUR.out, V_f.out.rowOther _ neVR.out, Z_f.out.rowOther _ neZR.out, N_f.out.rowOther _ neNR.out, Q_f.out.rowOther _ neQR.out, R_f.out.row _, hHeld.1, hHeld.2⟩
      case rest =>
        obtain ⟨BU, BV, BZ, BN, BQ, BR, BE, Ln⟩ := hcut
        have U_9 := hide BU
        have V_9 := hide BV
        have Z_9 := hide BZ
        have N_9 := hide BN
        have Q_9 := hide BQ
        have R_9 := hide BR
        have E_9 := hide BE
        have L_9 := hide Ln
        clear U_8 BU V_8 BV Z_8 BZ N_8 BN Q_8 BQ R_8 BR E_8 BE L_8 Ln
        generalize wc = k9 at *
        have Hr1l : Hid (mm r0 (sI b) < pP) := hide (mm_lt _ _)
        obtain ⟨r1, hr1⟩ : ∃ r1, r1 = mm r0 (sI b) := ⟨_, rfl⟩
        rw [← hr1] at HR1 Hr1l R_9
        clear hr1
        go_upto_region 12 with (fail)
        have Hr1l2 := hide (lt256 Hr1l.out)
        by_cases h2 : mm r1 r1 = q
        · have Hok : Hid (rOk u v = true) := hide (by rw [← Hsame.out, ← HR1.out]; exact decide_eq_true h2)
          have Hval : Hid (rVal u v = sRes r1) := hide (by have := Hsv.out (by rw [← HR1.out]; exact h2) Hok.out; rw [← HR1.out] at this; exact this.symm)
          have he := eq_n (dg (mm r1 r1)) (dg q) true (by rw [all16 _ _ (lt256 (mm_lt _ _)) Hq2.out]; exact decide_eq_true h2)
          clear h2
          refine wp_region_held_drew (S := fun w' => Below k9.heap.size k9 w') (by kernel_rfl) (Below.refl _ _).drew (fun hHeld => ?_)
          refine wpAnyH_take (i := 0) (oi := { dst := some 42, op := Op.load 58 (Operand.tmp 8), type := 58, pos := "ref.go:175", after := #[], guard := none }) (v := .agg (vals .u64 16 (dg (r1)))) rfl (by kernel_rfl) (by kernel_rfl) (by kernel_rfl) (fun _ _ _ h => h) (yields_blk R_9.out (by rfl) 58 _ rfl rfl _ Tryz.underlying58 rfl (by rw [vals_size]; exact cells31)) hHeld ?_
          try simp only [Act.put, List.setIfInBounds_toArray, List.set_cons_zero, List.set_cons_succ]
          refine wpAnyH_take (i := 1) (oi := { dst := some 43, op := Op.load 58 (Operand.tmp 8), type := 58, pos := "ref.go:175", after := #[], guard := none }) (v := .agg (vals .u64 16 (dg (r1)))) rfl (by kernel_rfl) (by kernel_rfl) (by kernel_rfl) (fun _ _ _ h => h) (yields_blk R_9.out (by rfl) 58 _ rfl rfl _ Tryz.underlying58 rfl (by rw [vals_size]; exact cells31)) hHeld ?_
          try simp only [Act.put, List.setIfInBounds_toArray, List.set_cons_zero, List.set_cons_succ]
          refine wpAnyH_take (i := 3) (oi := { dst := some 45, op := Op.load 58 (Operand.tmp 7), type := 58, pos := "ref.go:175", after := #[], guard := none }) (v := .agg (vals .u64 16 (dg (q)))) rfl (by kernel_rfl) (by kernel_rfl) (by kernel_rfl) (fun _ _ _ h => h) (yields_blk Q_9.out (by rfl) 58 _ rfl rfl _ Tryz.underlying58 rfl (by rw [vals_size]; exact cells31)) hHeld ?_
          try simp only [Act.put, List.setIfInBounds_toArray, List.set_cons_zero, List.set_cons_succ]
          refine wpAnyH_ready (rs := [2]) (by kernel_rfl) (by simp) ?_
          refine AllReadyH.cons (o := { dst := some 44, op := Op.call { callee := Callee.value (Operand.func 67), args := #[Operand.tmp 42, Operand.tmp 43], argTypes := #[58, 58] }, type := 58, pos := "ref.go:175", after := #[{ on := 0, ground := Ground.data }, { on := 1, ground := Ground.data }], guard := none }) rfl (fun K hK => ?_) AllReadyH.nil
          go_simp
          refine (refMul_at r1 r1 _ _ (by rfl) Hr1l2.out Hr1l2.out).mono ?_
          unfold rn
          rintro e tb ⟨rfl, hb⟩
          have HTtb := hide (keepCall hb rfl hHeld)
          dsimp only
          refine hK.out _ _ HTtb.out (fun hHeld => ?_)
          clear hK K hb
          try simp only [Act.put, List.setIfInBounds_toArray, List.set_cons_zero, List.set_cons_succ]
          refine wpAnyH_take (i := 4) (oi := { dst := some 46, op := Op.binOp BinOp.neq 58 (Operand.tmp 44) (Operand.tmp 45) 58, type := 4, pos := "ref.go:175", after := #[{ on := 2, ground := Ground.data }, { on := 3, ground := Ground.data }], guard := none }) (v := .bool false) rfl (by kernel_rfl) (by kernel_rfl) (by kernel_rfl) (fun _ _ _ h => h) (Or.inl ⟨by rfl, fun w hSw => by go_simp⟩) hHeld ?_
          try simp only [Act.put, List.setIfInBounds_toArray, List.set_cons_zero, List.set_cons_succ]
          refine wpAnyH_done (by kernel_rfl) ?_ _
          clear he
          have U_10 := hide (U_9.out.call HTtb.out)
          have V_10 := hide (V_9.out.call HTtb.out)
          have Z_10 := hide (Z_9.out.call HTtb.out)
          have N_10 := hide (N_9.out.call HTtb.out)
          have Q_10 := hide (Q_9.out.call HTtb.out)
          have R_10 := hide (R_9.out.call HTtb.out)
          have E_10 := hide (E_9.out.call HTtb.out)
          have L_10 := hide (L_9.out.trans (HTtb.out.mono L_9.out.size))
          clear U_9 V_9 Z_9 N_9 Q_9 R_9 E_9 L_9 hHeld
          have c0 := R_10.out.cell 0
          rw [vals_get _ _ _ _ (by omega)] at c0
          have hd0 := dg_lt r1 0
          have hdo := dg_zero_odd r1
          by_cases hod : r1 % 2 = 1
          · have hm : ((dg r1 0 : Nat) : Int) % 2 = 1 := by omega
            have hm2 : ((dg r1 0 : Nat) : Int).tmod 2 = 1 := by rw [Int.tmod_eq_emod_of_nonneg (by omega)]; exact hm
            have Hre : Hid (sRes r1 = (0 + (pP - r1)) % pP) := hide (by unfold sRes; rw [if_pos hod])
            clear hdo hod hd0
            go_upto_region 16 with (first | (refine wpList_load_row rfl 58 _ rfl (w.heap.size + 3) rfl 58 _ (0, 0) _ N_10.out Tryz.underlying58 rfl (by rw [vals_size]; exact cells31) ?_) | (refine wpList_load_row rfl 58 _ rfl (k3.heap.size) rfl 58 _ (0, 0) _ R_10.out Tryz.underlying58 rfl (by rw [vals_size]; exact cells31) ?_) | (go_at_call 68; refine (refSub_at 0 r1 _ _ rfl H0.out (Nat.le_of_lt Hr1l.out)).mono ?_; rw [← Hre.out]; unfold rn; rintro r k11 ⟨rfl, hb⟩; have U_11 := hide (U_10.out.call hb); have V_11 := hide (V_10.out.call hb); have Z_11 := hide (Z_10.out.call hb); have N_11 := hide (N_10.out.call hb); have Q_11 := hide (Q_10.out.call hb); have R_11 := hide (R_10.out.call hb); have E_11 := hide (E_10.out.call hb); have L_11 := hide (L_10.out.trans (hb.mono L_10.out.size)); clear U_10 V_10 Z_10 N_10 Q_10 R_10 E_10 L_10 hb; dsimp only) | (refine wpList_store_abs rfl 58 _ _ rfl (k3.heap.size) (vals .u64 16 (dg (sRes r1))) rfl rfl 58 _ R_11.out (by rw [vals_size]; exact cells31) (by rw [vals_size, vals_size]) (vals_one _ _ _) ?_; intro k12 Bn Sn; have U_12 := hide (Sn.other _ _ _ neUR.out U_11.out); have V_12 := hide (Sn.other _ _ _ neVR.out V_11.out); have Z_12 := hide (Sn.other _ _ _ neZR.out Z_11.out); have N_12 := hide (Sn.other _ _ _ neNR.out N_11.out); have Q_12 := hide (Sn.other _ _ _ neQR.out Q_11.out); have E_12 := hide (Sn.other _ _ _ (Ne.symm neRE.out) E_11.out); have L_12 := hide (Sn.low _ _ L_11.out leR.out); have R_12 := hide Bn; clear Bn Sn U_11 V_11 Z_11 N_11 Q_11 R_11 E_11 L_11))
            clear c0 hm hm2
            go_wp2_with (first | (refine wpList_load_row rfl 58 _ rfl (k3.heap.size) rfl 58 _ (0, 0) _ R_12.out Tryz.underlying58 rfl (by rw [vals_size]; exact cells31) ?_) | (refine wpList_store_row rfl 58 _ _ rfl (w.heap.size + 2) (vals .u64 16 (dg (sRes r1))) rfl rfl 58 _ Z_12.out (by rw [vals_size]; exact cells31) (by rw [vals_size, vals_size]) (vals_one _ _ _) ?_))
            refine bodyPost_ret (v := .tuple #[.agg (vals .u64 16 (dg (sRes r1))), .bool true]) (results_two Tryz.results72 _ _ (w.heap.size + 2) 58 _ (0, 0) _ _ rfl rfl (Z_12.out.row _) Tryz.underlying58 rfl (by rw [vals_size]; exact cells31)) rfl ⟨by rw [Hval.out, Hok.out], ?_⟩
            exact Below.row L_12.out (by omega) _
          · have hm : ((dg r1 0 : Nat) : Int) % 2 = 0 := by omega
            have hm2 : ((dg r1 0 : Nat) : Int).tmod 2 = 0 := by rw [Int.tmod_eq_emod_of_nonneg (by omega)]; exact hm
            have Hre : Hid (sRes r1 = r1) := hide (by unfold sRes; rw [if_neg hod])
            rw [Hre.out] at Hval
            clear hdo hod hd0
            go_upto_region 16 with (fail)
            clear c0 hm hm2
            go_wp2_with (first | (refine wpList_load_row rfl 58 _ rfl (k3.heap.size) rfl 58 _ (0, 0) _ R_10.out Tryz.underlying58 rfl (by rw [vals_size]; exact cells31) ?_) | (refine wpList_store_row rfl 58 _ _ rfl (w.heap.size + 2) (vals .u64 16 (dg (r1))) rfl rfl 58 _ Z_10.out (by rw [vals_size]; exact cells31) (by rw [vals_size, vals_size]) (vals_one _ _ _) ?_))
            refine bodyPost_ret (v := .tuple #[.agg (vals .u64 16 (dg (r1))), .bool true]) (results_two Tryz.results72 _ _ (w.heap.size + 2) 58 _ (0, 0) _ _ rfl rfl (Z_10.out.row _) Tryz.underlying58 rfl (by rw [vals_size]; exact cells31)) rfl ⟨by rw [Hval.out, Hok.out], ?_⟩
            exact Below.row L_10.out (by omega) _
        · have Hok : Hid (rOk u v = false) := hide (by rw [← Hsame.out, ← HR1.out]; exact decide_eq_false h2)
          have Hval := hide (val_none u v Hok.out)
          have he := eq_n (dg (mm r1 r1)) (dg q) false (by rw [all16 _ _ (lt256 (mm_lt _ _)) Hq2.out]; exact decide_eq_false h2)
          clear h2
          refine wp_region_held_drew (S := fun w' => Below k9.heap.size k9 w') (by kernel_rfl) (Below.refl _ _).drew (fun hHeld => ?_)
          refine wpAnyH_take (i := 0) (oi := { dst := some 42, op := Op.load 58 (Operand.tmp 8), type := 58, pos := "ref.go:175", after := #[], guard := none }) (v := .agg (vals .u64 16 (dg (r1)))) rfl (by kernel_rfl) (by kernel_rfl) (by kernel_rfl) (fun _ _ _ h => h) (yields_blk R_9.out (by rfl) 58 _ rfl rfl _ Tryz.underlying58 rfl (by rw [vals_size]; exact cells31)) hHeld ?_
          try simp only [Act.put, List.setIfInBounds_toArray, List.set_cons_zero, List.set_cons_succ]
          refine wpAnyH_take (i := 1) (oi := { dst := some 43, op := Op.load 58 (Operand.tmp 8), type := 58, pos := "ref.go:175", after := #[], guard := none }) (v := .agg (vals .u64 16 (dg (r1)))) rfl (by kernel_rfl) (by kernel_rfl) (by kernel_rfl) (fun _ _ _ h => h) (yields_blk R_9.out (by rfl) 58 _ rfl rfl _ Tryz.underlying58 rfl (by rw [vals_size]; exact cells31)) hHeld ?_
          try simp only [Act.put, List.setIfInBounds_toArray, List.set_cons_zero, List.set_cons_succ]
          refine wpAnyH_take (i := 3) (oi := { dst := some 45, op := Op.load 58 (Operand.tmp 7), type := 58, pos := "ref.go:175", after := #[], guard := none }) (v := .agg (vals .u64 16 (dg (q)))) rfl (by kernel_rfl) (by kernel_rfl) (by kernel_rfl) (fun _ _ _ h => h) (yields_blk Q_9.out (by rfl) 58 _ rfl rfl _ Tryz.underlying58 rfl (by rw [vals_size]; exact cells31)) hHeld ?_
          try simp only [Act.put, List.setIfInBounds_toArray, List.set_cons_zero, List.set_cons_succ]
          refine wpAnyH_ready (rs := [2]) (by kernel_rfl) (by simp) ?_
          refine AllReadyH.cons (o := { dst := some 44, op := Op.call { callee := Callee.value (Operand.func 67), args := #[Operand.tmp 42, Operand.tmp 43], argTypes := #[58, 58] }, type := 58, pos := "ref.go:175", after := #[{ on := 0, ground := Ground.data }, { on := 1, ground := Ground.data }], guard := none }) rfl (fun K hK => ?_) AllReadyH.nil
          go_simp
          refine (refMul_at r1 r1 _ _ (by rfl) Hr1l2.out Hr1l2.out).mono ?_
          unfold rn
          rintro e tb ⟨rfl, hb⟩
          have HTtb := hide (keepCall hb rfl hHeld)
          dsimp only
          refine hK.out _ _ HTtb.out (fun hHeld => ?_)
          clear hK K hb
          try simp only [Act.put, List.setIfInBounds_toArray, List.set_cons_zero, List.set_cons_succ]
          refine wpAnyH_take (i := 4) (oi := { dst := some 46, op := Op.binOp BinOp.neq 58 (Operand.tmp 44) (Operand.tmp 45) 58, type := 4, pos := "ref.go:175", after := #[{ on := 2, ground := Ground.data }, { on := 3, ground := Ground.data }], guard := none }) (v := .bool true) rfl (by kernel_rfl) (by kernel_rfl) (by kernel_rfl) (fun _ _ _ h => h) (Or.inl ⟨by rfl, fun w hSw => by go_simp⟩) hHeld ?_
          try simp only [Act.put, List.setIfInBounds_toArray, List.set_cons_zero, List.set_cons_succ]
          refine wpAnyH_done (by kernel_rfl) ?_ _
          clear he
          have U_10 := hide (U_9.out.call HTtb.out)
          have V_10 := hide (V_9.out.call HTtb.out)
          have Z_10 := hide (Z_9.out.call HTtb.out)
          have N_10 := hide (N_9.out.call HTtb.out)
          have Q_10 := hide (Q_9.out.call HTtb.out)
          have R_10 := hide (R_9.out.call HTtb.out)
          have E_10 := hide (E_9.out.call HTtb.out)
          have L_10 := hide (L_9.out.trans (HTtb.out.mono L_9.out.size))
          clear U_9 V_9 Z_9 N_9 Q_9 R_9 E_9 L_9 hHeld
          go_upto_region 13 with (fail)
          go_wp2_with (first | (refine wpList_load_row rfl 58 _ rfl (w.heap.size + 3) rfl 58 _ (0, 0) _ N_10.out Tryz.underlying58 rfl (by rw [vals_size]; exact cells31) ?_) | (refine wpList_store_row rfl 58 _ _ rfl (w.heap.size + 2) (vals .u64 16 (dg (0))) rfl rfl 58 _ Z_10.out (by rw [vals_size]; exact cells31) (by rw [vals_size, vals_size]) (vals_one _ _ _) ?_))
          refine bodyPost_ret (v := .tuple #[.agg (vals .u64 16 (dg (0))), .bool false]) (results_two Tryz.results72 _ _ (w.heap.size + 2) 58 _ (0, 0) _ _ rfl rfl (Z_10.out.row _) Tryz.underlying58 rfl (by rw [vals_size]; exact cells31)) rfl ⟨by rw [Hval.out, Hok.out], ?_⟩
          exact Below.row L_10.out (by omega) _
end Go.Proofs.YtbpmakegimgbpaaGreatDoor.F

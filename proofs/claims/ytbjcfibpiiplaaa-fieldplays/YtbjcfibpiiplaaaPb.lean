/- FieldPlays' walk: for both rows of 32 bytes and all steps the law returns true. -/
import Derived.Test.YtbjcfibpiiplaaaPa
import Derived.Test.YtbjcfibpiiplaaaWq
import Derived.Test.YtbjcfibpiiplaaaVe
import Derived.Test.YtbjcfibpiiplaaaVi
import Derived.Test.YtbjcfibpiiplaaaVh
import Derived.Test.YtbjcfibpiiplaaaVg
namespace Go.Proofs.Ytbjcfibpiiplaaa
open Go.RowKit

theorem yields_build {P : Program} {ops : Array Oper} {op : Oper} {a : Act} {S : World → Prop} {c : Array Value} (hw : Region.wanted op (yielded ops a.tmps) = true) (t : TypeId) (parts : Array (Nat × Operand)) (ho : op.op = .build t parts)
    (h : P.built t (parts.map fun (i, x) => (i, a.eval x)).toList = some c) : YieldsIf P ops S op (.agg c) a :=
  .inl ⟨hw, fun w _ => by
    unfold execOp
    simp only [ho, Sem.run_bind, run_build w t _ c h, Result.andThen_ok]
    rfl⟩
theorem builtOne1 : Try.prog.built 22 [(0, .int .u8 1)] = some (vals .u8 32 (oneB 1)) := by rfl
theorem built27 : Try.prog.built 27 [] = some (lits 0) := by rfl
theorem zero16 : vals .u64 16 (fun _ => 0) = vals .u64 16 (dg 0) := vals_congr _ _ _ _ fun j _ => by unfold dg; rw [Nat.zero_div, Nat.zero_mod]
theorem built_none : Try.prog.built 31 [] = some (vals .u64 16 (dg 0)) := by rw [← zero16]; exact built31
theorem zero50 (w : World) : (zeroValue 50).run Try.prog w = .ok (.agg (vals .u64 64 (fun _ => 0))) w := by kernel_rfl
theorem zero48 (w : World) : (zeroValue 48).run Try.prog w = .ok (.agg (vals .u64 16 (fun _ => 0))) w := by kernel_rfl
theorem one_modp : 1 % pP = 1 := Nat.mod_eq_of_lt (by unfold pP; omega)
theorem one_lt : 1 < pP := by unfold pP; omega
theorem f4_lt (x y z : Nat) (hx : x < pP) (hy : y < pP) (hz : z < pP) (i : Nat) : f4 x y z i < pP := by
  unfold f4
  split
  · exact hx
  · split
    · exact hy
    · split
      · exact hz
      · exact pP_pos

theorem ltp {x : Nat} (h : x < pP) : x < 2 ^ 256 := Nat.lt_trans h pP_lt
theorem nb_back' (x : Nat) (hx : x < pP) : nb (byt x) 32 % pP = x := by
  rw [nb_byt, Nat.mod_eq_of_lt (show x < 2 ^ (8 * 32) from ltp hx), Nat.mod_eq_of_lt hx]
theorem eq_byt (n : Nat) (w : World) : (Op.equalIn 10000 22 (.agg (vals .u8 32 (byt n))) (.agg (vals .u8 32 (byt n)))).run Try.prog w = .ok true w := eq_vals' (byt n) (byt n) true (all_self _) w
theorem odd_digit (v : Nat) (od : Bool) (h : decide (v % 2 = 1) = od) : (((dg v 0 : Nat) : Int) % 2 == 1) = od := by
  rw [← h, Bool.eq_iff_iff]
  have : dg v 0 % 2 = v % 2 := by unfold dg; simp
  simp; omega
theorem odd_digit2 (v : Nat) (od : Bool) (h : decide (v % 2 = 1) = od) : decide (((dg v 0 : Nat) : Int) % 2 = 1) = od := by
  rw [← h, Bool.eq_iff_iff]
  have : dg v 0 % 2 = v % 2 := by unfold dg; simp
  simp; omega
theorem bool_ne (b : Bool) : (b != b) = false := by simp

set_option maxRecDepth 100000 in
set_option maxHeartbeats 8000000 in
theorem plays_walk (f g : Nat → Nat) (A : Option Addr) (len cap : Nat) (w : World) (hf : ∀ i, f i < 256) (hg : ∀ i, g i < 256) (hst : Steps w A len) :
    Calls Try.prog 5 #[ba f, ba g, .slice A len cap] w fun e w' => e = .returned (.bool true) ∧ Below w.heap.size w w' := by
  have Hf := hide hf
  have Hg := hide hg
  have HS := hide hst
  clear hf hg hst
  obtain ⟨x, hx⟩ : ∃ x, nb f 32 % pP = x := ⟨_, rfl⟩
  have Hx := hide hx
  have Hxl : Hid (x < pP) := hide (by rw [← hx]; exact Nat.mod_lt _ pP_pos)
  obtain ⟨y, hy⟩ : ∃ y, nb g 32 % pP = y := ⟨_, rfl⟩
  have Hy := hide hy
  have Hyl : Hid (y < pP) := hide (by rw [← hy]; exact Nat.mod_lt _ pP_pos)
  clear hx hy
  unfold ba
  have hz48 := zero48
  have hz50 := zero50
  have F_0 := hide ((Blk.new w (vals .u8 32 f) 22).alloc (.cells (vals .u8 32 g) 22))
  have G_0 := hide (Blk.new' (w.alloc (.cells (vals .u8 32 f) 22)) (w.heap.size + 1) (by simp) (vals .u8 32 g) 22)
  have L_0 : Hid (Below w.heap.size w ((w.alloc (.cells (vals .u8 32 f) 22)).alloc (.cells (vals .u8 32 g) 22))) := hide (((Below.refl _ w).alloc (Nat.le_refl _) _).alloc (by simp) _)
  go_enter Try.func5, Try.ntmps5
  go_upto_region 2 with (first
      | (go_at_call 10; refine (awake_at _ _ rfl).mono ?_; rintro e k1 ⟨rfl, hb⟩; have F_1 := hide (F_0.out.call hb); have G_1 := hide (G_0.out.call hb); have L_1 := hide (L_0.out.trans (hb.mono L_0.out.size)); clear hb F_0 G_0 L_0; dsimp only))
  go_cut [8] (fun s wx => ∃ b, s = .pointer (some ⟨b, 0, none⟩) ∧ k1.heap.size ≤ b ∧ Blk wx b (vals .u64 16 (xl (f4 x y 1))) 48 ∧ Below k1.heap.size k1 wx)
  case first =>
    refine wp_region_held_drew (S := fun w' => Below k1.heap.size k1 w') (by kernel_rfl) (Below.refl _ _).drew (fun hHeld => ?_)
    refine wpAnyH_take (i := 0) (oi := { dst := some 18, op := Op.load 22 (Operand.tmp 3), type := 22, pos := "law.go:65", after := #[], guard := none }) (v := .agg (vals .u8 32 f)) rfl (by kernel_rfl) (by kernel_rfl) (by kernel_rfl) (fun _ _ _ h => h) (yields_blk F_1.out (by rfl) 22 _ rfl rfl _ Try.underlying22 rfl (by rw [vals_size]; exact cells22)) hHeld ?_
    try simp only [Act.put, List.setIfInBounds_toArray, List.set_cons_zero, List.set_cons_succ]
    refine wpAnyH_take (i := 2) (oi := { dst := some 20, op := Op.load 22 (Operand.tmp 4), type := 22, pos := "law.go:65", after := #[], guard := none }) (v := .agg (vals .u8 32 g)) rfl (by kernel_rfl) (by kernel_rfl) (by kernel_rfl) (fun _ _ _ h => h) (yields_blk G_1.out (by rfl) 22 _ rfl rfl _ Try.underlying22 rfl (by rw [vals_size]; exact cells22)) hHeld ?_
    try simp only [Act.put, List.setIfInBounds_toArray, List.set_cons_zero, List.set_cons_succ]
    refine wpAnyH_take (i := 4) (oi := { dst := some 22, op := Op.build 22 #[(0, Operand.const (Value.int IntKind.u8 1))], type := 22, pos := "law.go:65", after := #[], guard := none }) (v := .agg (vals .u8 32 (oneB 1))) rfl (by kernel_rfl) (by kernel_rfl) (by kernel_rfl) (fun _ _ _ h => h) (yields_build (by rfl) 22 _ rfl (by simp only [List.map_toArray, List.map_cons, List.map_nil]; exact builtOne1)) hHeld ?_
    try simp only [Act.put, List.setIfInBounds_toArray, List.set_cons_zero, List.set_cons_succ]
    refine wpAnyH_take (i := 6) (oi := { dst := some 24, op := Op.build 27 #[], type := 27, pos := "law.go:65", after := #[], guard := none }) (v := .agg (lits 0)) rfl (by kernel_rfl) (by kernel_rfl) (by kernel_rfl) (fun _ _ _ h => h) (yields_build (by rfl) 27 _ rfl (by simp only [List.map_toArray, List.map_nil]; exact built27)) hHeld ?_
    try simp only [Act.put, List.setIfInBounds_toArray, List.set_cons_zero, List.set_cons_succ]
    refine wpAnyH_ready (rs := [1, 8]) (by kernel_rfl) (by simp) ?_
    refine AllReadyH.cons (o := { dst := some 19, op := Op.call { callee := Callee.value (Operand.func 11), args := #[Operand.tmp 18], argTypes := #[22] }, type := 27, pos := "law.go:65", after := #[{ on := 0, ground := Ground.data }], guard := none }) rfl (fun K hK => ?_) ?_
    · skip
      go_simp
      refine (load_at f _ _ (by rfl) Hf.out).mono ?_
      rw [Hx.out]
      rintro e x1 ⟨rfl, hb⟩
      dsimp only
      refine hK.out _ _ (keepCall hb rfl hHeld) (fun hHeld => ?_)
      clear hK K hb
      try simp only [Act.put, List.setIfInBounds_toArray, List.set_cons_zero, List.set_cons_succ]
      refine wpAnyH_ready (rs := [3, 8]) (by kernel_rfl) (by simp) ?_
      refine AllReadyH.cons (o := { dst := some 21, op := Op.call { callee := Callee.value (Operand.func 11), args := #[Operand.tmp 20], argTypes := #[22] }, type := 27, pos := "law.go:65", after := #[{ on := 2, ground := Ground.data }, { on := 1, ground := Ground.chain }], guard := none }) rfl (fun K hK => ?_) ?_
      · skip
        go_simp
        refine (load_at g _ _ (by rfl) Hg.out).mono ?_
        rw [Hy.out]
        rintro e x2 ⟨rfl, hb⟩
        dsimp only
        refine hK.out _ _ (keepCall hb rfl hHeld) (fun hHeld => ?_)
        clear hK K hb
        try simp only [Act.put, List.setIfInBounds_toArray, List.set_cons_zero, List.set_cons_succ]
        refine wpAnyH_ready (rs := [5, 8]) (by kernel_rfl) (by simp) ?_
        refine AllReadyH.cons (o := { dst := some 23, op := Op.call { callee := Callee.value (Operand.func 11), args := #[Operand.tmp 22], argTypes := #[22] }, type := 27, pos := "law.go:65", after := #[{ on := 4, ground := Ground.data }, { on := 3, ground := Ground.chain }], guard := none }) rfl (fun K hK => ?_) ?_
        · skip
          go_simp
          refine (load_at (oneB 1) _ _ (by rfl) (oneB_lt 1 (by omega))).mono ?_
          rw [nb_one 1 31, one_modp]
          rintro e x3 ⟨rfl, hb⟩
          dsimp only
          refine hK.out _ _ (keepCall hb rfl hHeld) (fun hHeld => ?_)
          clear hK K hb
          try simp only [Act.put, List.setIfInBounds_toArray, List.set_cons_zero, List.set_cons_succ]
          refine wpAnyH_take (i := 7) (oi := { dst := some 25, op := Op.build 48 #[(0, Operand.tmp 19), (1, Operand.tmp 21), (2, Operand.tmp 23), (3, Operand.tmp 24)], type := 48, pos := "law.go:65", after := #[{ on := 1, ground := Ground.data }, { on := 3, ground := Ground.data }, { on := 5, ground := Ground.data }, { on := 6, ground := Ground.data }], guard := none }) (v := .agg (vals .u64 16 (xl (f4 x y 1)))) rfl (by kernel_rfl) (by kernel_rfl) (by kernel_rfl) (fun _ _ _ h => h) (yields_build (by rfl) 48 _ rfl (by simp only [List.map_toArray, List.map_cons, List.map_nil]; exact built48 x y 1)) hHeld ?_
          try simp only [Act.put, List.setIfInBounds_toArray, List.set_cons_zero, List.set_cons_succ]
          refine wpAnyH_ready (rs := [8]) (by kernel_rfl) (by simp) ?_
          refine AllReadyH.cons (o := { dst := some 8, op := Op.alloc 48, type := 0, pos := "law.go:65", after := #[], guard := none }) rfl (fun K hK => ?_) AllReadyH.nil
          have Ea := hide (Blk.new x3 (vals .u64 16 (fun _ => 0)) 48)
          have lea := hide hHeld.size
          go_simp
          refine hK.out _ _ (hHeld.alloc hHeld.size _) (fun hHeld => ?_)
          clear hK K
          try simp only [Act.put, List.setIfInBounds_toArray, List.set_cons_zero, List.set_cons_succ]
          refine wpAnyH_ready (rs := [9]) (by kernel_rfl) (by simp) ?_
          refine AllReadyH.cons (o := { dst := none, op := Op.store 48 (Operand.tmp 8) (Operand.tmp 25), type := 0, pos := "law.go:65", after := #[{ on := 8, ground := Ground.data }, { on := 7, ground := Ground.data }, { on := 5, ground := Ground.chain }, { on := 0, ground := Ground.phase }, { on := 1, ground := Ground.phase }, { on := 2, ground := Ground.phase }, { on := 3, ground := Ground.phase }, { on := 4, ground := Ground.phase }, { on := 5, ground := Ground.phase }, { on := 6, ground := Ground.phase }, { on := 7, ground := Ground.phase }, { on := 8, ground := Ground.phase }], guard := none }) rfl (fun K hK => ?_) AllReadyH.nil
          rw [if_pos (by rfl)]
          refine wp_store_row 48 _ _ rfl (x3.heap.size) (vals .u64 16 (xl (f4 x y 1))) rfl rfl 48 _ Ea.out (by rw [vals_size]; exact cells48) (by simp only [vals_size]) (vals_one _ _ _) ?_
          refine hK.out _ _ (Below.row hHeld lea.out _) (fun hHeld => ?_)
          clear hK K
          simp only [Act.put]
          refine wpAnyH_done (by kernel_rfl) ?_ _
          go_wp2
          go_meet
          case rel => exact ⟨_, rfl, lea.out, (Ea.out).row _, hHeld⟩
        · refine AllReadyH.cons (o := { dst := some 8, op := Op.alloc 48, type := 0, pos := "law.go:65", after := #[], guard := none }) rfl (fun K hK => ?_) AllReadyH.nil
          have Ea := hide (Blk.new x2 (vals .u64 16 (fun _ => 0)) 48)
          have lea := hide hHeld.size
          go_simp
          refine hK.out _ _ (hHeld.alloc hHeld.size _) (fun hHeld => ?_)
          clear hK K
          try simp only [Act.put, List.setIfInBounds_toArray, List.set_cons_zero, List.set_cons_succ]
          refine wpAnyH_ready (rs := [5]) (by kernel_rfl) (by simp) ?_
          refine AllReadyH.cons (o := { dst := some 23, op := Op.call { callee := Callee.value (Operand.func 11), args := #[Operand.tmp 22], argTypes := #[22] }, type := 27, pos := "law.go:65", after := #[{ on := 4, ground := Ground.data }, { on := 3, ground := Ground.chain }], guard := none }) rfl (fun K hK => ?_) AllReadyH.nil
          go_simp
          refine (load_at (oneB 1) _ _ (by rfl) (oneB_lt 1 (by omega))).mono ?_
          rw [nb_one 1 31, one_modp]
          rintro e x4 ⟨rfl, hb⟩
          have Eb4 := hide (Ea.out.call hb)
          dsimp only
          refine hK.out _ _ (keepCall hb rfl hHeld) (fun hHeld => ?_)
          clear hK K hb
          try simp only [Act.put, List.setIfInBounds_toArray, List.set_cons_zero, List.set_cons_succ]
          refine wpAnyH_take (i := 7) (oi := { dst := some 25, op := Op.build 48 #[(0, Operand.tmp 19), (1, Operand.tmp 21), (2, Operand.tmp 23), (3, Operand.tmp 24)], type := 48, pos := "law.go:65", after := #[{ on := 1, ground := Ground.data }, { on := 3, ground := Ground.data }, { on := 5, ground := Ground.data }, { on := 6, ground := Ground.data }], guard := none }) (v := .agg (vals .u64 16 (xl (f4 x y 1)))) rfl (by kernel_rfl) (by kernel_rfl) (by kernel_rfl) (fun _ _ _ h => h) (yields_build (by rfl) 48 _ rfl (by simp only [List.map_toArray, List.map_cons, List.map_nil]; exact built48 x y 1)) hHeld ?_
          try simp only [Act.put, List.setIfInBounds_toArray, List.set_cons_zero, List.set_cons_succ]
          refine wpAnyH_ready (rs := [9]) (by kernel_rfl) (by simp) ?_
          refine AllReadyH.cons (o := { dst := none, op := Op.store 48 (Operand.tmp 8) (Operand.tmp 25), type := 0, pos := "law.go:65", after := #[{ on := 8, ground := Ground.data }, { on := 7, ground := Ground.data }, { on := 5, ground := Ground.chain }, { on := 0, ground := Ground.phase }, { on := 1, ground := Ground.phase }, { on := 2, ground := Ground.phase }, { on := 3, ground := Ground.phase }, { on := 4, ground := Ground.phase }, { on := 5, ground := Ground.phase }, { on := 6, ground := Ground.phase }, { on := 7, ground := Ground.phase }, { on := 8, ground := Ground.phase }], guard := none }) rfl (fun K hK => ?_) AllReadyH.nil
          rw [if_pos (by rfl)]
          refine wp_store_row 48 _ _ rfl (x2.heap.size) (vals .u64 16 (xl (f4 x y 1))) rfl rfl 48 _ Eb4.out (by rw [vals_size]; exact cells48) (by simp only [vals_size]) (vals_one _ _ _) ?_
          refine hK.out _ _ (Below.row hHeld lea.out _) (fun hHeld => ?_)
          clear hK K
          simp only [Act.put]
          refine wpAnyH_done (by kernel_rfl) ?_ _
          go_wp2
          go_meet
          case rel => exact ⟨_, rfl, lea.out, (Eb4.out).row _, hHeld⟩
      · refine AllReadyH.cons (o := { dst := some 8, op := Op.alloc 48, type := 0, pos := "law.go:65", after := #[], guard := none }) rfl (fun K hK => ?_) AllReadyH.nil
        have Ea := hide (Blk.new x1 (vals .u64 16 (fun _ => 0)) 48)
        have lea := hide hHeld.size
        go_simp
        refine hK.out _ _ (hHeld.alloc hHeld.size _) (fun hHeld => ?_)
        clear hK K
        try simp only [Act.put, List.setIfInBounds_toArray, List.set_cons_zero, List.set_cons_succ]
        refine wpAnyH_ready (rs := [3]) (by kernel_rfl) (by simp) ?_
        refine AllReadyH.cons (o := { dst := some 21, op := Op.call { callee := Callee.value (Operand.func 11), args := #[Operand.tmp 20], argTypes := #[22] }, type := 27, pos := "law.go:65", after := #[{ on := 2, ground := Ground.data }, { on := 1, ground := Ground.chain }], guard := none }) rfl (fun K hK => ?_) AllReadyH.nil
        go_simp
        refine (load_at g _ _ (by rfl) Hg.out).mono ?_
        rw [Hy.out]
        rintro e x5 ⟨rfl, hb⟩
        have Eb5 := hide (Ea.out.call hb)
        dsimp only
        refine hK.out _ _ (keepCall hb rfl hHeld) (fun hHeld => ?_)
        clear hK K hb
        try simp only [Act.put, List.setIfInBounds_toArray, List.set_cons_zero, List.set_cons_succ]
        refine wpAnyH_ready (rs := [5]) (by kernel_rfl) (by simp) ?_
        refine AllReadyH.cons (o := { dst := some 23, op := Op.call { callee := Callee.value (Operand.func 11), args := #[Operand.tmp 22], argTypes := #[22] }, type := 27, pos := "law.go:65", after := #[{ on := 4, ground := Ground.data }, { on := 3, ground := Ground.chain }], guard := none }) rfl (fun K hK => ?_) AllReadyH.nil
        go_simp
        refine (load_at (oneB 1) _ _ (by rfl) (oneB_lt 1 (by omega))).mono ?_
        rw [nb_one 1 31, one_modp]
        rintro e x6 ⟨rfl, hb⟩
        have Eb6 := hide (Eb5.out.call hb)
        dsimp only
        refine hK.out _ _ (keepCall hb rfl hHeld) (fun hHeld => ?_)
        clear hK K hb
        try simp only [Act.put, List.setIfInBounds_toArray, List.set_cons_zero, List.set_cons_succ]
        refine wpAnyH_take (i := 7) (oi := { dst := some 25, op := Op.build 48 #[(0, Operand.tmp 19), (1, Operand.tmp 21), (2, Operand.tmp 23), (3, Operand.tmp 24)], type := 48, pos := "law.go:65", after := #[{ on := 1, ground := Ground.data }, { on := 3, ground := Ground.data }, { on := 5, ground := Ground.data }, { on := 6, ground := Ground.data }], guard := none }) (v := .agg (vals .u64 16 (xl (f4 x y 1)))) rfl (by kernel_rfl) (by kernel_rfl) (by kernel_rfl) (fun _ _ _ h => h) (yields_build (by rfl) 48 _ rfl (by simp only [List.map_toArray, List.map_cons, List.map_nil]; exact built48 x y 1)) hHeld ?_
        try simp only [Act.put, List.setIfInBounds_toArray, List.set_cons_zero, List.set_cons_succ]
        refine wpAnyH_ready (rs := [9]) (by kernel_rfl) (by simp) ?_
        refine AllReadyH.cons (o := { dst := none, op := Op.store 48 (Operand.tmp 8) (Operand.tmp 25), type := 0, pos := "law.go:65", after := #[{ on := 8, ground := Ground.data }, { on := 7, ground := Ground.data }, { on := 5, ground := Ground.chain }, { on := 0, ground := Ground.phase }, { on := 1, ground := Ground.phase }, { on := 2, ground := Ground.phase }, { on := 3, ground := Ground.phase }, { on := 4, ground := Ground.phase }, { on := 5, ground := Ground.phase }, { on := 6, ground := Ground.phase }, { on := 7, ground := Ground.phase }, { on := 8, ground := Ground.phase }], guard := none }) rfl (fun K hK => ?_) AllReadyH.nil
        rw [if_pos (by rfl)]
        refine wp_store_row 48 _ _ rfl (x1.heap.size) (vals .u64 16 (xl (f4 x y 1))) rfl rfl 48 _ Eb6.out (by rw [vals_size]; exact cells48) (by simp only [vals_size]) (vals_one _ _ _) ?_
        refine hK.out _ _ (Below.row hHeld lea.out _) (fun hHeld => ?_)
        clear hK K
        simp only [Act.put]
        refine wpAnyH_done (by kernel_rfl) ?_ _
        go_wp2
        go_meet
        case rel => exact ⟨_, rfl, lea.out, (Eb6.out).row _, hHeld⟩
    · refine AllReadyH.cons (o := { dst := some 8, op := Op.alloc 48, type := 0, pos := "law.go:65", after := #[], guard := none }) rfl (fun K hK => ?_) AllReadyH.nil
      have Ea := hide (Blk.new k1.drew (vals .u64 16 (fun _ => 0)) 48)
      have lea := hide hHeld.size
      go_simp
      refine hK.out _ _ (hHeld.alloc hHeld.size _) (fun hHeld => ?_)
      clear hK K
      try simp only [Act.put, List.setIfInBounds_toArray, List.set_cons_zero, List.set_cons_succ]
      refine wpAnyH_ready (rs := [1]) (by kernel_rfl) (by simp) ?_
      refine AllReadyH.cons (o := { dst := some 19, op := Op.call { callee := Callee.value (Operand.func 11), args := #[Operand.tmp 18], argTypes := #[22] }, type := 27, pos := "law.go:65", after := #[{ on := 0, ground := Ground.data }], guard := none }) rfl (fun K hK => ?_) AllReadyH.nil
      go_simp
      refine (load_at f _ _ (by rfl) Hf.out).mono ?_
      rw [Hx.out]
      rintro e x7 ⟨rfl, hb⟩
      have Eb7 := hide (Ea.out.call hb)
      dsimp only
      refine hK.out _ _ (keepCall hb rfl hHeld) (fun hHeld => ?_)
      clear hK K hb
      try simp only [Act.put, List.setIfInBounds_toArray, List.set_cons_zero, List.set_cons_succ]
      refine wpAnyH_ready (rs := [3]) (by kernel_rfl) (by simp) ?_
      refine AllReadyH.cons (o := { dst := some 21, op := Op.call { callee := Callee.value (Operand.func 11), args := #[Operand.tmp 20], argTypes := #[22] }, type := 27, pos := "law.go:65", after := #[{ on := 2, ground := Ground.data }, { on := 1, ground := Ground.chain }], guard := none }) rfl (fun K hK => ?_) AllReadyH.nil
      go_simp
      refine (load_at g _ _ (by rfl) Hg.out).mono ?_
      rw [Hy.out]
      rintro e x8 ⟨rfl, hb⟩
      have Eb8 := hide (Eb7.out.call hb)
      dsimp only
      refine hK.out _ _ (keepCall hb rfl hHeld) (fun hHeld => ?_)
      clear hK K hb
      try simp only [Act.put, List.setIfInBounds_toArray, List.set_cons_zero, List.set_cons_succ]
      refine wpAnyH_ready (rs := [5]) (by kernel_rfl) (by simp) ?_
      refine AllReadyH.cons (o := { dst := some 23, op := Op.call { callee := Callee.value (Operand.func 11), args := #[Operand.tmp 22], argTypes := #[22] }, type := 27, pos := "law.go:65", after := #[{ on := 4, ground := Ground.data }, { on := 3, ground := Ground.chain }], guard := none }) rfl (fun K hK => ?_) AllReadyH.nil
      go_simp
      refine (load_at (oneB 1) _ _ (by rfl) (oneB_lt 1 (by omega))).mono ?_
      rw [nb_one 1 31, one_modp]
      rintro e x9 ⟨rfl, hb⟩
      have Eb9 := hide (Eb8.out.call hb)
      dsimp only
      refine hK.out _ _ (keepCall hb rfl hHeld) (fun hHeld => ?_)
      clear hK K hb
      try simp only [Act.put, List.setIfInBounds_toArray, List.set_cons_zero, List.set_cons_succ]
      refine wpAnyH_take (i := 7) (oi := { dst := some 25, op := Op.build 48 #[(0, Operand.tmp 19), (1, Operand.tmp 21), (2, Operand.tmp 23), (3, Operand.tmp 24)], type := 48, pos := "law.go:65", after := #[{ on := 1, ground := Ground.data }, { on := 3, ground := Ground.data }, { on := 5, ground := Ground.data }, { on := 6, ground := Ground.data }], guard := none }) (v := .agg (vals .u64 16 (xl (f4 x y 1)))) rfl (by kernel_rfl) (by kernel_rfl) (by kernel_rfl) (fun _ _ _ h => h) (yields_build (by rfl) 48 _ rfl (by simp only [List.map_toArray, List.map_cons, List.map_nil]; exact built48 x y 1)) hHeld ?_
      try simp only [Act.put, List.setIfInBounds_toArray, List.set_cons_zero, List.set_cons_succ]
      refine wpAnyH_ready (rs := [9]) (by kernel_rfl) (by simp) ?_
      refine AllReadyH.cons (o := { dst := none, op := Op.store 48 (Operand.tmp 8) (Operand.tmp 25), type := 0, pos := "law.go:65", after := #[{ on := 8, ground := Ground.data }, { on := 7, ground := Ground.data }, { on := 5, ground := Ground.chain }, { on := 0, ground := Ground.phase }, { on := 1, ground := Ground.phase }, { on := 2, ground := Ground.phase }, { on := 3, ground := Ground.phase }, { on := 4, ground := Ground.phase }, { on := 5, ground := Ground.phase }, { on := 6, ground := Ground.phase }, { on := 7, ground := Ground.phase }, { on := 8, ground := Ground.phase }], guard := none }) rfl (fun K hK => ?_) AllReadyH.nil
      rw [if_pos (by rfl)]
      refine wp_store_row 48 _ _ rfl (k1.drew.heap.size) (vals .u64 16 (xl (f4 x y 1))) rfl rfl 48 _ Eb9.out (by rw [vals_size]; exact cells48) (by simp only [vals_size]) (vals_one _ _ _) ?_
      refine hK.out _ _ (Below.row hHeld lea.out _) (fun hHeld => ?_)
      clear hK K
      simp only [Act.put]
      refine wpAnyH_done (by kernel_rfl) ?_ _
      go_wp2
      go_meet
      case rel => exact ⟨_, rfl, lea.out, (Eb9.out).row _, hHeld⟩
  case rest =>
    obtain ⟨px, rfl, hle, Bn, Ln⟩ := hcut
    have F_2 := hide (F_1.out.call Ln)
    have neXF := hide (Nat.ne_of_gt (Nat.lt_of_lt_of_le F_1.out.lt hle))
    have G_2 := hide (G_1.out.call Ln)
    have neXG := hide (Nat.ne_of_gt (Nat.lt_of_lt_of_le G_1.out.lt hle))
    have L_2 := hide (L_1.out.trans (Ln.mono L_1.out.size))
    have leX := hide (Nat.le_trans L_1.out.size hle)
    have X_2 := hide Bn
    clear F_1 G_1 L_1 Bn Ln hle
    generalize wc = k2 at *
    go_upto_region 3 with (fail)
    go_cut [9] (fun s wx => ∃ b, s = .pointer (some ⟨b, 0, none⟩) ∧ k2.heap.size ≤ b ∧ Blk wx b (vals .u64 64 (xn (f4 x y 1))) 50 ∧ Below k2.heap.size k2 wx)
    case first =>
      refine wp_region_held_drew (S := fun w' => Below k2.heap.size k2 w') (by kernel_rfl) (Below.refl _ _).drew (fun hHeld => ?_)
      refine wpAnyH_take (i := 0) (oi := { dst := some 26, op := Op.load 22 (Operand.tmp 3), type := 22, pos := "law.go:66", after := #[], guard := none }) (v := .agg (vals .u8 32 f)) rfl (by kernel_rfl) (by kernel_rfl) (by kernel_rfl) (fun _ _ _ h => h) (yields_blk F_2.out (by rfl) 22 _ rfl rfl _ Try.underlying22 rfl (by rw [vals_size]; exact cells22)) hHeld ?_
      try simp only [Act.put, List.setIfInBounds_toArray, List.set_cons_zero, List.set_cons_succ]
      refine wpAnyH_take (i := 2) (oi := { dst := some 28, op := Op.load 22 (Operand.tmp 4), type := 22, pos := "law.go:66", after := #[], guard := none }) (v := .agg (vals .u8 32 g)) rfl (by kernel_rfl) (by kernel_rfl) (by kernel_rfl) (fun _ _ _ h => h) (yields_blk G_2.out (by rfl) 22 _ rfl rfl _ Try.underlying22 rfl (by rw [vals_size]; exact cells22)) hHeld ?_
      try simp only [Act.put, List.setIfInBounds_toArray, List.set_cons_zero, List.set_cons_succ]
      refine wpAnyH_take (i := 5) (oi := { dst := some 31, op := Op.build 31 #[], type := 31, pos := "law.go:66", after := #[], guard := none }) (v := .agg (vals .u64 16 (dg 0))) rfl (by kernel_rfl) (by kernel_rfl) (by kernel_rfl) (fun _ _ _ h => h) (yields_build (by rfl) 31 _ rfl (by simp only [List.map_toArray, List.map_nil]; exact built_none)) hHeld ?_
      try simp only [Act.put, List.setIfInBounds_toArray, List.set_cons_zero, List.set_cons_succ]
      refine wpAnyH_ready (rs := [1, 7]) (by kernel_rfl) (by simp) ?_
      refine AllReadyH.cons (o := { dst := some 27, op := Op.call { callee := Callee.value (Operand.func 13), args := #[Operand.tmp 26], argTypes := #[22] }, type := 31, pos := "law.go:66", after := #[{ on := 0, ground := Ground.data }], guard := none }) rfl (fun K hK => ?_) ?_
      · skip
        go_simp
        refine (refLoad_at f _ _ (by rfl) Hf.out).mono ?_
        rw [Hx.out]
        rintro e x1 ⟨rfl, hb⟩
        dsimp only
        refine hK.out _ _ (keepCall hb rfl hHeld) (fun hHeld => ?_)
        clear hK K hb
        try simp only [Act.put, List.setIfInBounds_toArray, List.set_cons_zero, List.set_cons_succ]
        refine wpAnyH_ready (rs := [3, 7]) (by kernel_rfl) (by simp) ?_
        refine AllReadyH.cons (o := { dst := some 29, op := Op.call { callee := Callee.value (Operand.func 13), args := #[Operand.tmp 28], argTypes := #[22] }, type := 31, pos := "law.go:66", after := #[{ on := 2, ground := Ground.data }, { on := 1, ground := Ground.chain }], guard := none }) rfl (fun K hK => ?_) ?_
        · skip
          go_simp
          refine (refLoad_at g _ _ (by rfl) Hg.out).mono ?_
          rw [Hy.out]
          rintro e x2 ⟨rfl, hb⟩
          dsimp only
          refine hK.out _ _ (keepCall hb rfl hHeld) (fun hHeld => ?_)
          clear hK K hb
          try simp only [Act.put, List.setIfInBounds_toArray, List.set_cons_zero, List.set_cons_succ]
          refine wpAnyH_ready (rs := [4, 7]) (by kernel_rfl) (by simp) ?_
          refine AllReadyH.cons (o := { dst := some 30, op := Op.call { callee := Callee.value (Operand.func 30), args := #[Operand.const (Value.int IntKind.u64 1)], argTypes := #[24] }, type := 31, pos := "law.go:66", after := #[{ on := 3, ground := Ground.chain }], guard := none }) rfl (fun K hK => ?_) ?_
          · skip
            go_simp
            refine (refOf_at 1 _ _ (by rfl) (by omega)).mono ?_
            rintro e x3 ⟨rfl, hb⟩
            dsimp only
            refine hK.out _ _ (keepCall hb rfl hHeld) (fun hHeld => ?_)
            clear hK K hb
            try simp only [Act.put, List.setIfInBounds_toArray, List.set_cons_zero, List.set_cons_succ]
            refine wpAnyH_take (i := 6) (oi := { dst := some 32, op := Op.build 50 #[(0, Operand.tmp 27), (1, Operand.tmp 29), (2, Operand.tmp 30), (3, Operand.tmp 31)], type := 50, pos := "law.go:66", after := #[{ on := 1, ground := Ground.data }, { on := 3, ground := Ground.data }, { on := 4, ground := Ground.data }, { on := 5, ground := Ground.data }], guard := none }) (v := .agg (vals .u64 64 (xn (f4 x y 1)))) rfl (by kernel_rfl) (by kernel_rfl) (by kernel_rfl) (fun _ _ _ h => h) (yields_build (by rfl) 50 _ rfl (by simp only [List.map_toArray, List.map_cons, List.map_nil]; exact built50 x y 1)) hHeld ?_
            try simp only [Act.put, List.setIfInBounds_toArray, List.set_cons_zero, List.set_cons_succ]
            refine wpAnyH_ready (rs := [7]) (by kernel_rfl) (by simp) ?_
            refine AllReadyH.cons (o := { dst := some 9, op := Op.alloc 50, type := 0, pos := "law.go:66", after := #[], guard := none }) rfl (fun K hK => ?_) AllReadyH.nil
            have Ea := hide (Blk.new x3 (vals .u64 64 (fun _ => 0)) 50)
            have lea := hide hHeld.size
            go_simp
            refine hK.out _ _ (hHeld.alloc hHeld.size _) (fun hHeld => ?_)
            clear hK K
            try simp only [Act.put, List.setIfInBounds_toArray, List.set_cons_zero, List.set_cons_succ]
            refine wpAnyH_ready (rs := [8]) (by kernel_rfl) (by simp) ?_
            refine AllReadyH.cons (o := { dst := none, op := Op.store 50 (Operand.tmp 9) (Operand.tmp 32), type := 0, pos := "law.go:66", after := #[{ on := 7, ground := Ground.data }, { on := 6, ground := Ground.data }, { on := 4, ground := Ground.chain }, { on := 0, ground := Ground.phase }, { on := 1, ground := Ground.phase }, { on := 2, ground := Ground.phase }, { on := 3, ground := Ground.phase }, { on := 4, ground := Ground.phase }, { on := 5, ground := Ground.phase }, { on := 6, ground := Ground.phase }, { on := 7, ground := Ground.phase }], guard := none }) rfl (fun K hK => ?_) AllReadyH.nil
            rw [if_pos (by rfl)]
            refine wp_store_row 50 _ _ rfl (x3.heap.size) (vals .u64 64 (xn (f4 x y 1))) rfl rfl 50 _ Ea.out (by rw [vals_size]; exact cells50) (by simp only [vals_size]) (vals_one _ _ _) ?_
            refine hK.out _ _ (Below.row hHeld lea.out _) (fun hHeld => ?_)
            clear hK K
            simp only [Act.put]
            refine wpAnyH_done (by kernel_rfl) ?_ _
            go_wp2
            go_meet
            case rel => exact ⟨_, rfl, lea.out, (Ea.out).row _, hHeld⟩
          · refine AllReadyH.cons (o := { dst := some 9, op := Op.alloc 50, type := 0, pos := "law.go:66", after := #[], guard := none }) rfl (fun K hK => ?_) AllReadyH.nil
            have Ea := hide (Blk.new x2 (vals .u64 64 (fun _ => 0)) 50)
            have lea := hide hHeld.size
            go_simp
            refine hK.out _ _ (hHeld.alloc hHeld.size _) (fun hHeld => ?_)
            clear hK K
            try simp only [Act.put, List.setIfInBounds_toArray, List.set_cons_zero, List.set_cons_succ]
            refine wpAnyH_ready (rs := [4]) (by kernel_rfl) (by simp) ?_
            refine AllReadyH.cons (o := { dst := some 30, op := Op.call { callee := Callee.value (Operand.func 30), args := #[Operand.const (Value.int IntKind.u64 1)], argTypes := #[24] }, type := 31, pos := "law.go:66", after := #[{ on := 3, ground := Ground.chain }], guard := none }) rfl (fun K hK => ?_) AllReadyH.nil
            go_simp
            refine (refOf_at 1 _ _ (by rfl) (by omega)).mono ?_
            rintro e x4 ⟨rfl, hb⟩
            have Eb4 := hide (Ea.out.call hb)
            dsimp only
            refine hK.out _ _ (keepCall hb rfl hHeld) (fun hHeld => ?_)
            clear hK K hb
            try simp only [Act.put, List.setIfInBounds_toArray, List.set_cons_zero, List.set_cons_succ]
            refine wpAnyH_take (i := 6) (oi := { dst := some 32, op := Op.build 50 #[(0, Operand.tmp 27), (1, Operand.tmp 29), (2, Operand.tmp 30), (3, Operand.tmp 31)], type := 50, pos := "law.go:66", after := #[{ on := 1, ground := Ground.data }, { on := 3, ground := Ground.data }, { on := 4, ground := Ground.data }, { on := 5, ground := Ground.data }], guard := none }) (v := .agg (vals .u64 64 (xn (f4 x y 1)))) rfl (by kernel_rfl) (by kernel_rfl) (by kernel_rfl) (fun _ _ _ h => h) (yields_build (by rfl) 50 _ rfl (by simp only [List.map_toArray, List.map_cons, List.map_nil]; exact built50 x y 1)) hHeld ?_
            try simp only [Act.put, List.setIfInBounds_toArray, List.set_cons_zero, List.set_cons_succ]
            refine wpAnyH_ready (rs := [8]) (by kernel_rfl) (by simp) ?_
            refine AllReadyH.cons (o := { dst := none, op := Op.store 50 (Operand.tmp 9) (Operand.tmp 32), type := 0, pos := "law.go:66", after := #[{ on := 7, ground := Ground.data }, { on := 6, ground := Ground.data }, { on := 4, ground := Ground.chain }, { on := 0, ground := Ground.phase }, { on := 1, ground := Ground.phase }, { on := 2, ground := Ground.phase }, { on := 3, ground := Ground.phase }, { on := 4, ground := Ground.phase }, { on := 5, ground := Ground.phase }, { on := 6, ground := Ground.phase }, { on := 7, ground := Ground.phase }], guard := none }) rfl (fun K hK => ?_) AllReadyH.nil
            rw [if_pos (by rfl)]
            refine wp_store_row 50 _ _ rfl (x2.heap.size) (vals .u64 64 (xn (f4 x y 1))) rfl rfl 50 _ Eb4.out (by rw [vals_size]; exact cells50) (by simp only [vals_size]) (vals_one _ _ _) ?_
            refine hK.out _ _ (Below.row hHeld lea.out _) (fun hHeld => ?_)
            clear hK K
            simp only [Act.put]
            refine wpAnyH_done (by kernel_rfl) ?_ _
            go_wp2
            go_meet
            case rel => exact ⟨_, rfl, lea.out, (Eb4.out).row _, hHeld⟩
        · refine AllReadyH.cons (o := { dst := some 9, op := Op.alloc 50, type := 0, pos := "law.go:66", after := #[], guard := none }) rfl (fun K hK => ?_) AllReadyH.nil
          have Ea := hide (Blk.new x1 (vals .u64 64 (fun _ => 0)) 50)
          have lea := hide hHeld.size
          go_simp
          refine hK.out _ _ (hHeld.alloc hHeld.size _) (fun hHeld => ?_)
          clear hK K
          try simp only [Act.put, List.setIfInBounds_toArray, List.set_cons_zero, List.set_cons_succ]
          refine wpAnyH_ready (rs := [3]) (by kernel_rfl) (by simp) ?_
          refine AllReadyH.cons (o := { dst := some 29, op := Op.call { callee := Callee.value (Operand.func 13), args := #[Operand.tmp 28], argTypes := #[22] }, type := 31, pos := "law.go:66", after := #[{ on := 2, ground := Ground.data }, { on := 1, ground := Ground.chain }], guard := none }) rfl (fun K hK => ?_) AllReadyH.nil
          go_simp
          refine (refLoad_at g _ _ (by rfl) Hg.out).mono ?_
          rw [Hy.out]
          rintro e x5 ⟨rfl, hb⟩
          have Eb5 := hide (Ea.out.call hb)
          dsimp only
          refine hK.out _ _ (keepCall hb rfl hHeld) (fun hHeld => ?_)
          clear hK K hb
          try simp only [Act.put, List.setIfInBounds_toArray, List.set_cons_zero, List.set_cons_succ]
          refine wpAnyH_ready (rs := [4]) (by kernel_rfl) (by simp) ?_
          refine AllReadyH.cons (o := { dst := some 30, op := Op.call { callee := Callee.value (Operand.func 30), args := #[Operand.const (Value.int IntKind.u64 1)], argTypes := #[24] }, type := 31, pos := "law.go:66", after := #[{ on := 3, ground := Ground.chain }], guard := none }) rfl (fun K hK => ?_) AllReadyH.nil
          go_simp
          refine (refOf_at 1 _ _ (by rfl) (by omega)).mono ?_
          rintro e x6 ⟨rfl, hb⟩
          have Eb6 := hide (Eb5.out.call hb)
          dsimp only
          refine hK.out _ _ (keepCall hb rfl hHeld) (fun hHeld => ?_)
          clear hK K hb
          try simp only [Act.put, List.setIfInBounds_toArray, List.set_cons_zero, List.set_cons_succ]
          refine wpAnyH_take (i := 6) (oi := { dst := some 32, op := Op.build 50 #[(0, Operand.tmp 27), (1, Operand.tmp 29), (2, Operand.tmp 30), (3, Operand.tmp 31)], type := 50, pos := "law.go:66", after := #[{ on := 1, ground := Ground.data }, { on := 3, ground := Ground.data }, { on := 4, ground := Ground.data }, { on := 5, ground := Ground.data }], guard := none }) (v := .agg (vals .u64 64 (xn (f4 x y 1)))) rfl (by kernel_rfl) (by kernel_rfl) (by kernel_rfl) (fun _ _ _ h => h) (yields_build (by rfl) 50 _ rfl (by simp only [List.map_toArray, List.map_cons, List.map_nil]; exact built50 x y 1)) hHeld ?_
          try simp only [Act.put, List.setIfInBounds_toArray, List.set_cons_zero, List.set_cons_succ]
          refine wpAnyH_ready (rs := [8]) (by kernel_rfl) (by simp) ?_
          refine AllReadyH.cons (o := { dst := none, op := Op.store 50 (Operand.tmp 9) (Operand.tmp 32), type := 0, pos := "law.go:66", after := #[{ on := 7, ground := Ground.data }, { on := 6, ground := Ground.data }, { on := 4, ground := Ground.chain }, { on := 0, ground := Ground.phase }, { on := 1, ground := Ground.phase }, { on := 2, ground := Ground.phase }, { on := 3, ground := Ground.phase }, { on := 4, ground := Ground.phase }, { on := 5, ground := Ground.phase }, { on := 6, ground := Ground.phase }, { on := 7, ground := Ground.phase }], guard := none }) rfl (fun K hK => ?_) AllReadyH.nil
          rw [if_pos (by rfl)]
          refine wp_store_row 50 _ _ rfl (x1.heap.size) (vals .u64 64 (xn (f4 x y 1))) rfl rfl 50 _ Eb6.out (by rw [vals_size]; exact cells50) (by simp only [vals_size]) (vals_one _ _ _) ?_
          refine hK.out _ _ (Below.row hHeld lea.out _) (fun hHeld => ?_)
          clear hK K
          simp only [Act.put]
          refine wpAnyH_done (by kernel_rfl) ?_ _
          go_wp2
          go_meet
          case rel => exact ⟨_, rfl, lea.out, (Eb6.out).row _, hHeld⟩
      · refine AllReadyH.cons (o := { dst := some 9, op := Op.alloc 50, type := 0, pos := "law.go:66", after := #[], guard := none }) rfl (fun K hK => ?_) AllReadyH.nil
        have Ea := hide (Blk.new k2.drew (vals .u64 64 (fun _ => 0)) 50)
        have lea := hide hHeld.size
        go_simp
        refine hK.out _ _ (hHeld.alloc hHeld.size _) (fun hHeld => ?_)
        clear hK K
        try simp only [Act.put, List.setIfInBounds_toArray, List.set_cons_zero, List.set_cons_succ]
        refine wpAnyH_ready (rs := [1]) (by kernel_rfl) (by simp) ?_
        refine AllReadyH.cons (o := { dst := some 27, op := Op.call { callee := Callee.value (Operand.func 13), args := #[Operand.tmp 26], argTypes := #[22] }, type := 31, pos := "law.go:66", after := #[{ on := 0, ground := Ground.data }], guard := none }) rfl (fun K hK => ?_) AllReadyH.nil
        go_simp
        refine (refLoad_at f _ _ (by rfl) Hf.out).mono ?_
        rw [Hx.out]
        rintro e x7 ⟨rfl, hb⟩
        have Eb7 := hide (Ea.out.call hb)
        dsimp only
        refine hK.out _ _ (keepCall hb rfl hHeld) (fun hHeld => ?_)
        clear hK K hb
        try simp only [Act.put, List.setIfInBounds_toArray, List.set_cons_zero, List.set_cons_succ]
        refine wpAnyH_ready (rs := [3]) (by kernel_rfl) (by simp) ?_
        refine AllReadyH.cons (o := { dst := some 29, op := Op.call { callee := Callee.value (Operand.func 13), args := #[Operand.tmp 28], argTypes := #[22] }, type := 31, pos := "law.go:66", after := #[{ on := 2, ground := Ground.data }, { on := 1, ground := Ground.chain }], guard := none }) rfl (fun K hK => ?_) AllReadyH.nil
        go_simp
        refine (refLoad_at g _ _ (by rfl) Hg.out).mono ?_
        rw [Hy.out]
        rintro e x8 ⟨rfl, hb⟩
        have Eb8 := hide (Eb7.out.call hb)
        dsimp only
        refine hK.out _ _ (keepCall hb rfl hHeld) (fun hHeld => ?_)
        clear hK K hb
        try simp only [Act.put, List.setIfInBounds_toArray, List.set_cons_zero, List.set_cons_succ]
        refine wpAnyH_ready (rs := [4]) (by kernel_rfl) (by simp) ?_
        refine AllReadyH.cons (o := { dst := some 30, op := Op.call { callee := Callee.value (Operand.func 30), args := #[Operand.const (Value.int IntKind.u64 1)], argTypes := #[24] }, type := 31, pos := "law.go:66", after := #[{ on := 3, ground := Ground.chain }], guard := none }) rfl (fun K hK => ?_) AllReadyH.nil
        go_simp
        refine (refOf_at 1 _ _ (by rfl) (by omega)).mono ?_
        rintro e x9 ⟨rfl, hb⟩
        have Eb9 := hide (Eb8.out.call hb)
        dsimp only
        refine hK.out _ _ (keepCall hb rfl hHeld) (fun hHeld => ?_)
        clear hK K hb
        try simp only [Act.put, List.setIfInBounds_toArray, List.set_cons_zero, List.set_cons_succ]
        refine wpAnyH_take (i := 6) (oi := { dst := some 32, op := Op.build 50 #[(0, Operand.tmp 27), (1, Operand.tmp 29), (2, Operand.tmp 30), (3, Operand.tmp 31)], type := 50, pos := "law.go:66", after := #[{ on := 1, ground := Ground.data }, { on := 3, ground := Ground.data }, { on := 4, ground := Ground.data }, { on := 5, ground := Ground.data }], guard := none }) (v := .agg (vals .u64 64 (xn (f4 x y 1)))) rfl (by kernel_rfl) (by kernel_rfl) (by kernel_rfl) (fun _ _ _ h => h) (yields_build (by rfl) 50 _ rfl (by simp only [List.map_toArray, List.map_cons, List.map_nil]; exact built50 x y 1)) hHeld ?_
        try simp only [Act.put, List.setIfInBounds_toArray, List.set_cons_zero, List.set_cons_succ]
        refine wpAnyH_ready (rs := [8]) (by kernel_rfl) (by simp) ?_
        refine AllReadyH.cons (o := { dst := none, op := Op.store 50 (Operand.tmp 9) (Operand.tmp 32), type := 0, pos := "law.go:66", after := #[{ on := 7, ground := Ground.data }, { on := 6, ground := Ground.data }, { on := 4, ground := Ground.chain }, { on := 0, ground := Ground.phase }, { on := 1, ground := Ground.phase }, { on := 2, ground := Ground.phase }, { on := 3, ground := Ground.phase }, { on := 4, ground := Ground.phase }, { on := 5, ground := Ground.phase }, { on := 6, ground := Ground.phase }, { on := 7, ground := Ground.phase }], guard := none }) rfl (fun K hK => ?_) AllReadyH.nil
        rw [if_pos (by rfl)]
        refine wp_store_row 50 _ _ rfl (k2.drew.heap.size) (vals .u64 64 (xn (f4 x y 1))) rfl rfl 50 _ Eb9.out (by rw [vals_size]; exact cells50) (by simp only [vals_size]) (vals_one _ _ _) ?_
        refine hK.out _ _ (Below.row hHeld lea.out _) (fun hHeld => ?_)
        clear hK K
        simp only [Act.put]
        refine wpAnyH_done (by kernel_rfl) ?_ _
        go_wp2
        go_meet
        case rel => exact ⟨_, rfl, lea.out, (Eb9.out).row _, hHeld⟩
    case rest =>
      obtain ⟨py, rfl, hle, Bn, Ln⟩ := hcut
      have F_3 := hide (F_2.out.call Ln)
      have neYF := hide (Nat.ne_of_gt (Nat.lt_of_lt_of_le F_2.out.lt hle))
      have G_3 := hide (G_2.out.call Ln)
      have neYG := hide (Nat.ne_of_gt (Nat.lt_of_lt_of_le G_2.out.lt hle))
      have X_3 := hide (X_2.out.call Ln)
      have neYX := hide (Nat.ne_of_gt (Nat.lt_of_lt_of_le X_2.out.lt hle))
      have L_3 := hide (L_2.out.trans (Ln.mono L_2.out.size))
      have leY := hide (Nat.le_trans L_2.out.size hle)
      have Y_3 := hide Bn
      clear F_2 G_2 X_2 L_2 Bn Ln hle
      generalize wc = k3 at *
      obtain ⟨X0, hX0⟩ : ∃ X0, X0 = f4 x y 1 := ⟨_, rfl⟩
      rw [← hX0] at X_3 Y_3
      have HX0 : Hid (∀ i, X0 i < pP) := hide (by rw [hX0]; exact f4_lt x y 1 Hxl.out Hyl.out one_lt)
      clear hX0
      go_upto_region 4 with (fail)
      go_wp2
      go_loopw [10] (fun iv wr => ∃ i : Nat, i ≤ 200 ∧ iv = .int .i64 i ∧ (∃ X : Nat → Nat, (∀ j, X j < pP) ∧ Blk wr px (vals .u64 16 (xl X)) 48 ∧ Blk wr py (vals .u64 64 (xn X)) 50) ∧ Below w.heap.size w wr) (fun i _ => 200 - (intOf i).toNat)
      case atStart => exact ⟨0, by omega, rfl, ⟨X0, HX0.out, X_3.out, Y_3.out⟩, L_3.out⟩
      case round =>
        clear X_3 Y_3 L_3 HX0 X0 hz48 hz50 neXF neXG neYF neYG F_3 G_3
        obtain ⟨i, hi, rfl, ⟨X, hX, Bx, By⟩, L⟩ := hrel
        have HX := hide hX
        have X_0 := hide Bx
        have Y_0 := hide By
        have L_0 := hide L
        have neXY : Hid (px ≠ py) := hide (fun e => neYX.out e.symm)
        clear hX Bx By L
        by_cases hl : i < len
        · skip
          by_cases h2 : i < 200
          · skip
            have hli : (i : Int) < (len : Int) := by omega
            have h2i : (i : Int) < 200 := by omega
            have hi0 : (0 : Int) ≤ (i : Int) := by omega
            obtain ⟨ad, rfl, st⟩ := HS.out i hl
            obtain ⟨ea, kd, a, b, c, hea, hblk, ha, hb, hc, c0, c1, c2, c3⟩ := st
            have SC : Hid (StepC w ea kd a b c) := hide ⟨hblk, c0, c1, c2, c3⟩
            clear hblk c0 c1 c2 c3
            obtain ⟨ra, hra⟩ : ∃ ra, ra = a % 4 := ⟨_, rfl⟩
            obtain ⟨rb, hrb⟩ : ∃ rb, rb = b % 4 := ⟨_, rfl⟩
            obtain ⟨rc, hrc⟩ : ∃ rc, rc = c % 4 := ⟨_, rfl⟩
            have Ra := hide (show ra < 4 by omega)
            have Rb := hide (show rb < 4 by omega)
            have Rc := hide (show rc < 4 by omega)
            have ra0 : (0 : Int) ≤ (ra : Int) := by omega
            have ra4 : (ra : Int) < 4 := by omega
            have rb0 : (0 : Int) ≤ (rb : Int) := by omega
            have rb4 : (rb : Int) < 4 := by omega
            have rc0 : (0 : Int) ≤ (rc : Int) := by omega
            have rc4 : (rc : Int) < 4 := by omega
            have ha1 : (a : Int).tmod 4 = (ra : Int) := by rw [Int.tmod_eq_emod_of_nonneg (by omega)]; omega
            have hb1 : (b : Int).tmod 4 = (rb : Int) := by rw [Int.tmod_eq_emod_of_nonneg (by omega)]; omega
            have hc1 : (c : Int).tmod 4 = (rc : Int) := by rw [Int.tmod_eq_emod_of_nonneg (by omega)]; omega
            have ha2 : (a : Int) % 4 = (ra : Int) := by omega
            have hb2 : (b : Int) % 4 = (rb : Int) := by omega
            have hc2 : (c : Int) % 4 = (rc : Int) := by omega
            clear hra hrb hrc
            obtain ⟨p, hp⟩ : ∃ p, X ra = p := ⟨_, rfl⟩
            obtain ⟨q, hq⟩ : ∃ q, X rb = q := ⟨_, rfl⟩
            have Hp := hide hp
            have Hq := hide hq
            have Lp : Hid (p < pP) := hide (by rw [← hp]; exact HX.out ra)
            have Lq : Hid (q < pP) := hide (by rw [← hq]; exact HX.out rb)
            clear hp hq
            obtain ⟨_, c0, c1, c2, c3⟩ := SC.out.low L_0.out
            go_upto_region 8 with (first
                | (refine load_x rfl _ rfl px ra X p rfl X_0.out Ra.out Hp.out ?_))
            clear c0 c1 c2 c3
            have P_11 := hide (Blk.new wr (lits p) 27)
            have X_11 := hide (X_0.out.alloc (.cells (lits p) 27))
            have neXP := hide (Nat.ne_of_lt X_0.out.lt)
            have Y_11 := hide (Y_0.out.alloc (.cells (lits p) 27))
            have neYP := hide (Nat.ne_of_lt Y_0.out.lt)
            have L_11 := hide (L_0.out.alloc L_0.out.size (.cells (lits p) 27))
            clear X_0 Y_0 L_0
            obtain ⟨k11, hk⟩ : ∃ k, k = wr.alloc (.cells (lits p) 27) := ⟨_, rfl⟩
            rw [← hk] at X_11 Y_11 P_11 L_11
            rw [← hk]
            clear hk
            generalize wr.heap.size = pp at *
            obtain ⟨_, c0, c1, c2, c3⟩ := SC.out.low L_11.out
            go_upto_region 9 with (first
                | (refine load_x rfl _ rfl px rb X q rfl X_11.out Rb.out Hq.out ?_))
            clear c0 c1 c2 c3
            have Q_12 := hide (Blk.new k11 (lits q) 27)
            have X_12 := hide (X_11.out.alloc (.cells (lits q) 27))
            have neXQ := hide (Nat.ne_of_lt X_11.out.lt)
            have Y_12 := hide (Y_11.out.alloc (.cells (lits q) 27))
            have neYQ := hide (Nat.ne_of_lt Y_11.out.lt)
            have P_12 := hide (P_11.out.alloc (.cells (lits q) 27))
            have nePQ := hide (Nat.ne_of_lt P_11.out.lt)
            have L_12 := hide (L_11.out.alloc L_11.out.size (.cells (lits q) 27))
            clear X_11 Y_11 P_11 L_11
            obtain ⟨k12, hk⟩ : ∃ k, k = k11.alloc (.cells (lits q) 27) := ⟨_, rfl⟩
            rw [← hk] at X_12 Y_12 P_12 Q_12 L_12
            rw [← hk]
            clear hk
            generalize k11.heap.size = pq at *
            obtain ⟨_, c0, c1, c2, c3⟩ := SC.out.low L_12.out
            go_upto_region 10 with (first
                | (refine load_n rfl _ rfl py ra X p rfl Y_12.out Ra.out Hp.out ?_)
                | (refine wpList_store_abs rfl 31 _ _ rfl k12.heap.size (vals .u64 16 (dg p)) rfl rfl 31 _ (Blk.new k12 _ _) (by rw [vals_size]; exact cells31) (by rw [vals_size]; rfl) (vals_one _ _ _) ?_; intro k13 Bn Sn; have X_13 := hide (Sn.other _ _ _ (Nat.ne_of_gt X_12.out.lt) (X_12.out.alloc _)); have neXU := hide (Nat.ne_of_lt X_12.out.lt); have Y_13 := hide (Sn.other _ _ _ (Nat.ne_of_gt Y_12.out.lt) (Y_12.out.alloc _)); have neYU := hide (Nat.ne_of_lt Y_12.out.lt); have P_13 := hide (Sn.other _ _ _ (Nat.ne_of_gt P_12.out.lt) (P_12.out.alloc _)); have nePU := hide (Nat.ne_of_lt P_12.out.lt); have Q_13 := hide (Sn.other _ _ _ (Nat.ne_of_gt Q_12.out.lt) (Q_12.out.alloc _)); have neQU := hide (Nat.ne_of_lt Q_12.out.lt); have L_13 := hide (Sn.low _ _ (L_12.out.alloc L_12.out.size _) L_12.out.size); have U_13 := hide Bn; clear Bn Sn X_12 Y_12 P_12 Q_12 L_12))
            clear c0 c1 c2 c3
            generalize k12.heap.size = pu at *
            obtain ⟨_, c0, c1, c2, c3⟩ := SC.out.low L_13.out
            go_upto_region 11 with (first
                | (refine load_n rfl _ rfl py rb X q rfl Y_13.out Rb.out Hq.out ?_)
                | (refine wpList_store_abs rfl 31 _ _ rfl k13.heap.size (vals .u64 16 (dg q)) rfl rfl 31 _ (Blk.new k13 _ _) (by rw [vals_size]; exact cells31) (by rw [vals_size]; rfl) (vals_one _ _ _) ?_; intro k14 Bn Sn; have X_14 := hide (Sn.other _ _ _ (Nat.ne_of_gt X_13.out.lt) (X_13.out.alloc _)); have neXV := hide (Nat.ne_of_lt X_13.out.lt); have Y_14 := hide (Sn.other _ _ _ (Nat.ne_of_gt Y_13.out.lt) (Y_13.out.alloc _)); have neYV := hide (Nat.ne_of_lt Y_13.out.lt); have P_14 := hide (Sn.other _ _ _ (Nat.ne_of_gt P_13.out.lt) (P_13.out.alloc _)); have nePV := hide (Nat.ne_of_lt P_13.out.lt); have Q_14 := hide (Sn.other _ _ _ (Nat.ne_of_gt Q_13.out.lt) (Q_13.out.alloc _)); have neQV := hide (Nat.ne_of_lt Q_13.out.lt); have U_14 := hide (Sn.other _ _ _ (Nat.ne_of_gt U_13.out.lt) (U_13.out.alloc _)); have neUV := hide (Nat.ne_of_lt U_13.out.lt); have L_14 := hide (Sn.low _ _ (L_13.out.alloc L_13.out.size _) L_13.out.size); have V_14 := hide Bn; clear Bn Sn X_13 Y_13 P_13 Q_13 U_13 L_13))
            clear c0 c1 c2 c3
            generalize k13.heap.size = pv at *
            obtain ⟨_, c0, c1, c2, c3⟩ := SC.out.low L_14.out
            go_upto_region 13 with (fail)
            clear c0 c1 c2 c3
            clear ha1 hb1 hc1 ha2 hb2 hc2 ra0 ra4 rb0 rb4 hi0 hea
            by_cases hk1 : kd = 1
            · skip
              subst hk1
              obtain ⟨v, hv⟩ : ∃ v, (p + q) % pP = v := ⟨_, rfl⟩
              have Hv := hide hv
              have Lv : Hid (v < pP) := hide (by rw [← hv]; exact Nat.mod_lt _ pP_pos)
              clear hv
              go_wp2_with (first
                  | (refine wpList_load_row rfl 27 _ rfl (pp) rfl 27 _ (0, 0) _ P_14.out Try.underlying27 rfl cells27 ?_)
                  | (refine wpList_load_row rfl 27 _ rfl (pq) rfl 27 _ (0, 0) _ Q_14.out Try.underlying27 rfl cells27 ?_)
                  | (go_at_call 18; refine (add_at' p q _ _ rfl Lp.out Lq.out).mono ?_; rw [Hv.out, fe_def v]; rintro e k15 ⟨rfl, hb⟩; have X_15 := hide (X_14.out.call hb); have Y_15 := hide (Y_14.out.call hb); have P_15 := hide (P_14.out.call hb); have Q_15 := hide (Q_14.out.call hb); have U_15 := hide (U_14.out.call hb); have V_15 := hide (V_14.out.call hb); have L_15 := hide (L_14.out.trans (hb.mono L_14.out.size)); clear hb X_14 Y_14 P_14 Q_14 U_14 V_14 L_14; dsimp only)
                  | (refine store_x rfl _ _ rfl px rc X v rfl rfl X_15.out Rc.out ?_; intro k16 Bn Sn; have Y_16 := hide (Sn.other _ _ _ neXY.out Y_15.out); have P_16 := hide (Sn.other _ _ _ neXP.out P_15.out); have Q_16 := hide (Sn.other _ _ _ neXQ.out Q_15.out); have U_16 := hide (Sn.other _ _ _ neXU.out U_15.out); have V_16 := hide (Sn.other _ _ _ neXV.out V_15.out); have L_16 := hide (Sn.low _ _ L_15.out leX.out); have X_16 := hide Bn; clear Bn Sn X_15 Y_15 P_15 Q_15 U_15 V_15 L_15)
                  | (refine wpList_load_row rfl 31 _ rfl (pu) rfl 31 _ (0, 0) _ U_16.out Try.underlying31 rfl (by rw [vals_size]; exact cells31) ?_)
                  | (refine wpList_load_row rfl 31 _ rfl (pv) rfl 31 _ (0, 0) _ V_16.out Try.underlying31 rfl (by rw [vals_size]; exact cells31) ?_)
                  | (go_at_call 19; refine (refAdd_at p q _ _ rfl (ltp Lp.out) (ltp Lq.out)).mono ?_; rw [Hv.out]; unfold rn; rintro e k17 ⟨rfl, hb⟩; have X_17 := hide (X_16.out.call hb); have Y_17 := hide (Y_16.out.call hb); have P_17 := hide (P_16.out.call hb); have Q_17 := hide (Q_16.out.call hb); have U_17 := hide (U_16.out.call hb); have V_17 := hide (V_16.out.call hb); have L_17 := hide (L_16.out.trans (hb.mono L_16.out.size)); clear hb X_16 Y_16 P_16 Q_16 U_16 V_16 L_16; dsimp only)
                  | (refine store_n rfl _ _ rfl py rc X v rfl rfl Y_17.out Rc.out ?_; intro k18 Bn Sn; have X_18 := hide (Sn.other _ _ _ neYX.out X_17.out); have P_18 := hide (Sn.other _ _ _ neYP.out P_17.out); have Q_18 := hide (Sn.other _ _ _ neYQ.out Q_17.out); have U_18 := hide (Sn.other _ _ _ neYU.out U_17.out); have V_18 := hide (Sn.other _ _ _ neYV.out V_17.out); have L_18 := hide (Sn.low _ _ L_17.out leY.out); have Y_18 := hide Bn; clear Bn Sn Y_17 X_17 P_17 Q_17 U_17 V_17 L_17))
              go_roundw
              case rel => exact ⟨i + 1, by omega, by go_num, ⟨put4 X rc v, fun j => put4_lt X rc v HX.out Lv.out j, X_18.out, Y_18.out⟩, L_18.out⟩
              case measure => simp [intOf]; omega
            · skip
              have hd1 : (kd == 1) = false := by simp [hk1]
              by_cases hk2 : kd = 2
              · skip
                subst hk2
                obtain ⟨v, hv⟩ : ∃ v, (p + pP - q) % pP = v := ⟨_, rfl⟩
                have Hv := hide hv
                have Hv2 : Hid ((p + (pP - q)) % pP = v) := hide (by rw [← hv, ← Nat.add_sub_assoc (Nat.le_of_lt Lq.out)])
                have Lv : Hid (v < pP) := hide (by rw [← hv]; exact Nat.mod_lt _ pP_pos)
                clear hv
                go_wp2_with (first
                    | (refine wpList_load_row rfl 27 _ rfl (pp) rfl 27 _ (0, 0) _ P_14.out Try.underlying27 rfl cells27 ?_)
                    | (refine wpList_load_row rfl 27 _ rfl (pq) rfl 27 _ (0, 0) _ Q_14.out Try.underlying27 rfl cells27 ?_)
                    | (go_at_call 20; refine (sub_at' p q _ _ rfl Lp.out Lq.out).mono ?_; rw [Hv.out, fe_def v]; rintro e k15 ⟨rfl, hb⟩; have X_15 := hide (X_14.out.call hb); have Y_15 := hide (Y_14.out.call hb); have P_15 := hide (P_14.out.call hb); have Q_15 := hide (Q_14.out.call hb); have U_15 := hide (U_14.out.call hb); have V_15 := hide (V_14.out.call hb); have L_15 := hide (L_14.out.trans (hb.mono L_14.out.size)); clear hb X_14 Y_14 P_14 Q_14 U_14 V_14 L_14; dsimp only)
                    | (refine store_x rfl _ _ rfl px rc X v rfl rfl X_15.out Rc.out ?_; intro k16 Bn Sn; have Y_16 := hide (Sn.other _ _ _ neXY.out Y_15.out); have P_16 := hide (Sn.other _ _ _ neXP.out P_15.out); have Q_16 := hide (Sn.other _ _ _ neXQ.out Q_15.out); have U_16 := hide (Sn.other _ _ _ neXU.out U_15.out); have V_16 := hide (Sn.other _ _ _ neXV.out V_15.out); have L_16 := hide (Sn.low _ _ L_15.out leX.out); have X_16 := hide Bn; clear Bn Sn X_15 Y_15 P_15 Q_15 U_15 V_15 L_15)
                    | (refine wpList_load_row rfl 31 _ rfl (pu) rfl 31 _ (0, 0) _ U_16.out Try.underlying31 rfl (by rw [vals_size]; exact cells31) ?_)
                    | (refine wpList_load_row rfl 31 _ rfl (pv) rfl 31 _ (0, 0) _ V_16.out Try.underlying31 rfl (by rw [vals_size]; exact cells31) ?_)
                    | (go_at_call 21; refine (refSub_at p q _ _ rfl (ltp Lp.out) (Nat.le_of_lt Lq.out)).mono ?_; rw [Hv2.out]; unfold rn; rintro e k17 ⟨rfl, hb⟩; have X_17 := hide (X_16.out.call hb); have Y_17 := hide (Y_16.out.call hb); have P_17 := hide (P_16.out.call hb); have Q_17 := hide (Q_16.out.call hb); have U_17 := hide (U_16.out.call hb); have V_17 := hide (V_16.out.call hb); have L_17 := hide (L_16.out.trans (hb.mono L_16.out.size)); clear hb X_16 Y_16 P_16 Q_16 U_16 V_16 L_16; dsimp only)
                    | (refine store_n rfl _ _ rfl py rc X v rfl rfl Y_17.out Rc.out ?_; intro k18 Bn Sn; have X_18 := hide (Sn.other _ _ _ neYX.out X_17.out); have P_18 := hide (Sn.other _ _ _ neYP.out P_17.out); have Q_18 := hide (Sn.other _ _ _ neYQ.out Q_17.out); have U_18 := hide (Sn.other _ _ _ neYU.out U_17.out); have V_18 := hide (Sn.other _ _ _ neYV.out V_17.out); have L_18 := hide (Sn.low _ _ L_17.out leY.out); have Y_18 := hide Bn; clear Bn Sn Y_17 X_17 P_17 Q_17 U_17 V_17 L_17))
                go_roundw
                case rel => exact ⟨i + 1, by omega, by go_num, ⟨put4 X rc v, fun j => put4_lt X rc v HX.out Lv.out j, X_18.out, Y_18.out⟩, L_18.out⟩
                case measure => simp [intOf]; omega
              · skip
                have hd2 : (kd == 2) = false := by simp [hk2]
                by_cases hk3 : kd = 3
                · skip
                  subst hk3
                  obtain ⟨v, hv⟩ : ∃ v, mm p q = v := ⟨_, rfl⟩
                  have Hv := hide hv
                  have Lv : Hid (v < pP) := hide (by rw [← hv]; exact Nat.mod_lt _ pP_pos)
                  clear hv
                  go_wp2_with (first
                      | (refine wpList_load_row rfl 27 _ rfl (pp) rfl 27 _ (0, 0) _ P_14.out Try.underlying27 rfl cells27 ?_)
                      | (refine wpList_load_row rfl 27 _ rfl (pq) rfl 27 _ (0, 0) _ Q_14.out Try.underlying27 rfl cells27 ?_)
                      | (go_at_call 22; refine (mul_mm p q _ _ rfl Lp.out Lq.out).mono ?_; rw [Hv.out, fe_def v]; rintro e k15 ⟨rfl, hb⟩; have X_15 := hide (X_14.out.call hb); have Y_15 := hide (Y_14.out.call hb); have P_15 := hide (P_14.out.call hb); have Q_15 := hide (Q_14.out.call hb); have U_15 := hide (U_14.out.call hb); have V_15 := hide (V_14.out.call hb); have L_15 := hide (L_14.out.trans (hb.mono L_14.out.size)); clear hb X_14 Y_14 P_14 Q_14 U_14 V_14 L_14; dsimp only)
                      | (refine store_x rfl _ _ rfl px rc X v rfl rfl X_15.out Rc.out ?_; intro k16 Bn Sn; have Y_16 := hide (Sn.other _ _ _ neXY.out Y_15.out); have P_16 := hide (Sn.other _ _ _ neXP.out P_15.out); have Q_16 := hide (Sn.other _ _ _ neXQ.out Q_15.out); have U_16 := hide (Sn.other _ _ _ neXU.out U_15.out); have V_16 := hide (Sn.other _ _ _ neXV.out V_15.out); have L_16 := hide (Sn.low _ _ L_15.out leX.out); have X_16 := hide Bn; clear Bn Sn X_15 Y_15 P_15 Q_15 U_15 V_15 L_15)
                      | (refine wpList_load_row rfl 31 _ rfl (pu) rfl 31 _ (0, 0) _ U_16.out Try.underlying31 rfl (by rw [vals_size]; exact cells31) ?_)
                      | (refine wpList_load_row rfl 31 _ rfl (pv) rfl 31 _ (0, 0) _ V_16.out Try.underlying31 rfl (by rw [vals_size]; exact cells31) ?_)
                      | (go_at_call 23; refine (refMul_at p q _ _ rfl (ltp Lp.out) (ltp Lq.out)).mono ?_; rw [Hv.out]; unfold rn; rintro e k17 ⟨rfl, hb⟩; have X_17 := hide (X_16.out.call hb); have Y_17 := hide (Y_16.out.call hb); have P_17 := hide (P_16.out.call hb); have Q_17 := hide (Q_16.out.call hb); have U_17 := hide (U_16.out.call hb); have V_17 := hide (V_16.out.call hb); have L_17 := hide (L_16.out.trans (hb.mono L_16.out.size)); clear hb X_16 Y_16 P_16 Q_16 U_16 V_16 L_16; dsimp only)
                      | (refine store_n rfl _ _ rfl py rc X v rfl rfl Y_17.out Rc.out ?_; intro k18 Bn Sn; have X_18 := hide (Sn.other _ _ _ neYX.out X_17.out); have P_18 := hide (Sn.other _ _ _ neYP.out P_17.out); have Q_18 := hide (Sn.other _ _ _ neYQ.out Q_17.out); have U_18 := hide (Sn.other _ _ _ neYU.out U_17.out); have V_18 := hide (Sn.other _ _ _ neYV.out V_17.out); have L_18 := hide (Sn.low _ _ L_17.out leY.out); have Y_18 := hide Bn; clear Bn Sn Y_17 X_17 P_17 Q_17 U_17 V_17 L_17))
                  go_roundw
                  case rel => exact ⟨i + 1, by omega, by go_num, ⟨put4 X rc v, fun j => put4_lt X rc v HX.out Lv.out j, X_18.out, Y_18.out⟩, L_18.out⟩
                  case measure => simp [intOf]; omega
                · skip
                  have hd3 : (kd == 3) = false := by simp [hk3]
                  by_cases hk4 : kd = 4
                  · skip
                    subst hk4
                    obtain ⟨v, hv⟩ : ∃ v, mm p p = v := ⟨_, rfl⟩
                    have Hv := hide hv
                    have Lv : Hid (v < pP) := hide (by rw [← hv]; exact Nat.mod_lt _ pP_pos)
                    clear hv
                    go_wp2_with (first
                        | (refine wpList_load_row rfl 27 _ rfl (pp) rfl 27 _ (0, 0) _ P_14.out Try.underlying27 rfl cells27 ?_)
                        | (go_at_call 24; refine (square_mm p _ _ rfl Lp.out).mono ?_; rw [Hv.out, fe_def v]; rintro e k15 ⟨rfl, hb⟩; have X_15 := hide (X_14.out.call hb); have Y_15 := hide (Y_14.out.call hb); have P_15 := hide (P_14.out.call hb); have Q_15 := hide (Q_14.out.call hb); have U_15 := hide (U_14.out.call hb); have V_15 := hide (V_14.out.call hb); have L_15 := hide (L_14.out.trans (hb.mono L_14.out.size)); clear hb X_14 Y_14 P_14 Q_14 U_14 V_14 L_14; dsimp only)
                        | (refine store_x rfl _ _ rfl px rc X v rfl rfl X_15.out Rc.out ?_; intro k16 Bn Sn; have Y_16 := hide (Sn.other _ _ _ neXY.out Y_15.out); have P_16 := hide (Sn.other _ _ _ neXP.out P_15.out); have Q_16 := hide (Sn.other _ _ _ neXQ.out Q_15.out); have U_16 := hide (Sn.other _ _ _ neXU.out U_15.out); have V_16 := hide (Sn.other _ _ _ neXV.out V_15.out); have L_16 := hide (Sn.low _ _ L_15.out leX.out); have X_16 := hide Bn; clear Bn Sn X_15 Y_15 P_15 Q_15 U_15 V_15 L_15)
                        | (refine wpList_load_row rfl 31 _ rfl (pu) rfl 31 _ (0, 0) _ U_16.out Try.underlying31 rfl (by rw [vals_size]; exact cells31) ?_)
                        | (go_at_call 23; refine (refMul_at p p _ _ rfl (ltp Lp.out) (ltp Lp.out)).mono ?_; rw [Hv.out]; unfold rn; rintro e k17 ⟨rfl, hb⟩; have X_17 := hide (X_16.out.call hb); have Y_17 := hide (Y_16.out.call hb); have P_17 := hide (P_16.out.call hb); have Q_17 := hide (Q_16.out.call hb); have U_17 := hide (U_16.out.call hb); have V_17 := hide (V_16.out.call hb); have L_17 := hide (L_16.out.trans (hb.mono L_16.out.size)); clear hb X_16 Y_16 P_16 Q_16 U_16 V_16 L_16; dsimp only)
                        | (refine store_n rfl _ _ rfl py rc X v rfl rfl Y_17.out Rc.out ?_; intro k18 Bn Sn; have X_18 := hide (Sn.other _ _ _ neYX.out X_17.out); have P_18 := hide (Sn.other _ _ _ neYP.out P_17.out); have Q_18 := hide (Sn.other _ _ _ neYQ.out Q_17.out); have U_18 := hide (Sn.other _ _ _ neYU.out U_17.out); have V_18 := hide (Sn.other _ _ _ neYV.out V_17.out); have L_18 := hide (Sn.low _ _ L_17.out leY.out); have Y_18 := hide Bn; clear Bn Sn Y_17 X_17 P_17 Q_17 U_17 V_17 L_17))
                    go_roundw
                    case rel => exact ⟨i + 1, by omega, by go_num, ⟨put4 X rc v, fun j => put4_lt X rc v HX.out Lv.out j, X_18.out, Y_18.out⟩, L_18.out⟩
                    case measure => simp [intOf]; omega
                  · skip
                    have hd4 : (kd == 4) = false := by simp [hk4]
                    by_cases hk5 : kd = 5
                    · skip
                      subst hk5
                      obtain ⟨v, hv⟩ : ∃ v, ng p = v := ⟨_, rfl⟩
                      have Hv := hide hv
                      have Hv2 : Hid ((0 + (pP - p)) % pP = v) := hide (by rw [← hv, Nat.zero_add]; rfl)
                      have Lv : Hid (v < pP) := hide (by rw [← hv]; exact Nat.mod_lt _ pP_pos)
                      clear hv
                      go_wp2_with (first
                          | (refine wpList_load_row rfl 27 _ rfl (pp) rfl 27 _ (0, 0) _ P_14.out Try.underlying27 rfl cells27 ?_)
                          | (go_at_call 25; refine (neg_at p _ _ rfl Lp.out).mono ?_; rw [Hv.out, fe_def v]; rintro e k15 ⟨rfl, hb⟩; have X_15 := hide (X_14.out.call hb); have Y_15 := hide (Y_14.out.call hb); have P_15 := hide (P_14.out.call hb); have Q_15 := hide (Q_14.out.call hb); have U_15 := hide (U_14.out.call hb); have V_15 := hide (V_14.out.call hb); have L_15 := hide (L_14.out.trans (hb.mono L_14.out.size)); clear hb X_14 Y_14 P_14 Q_14 U_14 V_14 L_14; dsimp only)
                          | (refine store_x rfl _ _ rfl px rc X v rfl rfl X_15.out Rc.out ?_; intro k16 Bn Sn; have Y_16 := hide (Sn.other _ _ _ neXY.out Y_15.out); have P_16 := hide (Sn.other _ _ _ neXP.out P_15.out); have Q_16 := hide (Sn.other _ _ _ neXQ.out Q_15.out); have U_16 := hide (Sn.other _ _ _ neXU.out U_15.out); have V_16 := hide (Sn.other _ _ _ neXV.out V_15.out); have L_16 := hide (Sn.low _ _ L_15.out leX.out); have X_16 := hide Bn; clear Bn Sn X_15 Y_15 P_15 Q_15 U_15 V_15 L_15)
                          | (refine wpList_build rfl 31 #[] rfl (by simp [built31]) ?_; simp only [List.map_toArray, List.map_nil, built31, Option.getD_some])
                          | (refine wpList_load_row rfl 31 _ rfl (pu) rfl 31 _ (0, 0) _ U_16.out Try.underlying31 rfl (by rw [vals_size]; exact cells31) ?_)
                          | (go_at_call 21; refine (refSub_at 0 p _ _ (by rw [zero16]; rfl) (by omega) (Nat.le_of_lt Lp.out)).mono ?_; rw [Hv2.out]; unfold rn; rintro e k17 ⟨rfl, hb⟩; have X_17 := hide (X_16.out.call hb); have Y_17 := hide (Y_16.out.call hb); have P_17 := hide (P_16.out.call hb); have Q_17 := hide (Q_16.out.call hb); have U_17 := hide (U_16.out.call hb); have V_17 := hide (V_16.out.call hb); have L_17 := hide (L_16.out.trans (hb.mono L_16.out.size)); clear hb X_16 Y_16 P_16 Q_16 U_16 V_16 L_16; dsimp only)
                          | (refine store_n rfl _ _ rfl py rc X v rfl rfl Y_17.out Rc.out ?_; intro k18 Bn Sn; have X_18 := hide (Sn.other _ _ _ neYX.out X_17.out); have P_18 := hide (Sn.other _ _ _ neYP.out P_17.out); have Q_18 := hide (Sn.other _ _ _ neYQ.out Q_17.out); have U_18 := hide (Sn.other _ _ _ neYU.out U_17.out); have V_18 := hide (Sn.other _ _ _ neYV.out V_17.out); have L_18 := hide (Sn.low _ _ L_17.out leY.out); have Y_18 := hide Bn; clear Bn Sn Y_17 X_17 P_17 Q_17 U_17 V_17 L_17))
                      go_roundw
                      case rel => exact ⟨i + 1, by omega, by go_num, ⟨put4 X rc v, fun j => put4_lt X rc v HX.out Lv.out j, X_18.out, Y_18.out⟩, L_18.out⟩
                      case measure => simp [intOf]; omega
                    · skip
                      have hd5 : (kd == 5) = false := by simp [hk5]
                      by_cases hk6 : kd = 6
                      · skip
                        subst hk6
                        go_wp2_with (first
                            | (refine wpList_load_row rfl 27 _ rfl (pp) rfl 27 _ (0, 0) _ P_14.out Try.underlying27 rfl cells27 ?_)
                            | (refine wpList_load_row rfl 27 _ rfl (pq) rfl 27 _ (0, 0) _ Q_14.out Try.underlying27 rfl cells27 ?_)
                            | (go_at_call 17; refine (pick_b p q true p _ _ rfl rfl).mono ?_; rw [fe_def p]; rintro e k15 ⟨rfl, hb⟩; have X_15 := hide (X_14.out.call hb); have Y_15 := hide (Y_14.out.call hb); have P_15 := hide (P_14.out.call hb); have Q_15 := hide (Q_14.out.call hb); have U_15 := hide (U_14.out.call hb); have V_15 := hide (V_14.out.call hb); have L_15 := hide (L_14.out.trans (hb.mono L_14.out.size)); clear hb X_14 Y_14 P_14 Q_14 U_14 V_14 L_14; dsimp only)
                            | (refine store_x rfl _ _ rfl px rc X p rfl rfl X_15.out Rc.out ?_; intro k16 Bn Sn; have Y_16 := hide (Sn.other _ _ _ neXY.out Y_15.out); have P_16 := hide (Sn.other _ _ _ neXP.out P_15.out); have Q_16 := hide (Sn.other _ _ _ neXQ.out Q_15.out); have U_16 := hide (Sn.other _ _ _ neXU.out U_15.out); have V_16 := hide (Sn.other _ _ _ neXV.out V_15.out); have L_16 := hide (Sn.low _ _ L_15.out leX.out); have X_16 := hide Bn; clear Bn Sn X_15 Y_15 P_15 Q_15 U_15 V_15 L_15)
                            | (refine wpList_load_row rfl 31 _ rfl (pu) rfl 31 _ (0, 0) _ U_16.out Try.underlying31 rfl (by rw [vals_size]; exact cells31) ?_)
                            | (refine store_n rfl _ _ rfl py rc X p rfl rfl Y_16.out Rc.out ?_; intro k17 Bn Sn; have X_17 := hide (Sn.other _ _ _ neYX.out X_16.out); have P_17 := hide (Sn.other _ _ _ neYP.out P_16.out); have Q_17 := hide (Sn.other _ _ _ neYQ.out Q_16.out); have U_17 := hide (Sn.other _ _ _ neYU.out U_16.out); have V_17 := hide (Sn.other _ _ _ neYV.out V_16.out); have L_17 := hide (Sn.low _ _ L_16.out leY.out); have Y_17 := hide Bn; clear Bn Sn Y_16 X_16 P_16 Q_16 U_16 V_16 L_16))
                        go_roundw
                        case rel => exact ⟨i + 1, by omega, by go_num, ⟨put4 X rc p, fun j => put4_lt X rc p HX.out Lp.out j, X_17.out, Y_17.out⟩, L_17.out⟩
                        case measure => simp [intOf]; omega
                      · skip
                        have hd6 : (kd == 6) = false := by simp [hk6]
                        by_cases hk7 : kd = 7
                        · skip
                          subst hk7
                          go_wp2_with (first
                              | (refine wpList_load_row rfl 27 _ rfl (pp) rfl 27 _ (0, 0) _ P_14.out Try.underlying27 rfl cells27 ?_)
                              | (go_at_call 14; refine (bytes_at p _ _ rfl).mono ?_; unfold ba; rintro e k15 ⟨rfl, hb⟩; have X_15 := hide (X_14.out.call hb); have Y_15 := hide (Y_14.out.call hb); have P_15 := hide (P_14.out.call hb); have Q_15 := hide (Q_14.out.call hb); have U_15 := hide (U_14.out.call hb); have V_15 := hide (V_14.out.call hb); have L_15 := hide (L_14.out.trans (hb.mono L_14.out.size)); clear hb X_14 Y_14 P_14 Q_14 U_14 V_14 L_14; dsimp only)
                              | (go_at_call 11; refine (load_at (byt p) _ _ rfl (byt_lt p)).mono ?_; rw [nb_back' p Lp.out, fe_def p]; rintro e k16 ⟨rfl, hb⟩; have X_16 := hide (X_15.out.call hb); have Y_16 := hide (Y_15.out.call hb); have P_16 := hide (P_15.out.call hb); have Q_16 := hide (Q_15.out.call hb); have U_16 := hide (U_15.out.call hb); have V_16 := hide (V_15.out.call hb); have L_16 := hide (L_15.out.trans (hb.mono L_15.out.size)); clear hb X_15 Y_15 P_15 Q_15 U_15 V_15 L_15; dsimp only)
                              | (refine store_x rfl _ _ rfl px rc X p rfl rfl X_16.out Rc.out ?_; intro k17 Bn Sn; have Y_17 := hide (Sn.other _ _ _ neXY.out Y_16.out); have P_17 := hide (Sn.other _ _ _ neXP.out P_16.out); have Q_17 := hide (Sn.other _ _ _ neXQ.out Q_16.out); have U_17 := hide (Sn.other _ _ _ neXU.out U_16.out); have V_17 := hide (Sn.other _ _ _ neXV.out V_16.out); have L_17 := hide (Sn.low _ _ L_16.out leX.out); have X_17 := hide Bn; clear Bn Sn X_16 Y_16 P_16 Q_16 U_16 V_16 L_16)
                              | (refine wpList_load_row rfl 31 _ rfl (pu) rfl 31 _ (0, 0) _ U_17.out Try.underlying31 rfl (by rw [vals_size]; exact cells31) ?_)
                              | (refine store_n rfl _ _ rfl py rc X p rfl rfl Y_17.out Rc.out ?_; intro k18 Bn Sn; have X_18 := hide (Sn.other _ _ _ neYX.out X_17.out); have P_18 := hide (Sn.other _ _ _ neYP.out P_17.out); have Q_18 := hide (Sn.other _ _ _ neYQ.out Q_17.out); have U_18 := hide (Sn.other _ _ _ neYU.out U_17.out); have V_18 := hide (Sn.other _ _ _ neYV.out V_17.out); have L_18 := hide (Sn.low _ _ L_17.out leY.out); have Y_18 := hide Bn; clear Bn Sn Y_17 X_17 P_17 Q_17 U_17 V_17 L_17))
                          go_roundw
                          case rel => exact ⟨i + 1, by omega, by go_num, ⟨put4 X rc p, fun j => put4_lt X rc p HX.out Lp.out j, X_18.out, Y_18.out⟩, L_18.out⟩
                          case measure => simp [intOf]; omega
                        · skip
                          have hd7 : (kd == 7) = false := by simp [hk7]
                          go_wp2
                          go_roundw
                          case rel => exact ⟨i + 1, by omega, by go_num, ⟨X, HX.out, X_14.out, Y_14.out⟩, L_14.out⟩
                          case measure => simp [intOf]; omega
          · skip
            have hli : (i : Int) < (len : Int) := by omega
            have h2i : ¬ (i : Int) < 200 := by omega
            go_wp2
            go_loopw [16] (fun iv wr => ∃ j : Nat, j ≤ 4 ∧ iv = .int .i64 j ∧ Blk wr px (vals .u64 16 (xl X)) 48 ∧ Blk wr py (vals .u64 64 (xn X)) 50 ∧ Below w.heap.size w wr) (fun i _ => 4 - (intOf i).toNat)
            case atStart => exact ⟨0, by omega, rfl, X_0.out, Y_0.out, L_0.out⟩
            case round =>
              clear X_0 Y_0 L_0
              obtain ⟨j, hj, rfl, Bx, By, L⟩ := hrel
              have X_0 := hide Bx
              have Y_0 := hide By
              have L_0 := hide L
              clear Bx By L
              by_cases hj4 : j < 4
              · skip
                obtain ⟨v, hv⟩ : ∃ v, X j = v := ⟨_, rfl⟩
                have Hv := hide hv
                clear hv
                have hj0 : (0 : Int) ≤ (j : Int) := by omega
                have hji : (j : Int) < 4 := by omega
                have Hj := hide hj4
                obtain ⟨od, hod⟩ : ∃ od, decide (v % 2 = 1) = od := ⟨_, rfl⟩
                have Hod := hide hod
                have hdo := odd_digit v od hod
                have hdo2 := odd_digit2 v od hod
                have htm : ((dg v 0 : Nat) : Int).tmod 2 = ((dg v 0 : Nat) : Int) % 2 := Int.tmod_eq_emod_of_nonneg (by omega)
                have hoo := bool_ne od
                have he := eq_byt v
                clear hod
                go_upto_region 37 with (fail)
                obtain ⟨u, hu⟩ : ∃ u, u = wr := ⟨_, rfl⟩
                rw [← hu]
                rw [← hu] at X_0 Y_0 L_0
                clear hu
                refine wp_region_held_drew (S := fun w' => Below u.heap.size u w') (by kernel_rfl) (Below.refl _ _).drew (fun hHeld => ?_)
                refine wpAnyH_take (i := 0) (oi := { dst := some 168, op := Op.move (Operand.tmp 16), type := 3, pos := "law.go:98", after := #[], guard := none }) (v := .int .i64 (j : Int)) rfl (by kernel_rfl) (by kernel_rfl) (by kernel_rfl) (fun _ _ _ h => h) (Or.inl ⟨by rfl, fun w hSw => by go_simp⟩) hHeld ?_
                try simp only [Act.put, List.setIfInBounds_toArray, List.set_cons_zero, List.set_cons_succ]
                refine wpAnyH_take (i := 1) (oi := { dst := some 169, op := Op.indexAddr 48 (Operand.tmp 8) (Operand.tmp 168), type := 0, pos := "law.go:98", after := #[{ on := 0, ground := Ground.data }], guard := none }) (v := .pointer (some ⟨px, j * 4, none⟩)) rfl (by kernel_rfl) (by kernel_rfl) (by kernel_rfl) (fun _ _ _ h => h) (Or.inl ⟨by rfl, fun w hSw => by go_simp⟩) hHeld ?_
                try simp only [Act.put, List.setIfInBounds_toArray, List.set_cons_zero, List.set_cons_succ]
                refine wpAnyH_take (i := 2) (oi := { dst := some 170, op := Op.load 27 (Operand.tmp 169), type := 27, pos := "law.go:98", after := #[{ on := 1, ground := Ground.data }], guard := none }) (v := .agg (lits v)) rfl (by kernel_rfl) (by kernel_rfl) (by kernel_rfl) (fun _ _ _ h => h) (yields_x X_0.out Hj.out Hv.out (by rfl) _ rfl rfl) hHeld ?_
                try simp only [Act.put, List.setIfInBounds_toArray, List.set_cons_zero, List.set_cons_succ]
                refine wpAnyH_take (i := 4) (oi := { dst := some 172, op := Op.move (Operand.tmp 16), type := 3, pos := "law.go:98", after := #[], guard := none }) (v := .int .i64 (j : Int)) rfl (by kernel_rfl) (by kernel_rfl) (by kernel_rfl) (fun _ _ _ h => h) (Or.inl ⟨by rfl, fun w hSw => by go_simp⟩) hHeld ?_
                try simp only [Act.put, List.setIfInBounds_toArray, List.set_cons_zero, List.set_cons_succ]
                refine wpAnyH_take (i := 5) (oi := { dst := some 173, op := Op.indexAddr 50 (Operand.tmp 9) (Operand.tmp 172), type := 0, pos := "law.go:98", after := #[{ on := 4, ground := Ground.data }], guard := none }) (v := .pointer (some ⟨py, j * 16, none⟩)) rfl (by kernel_rfl) (by kernel_rfl) (by kernel_rfl) (fun _ _ _ h => h) (Or.inl ⟨by rfl, fun w hSw => by go_simp⟩) hHeld ?_
                try simp only [Act.put, List.setIfInBounds_toArray, List.set_cons_zero, List.set_cons_succ]
                refine wpAnyH_take (i := 6) (oi := { dst := some 174, op := Op.load 31 (Operand.tmp 173), type := 31, pos := "law.go:98", after := #[{ on := 5, ground := Ground.data }], guard := none }) (v := .agg (vals .u64 16 (dg v))) rfl (by kernel_rfl) (by kernel_rfl) (by kernel_rfl) (fun _ _ _ h => h) (yields_n Y_0.out Hj.out Hv.out (by rfl) _ rfl rfl) hHeld ?_
                try simp only [Act.put, List.setIfInBounds_toArray, List.set_cons_zero, List.set_cons_succ]
                refine wpAnyH_ready (rs := [3]) (by kernel_rfl) (by simp) ?_
                refine AllReadyH.cons (o := { dst := some 171, op := Op.call { callee := Callee.value (Operand.func 14), args := #[Operand.tmp 170], argTypes := #[27] }, type := 22, pos := "law.go:98", after := #[{ on := 2, ground := Ground.data }], guard := none }) rfl (fun K hK => ?_) AllReadyH.nil
                go_simp
                refine (bytes_at v _ _ (by rfl)).mono ?_
                unfold ba
                rintro e y1 ⟨rfl, hb⟩
                have HT1 := hide (keepCall hb rfl hHeld)
                dsimp only
                refine hK.out _ _ HT1.out (fun hHeld => ?_)
                clear hK K hb
                try simp only [Act.put, List.setIfInBounds_toArray, List.set_cons_zero, List.set_cons_succ]
                refine wpAnyH_ready (rs := [7]) (by kernel_rfl) (by simp) ?_
                refine AllReadyH.cons (o := { dst := some 175, op := Op.call { callee := Callee.value (Operand.func 12), args := #[Operand.tmp 174], argTypes := #[31] }, type := 22, pos := "law.go:98", after := #[{ on := 6, ground := Ground.data }, { on := 3, ground := Ground.chain }], guard := none }) rfl (fun K hK => ?_) AllReadyH.nil
                go_simp
                refine (refBytes_at v _ _ (by rfl)).mono ?_
                unfold ba
                rintro e y2 ⟨rfl, hb⟩
                have HT2 := hide (keepCall hb rfl hHeld)
                dsimp only
                refine hK.out _ _ HT2.out (fun hHeld => ?_)
                clear hK K hb
                try simp only [Act.put, List.setIfInBounds_toArray, List.set_cons_zero, List.set_cons_succ]
                refine wpAnyH_take (i := 8) (oi := { dst := some 176, op := Op.binOp BinOp.neq 22 (Operand.tmp 171) (Operand.tmp 175) 22, type := 4, pos := "law.go:98", after := #[{ on := 3, ground := Ground.data }, { on := 7, ground := Ground.data }], guard := none }) (v := .bool false) rfl (by kernel_rfl) (by kernel_rfl) (by kernel_rfl) (fun _ _ _ h => h) (Or.inl ⟨by rfl, fun w hSw => by go_simp⟩) hHeld ?_
                try simp only [Act.put, List.setIfInBounds_toArray, List.set_cons_zero, List.set_cons_succ]
                refine wpAnyH_take (i := 9) (oi := { dst := some 177, op := Op.move (Operand.tmp 176), type := 4, pos := "law.go:98", after := #[{ on := 8, ground := Ground.data }, { on := 7, ground := Ground.chain }], guard := none }) (v := .bool false) rfl (by kernel_rfl) (by kernel_rfl) (by kernel_rfl) (fun _ _ _ h => h) (Or.inl ⟨by rfl, fun w hSw => by go_simp⟩) hHeld ?_
                try simp only [Act.put, List.setIfInBounds_toArray, List.set_cons_zero, List.set_cons_succ]
                refine wpAnyH_take (i := 10) (oi := { dst := some 178, op := Op.move (Operand.tmp 16), type := 3, pos := "law.go:98", after := #[{ on := 9, ground := Ground.guard }], guard := some (9, false) }) (v := .int .i64 (j : Int)) rfl (by kernel_rfl) (by kernel_rfl) (by kernel_rfl) (fun _ _ _ h => h) (Or.inl ⟨by rfl, fun w hSw => by go_simp⟩) hHeld ?_
                try simp only [Act.put, List.setIfInBounds_toArray, List.set_cons_zero, List.set_cons_succ]
                refine wpAnyH_take (i := 11) (oi := { dst := some 179, op := Op.indexAddr 48 (Operand.tmp 8) (Operand.tmp 178), type := 0, pos := "law.go:98", after := #[{ on := 10, ground := Ground.data }, { on := 9, ground := Ground.guard }], guard := some (9, false) }) (v := .pointer (some ⟨px, j * 4, none⟩)) rfl (by kernel_rfl) (by kernel_rfl) (by kernel_rfl) (fun _ _ _ h => h) (Or.inl ⟨by rfl, fun w hSw => by go_simp⟩) hHeld ?_
                try simp only [Act.put, List.setIfInBounds_toArray, List.set_cons_zero, List.set_cons_succ]
                refine wpAnyH_take (i := 12) (oi := { dst := some 180, op := Op.load 27 (Operand.tmp 179), type := 27, pos := "law.go:98", after := #[{ on := 11, ground := Ground.data }, { on := 9, ground := Ground.guard }], guard := some (9, false) }) (v := .agg (lits v)) rfl (by kernel_rfl) (by kernel_rfl) (by kernel_rfl) (fun _ _ _ h => h) (yields_x X_0.out Hj.out Hv.out (by rfl) _ rfl rfl) hHeld ?_
                try simp only [Act.put, List.setIfInBounds_toArray, List.set_cons_zero, List.set_cons_succ]
                refine wpAnyH_take (i := 14) (oi := { dst := some 182, op := Op.move (Operand.tmp 16), type := 3, pos := "law.go:98", after := #[{ on := 9, ground := Ground.guard }], guard := some (9, false) }) (v := .int .i64 (j : Int)) rfl (by kernel_rfl) (by kernel_rfl) (by kernel_rfl) (fun _ _ _ h => h) (Or.inl ⟨by rfl, fun w hSw => by go_simp⟩) hHeld ?_
                try simp only [Act.put, List.setIfInBounds_toArray, List.set_cons_zero, List.set_cons_succ]
                refine wpAnyH_take (i := 15) (oi := { dst := some 183, op := Op.indexAddr 50 (Operand.tmp 9) (Operand.tmp 182), type := 0, pos := "law.go:98", after := #[{ on := 14, ground := Ground.data }, { on := 9, ground := Ground.guard }], guard := some (9, false) }) (v := .pointer (some ⟨py, j * 16, none⟩)) rfl (by kernel_rfl) (by kernel_rfl) (by kernel_rfl) (fun _ _ _ h => h) (Or.inl ⟨by rfl, fun w hSw => by go_simp⟩) hHeld ?_
                try simp only [Act.put, List.setIfInBounds_toArray, List.set_cons_zero, List.set_cons_succ]
                refine wpAnyH_take (i := 16) (oi := { dst := some 184, op := Op.indexAddr 31 (Operand.tmp 183) (Operand.const (Value.int IntKind.i64 0)), type := 0, pos := "law.go:98", after := #[{ on := 15, ground := Ground.data }, { on := 9, ground := Ground.guard }], guard := some (9, false) }) (v := .pointer (some ⟨py, j * 16, none⟩)) rfl (by kernel_rfl) (by kernel_rfl) (by kernel_rfl) (fun _ _ _ h => h) (Or.inl ⟨by rfl, fun w hSw => by go_simp⟩) hHeld ?_
                try simp only [Act.put, List.setIfInBounds_toArray, List.set_cons_zero, List.set_cons_succ]
                refine wpAnyH_take (i := 17) (oi := { dst := some 185, op := Op.load 24 (Operand.tmp 184), type := 24, pos := "law.go:98", after := #[{ on := 16, ground := Ground.data }, { on := 9, ground := Ground.guard }], guard := some (9, false) }) (v := .int .u64 (dg v 0 : Nat)) rfl (by kernel_rfl) (by kernel_rfl) (by kernel_rfl) (fun _ _ _ h => h) (Or.inl ⟨by rfl, fun w hSw => by have cc := cell_n Y_0.out hSw Hj.out Hv.out; go_simp⟩) hHeld ?_
                try simp only [Act.put, List.setIfInBounds_toArray, List.set_cons_zero, List.set_cons_succ]
                refine wpAnyH_take (i := 18) (oi := { dst := some 186, op := Op.binOp BinOp.rem 24 (Operand.tmp 185) (Operand.const (Value.int IntKind.u64 2)) 24, type := 24, pos := "law.go:98", after := #[{ on := 17, ground := Ground.data }, { on := 9, ground := Ground.guard }], guard := some (9, false) }) (v := .int .u64 ((dg v 0 : Nat) % 2)) rfl (by kernel_rfl) (by kernel_rfl) (by kernel_rfl) (fun _ _ _ h => h) (Or.inl ⟨by rfl, fun w hSw => by go_simp⟩) hHeld ?_
                try simp only [Act.put, List.setIfInBounds_toArray, List.set_cons_zero, List.set_cons_succ]
                refine wpAnyH_take (i := 19) (oi := { dst := some 187, op := Op.binOp BinOp.eql 24 (Operand.tmp 186) (Operand.const (Value.int IntKind.u64 1)) 24, type := 4, pos := "law.go:98", after := #[{ on := 18, ground := Ground.data }, { on := 9, ground := Ground.guard }], guard := some (9, false) }) (v := .bool od) rfl (by kernel_rfl) (by kernel_rfl) (by kernel_rfl) (fun _ _ _ h => h) (Or.inl ⟨by rfl, fun w hSw => by go_simp⟩) hHeld ?_
                try simp only [Act.put, List.setIfInBounds_toArray, List.set_cons_zero, List.set_cons_succ]
                refine wpAnyH_ready (rs := [13]) (by kernel_rfl) (by simp) ?_
                refine AllReadyH.cons (o := { dst := some 181, op := Op.call { callee := Callee.value (Operand.func 15), args := #[Operand.tmp 180], argTypes := #[27] }, type := 4, pos := "law.go:98", after := #[{ on := 12, ground := Ground.data }, { on := 9, ground := Ground.chain }, { on := 9, ground := Ground.guard }], guard := some (9, false) }) rfl (fun K hK => ?_) AllReadyH.nil
                go_simp
                refine (odd_b v od _ _ (by rfl) Hod.out).mono ?_
                rintro e y3 ⟨rfl, hb⟩
                have HT3 := hide (keepCall hb rfl hHeld)
                dsimp only
                refine hK.out _ _ HT3.out (fun hHeld => ?_)
                clear hK K hb
                try simp only [Act.put, List.setIfInBounds_toArray, List.set_cons_zero, List.set_cons_succ]
                refine wpAnyH_take (i := 20) (oi := { dst := some 188, op := Op.binOp BinOp.neq 4 (Operand.tmp 181) (Operand.tmp 187) 4, type := 4, pos := "law.go:98", after := #[{ on := 13, ground := Ground.data }, { on := 19, ground := Ground.data }, { on := 9, ground := Ground.guard }], guard := some (9, false) }) (v := .bool false) rfl (by kernel_rfl) (by kernel_rfl) (by kernel_rfl) (fun _ _ _ h => h) (Or.inl ⟨by rfl, fun w hSw => by go_simp⟩) hHeld ?_
                try simp only [Act.put, List.setIfInBounds_toArray, List.set_cons_zero, List.set_cons_succ]
                refine wpAnyH_take (i := 21) (oi := { dst := some 189, op := Op.pick (Operand.tmp 177) (Operand.const (Value.bool true)) (Operand.tmp 188), type := 4, pos := "law.go:98", after := #[{ on := 9, ground := Ground.data }, { on := 20, ground := Ground.data }], guard := none }) (v := .bool false) rfl (by kernel_rfl) (by kernel_rfl) (by kernel_rfl) (fun _ _ _ h => h) (Or.inl ⟨by rfl, fun w hSw => by go_simp⟩) hHeld ?_
                try simp only [Act.put, List.setIfInBounds_toArray, List.set_cons_zero, List.set_cons_succ]
                refine wpAnyH_done (by kernel_rfl) ?_ _
                clear hdo hdo2 hoo he htm
                have X_9 := hide (X_0.out.call HT3.out)
                have Y_9 := hide (Y_0.out.call HT3.out)
                have L_9 := hide (L_0.out.trans (HT3.out.mono L_0.out.size))
                clear X_0 Y_0 L_0 HT1 HT2 HT3 hHeld
                go_wp2
                go_roundw
                case rel => exact ⟨j + 1, by omega, by go_num, X_9.out, Y_9.out, L_9.out⟩
                case measure => simp [intOf]; omega
              · skip
                have e4 : j = 4 := by omega
                subst e4
                go_wp2
                go_ret
                exact ⟨rfl, L_0.out⟩
        · skip
          have hli : ¬ (i : Int) < (len : Int) := by omega
          go_wp2
          go_loopw [16] (fun iv wr => ∃ j : Nat, j ≤ 4 ∧ iv = .int .i64 j ∧ Blk wr px (vals .u64 16 (xl X)) 48 ∧ Blk wr py (vals .u64 64 (xn X)) 50 ∧ Below w.heap.size w wr) (fun i _ => 4 - (intOf i).toNat)
          case atStart => exact ⟨0, by omega, rfl, X_0.out, Y_0.out, L_0.out⟩
          case round =>
            clear X_0 Y_0 L_0
            obtain ⟨j, hj, rfl, Bx, By, L⟩ := hrel
            have X_0 := hide Bx
            have Y_0 := hide By
            have L_0 := hide L
            clear Bx By L
            by_cases hj4 : j < 4
            · skip
              obtain ⟨v, hv⟩ : ∃ v, X j = v := ⟨_, rfl⟩
              have Hv := hide hv
              clear hv
              have hj0 : (0 : Int) ≤ (j : Int) := by omega
              have hji : (j : Int) < 4 := by omega
              have Hj := hide hj4
              obtain ⟨od, hod⟩ : ∃ od, decide (v % 2 = 1) = od := ⟨_, rfl⟩
              have Hod := hide hod
              have hdo := odd_digit v od hod
              have hdo2 := odd_digit2 v od hod
              have htm : ((dg v 0 : Nat) : Int).tmod 2 = ((dg v 0 : Nat) : Int) % 2 := Int.tmod_eq_emod_of_nonneg (by omega)
              have hoo := bool_ne od
              have he := eq_byt v
              clear hod
              go_upto_region 37 with (fail)
              obtain ⟨u, hu⟩ : ∃ u, u = wr := ⟨_, rfl⟩
              rw [← hu]
              rw [← hu] at X_0 Y_0 L_0
              clear hu
              refine wp_region_held_drew (S := fun w' => Below u.heap.size u w') (by kernel_rfl) (Below.refl _ _).drew (fun hHeld => ?_)
              refine wpAnyH_take (i := 0) (oi := { dst := some 168, op := Op.move (Operand.tmp 16), type := 3, pos := "law.go:98", after := #[], guard := none }) (v := .int .i64 (j : Int)) rfl (by kernel_rfl) (by kernel_rfl) (by kernel_rfl) (fun _ _ _ h => h) (Or.inl ⟨by rfl, fun w hSw => by go_simp⟩) hHeld ?_
              try simp only [Act.put, List.setIfInBounds_toArray, List.set_cons_zero, List.set_cons_succ]
              refine wpAnyH_take (i := 1) (oi := { dst := some 169, op := Op.indexAddr 48 (Operand.tmp 8) (Operand.tmp 168), type := 0, pos := "law.go:98", after := #[{ on := 0, ground := Ground.data }], guard := none }) (v := .pointer (some ⟨px, j * 4, none⟩)) rfl (by kernel_rfl) (by kernel_rfl) (by kernel_rfl) (fun _ _ _ h => h) (Or.inl ⟨by rfl, fun w hSw => by go_simp⟩) hHeld ?_
              try simp only [Act.put, List.setIfInBounds_toArray, List.set_cons_zero, List.set_cons_succ]
              refine wpAnyH_take (i := 2) (oi := { dst := some 170, op := Op.load 27 (Operand.tmp 169), type := 27, pos := "law.go:98", after := #[{ on := 1, ground := Ground.data }], guard := none }) (v := .agg (lits v)) rfl (by kernel_rfl) (by kernel_rfl) (by kernel_rfl) (fun _ _ _ h => h) (yields_x X_0.out Hj.out Hv.out (by rfl) _ rfl rfl) hHeld ?_
              try simp only [Act.put, List.setIfInBounds_toArray, List.set_cons_zero, List.set_cons_succ]
              refine wpAnyH_take (i := 4) (oi := { dst := some 172, op := Op.move (Operand.tmp 16), type := 3, pos := "law.go:98", after := #[], guard := none }) (v := .int .i64 (j : Int)) rfl (by kernel_rfl) (by kernel_rfl) (by kernel_rfl) (fun _ _ _ h => h) (Or.inl ⟨by rfl, fun w hSw => by go_simp⟩) hHeld ?_
              try simp only [Act.put, List.setIfInBounds_toArray, List.set_cons_zero, List.set_cons_succ]
              refine wpAnyH_take (i := 5) (oi := { dst := some 173, op := Op.indexAddr 50 (Operand.tmp 9) (Operand.tmp 172), type := 0, pos := "law.go:98", after := #[{ on := 4, ground := Ground.data }], guard := none }) (v := .pointer (some ⟨py, j * 16, none⟩)) rfl (by kernel_rfl) (by kernel_rfl) (by kernel_rfl) (fun _ _ _ h => h) (Or.inl ⟨by rfl, fun w hSw => by go_simp⟩) hHeld ?_
              try simp only [Act.put, List.setIfInBounds_toArray, List.set_cons_zero, List.set_cons_succ]
              refine wpAnyH_take (i := 6) (oi := { dst := some 174, op := Op.load 31 (Operand.tmp 173), type := 31, pos := "law.go:98", after := #[{ on := 5, ground := Ground.data }], guard := none }) (v := .agg (vals .u64 16 (dg v))) rfl (by kernel_rfl) (by kernel_rfl) (by kernel_rfl) (fun _ _ _ h => h) (yields_n Y_0.out Hj.out Hv.out (by rfl) _ rfl rfl) hHeld ?_
              try simp only [Act.put, List.setIfInBounds_toArray, List.set_cons_zero, List.set_cons_succ]
              refine wpAnyH_ready (rs := [3]) (by kernel_rfl) (by simp) ?_
              refine AllReadyH.cons (o := { dst := some 171, op := Op.call { callee := Callee.value (Operand.func 14), args := #[Operand.tmp 170], argTypes := #[27] }, type := 22, pos := "law.go:98", after := #[{ on := 2, ground := Ground.data }], guard := none }) rfl (fun K hK => ?_) AllReadyH.nil
              go_simp
              refine (bytes_at v _ _ (by rfl)).mono ?_
              unfold ba
              rintro e y1 ⟨rfl, hb⟩
              have HT1 := hide (keepCall hb rfl hHeld)
              dsimp only
              refine hK.out _ _ HT1.out (fun hHeld => ?_)
              clear hK K hb
              try simp only [Act.put, List.setIfInBounds_toArray, List.set_cons_zero, List.set_cons_succ]
              refine wpAnyH_ready (rs := [7]) (by kernel_rfl) (by simp) ?_
              refine AllReadyH.cons (o := { dst := some 175, op := Op.call { callee := Callee.value (Operand.func 12), args := #[Operand.tmp 174], argTypes := #[31] }, type := 22, pos := "law.go:98", after := #[{ on := 6, ground := Ground.data }, { on := 3, ground := Ground.chain }], guard := none }) rfl (fun K hK => ?_) AllReadyH.nil
              go_simp
              refine (refBytes_at v _ _ (by rfl)).mono ?_
              unfold ba
              rintro e y2 ⟨rfl, hb⟩
              have HT2 := hide (keepCall hb rfl hHeld)
              dsimp only
              refine hK.out _ _ HT2.out (fun hHeld => ?_)
              clear hK K hb
              try simp only [Act.put, List.setIfInBounds_toArray, List.set_cons_zero, List.set_cons_succ]
              refine wpAnyH_take (i := 8) (oi := { dst := some 176, op := Op.binOp BinOp.neq 22 (Operand.tmp 171) (Operand.tmp 175) 22, type := 4, pos := "law.go:98", after := #[{ on := 3, ground := Ground.data }, { on := 7, ground := Ground.data }], guard := none }) (v := .bool false) rfl (by kernel_rfl) (by kernel_rfl) (by kernel_rfl) (fun _ _ _ h => h) (Or.inl ⟨by rfl, fun w hSw => by go_simp⟩) hHeld ?_
              try simp only [Act.put, List.setIfInBounds_toArray, List.set_cons_zero, List.set_cons_succ]
              refine wpAnyH_take (i := 9) (oi := { dst := some 177, op := Op.move (Operand.tmp 176), type := 4, pos := "law.go:98", after := #[{ on := 8, ground := Ground.data }, { on := 7, ground := Ground.chain }], guard := none }) (v := .bool false) rfl (by kernel_rfl) (by kernel_rfl) (by kernel_rfl) (fun _ _ _ h => h) (Or.inl ⟨by rfl, fun w hSw => by go_simp⟩) hHeld ?_
              try simp only [Act.put, List.setIfInBounds_toArray, List.set_cons_zero, List.set_cons_succ]
              refine wpAnyH_take (i := 10) (oi := { dst := some 178, op := Op.move (Operand.tmp 16), type := 3, pos := "law.go:98", after := #[{ on := 9, ground := Ground.guard }], guard := some (9, false) }) (v := .int .i64 (j : Int)) rfl (by kernel_rfl) (by kernel_rfl) (by kernel_rfl) (fun _ _ _ h => h) (Or.inl ⟨by rfl, fun w hSw => by go_simp⟩) hHeld ?_
              try simp only [Act.put, List.setIfInBounds_toArray, List.set_cons_zero, List.set_cons_succ]
              refine wpAnyH_take (i := 11) (oi := { dst := some 179, op := Op.indexAddr 48 (Operand.tmp 8) (Operand.tmp 178), type := 0, pos := "law.go:98", after := #[{ on := 10, ground := Ground.data }, { on := 9, ground := Ground.guard }], guard := some (9, false) }) (v := .pointer (some ⟨px, j * 4, none⟩)) rfl (by kernel_rfl) (by kernel_rfl) (by kernel_rfl) (fun _ _ _ h => h) (Or.inl ⟨by rfl, fun w hSw => by go_simp⟩) hHeld ?_
              try simp only [Act.put, List.setIfInBounds_toArray, List.set_cons_zero, List.set_cons_succ]
              refine wpAnyH_take (i := 12) (oi := { dst := some 180, op := Op.load 27 (Operand.tmp 179), type := 27, pos := "law.go:98", after := #[{ on := 11, ground := Ground.data }, { on := 9, ground := Ground.guard }], guard := some (9, false) }) (v := .agg (lits v)) rfl (by kernel_rfl) (by kernel_rfl) (by kernel_rfl) (fun _ _ _ h => h) (yields_x X_0.out Hj.out Hv.out (by rfl) _ rfl rfl) hHeld ?_
              try simp only [Act.put, List.setIfInBounds_toArray, List.set_cons_zero, List.set_cons_succ]
              refine wpAnyH_take (i := 14) (oi := { dst := some 182, op := Op.move (Operand.tmp 16), type := 3, pos := "law.go:98", after := #[{ on := 9, ground := Ground.guard }], guard := some (9, false) }) (v := .int .i64 (j : Int)) rfl (by kernel_rfl) (by kernel_rfl) (by kernel_rfl) (fun _ _ _ h => h) (Or.inl ⟨by rfl, fun w hSw => by go_simp⟩) hHeld ?_
              try simp only [Act.put, List.setIfInBounds_toArray, List.set_cons_zero, List.set_cons_succ]
              refine wpAnyH_take (i := 15) (oi := { dst := some 183, op := Op.indexAddr 50 (Operand.tmp 9) (Operand.tmp 182), type := 0, pos := "law.go:98", after := #[{ on := 14, ground := Ground.data }, { on := 9, ground := Ground.guard }], guard := some (9, false) }) (v := .pointer (some ⟨py, j * 16, none⟩)) rfl (by kernel_rfl) (by kernel_rfl) (by kernel_rfl) (fun _ _ _ h => h) (Or.inl ⟨by rfl, fun w hSw => by go_simp⟩) hHeld ?_
              try simp only [Act.put, List.setIfInBounds_toArray, List.set_cons_zero, List.set_cons_succ]
              refine wpAnyH_take (i := 16) (oi := { dst := some 184, op := Op.indexAddr 31 (Operand.tmp 183) (Operand.const (Value.int IntKind.i64 0)), type := 0, pos := "law.go:98", after := #[{ on := 15, ground := Ground.data }, { on := 9, ground := Ground.guard }], guard := some (9, false) }) (v := .pointer (some ⟨py, j * 16, none⟩)) rfl (by kernel_rfl) (by kernel_rfl) (by kernel_rfl) (fun _ _ _ h => h) (Or.inl ⟨by rfl, fun w hSw => by go_simp⟩) hHeld ?_
              try simp only [Act.put, List.setIfInBounds_toArray, List.set_cons_zero, List.set_cons_succ]
              refine wpAnyH_take (i := 17) (oi := { dst := some 185, op := Op.load 24 (Operand.tmp 184), type := 24, pos := "law.go:98", after := #[{ on := 16, ground := Ground.data }, { on := 9, ground := Ground.guard }], guard := some (9, false) }) (v := .int .u64 (dg v 0 : Nat)) rfl (by kernel_rfl) (by kernel_rfl) (by kernel_rfl) (fun _ _ _ h => h) (Or.inl ⟨by rfl, fun w hSw => by have cc := cell_n Y_0.out hSw Hj.out Hv.out; go_simp⟩) hHeld ?_
              try simp only [Act.put, List.setIfInBounds_toArray, List.set_cons_zero, List.set_cons_succ]
              refine wpAnyH_take (i := 18) (oi := { dst := some 186, op := Op.binOp BinOp.rem 24 (Operand.tmp 185) (Operand.const (Value.int IntKind.u64 2)) 24, type := 24, pos := "law.go:98", after := #[{ on := 17, ground := Ground.data }, { on := 9, ground := Ground.guard }], guard := some (9, false) }) (v := .int .u64 ((dg v 0 : Nat) % 2)) rfl (by kernel_rfl) (by kernel_rfl) (by kernel_rfl) (fun _ _ _ h => h) (Or.inl ⟨by rfl, fun w hSw => by go_simp⟩) hHeld ?_
              try simp only [Act.put, List.setIfInBounds_toArray, List.set_cons_zero, List.set_cons_succ]
              refine wpAnyH_take (i := 19) (oi := { dst := some 187, op := Op.binOp BinOp.eql 24 (Operand.tmp 186) (Operand.const (Value.int IntKind.u64 1)) 24, type := 4, pos := "law.go:98", after := #[{ on := 18, ground := Ground.data }, { on := 9, ground := Ground.guard }], guard := some (9, false) }) (v := .bool od) rfl (by kernel_rfl) (by kernel_rfl) (by kernel_rfl) (fun _ _ _ h => h) (Or.inl ⟨by rfl, fun w hSw => by go_simp⟩) hHeld ?_
              try simp only [Act.put, List.setIfInBounds_toArray, List.set_cons_zero, List.set_cons_succ]
              refine wpAnyH_ready (rs := [13]) (by kernel_rfl) (by simp) ?_
              refine AllReadyH.cons (o := { dst := some 181, op := Op.call { callee := Callee.value (Operand.func 15), args := #[Operand.tmp 180], argTypes := #[27] }, type := 4, pos := "law.go:98", after := #[{ on := 12, ground := Ground.data }, { on := 9, ground := Ground.chain }, { on := 9, ground := Ground.guard }], guard := some (9, false) }) rfl (fun K hK => ?_) AllReadyH.nil
              go_simp
              refine (odd_b v od _ _ (by rfl) Hod.out).mono ?_
              rintro e y3 ⟨rfl, hb⟩
              have HT3 := hide (keepCall hb rfl hHeld)
              dsimp only
              refine hK.out _ _ HT3.out (fun hHeld => ?_)
              clear hK K hb
              try simp only [Act.put, List.setIfInBounds_toArray, List.set_cons_zero, List.set_cons_succ]
              refine wpAnyH_take (i := 20) (oi := { dst := some 188, op := Op.binOp BinOp.neq 4 (Operand.tmp 181) (Operand.tmp 187) 4, type := 4, pos := "law.go:98", after := #[{ on := 13, ground := Ground.data }, { on := 19, ground := Ground.data }, { on := 9, ground := Ground.guard }], guard := some (9, false) }) (v := .bool false) rfl (by kernel_rfl) (by kernel_rfl) (by kernel_rfl) (fun _ _ _ h => h) (Or.inl ⟨by rfl, fun w hSw => by go_simp⟩) hHeld ?_
              try simp only [Act.put, List.setIfInBounds_toArray, List.set_cons_zero, List.set_cons_succ]
              refine wpAnyH_take (i := 21) (oi := { dst := some 189, op := Op.pick (Operand.tmp 177) (Operand.const (Value.bool true)) (Operand.tmp 188), type := 4, pos := "law.go:98", after := #[{ on := 9, ground := Ground.data }, { on := 20, ground := Ground.data }], guard := none }) (v := .bool false) rfl (by kernel_rfl) (by kernel_rfl) (by kernel_rfl) (fun _ _ _ h => h) (Or.inl ⟨by rfl, fun w hSw => by go_simp⟩) hHeld ?_
              try simp only [Act.put, List.setIfInBounds_toArray, List.set_cons_zero, List.set_cons_succ]
              refine wpAnyH_done (by kernel_rfl) ?_ _
              clear hdo hdo2 hoo he htm
              have X_9 := hide (X_0.out.call HT3.out)
              have Y_9 := hide (Y_0.out.call HT3.out)
              have L_9 := hide (L_0.out.trans (HT3.out.mono L_0.out.size))
              clear X_0 Y_0 L_0 HT1 HT2 HT3 hHeld
              go_wp2
              go_roundw
              case rel => exact ⟨j + 1, by omega, by go_num, X_9.out, Y_9.out, L_9.out⟩
              case measure => simp [intOf]; omega
            · skip
              have e4 : j = 4 := by omega
              subst e4
              go_wp2
              go_ret
              exact ⟨rfl, L_0.out⟩
end Go.Proofs.Ytbjcfibpiiplaaa

/- ScalarSmall's walk: for all numbers and bytes the law returns true. -/
import Derived.Test.YtokhmhodkakioaaDoorAl
namespace Go.Proofs.YtokhmhodkakioaaDoor
open Go.RowKit

theorem keepCall {w0 W w1 : World} {B : Nat} (hb : Below B W w1) (hB : B = W.heap.size) (hS : Below w0.heap.size w0 W) : Below w0.heap.size w0 w1 := hS.trans (hb.mono (by rw [hB]; exact hS.size))
theorem keepLow2 {w u u' : World} (h : Below w.heap.size w u) (hb : Below u.heap.size u u') : Below w.heap.size w u' := h.trans (hb.mono h.size)
theorem small_le (a b c : Nat) (ha : a < 4294967296) (hb : b < 4294967296) (hc : c < 4294967296) : a * b + c < 2 ^ 64 := by
  have : a * b ≤ (2 ^ 32 - 1) * (2 ^ 32 - 1) := Nat.mul_le_mul (by omega) (by omega)
  omega
theorem wrap_mul (a b c : Nat) (ha : a < 4294967296) (hb : b < 4294967296) (hc : c < 4294967296) : IntKind.u64.wrap ((a : Int) * (b : Int)) = ((a * b : Nat) : Int) := by
  have := small_le a b c ha hb hc
  rw [wrap_u64', show (a : Int) * (b : Int) = ((a * b : Nat) : Int) from rfl]; omega
theorem wrap_sum (m c n : Nat) (h : m + c = n) (hn : n < 2 ^ 64) : IntKind.u64.wrap ((m : Int) + (c : Int)) = ((n : Nat) : Int) := by
  rw [wrap_u64']; omega
theorem wrap_id (a : Nat) (ha : a < 4294967296) : IntKind.u64.wrap (a : Int) = (a : Int) := by rw [wrap_u64']; omega
theorem small_q (n : Nat) (h : n < 2 ^ 64) : n % qL = n := Nat.mod_eq_of_lt (by unfold qL; omega)
theorem nb_small (n : Nat) (h : n < 2 ^ 64) : nb (byt n) 32 = n := by rw [nb_byt, Nat.mod_eq_of_lt (show n < 2 ^ (8 * 32) by omega)]
/-- One less than the order. -/
def q1 (j : Nat) : Nat := if j = 0 then 236 else byt qL j
theorem q1_lt (i : Nat) : q1 i < 256 := by unfold q1; split; omega; exact byt_lt _ _
theorem nb_q1 : nb q1 32 + 1 = qL := by
  have h := nb_set0 (byt qL) 236 31
  rw [byt_q0, nb_q] at h
  have e : nb q1 32 = nb (fun j => if j = 0 then 236 else byt qL j) (31 + 1) := rfl
  omega
theorem last_mod (d : Nat) : (nb q1 32 * d + d) % qL = 0 := by
  rw [show nb q1 32 * d + d = (nb q1 32 + 1) * d by rw [Nat.add_mul, Nat.one_mul], nb_q1, Nat.mul_mod_right]

set_option maxRecDepth 100000 in
set_option maxHeartbeats 8000000 in
theorem small_walk (a b c : Nat) (d : Nat → Nat) (w : World) (hG : Glob w) (ha : a < 4294967296) (hb : b < 4294967296) (hc : c < 4294967296) (hd : ∀ i, d i < 256) :
    Calls Tryd.prog 6 #[.int .u32 a, .int .u32 b, .int .u32 c, ba d] w fun e w' => e = .returned (.bool true) ∧ Below w.heap.size w w' := by
  have HG := hide hG
  have Hd := hide hd
  have A64 : Hid (a < 2 ^ 64) := hide (by omega)
  have B64 : Hid (b < 2 ^ 64) := hide (by omega)
  have C64 : Hid (c < 2 ^ 64) := hide (by omega)
  obtain ⟨m, hm⟩ : ∃ m, a * b = m := ⟨_, rfl⟩
  obtain ⟨n, hn⟩ : ∃ n, m + c = n := ⟨_, rfl⟩
  have hn64 : n < 2 ^ 64 := by rw [← hn, ← hm]; exact small_le a b c ha hb hc
  have N64 := hide hn64
  have Hmod : Hid ((nb (byt a) 32 * nb (byt b) 32 + nb (byt c) 32) % qL = n) := hide (by rw [nb_small a A64.out, nb_small b B64.out, nb_small c C64.out, hm, hn]; exact small_q n N64.out)
  have wa := wrap_id a ha
  have wb := wrap_id b hb
  have wc := wrap_id c hc
  have wm : IntKind.u64.wrap ((a : Int) * (b : Int)) = ((m : Nat) : Int) := by rw [wrap_mul a b c ha hb hc, hm]
  have wn : IntKind.u64.wrap ((m : Int) + (c : Int)) = ((n : Nat) : Int) := wrap_sum m c n hn hn64
  have wm2 : (a : Int) * (b : Int) = ((m : Nat) : Int) := by rw [← hm]; rfl
  have wm3 : IntKind.u64.wrap ((m : Nat) : Int) = (m : Int) := by rw [wrap_u64']; omega
  have wn3 : IntKind.u64.wrap ((n : Nat) : Int) = (n : Int) := by rw [wrap_u64']; omega
  have wn2 : (m : Int) + (c : Int) = ((n : Nat) : Int) := by omega
  clear hG hd ha hb hc hm hn hn64
  unfold ba
  have D_0 := hide (Blk.new w (vals .u8 32 d) 23)
  have L_0 := hide ((Below.refl w.heap.size w).alloc (Nat.le_refl _) (.cells (vals .u8 32 d) 23))
  go_enter Tryd.func6, Tryd.ntmps6
  go_upto_region 3 with (first
      | (go_at_call 7; refine (awake_at _ _ rfl (HG.out.low L_0.out)).mono ?_; rintro e k1 ⟨rfl, hb⟩; have D_1 := hide (D_0.out.call hb); have L_1 := hide (L_0.out.trans (hb.mono L_0.out.size)); clear hb D_0 L_0; dsimp only)
      | (go_at_call 17; refine (small_at a _ _ rfl A64.out).mono ?_; unfold ba; rintro e k2 ⟨rfl, hb⟩; have D_2 := hide (D_1.out.call hb); have L_2 := hide (L_1.out.trans (hb.mono L_1.out.size)); clear hb D_1 L_1; dsimp only)
      | (refine wpList_store_abs rfl 23 _ _ rfl k2.heap.size (vals .u8 32 (byt a)) rfl rfl 23 _ (Blk.new k2 _ _) (by rw [vals_size]; exact cells23) (by rw [vals_size]; rfl) (vals_one _ _ _) ?_; intro k3 Bn Sn; have neXD := hide (Nat.ne_of_gt D_2.out.lt); have leX := hide L_2.out.size; have D_3 := hide (Sn.other _ _ _ (Nat.ne_of_gt D_2.out.lt) (D_2.out.alloc _)); have L_3 := hide (Sn.low _ _ (L_2.out.alloc L_2.out.size _) L_2.out.size); have X_3 := hide Bn; clear Bn Sn D_2 L_2))
  go_upto_region 4 with (first
      | (go_at_call 14; refine (order_at _ _ rfl (HG.out.low L_3.out)).mono ?_; unfold ba; rintro e k4 ⟨rfl, hb⟩; have D_4 := hide (D_3.out.call hb); have X_4 := hide (X_3.out.call hb); have L_4 := hide (L_3.out.trans (hb.mono L_3.out.size)); clear hb D_3 X_3 L_3; dsimp only)
      | (refine wpList_store_abs rfl 23 _ _ rfl k4.heap.size (vals .u8 32 (byt qL)) rfl rfl 23 _ (Blk.new k4 _ _) (by rw [vals_size]; exact cells23) (by rw [vals_size]; rfl) (vals_one _ _ _) ?_; intro k5 Bn Sn; have neQD := hide (Nat.ne_of_gt D_4.out.lt); have neQX := hide (Nat.ne_of_gt X_4.out.lt); have leQ := hide L_4.out.size; have D_5 := hide (Sn.other _ _ _ (Nat.ne_of_gt D_4.out.lt) (D_4.out.alloc _)); have X_5 := hide (Sn.other _ _ _ (Nat.ne_of_gt X_4.out.lt) (X_4.out.alloc _)); have L_5 := hide (Sn.low _ _ (L_4.out.alloc L_4.out.size _) L_4.out.size); have Q_5 := hide Bn; clear Bn Sn D_4 X_4 L_4))
  generalize hpx : k2.heap.size = px at *
  generalize hpq : k4.heap.size = pq at *
  clear hpx hpq
  have c0 := Q_5.out.cell 0
  rw [vals_get _ _ _ _ (by omega), byt_q0] at c0
  have f0 := Q_5.out.frozen 0
  have Q_q := hide (Blk.cast (c' := vals .u8 32 q1) (Q_5.out.set 0 (.int .u8 (236 : Nat))) (by rw [vals_set]; exact vals_congr _ _ _ _ fun j _ => rfl))
  have X_q := hide (X_5.out.setOther 0 (.int .u8 (236 : Nat)) neQX.out)
  have D_q := hide (D_5.out.setOther 0 (.int .u8 (236 : Nat)) neQD.out)
  have L_q := hide (L_5.out.setCell (p := ⟨pq, 0, none⟩) leQ.out (.int .u8 (236 : Nat)))
  clear Q_5 X_5 D_5 L_5
  go_upto_region 6 with (fail)
  clear c0 f0
  obtain ⟨kw, hkw⟩ : ∃ kw, kw = k5.setCell ⟨pq, 0, none⟩ (.int .u8 236) := ⟨_, rfl⟩
  rw [← hkw]
  replace Q_q : Hid (Blk kw pq (vals .u8 32 q1) 23) := hide (by rw [hkw]; exact Q_q.out)
  replace X_q : Hid (Blk kw px (vals .u8 32 (byt a)) 23) := hide (by rw [hkw]; exact X_q.out)
  replace D_q : Hid (Blk kw w.heap.size (vals .u8 32 d) 23) := hide (by rw [hkw]; exact D_q.out)
  replace L_q : Hid (Below w.heap.size w kw) := hide (by rw [hkw]; exact L_q.out)
  clear hkw
  have heqn := eq_same (byt n) (byt n) fun _ _ => rfl
  have heq0 := eq_same (byt 0) (fun _ => 0) fun i _ => byt0 i
  have heqa := eq_same (byt a) (byt a) fun _ _ => rfl
  refine wp_region_held_drew (S := fun w' => Below kw.heap.size kw w') (by kernel_rfl) (Below.refl _ _).drew (fun hHeld => ?_)
  refine wpAnyH_take (i := 0) (oi := { dst := some 30, op := Op.move (Operand.tmp 9), type := 4, pos := "law.go:63", after := #[], guard := none }) (v := .bool true) rfl (by kernel_rfl) (by kernel_rfl) (by kernel_rfl) (fun _ _ _ h => h) (Or.inl ⟨by rfl, fun w hSw => by go_simp⟩) hHeld ?_
  try simp only [Act.put, List.setIfInBounds_toArray, List.set_cons_zero, List.set_cons_succ]
  refine wpAnyH_take (i := 1) (oi := { dst := some 31, op := Op.move (Operand.tmp 30), type := 4, pos := "law.go:63", after := #[{ on := 0, ground := Ground.data }], guard := none }) (v := .bool true) rfl (by kernel_rfl) (by kernel_rfl) (by kernel_rfl) (fun _ _ _ h => h) (Or.inl ⟨by rfl, fun w hSw => by go_simp⟩) hHeld ?_
  try simp only [Act.put, List.setIfInBounds_toArray, List.set_cons_zero, List.set_cons_succ]
  refine wpAnyH_take (i := 2) (oi := { dst := some 32, op := Op.load 23 (Operand.tmp 10), type := 23, pos := "law.go:63", after := #[{ on := 1, ground := Ground.guard }], guard := some (1, true) }) (v := .agg (vals .u8 32 (byt a))) rfl (by kernel_rfl) (by kernel_rfl) (by kernel_rfl) (fun _ _ _ h => h) (yields_blk X_q.out (by rfl) 23 _ rfl rfl _ Tryd.underlying23 rfl (by rw [vals_size]; exact cells23)) hHeld ?_
  try simp only [Act.put, List.setIfInBounds_toArray, List.set_cons_zero, List.set_cons_succ]
  refine wpAnyH_take (i := 3) (oi := { dst := some 33, op := Op.move (Operand.tmp 1), type := 33, pos := "law.go:63", after := #[{ on := 1, ground := Ground.guard }], guard := some (1, true) }) (v := .int .u32 b) rfl (by kernel_rfl) (by kernel_rfl) (by kernel_rfl) (fun _ _ _ h => h) (Or.inl ⟨by rfl, fun w hSw => by go_simp⟩) hHeld ?_
  try simp only [Act.put, List.setIfInBounds_toArray, List.set_cons_zero, List.set_cons_succ]
  refine wpAnyH_take (i := 4) (oi := { dst := some 34, op := Op.convert 33 35 (Operand.tmp 33), type := 35, pos := "law.go:63", after := #[{ on := 3, ground := Ground.data }, { on := 1, ground := Ground.guard }], guard := some (1, true) }) (v := .int .u64 b) rfl (by kernel_rfl) (by kernel_rfl) (by kernel_rfl) (fun _ _ _ h => h) (Or.inl ⟨by rfl, fun w hSw => by go_simp⟩) hHeld ?_
  try simp only [Act.put, List.setIfInBounds_toArray, List.set_cons_zero, List.set_cons_succ]
  refine wpAnyH_take (i := 6) (oi := { dst := some 36, op := Op.move (Operand.tmp 2), type := 33, pos := "law.go:63", after := #[{ on := 1, ground := Ground.guard }], guard := some (1, true) }) (v := .int .u32 c) rfl (by kernel_rfl) (by kernel_rfl) (by kernel_rfl) (fun _ _ _ h => h) (Or.inl ⟨by rfl, fun w hSw => by go_simp⟩) hHeld ?_
  try simp only [Act.put, List.setIfInBounds_toArray, List.set_cons_zero, List.set_cons_succ]
  refine wpAnyH_take (i := 7) (oi := { dst := some 37, op := Op.convert 33 35 (Operand.tmp 36), type := 35, pos := "law.go:63", after := #[{ on := 6, ground := Ground.data }, { on := 1, ground := Ground.guard }], guard := some (1, true) }) (v := .int .u64 c) rfl (by kernel_rfl) (by kernel_rfl) (by kernel_rfl) (fun _ _ _ h => h) (Or.inl ⟨by rfl, fun w hSw => by go_simp⟩) hHeld ?_
  try simp only [Act.put, List.setIfInBounds_toArray, List.set_cons_zero, List.set_cons_succ]
  refine wpAnyH_take (i := 10) (oi := { dst := some 40, op := Op.move (Operand.tmp 12), type := 35, pos := "law.go:63", after := #[{ on := 1, ground := Ground.guard }], guard := some (1, true) }) (v := .int .u64 n) rfl (by kernel_rfl) (by kernel_rfl) (by kernel_rfl) (fun _ _ _ h => h) (Or.inl ⟨by rfl, fun w hSw => by go_simp⟩) hHeld ?_
  try simp only [Act.put, List.setIfInBounds_toArray, List.set_cons_zero, List.set_cons_succ]
  refine wpAnyH_ready (rs := [5]) (by kernel_rfl) (by simp) ?_
  refine AllReadyH.cons (o := { dst := some 35, op := Op.call { callee := Callee.value (Operand.func 17), args := #[Operand.tmp 34], argTypes := #[35] }, type := 23, pos := "law.go:63", after := #[{ on := 4, ground := Ground.data }, { on := 1, ground := Ground.chain }, { on := 1, ground := Ground.guard }], guard := some (1, true) }) rfl (fun K hK => ?_) AllReadyH.nil
  go_simp
  refine (small_at b _ _ (by rfl) B64.out).mono ?_
  unfold ba
  rintro e u6 ⟨rfl, hb⟩
  have HT6 := hide (keepCall hb rfl hHeld)
  dsimp only
  refine hK.out _ _ HT6.out (fun hHeld => ?_)
  clear hK K hb
  try simp only [Act.put, List.setIfInBounds_toArray, List.set_cons_zero, List.set_cons_succ]
  refine wpAnyH_ready (rs := [8]) (by kernel_rfl) (by simp) ?_
  refine AllReadyH.cons (o := { dst := some 38, op := Op.call { callee := Callee.value (Operand.func 17), args := #[Operand.tmp 37], argTypes := #[35] }, type := 23, pos := "law.go:63", after := #[{ on := 7, ground := Ground.data }, { on := 5, ground := Ground.chain }, { on := 1, ground := Ground.guard }], guard := some (1, true) }) rfl (fun K hK => ?_) AllReadyH.nil
  go_simp
  refine (small_at c _ _ (by rfl) C64.out).mono ?_
  unfold ba
  rintro e u7 ⟨rfl, hb⟩
  have HT7 := hide (keepCall hb rfl hHeld)
  dsimp only
  refine hK.out _ _ HT7.out (fun hHeld => ?_)
  clear hK K hb
  try simp only [Act.put, List.setIfInBounds_toArray, List.set_cons_zero, List.set_cons_succ]
  refine wpAnyH_ready (rs := [9]) (by kernel_rfl) (by simp) ?_
  refine AllReadyH.cons (o := { dst := some 39, op := Op.call { callee := Callee.value (Operand.func 10), args := #[Operand.tmp 32, Operand.tmp 35, Operand.tmp 38], argTypes := #[23, 23, 23] }, type := 23, pos := "law.go:63", after := #[{ on := 2, ground := Ground.data }, { on := 5, ground := Ground.data }, { on := 8, ground := Ground.data }, { on := 8, ground := Ground.chain }, { on := 1, ground := Ground.guard }], guard := some (1, true) }) rfl (fun K hK => ?_) AllReadyH.nil
  go_simp
  refine (muladd_n (byt a) (byt b) (byt c) n _ _ (by rfl) ((HG.out.low L_q.out).low hHeld) (byt_lt _) (byt_lt _) (byt_lt _) Hmod.out).mono ?_
  unfold ba
  rintro e u8 ⟨rfl, hb⟩
  have HT8 := hide (keepCall hb rfl hHeld)
  dsimp only
  refine hK.out _ _ HT8.out (fun hHeld => ?_)
  clear hK K hb
  try simp only [Act.put, List.setIfInBounds_toArray, List.set_cons_zero, List.set_cons_succ]
  refine wpAnyH_ready (rs := [11]) (by kernel_rfl) (by simp) ?_
  refine AllReadyH.cons (o := { dst := some 41, op := Op.call { callee := Callee.value (Operand.func 17), args := #[Operand.tmp 40], argTypes := #[35] }, type := 23, pos := "law.go:63", after := #[{ on := 10, ground := Ground.data }, { on := 9, ground := Ground.chain }, { on := 1, ground := Ground.guard }], guard := some (1, true) }) rfl (fun K hK => ?_) AllReadyH.nil
  go_simp
  refine (small_at n _ _ (by rfl) N64.out).mono ?_
  unfold ba
  rintro e u9 ⟨rfl, hb⟩
  have HT9 := hide (keepCall hb rfl hHeld)
  dsimp only
  refine hK.out _ _ HT9.out (fun hHeld => ?_)
  clear hK K hb
  try simp only [Act.put, List.setIfInBounds_toArray, List.set_cons_zero, List.set_cons_succ]
  refine wpAnyH_take (i := 12) (oi := { dst := some 42, op := Op.binOp BinOp.eql 23 (Operand.tmp 39) (Operand.tmp 41) 23, type := 4, pos := "law.go:63", after := #[{ on := 9, ground := Ground.data }, { on := 11, ground := Ground.data }, { on := 1, ground := Ground.guard }], guard := some (1, true) }) (v := .bool true) rfl (by kernel_rfl) (by kernel_rfl) (by kernel_rfl) (fun _ _ _ h => h) (Or.inl ⟨by rfl, fun w hSw => by go_simp⟩) hHeld ?_
  try simp only [Act.put, List.setIfInBounds_toArray, List.set_cons_zero, List.set_cons_succ]
  refine wpAnyH_take (i := 13) (oi := { dst := some 43, op := Op.pick (Operand.tmp 31) (Operand.tmp 42) (Operand.const (Value.bool false)), type := 4, pos := "law.go:63", after := #[{ on := 1, ground := Ground.data }, { on := 12, ground := Ground.data }], guard := none }) (v := .bool true) rfl (by kernel_rfl) (by kernel_rfl) (by kernel_rfl) (fun _ _ _ h => h) (Or.inl ⟨by rfl, fun w hSw => by go_simp⟩) hHeld ?_
  try simp only [Act.put, List.setIfInBounds_toArray, List.set_cons_zero, List.set_cons_succ]
  refine wpAnyH_take (i := 14) (oi := { dst := some 44, op := Op.move (Operand.tmp 43), type := 4, pos := "law.go:63", after := #[{ on := 13, ground := Ground.data }, { on := 11, ground := Ground.chain }], guard := none }) (v := .bool true) rfl (by kernel_rfl) (by kernel_rfl) (by kernel_rfl) (fun _ _ _ h => h) (Or.inl ⟨by rfl, fun w hSw => by go_simp⟩) hHeld ?_
  try simp only [Act.put, List.setIfInBounds_toArray, List.set_cons_zero, List.set_cons_succ]
  refine wpAnyH_take (i := 15) (oi := { dst := some 45, op := Op.load 23 (Operand.tmp 11), type := 23, pos := "law.go:63", after := #[{ on := 14, ground := Ground.guard }], guard := some (14, true) }) (v := .agg (vals .u8 32 q1)) rfl (by kernel_rfl) (by kernel_rfl) (by kernel_rfl) (fun _ _ _ h => h) (yields_blk Q_q.out (by rfl) 23 _ rfl rfl _ Tryd.underlying23 rfl (by rw [vals_size]; exact cells23)) hHeld ?_
  try simp only [Act.put, List.setIfInBounds_toArray, List.set_cons_zero, List.set_cons_succ]
  refine wpAnyH_take (i := 16) (oi := { dst := some 46, op := Op.load 23 (Operand.tmp 7), type := 23, pos := "law.go:63", after := #[{ on := 14, ground := Ground.guard }], guard := some (14, true) }) (v := .agg (vals .u8 32 d)) rfl (by kernel_rfl) (by kernel_rfl) (by kernel_rfl) (fun _ _ _ h => h) (yields_blk D_q.out (by rfl) 23 _ rfl rfl _ Tryd.underlying23 rfl (by rw [vals_size]; exact cells23)) hHeld ?_
  try simp only [Act.put, List.setIfInBounds_toArray, List.set_cons_zero, List.set_cons_succ]
  refine wpAnyH_take (i := 17) (oi := { dst := some 47, op := Op.load 23 (Operand.tmp 7), type := 23, pos := "law.go:63", after := #[{ on := 14, ground := Ground.guard }], guard := some (14, true) }) (v := .agg (vals .u8 32 d)) rfl (by kernel_rfl) (by kernel_rfl) (by kernel_rfl) (fun _ _ _ h => h) (yields_blk D_q.out (by rfl) 23 _ rfl rfl _ Tryd.underlying23 rfl (by rw [vals_size]; exact cells23)) hHeld ?_
  try simp only [Act.put, List.setIfInBounds_toArray, List.set_cons_zero, List.set_cons_succ]
  refine wpAnyH_take (i := 19) (oi := { dst := some 49, op := Op.build 23 #[], type := 23, pos := "law.go:63", after := #[{ on := 14, ground := Ground.guard }], guard := some (14, true) }) (v := .agg (vals .u8 32 (fun _ => 0))) rfl (by kernel_rfl) (by kernel_rfl) (by kernel_rfl) (fun _ _ _ h => h) (yields_build (by rfl) 23 _ rfl (by simp only [List.map_toArray, List.map_nil]; exact built23)) hHeld ?_
  try simp only [Act.put, List.setIfInBounds_toArray, List.set_cons_zero, List.set_cons_succ]
  refine wpAnyH_ready (rs := [18]) (by kernel_rfl) (by simp) ?_
  refine AllReadyH.cons (o := { dst := some 48, op := Op.call { callee := Callee.value (Operand.func 10), args := #[Operand.tmp 45, Operand.tmp 46, Operand.tmp 47], argTypes := #[23, 23, 23] }, type := 23, pos := "law.go:63", after := #[{ on := 15, ground := Ground.data }, { on := 16, ground := Ground.data }, { on := 17, ground := Ground.data }, { on := 14, ground := Ground.chain }, { on := 14, ground := Ground.guard }], guard := some (14, true) }) rfl (fun K hK => ?_) AllReadyH.nil
  go_simp
  refine (muladd_n q1 d d 0 _ _ (by rfl) ((HG.out.low L_q.out).low hHeld) q1_lt Hd.out Hd.out (last_mod _)).mono ?_
  unfold ba
  rintro e u10 ⟨rfl, hb⟩
  have HT10 := hide (keepCall hb rfl hHeld)
  dsimp only
  refine hK.out _ _ HT10.out (fun hHeld => ?_)
  clear hK K hb
  try simp only [Act.put, List.setIfInBounds_toArray, List.set_cons_zero, List.set_cons_succ]
  refine wpAnyH_take (i := 20) (oi := { dst := some 50, op := Op.binOp BinOp.eql 23 (Operand.tmp 48) (Operand.tmp 49) 23, type := 4, pos := "law.go:63", after := #[{ on := 18, ground := Ground.data }, { on := 19, ground := Ground.data }, { on := 14, ground := Ground.guard }], guard := some (14, true) }) (v := .bool true) rfl (by kernel_rfl) (by kernel_rfl) (by kernel_rfl) (fun _ _ _ h => h) (Or.inl ⟨by rfl, fun w hSw => by go_simp⟩) hHeld ?_
  try simp only [Act.put, List.setIfInBounds_toArray, List.set_cons_zero, List.set_cons_succ]
  refine wpAnyH_take (i := 21) (oi := { dst := some 51, op := Op.pick (Operand.tmp 44) (Operand.tmp 50) (Operand.const (Value.bool false)), type := 4, pos := "law.go:63", after := #[{ on := 14, ground := Ground.data }, { on := 20, ground := Ground.data }], guard := none }) (v := .bool true) rfl (by kernel_rfl) (by kernel_rfl) (by kernel_rfl) (fun _ _ _ h => h) (Or.inl ⟨by rfl, fun w hSw => by go_simp⟩) hHeld ?_
  try simp only [Act.put, List.setIfInBounds_toArray, List.set_cons_zero, List.set_cons_succ]
  refine wpAnyH_take (i := 22) (oi := { dst := some 52, op := Op.move (Operand.tmp 51), type := 4, pos := "law.go:63", after := #[{ on := 21, ground := Ground.data }, { on := 18, ground := Ground.chain }], guard := none }) (v := .bool true) rfl (by kernel_rfl) (by kernel_rfl) (by kernel_rfl) (fun _ _ _ h => h) (Or.inl ⟨by rfl, fun w hSw => by go_simp⟩) hHeld ?_
  try simp only [Act.put, List.setIfInBounds_toArray, List.set_cons_zero, List.set_cons_succ]
  refine wpAnyH_take (i := 23) (oi := { dst := some 53, op := Op.load 23 (Operand.tmp 10), type := 23, pos := "law.go:63", after := #[{ on := 22, ground := Ground.guard }], guard := some (22, true) }) (v := .agg (vals .u8 32 (byt a))) rfl (by kernel_rfl) (by kernel_rfl) (by kernel_rfl) (fun _ _ _ h => h) (yields_blk X_q.out (by rfl) 23 _ rfl rfl _ Tryd.underlying23 rfl (by rw [vals_size]; exact cells23)) hHeld ?_
  try simp only [Act.put, List.setIfInBounds_toArray, List.set_cons_zero, List.set_cons_succ]
  refine wpAnyH_take (i := 26) (oi := { dst := some 56, op := Op.load 23 (Operand.tmp 10), type := 23, pos := "law.go:63", after := #[{ on := 22, ground := Ground.guard }], guard := some (22, true) }) (v := .agg (vals .u8 32 (byt a))) rfl (by kernel_rfl) (by kernel_rfl) (by kernel_rfl) (fun _ _ _ h => h) (yields_blk X_q.out (by rfl) 23 _ rfl rfl _ Tryd.underlying23 rfl (by rw [vals_size]; exact cells23)) hHeld ?_
  try simp only [Act.put, List.setIfInBounds_toArray, List.set_cons_zero, List.set_cons_succ]
  refine wpAnyH_ready (rs := [24]) (by kernel_rfl) (by simp) ?_
  refine AllReadyH.cons (o := { dst := some 54, op := Op.call { callee := Callee.value (Operand.func 16), args := #[Operand.tmp 53], argTypes := #[23] }, type := 22, pos := "law.go:63", after := #[{ on := 23, ground := Ground.data }, { on := 22, ground := Ground.chain }, { on := 22, ground := Ground.guard }], guard := some (22, true) }) rfl (fun K hK => ?_) AllReadyH.nil
  go_simp
  refine (wide_at (byt a) _ _ (by rfl)).mono ?_
  unfold bb
  rintro e u11 ⟨rfl, hb⟩
  have HT11 := hide (keepCall hb rfl hHeld)
  dsimp only
  refine hK.out _ _ HT11.out (fun hHeld => ?_)
  clear hK K hb
  try simp only [Act.put, List.setIfInBounds_toArray, List.set_cons_zero, List.set_cons_succ]
  refine wpAnyH_ready (rs := [25]) (by kernel_rfl) (by simp) ?_
  refine AllReadyH.cons (o := { dst := some 55, op := Op.call { callee := Callee.value (Operand.func 8), args := #[Operand.tmp 54], argTypes := #[22] }, type := 23, pos := "law.go:63", after := #[{ on := 24, ground := Ground.data }, { on := 24, ground := Ground.chain }, { on := 22, ground := Ground.guard }], guard := some (22, true) }) rfl (fun K hK => ?_) AllReadyH.nil
  go_simp
  refine (reduce_n (wd (byt a)) a _ _ (by rfl) ((HG.out.low L_q.out).low hHeld) (wd_lt _ (byt_lt _)) (by rw [nb_wd, nb_small a A64.out]; exact small_q a A64.out)).mono ?_
  unfold ba
  rintro e u12 ⟨rfl, hb⟩
  have HT12 := hide (keepCall hb rfl hHeld)
  dsimp only
  refine hK.out _ _ HT12.out (fun hHeld => ?_)
  clear hK K hb
  try simp only [Act.put, List.setIfInBounds_toArray, List.set_cons_zero, List.set_cons_succ]
  refine wpAnyH_take (i := 27) (oi := { dst := some 57, op := Op.binOp BinOp.eql 23 (Operand.tmp 55) (Operand.tmp 56) 23, type := 4, pos := "law.go:63", after := #[{ on := 25, ground := Ground.data }, { on := 26, ground := Ground.data }, { on := 22, ground := Ground.guard }], guard := some (22, true) }) (v := .bool true) rfl (by kernel_rfl) (by kernel_rfl) (by kernel_rfl) (fun _ _ _ h => h) (Or.inl ⟨by rfl, fun w hSw => by go_simp⟩) hHeld ?_
  try simp only [Act.put, List.setIfInBounds_toArray, List.set_cons_zero, List.set_cons_succ]
  refine wpAnyH_take (i := 28) (oi := { dst := some 58, op := Op.pick (Operand.tmp 52) (Operand.tmp 57) (Operand.const (Value.bool false)), type := 4, pos := "law.go:63", after := #[{ on := 22, ground := Ground.data }, { on := 27, ground := Ground.data }], guard := none }) (v := .bool true) rfl (by kernel_rfl) (by kernel_rfl) (by kernel_rfl) (fun _ _ _ h => h) (Or.inl ⟨by rfl, fun w hSw => by go_simp⟩) hHeld ?_
  try simp only [Act.put, List.setIfInBounds_toArray, List.set_cons_zero, List.set_cons_succ]
  refine wpAnyH_take (i := 29) (oi := { dst := some 8, op := Op.assign (Operand.tmp 58), type := 4, pos := "law.go:63", after := #[{ on := 28, ground := Ground.data }, { on := 25, ground := Ground.chain }, { on := 0, ground := Ground.phase }, { on := 1, ground := Ground.phase }, { on := 2, ground := Ground.phase }, { on := 3, ground := Ground.phase }, { on := 4, ground := Ground.phase }, { on := 5, ground := Ground.phase }, { on := 6, ground := Ground.phase }, { on := 7, ground := Ground.phase }, { on := 8, ground := Ground.phase }, { on := 9, ground := Ground.phase }, { on := 10, ground := Ground.phase }, { on := 11, ground := Ground.phase }, { on := 12, ground := Ground.phase }, { on := 13, ground := Ground.phase }, { on := 14, ground := Ground.phase }, { on := 15, ground := Ground.phase }, { on := 16, ground := Ground.phase }, { on := 17, ground := Ground.phase }, { on := 18, ground := Ground.phase }, { on := 19, ground := Ground.phase }, { on := 20, ground := Ground.phase }, { on := 21, ground := Ground.phase }, { on := 22, ground := Ground.phase }, { on := 23, ground := Ground.phase }, { on := 24, ground := Ground.phase }, { on := 25, ground := Ground.phase }, { on := 26, ground := Ground.phase }, { on := 27, ground := Ground.phase }, { on := 28, ground := Ground.phase }], guard := none }) (v := .bool true) rfl (by kernel_rfl) (by kernel_rfl) (by kernel_rfl) (fun _ _ _ h => h) (Or.inl ⟨by rfl, fun w hSw => by go_simp⟩) hHeld ?_
  try simp only [Act.put, List.setIfInBounds_toArray, List.set_cons_zero, List.set_cons_succ]
  refine wpAnyH_done (by kernel_rfl) ?_ _
  have D_13 := hide (D_q.out.call HT12.out)
  have X_13 := hide (X_q.out.call HT12.out)
  have Q_13 := hide (Q_q.out.call HT12.out)
  have L_13 := hide (keepLow2 L_q.out HT12.out)
  clear hHeld
  go_wp2
  go_ret
  exact ⟨rfl, L_13.out⟩
end Go.Proofs.YtokhmhodkakioaaDoor

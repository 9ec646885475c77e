/- Walks: awake. No condition. -/
import Derived.Test.YtalnkcijebdpbaaDoorPi
namespace Go.Proofs.YtalnkcijebdpbaaDoor
open F Go.RowKit

theorem y_c8 {o : Oper} {a : Act} {ops : Array Oper} {S : World → Prop} {x : Operand} {b off : Nat} {c : Array Value} {t : TypeId} (hB : ∀ w, S w → Blk w b c t) {g : Nat} (hv : c[off]? = some (.int .u8 ((g : Nat) : Int))) (ho : o.op = .load 5 x := by rfl) (hx : a.eval x = .pointer (some ⟨b, off, none⟩) := by kernel_rfl) (hw : Region.wanted o (yielded ops a.tmps) = true := by kernel_rfl) : YieldsIf Tryd.prog ops S o (.int .u8 ((g : Nat) : Int)) a := Or.inl ⟨hw, fun w hS => ld8 ho hx (hB w hS) hv⟩
theorem decR_some {n : Nat} {P : Nat × Nat} (h : dec7 n = some P) : decR n = (P, true) := by unfold decR; rw [h]
theorem decR_none {n : Nat} (h : dec7 n = none) : decR n = (zero7, false) := by unfold decR; rw [h]
theorem same_t {P Q : Nat × Nat} (hP : Ok7 P) (hQ : Ok7 Q) (h : P = Q) (w : World) : Ret 7 #[.agg (pt P), .agg (pt Q)] w (.bool true) := by
  have h1 := same_p hP hQ w
  rw [decide_eq_true h] at h1
  exact h1
theorem same_f {P Q : Nat × Nat} (hP : Ok7 P) (hQ : Ok7 Q) (h : ¬ P = Q) (w : World) : Ret 7 #[.agg (pt P), .agg (pt Q)] w (.bool false) := by
  have h1 := same_p hP hQ w
  rw [decide_eq_false h] at h1
  exact h1
def ob (j : Nat) : Nat := if j = 0 then 1 else if j = 31 then 128 else 0
theorem ob_lt (j : Nat) : ob j < 256 := by unfold ob; split; omega; split <;> omega
theorem dec_c1 (w : World) : Ret 13 #[.agg (vals .u8 32 (cb [1]))] w (.tuple #[.agg (pt zero7), .bool true]) := by
  have h := decode_p (cb [1]) (cb_lt _ (by decide +kernel)) w
  rw [show nb (cb [1]) 32 = 1 by decide +kernel, decR_some dec_one] at h
  exact h
theorem dec_c2 (w : World) : Ret 13 #[.agg (vals .u8 32 ob)] w (.tuple #[.agg (pt zero7), .bool false]) := by
  have h := decode_p ob ob_lt w
  rw [show nb ob 32 = 1 + 2 ^ 255 by decide +kernel, decR_none dec_none] at h
  exact h
theorem bytes_base (w : World) : Ret 12 #[.agg (pt base7)] w (.agg (vals .u8 32 (byt yN))) := by
  have h := bytes_p ok_base w
  rw [num_base] at h
  exact h
theorem bytes_zero (w : World) : Ret 12 #[.agg (pt zero7)] w (.agg (vals .u8 32 (byt 1))) := by
  have h := bytes_p ok_zero7 w
  rw [show num7 zero7 = 1 by decide +kernel] at h
  exact h
def f11r0Op0 : Oper := ⟨some 0, .assign (.const (.bool false)), 4, "law.go:16", #[], none⟩
def f11r0Ops : Array Oper := #[f11r0Op0]
set_option maxRecDepth 100000 in
set_option maxHeartbeats 2000000 in
theorem f11r0_r {Q : Exit → Act → World → Prop} {u w : World} {L : List Row} {z0 : Value} {zz : List Value} (hO : Own u w L) (H : ∀ (w' : World), Own u w' (L) → Q .normal { tmps := List.toArray ((.bool false) :: zz), defers := [] } w') :
    (Code.region 0 f11r0Ops false).wp Tryd.prog Q { tmps := List.toArray (z0 :: zz), defers := [] } w := by
  refine wp_region_list (show wpList _ f11r0Ops _ [f11r0Op0] _ _ from ?_)
  refine l_val (.bool false) (by kernel_rfl) ?_
  exact l_fr _ (wpList_nil (H  _ hO))
def f11r1Op0 : Oper := ⟨some 7, .call { callee := .value (.func 6), args := #[], argTypes := #[] }, 29, "law.go:17", #[], none⟩
def f11r1Op1 : Oper := ⟨some 8, .call { callee := .value (.func 12), args := #[.tmp 7], argTypes := #[29] }, 22, "law.go:17", #[⟨0, .data⟩, ⟨0, .chain⟩], none⟩
def f11r1Op2 : Oper := ⟨some 1, .alloc 22, 0, "law.go:17", #[], none⟩
def f11r1Op3 : Oper := ⟨none, .store 22 (.tmp 1) (.tmp 8), 0, "law.go:17", #[⟨2, .data⟩, ⟨1, .data⟩, ⟨1, .chain⟩, ⟨0, .phase⟩, ⟨1, .phase⟩, ⟨2, .phase⟩], none⟩
def f11r1Ops : Array Oper := #[f11r1Op0, f11r1Op1, f11r1Op2, f11r1Op3]
set_option maxRecDepth 100000 in
set_option maxHeartbeats 2000000 in
theorem f11r1_r {Q : Exit → Act → World → Prop} {u w : World} {L : List Row} {z0 z1 z2 z3 z4 z5 z6 z7 z8 : Value} {zz : List Value} {e7 e8 : Array Value} (hO : Own u w L) (r7 : ∀ w, Ret 6 #[] w (.agg e7)) (r8 : ∀ w, Ret 12 #[.agg e7] w (.agg e8)) (fe8_22 : Fit 22 e8) (H : ∀ (n1 : Nat) (w' : World), Own u w' ((n1, e8, 22) :: L) → Q .normal { tmps := List.toArray (z0 :: (.pointer (some ⟨n1, 0, none⟩)) :: z2 :: z3 :: z4 :: z5 :: z6 :: (.agg e7) :: (.agg e8) :: zz), defers := [] } w') :
    (Code.region 1 f11r1Ops false).wp Tryd.prog Q { tmps := List.toArray (z0 :: z1 :: z2 :: z3 :: z4 :: z5 :: z6 :: z7 :: z8 :: zz), defers := [] } w := by
  refine wp_region_list (show wpList _ f11r1Ops _ [f11r1Op0, f11r1Op1, f11r1Op2, f11r1Op3] _ _ from ?_)
  refine l_call hO 6 #[] (.agg e7) r7 ?_
  intro w1 hO
  refine l_call hO 12 #[.agg e7] (.agg e8) r8 ?_
  intro w2 hO
  refine l_new hO (vals .u8 32 (fun _ => 0)) 22 (al22 rfl) (fit_by _) ?_
  intro n1 w3 hO
  refine l_fr (Fr [z0, D n1, z2, z3, z4, z5, z6, A e7, A e8] zz) ?_
  refine l_st hO 22 0 rfl e8 fe8_22 ?_
  intro w4 hO
  exact l_fr _ (wpList_nil (H n1 _ hO))
def f11r2Op0 : Oper := ⟨some 10, .build 22 #[(0, .const (.int .u8 1))], 22, "law.go:18", #[], none⟩
def f11r2Op1 : Oper := ⟨some 11, .call { callee := .value (.func 13), args := #[.tmp 10], argTypes := #[22] }, 37, "law.go:18", #[⟨0, .data⟩], none⟩
def f11r2Op2 : Oper := ⟨some 9, .move (.tmp 11), 37, "law.go:18", #[⟨1, .data⟩], none⟩
def f11r2Op3 : Oper := ⟨some 12, .extract (.tmp 9) 0, 29, "law.go:18", #[⟨2, .data⟩], none⟩
def f11r2Op4 : Oper := ⟨some 13, .extract (.tmp 9) 1, 4, "law.go:18", #[⟨2, .data⟩, ⟨6, .gcOnly .lateStores⟩], none⟩
def f11r2Op5 : Oper := ⟨some 2, .alloc 29, 0, "law.go:18", #[], none⟩
def f11r2Op6 : Oper := ⟨none, .store 29 (.tmp 2) (.tmp 12), 0, "law.go:18", #[⟨5, .data⟩, ⟨3, .data⟩, ⟨1, .chain⟩, ⟨0, .phase⟩, ⟨1, .phase⟩, ⟨2, .phase⟩, ⟨3, .phase⟩, ⟨4, .textOnly .lateStores⟩, ⟨5, .phase⟩], none⟩
def f11r2Op7 : Oper := ⟨some 3, .assign (.tmp 13), 4, "law.go:18", #[⟨4, .data⟩, ⟨6, .chain⟩, ⟨0, .phase⟩, ⟨1, .phase⟩, ⟨2, .phase⟩, ⟨3, .phase⟩, ⟨4, .phase⟩, ⟨5, .phase⟩, ⟨6, .phase⟩], none⟩
def f11r2Ops : Array Oper := #[f11r2Op0, f11r2Op1, f11r2Op2, f11r2Op3, f11r2Op4, f11r2Op5, f11r2Op6, f11r2Op7]
set_option maxRecDepth 100000 in
set_option maxHeartbeats 2000000 in
theorem f11r2_r {Q : Exit → Act → World → Prop} {u w : World} {L : List Row} {z0 z1 z2 z3 z4 z5 z6 z7 z8 z9 z10 z11 z12 z13 : Value} {zz : List Value} {e10 e11a : Array Value} {p11b : Bool} (hO : Own u w L) (q10 : Tryd.prog.built 22 [(0, .int IntKind.u8 1)] = some e10) (r11 : ∀ w, Ret 13 #[.agg e10] w (.tuple #[.agg e11a, .bool p11b])) (fe11a_29 : Fit 29 e11a) (H : ∀ (n2 : Nat) (w' : World), Own u w' ((n2, e11a, 29) :: L) → Q .normal { tmps := List.toArray (z0 :: z1 :: (.pointer (some ⟨n2, 0, none⟩)) :: (.bool p11b) :: z4 :: z5 :: z6 :: z7 :: z8 :: (.tuple #[.agg e11a, .bool p11b]) :: (.agg e10) :: (.tuple #[.agg e11a, .bool p11b]) :: (.agg e11a) :: (.bool p11b) :: zz), defers := [] } w') :
    (Code.region 2 f11r2Ops false).wp Tryd.prog Q { tmps := List.toArray (z0 :: z1 :: z2 :: z3 :: z4 :: z5 :: z6 :: z7 :: z8 :: z9 :: z10 :: z11 :: z12 :: z13 :: zz), defers := [] } w := by
  refine wp_region_list (show wpList _ f11r2Ops _ [f11r2Op0, f11r2Op1, f11r2Op2, f11r2Op3, f11r2Op4, f11r2Op5, f11r2Op6, f11r2Op7] _ _ from ?_)
  refine l_val (.agg e10) (run_bd 22 _ rfl [(0, .int IntKind.u8 1)] (by kernel_rfl) e10 q10 _) ?_
  refine l_call hO 13 #[.agg e10] (.tuple #[.agg e11a, .bool p11b]) r11 ?_
  intro w1 hO
  refine l_val (.tuple #[.agg e11a, .bool p11b]) (by kernel_rfl) ?_
  refine l_fr (Fr [z0, z1, z2, z3, z4, z5, z6, z7, z8, .tuple #[.agg e11a, .bool p11b], A e10, .tuple #[.agg e11a, .bool p11b], z12, z13] zz) ?_
  refine l_val (.agg e11a) (by kernel_rfl) ?_
  refine l_val (.bool p11b) (by kernel_rfl) ?_
  refine l_new hO (ps [0, 0]) 29 (al29 rfl) (fit_pt _ _) ?_
  intro n2 w2 hO
  refine l_fr (Fr [z0, z1, D n2, z3, z4, z5, z6, z7, z8, .tuple #[.agg e11a, .bool p11b], A e10, .tuple #[.agg e11a, .bool p11b], A e11a, .bool p11b] zz) ?_
  refine l_st hO 29 0 rfl e11a fe11a_29 ?_
  intro w3 hO
  refine l_val (.bool p11b) (by kernel_rfl) ?_
  exact l_fr _ (wpList_nil (H n2 _ hO))
def f11r3Op0 : Oper := ⟨some 15, .build 22 #[(0, .const (.int .u8 1)), (31, .const (.int .u8 128))], 22, "law.go:19", #[], none⟩
def f11r3Op1 : Oper := ⟨some 16, .call { callee := .value (.func 13), args := #[.tmp 15], argTypes := #[22] }, 37, "law.go:19", #[⟨0, .data⟩], none⟩
def f11r3Op2 : Oper := ⟨some 14, .move (.tmp 16), 37, "law.go:19", #[⟨1, .data⟩], none⟩
def f11r3Op3 : Oper := ⟨some 17, .extract (.tmp 14) 0, 29, "law.go:19", #[⟨2, .data⟩], none⟩
def f11r3Op4 : Oper := ⟨some 18, .extract (.tmp 14) 1, 4, "law.go:19", #[⟨2, .data⟩, ⟨6, .gcOnly .lateStores⟩], none⟩
def f11r3Op5 : Oper := ⟨some 4, .alloc 29, 0, "law.go:19", #[], none⟩
def f11r3Op6 : Oper := ⟨none, .store 29 (.tmp 4) (.tmp 17), 0, "law.go:19", #[⟨5, .data⟩, ⟨3, .data⟩, ⟨1, .chain⟩, ⟨0, .phase⟩, ⟨1, .phase⟩, ⟨2, .phase⟩, ⟨3, .phase⟩, ⟨4, .textOnly .lateStores⟩, ⟨5, .phase⟩], none⟩
def f11r3Op7 : Oper := ⟨some 5, .assign (.tmp 18), 4, "law.go:19", #[⟨4, .data⟩, ⟨6, .chain⟩, ⟨0, .phase⟩, ⟨1, .phase⟩, ⟨2, .phase⟩, ⟨3, .phase⟩, ⟨4, .phase⟩, ⟨5, .phase⟩, ⟨6, .phase⟩], none⟩
def f11r3Ops : Array Oper := #[f11r3Op0, f11r3Op1, f11r3Op2, f11r3Op3, f11r3Op4, f11r3Op5, f11r3Op6, f11r3Op7]
set_option maxRecDepth 100000 in
set_option maxHeartbeats 2000000 in
theorem f11r3_r {Q : Exit → Act → World → Prop} {u w : World} {L : List Row} {z0 z1 z2 z3 z4 z5 z6 z7 z8 z9 z10 z11 z12 z13 z14 z15 z16 z17 z18 : Value} {zz : List Value} {e15 e16a : Array Value} {p16b : Bool} (hO : Own u w L) (q15 : Tryd.prog.built 22 [(0, .int IntKind.u8 1), (31, .int IntKind.u8 128)] = some e15) (r16 : ∀ w, Ret 13 #[.agg e15] w (.tuple #[.agg e16a, .bool p16b])) (fe16a_29 : Fit 29 e16a) (H : ∀ (n4 : Nat) (w' : World), Own u w' ((n4, e16a, 29) :: L) → Q .normal { tmps := List.toArray (z0 :: z1 :: z2 :: z3 :: (.pointer (some ⟨n4, 0, none⟩)) :: (.bool p16b) :: z6 :: z7 :: z8 :: z9 :: z10 :: z11 :: z12 :: z13 :: (.tuple #[.agg e16a, .bool p16b]) :: (.agg e15) :: (.tuple #[.agg e16a, .bool p16b]) :: (.agg e16a) :: (.bool p16b) :: zz), defers := [] } w') :
    (Code.region 3 f11r3Ops false).wp Tryd.prog Q { tmps := List.toArray (z0 :: z1 :: z2 :: z3 :: z4 :: z5 :: z6 :: z7 :: z8 :: z9 :: z10 :: z11 :: z12 :: z13 :: z14 :: z15 :: z16 :: z17 :: z18 :: zz), defers := [] } w := by
  refine wp_region_list (show wpList _ f11r3Ops _ [f11r3Op0, f11r3Op1, f11r3Op2, f11r3Op3, f11r3Op4, f11r3Op5, f11r3Op6, f11r3Op7] _ _ from ?_)
  refine l_val (.agg e15) (run_bd 22 _ rfl [(0, .int IntKind.u8 1), (31, .int IntKind.u8 128)] (by kernel_rfl) e15 q15 _) ?_
  refine l_call hO 13 #[.agg e15] (.tuple #[.agg e16a, .bool p16b]) r16 ?_
  intro w1 hO
  refine l_val (.tuple #[.agg e16a, .bool p16b]) (by kernel_rfl) ?_
  refine l_fr (Fr [z0, z1, z2, z3, z4, z5, z6, z7, z8, z9, z10, z11, z12, z13, .tuple #[.agg e16a, .bool p16b], A e15, .tuple #[.agg e16a, .bool p16b], z17, z18] zz) ?_
  refine l_val (.agg e16a) (by kernel_rfl) ?_
  refine l_val (.bool p16b) (by kernel_rfl) ?_
  refine l_new hO (ps [0, 0]) 29 (al29 rfl) (fit_pt _ _) ?_
  intro n4 w2 hO
  refine l_fr (Fr [z0, z1, z2, z3, D n4, z5, z6, z7, z8, z9, z10, z11, z12, z13, .tuple #[.agg e16a, .bool p16b], A e15, .tuple #[.agg e16a, .bool p16b], A e16a, .bool p16b] zz) ?_
  refine l_st hO 29 0 rfl e16a fe16a_29 ?_
  intro w3 hO
  refine l_val (.bool p16b) (by kernel_rfl) ?_
  exact l_fr _ (wpList_nil (H n4 _ hO))
def f11r9Op0 : Oper := ⟨some 27, .indexAddr 22 (.tmp 1) (.const (.int .i64 0)), 0, "law.go:25", #[], none⟩
def f11r9Op1 : Oper := ⟨some 28, .load 5 (.tmp 27), 5, "law.go:25", #[⟨0, .data⟩], none⟩
def f11r9Op2 : Oper := ⟨some 29, .binOp .eql 5 (.tmp 28) (.const (.int .u8 88)) 5, 4, "law.go:25", #[⟨1, .data⟩], none⟩
def f11r9Op3 : Oper := ⟨some 30, .move (.tmp 29), 4, "law.go:25", #[⟨2, .data⟩], none⟩
def f11r9Op4 : Oper := ⟨some 31, .move (.tmp 3), 4, "law.go:25", #[⟨3, .guard⟩], some (3, true)⟩
def f11r9Op5 : Oper := ⟨some 32, .pick (.tmp 30) (.tmp 31) (.const (.bool false)), 4, "law.go:25", #[⟨3, .data⟩, ⟨4, .data⟩], none⟩
def f11r9Op6 : Oper := ⟨some 33, .move (.tmp 32), 4, "law.go:25", #[⟨5, .data⟩, ⟨3, .chain⟩], none⟩
def f11r9Op7 : Oper := ⟨some 34, .move (.tmp 5), 4, "law.go:25", #[⟨6, .guard⟩], some (6, true)⟩
def f11r9Op8 : Oper := ⟨some 35, .unOp .not 4 (.tmp 34), 4, "law.go:25", #[⟨7, .data⟩, ⟨6, .guard⟩], some (6, true)⟩
def f11r9Op9 : Oper := ⟨some 36, .pick (.tmp 33) (.tmp 35) (.const (.bool false)), 4, "law.go:25", #[⟨6, .data⟩, ⟨8, .data⟩], none⟩
def f11r9Op10 : Oper := ⟨some 37, .move (.tmp 36), 4, "law.go:25", #[⟨9, .data⟩, ⟨6, .chain⟩], none⟩
def f11r9Op11 : Oper := ⟨some 38, .load 29 (.tmp 2), 29, "law.go:25", #[⟨10, .guard⟩], some (10, true)⟩
def f11r9Op12 : Oper := ⟨some 39, .call { callee := .value (.func 11), args := #[], argTypes := #[] }, 29, "law.go:25", #[⟨10, .chain⟩, ⟨10, .guard⟩], some (10, true)⟩
def f11r9Op13 : Oper := ⟨some 40, .call { callee := .value (.func 7), args := #[.tmp 38, .tmp 39], argTypes := #[29, 29] }, 4, "law.go:25", #[⟨11, .data⟩, ⟨12, .data⟩, ⟨12, .chain⟩, ⟨10, .guard⟩], some (10, true)⟩
def f11r9Op14 : Oper := ⟨some 41, .pick (.tmp 37) (.tmp 40) (.const (.bool false)), 4, "law.go:25", #[⟨10, .data⟩, ⟨13, .data⟩], none⟩
def f11r9Op15 : Oper := ⟨some 42, .move (.tmp 41), 4, "law.go:25", #[⟨14, .data⟩, ⟨13, .chain⟩], none⟩
def f11r9Op16 : Oper := ⟨some 43, .load 29 (.tmp 2), 29, "law.go:25", #[⟨15, .guard⟩], some (15, true)⟩
def f11r9Op17 : Oper := ⟨some 44, .call { callee := .value (.func 12), args := #[.tmp 43], argTypes := #[29] }, 22, "law.go:25", #[⟨16, .data⟩, ⟨15, .chain⟩, ⟨15, .guard⟩], some (15, true)⟩
def f11r9Op18 : Oper := ⟨some 45, .build 22 #[(0, .const (.int .u8 1))], 22, "law.go:25", #[⟨15, .guard⟩], some (15, true)⟩
def f11r9Op19 : Oper := ⟨some 46, .binOp .eql 22 (.tmp 44) (.tmp 45) 22, 4, "law.go:25", #[⟨17, .data⟩, ⟨18, .data⟩, ⟨15, .guard⟩], some (15, true)⟩
def f11r9Op20 : Oper := ⟨some 47, .pick (.tmp 42) (.tmp 46) (.const (.bool false)), 4, "law.go:25", #[⟨15, .data⟩, ⟨19, .data⟩], none⟩
def f11r9Op21 : Oper := ⟨some 48, .move (.tmp 47), 4, "law.go:25", #[⟨20, .data⟩, ⟨17, .chain⟩], none⟩
def f11r9Op22 : Oper := ⟨some 49, .call { callee := .value (.func 6), args := #[], argTypes := #[] }, 29, "law.go:25", #[⟨21, .chain⟩, ⟨21, .guard⟩], some (21, true)⟩
def f11r9Op23 : Oper := ⟨some 50, .call { callee := .value (.func 11), args := #[], argTypes := #[] }, 29, "law.go:25", #[⟨22, .chain⟩, ⟨21, .guard⟩], some (21, true)⟩
def f11r9Op24 : Oper := ⟨some 51, .call { callee := .value (.func 7), args := #[.tmp 49, .tmp 50], argTypes := #[29, 29] }, 4, "law.go:25", #[⟨22, .data⟩, ⟨23, .data⟩, ⟨23, .chain⟩, ⟨21, .guard⟩], some (21, true)⟩
def f11r9Op25 : Oper := ⟨some 52, .unOp .not 4 (.tmp 51), 4, "law.go:25", #[⟨24, .data⟩, ⟨21, .guard⟩], some (21, true)⟩
def f11r9Op26 : Oper := ⟨some 53, .pick (.tmp 48) (.tmp 52) (.const (.bool false)), 4, "law.go:25", #[⟨21, .data⟩, ⟨25, .data⟩], none⟩
def f11r9Op27 : Oper := ⟨some 0, .assign (.tmp 53), 4, "law.go:25", #[⟨26, .data⟩, ⟨24, .chain⟩, ⟨0, .phase⟩, ⟨1, .phase⟩, ⟨2, .phase⟩, ⟨3, .phase⟩, ⟨4, .phase⟩, ⟨5, .phase⟩, ⟨6, .phase⟩, ⟨7, .phase⟩, ⟨8, .phase⟩, ⟨9, .phase⟩, ⟨10, .phase⟩, ⟨11, .phase⟩, ⟨12, .phase⟩, ⟨13, .phase⟩, ⟨14, .phase⟩, ⟨15, .phase⟩, ⟨16, .phase⟩, ⟨17, .phase⟩, ⟨18, .phase⟩, ⟨19, .phase⟩, ⟨20, .phase⟩, ⟨21, .phase⟩, ⟨22, .phase⟩, ⟨23, .phase⟩, ⟨24, .phase⟩, ⟨25, .phase⟩, ⟨26, .phase⟩], none⟩
def f11r9Ops : Array Oper := #[f11r9Op0, f11r9Op1, f11r9Op2, f11r9Op3, f11r9Op4, f11r9Op5, f11r9Op6, f11r9Op7, f11r9Op8, f11r9Op9, f11r9Op10, f11r9Op11, f11r9Op12, f11r9Op13, f11r9Op14, f11r9Op15, f11r9Op16, f11r9Op17, f11r9Op18, f11r9Op19, f11r9Op20, f11r9Op21, f11r9Op22, f11r9Op23, f11r9Op24, f11r9Op25, f11r9Op26, f11r9Op27]
set_option maxRecDepth 100000 in
set_option maxHeartbeats 2000000 in
theorem f11r9_r {Q : Exit → Act → World → Prop} {u w : World} {L : List Row} {z0 z4 z6 z7 z8 z9 z10 z11 z12 z13 z14 z15 z16 z17 z18 z19 z20 z21 z22 z23 z24 z25 z26 z27 z28 z29 z30 z31 z32 z33 z34 z35 z36 z37 z38 z39 z40 z41 z42 z43 z44 z45 z46 z47 z48 z49 z50 z51 z52 z53 : Value} {b1 b2 : Nat} {c1 c2 : Array Value} {e39 e44 e45 e49 e50 : Array Value} {g28 : Nat} (hQ : ∀ c a w n v, Q (.panic c) (a.put (some n) v) w → Q (.panic c) a w) (hO : Own u w L) (i1 : Nat) (h1 : L[i1]? = some (b1, c1, 22)) (i2 : Nat) (h2 : L[i2]? = some (b2, c2, 29)) (v28 : c1[0]? = some (.int .u8 ((g28 : Nat) : Int))) (k29 : ∀ (a : Act) (w : World), a.eval (.tmp 28) = .int .u8 ((g28 : Nat) : Int) → (execOp a.eval f11r9Op2).run Tryd.prog w = .ok (.value (.bool true)) w) (r39 : ∀ w, Ret 11 #[] w (.agg e39)) (r40 : ∀ w, Ret 7 #[.agg c2, .agg e39] w (.bool true)) (r44 : ∀ w, Ret 12 #[.agg c2] w (.agg e44)) (q45 : Tryd.prog.built 22 [(0, .int IntKind.u8 1)] = some e45) (k46 : ∀ (a : Act) (w : World), a.eval (.tmp 44) = .agg e44 → a.eval (.tmp 45) = .agg e45 → (execOp a.eval f11r9Op19).run Tryd.prog w = .ok (.value (.bool true)) w) (r49 : ∀ w, Ret 6 #[] w (.agg e49)) (r50 : ∀ w, Ret 11 #[] w (.agg e50)) (r51 : ∀ w, Ret 7 #[.agg e49, .agg e50] w (.bool false)) (H : ∀ (w' : World), Own u w' (L) → Q .normal { tmps := List.toArray ((.bool true) :: (.pointer (some ⟨b1, 0, none⟩)) :: (.pointer (some ⟨b2, 0, none⟩)) :: (.bool true) :: z4 :: (.bool false) :: z6 :: z7 :: z8 :: z9 :: z10 :: z11 :: z12 :: z13 :: z14 :: z15 :: z16 :: z17 :: z18 :: z19 :: z20 :: z21 :: z22 :: z23 :: z24 :: z25 :: z26 :: (.pointer (some ⟨b1, 0, none⟩)) :: (.int .u8 ((g28 : Nat) : Int)) :: (.bool true) :: (.bool true) :: (.bool true) :: (.bool true) :: (.bool true) :: (.bool false) :: (.bool true) :: (.bool true) :: (.bool true) :: (.agg c2) :: (.agg e39) :: (.bool true) :: (.bool true) :: (.bool true) :: (.agg c2) :: (.agg e44) :: (.agg e45) :: (.bool true) :: (.bool true) :: (.bool true) :: (.agg e49) :: (.agg e50) :: (.bool false) :: (.bool true) :: (.bool true) :: []), defers := [] } w') :
    (Code.region 9 f11r9Ops true).wp Tryd.prog Q { tmps := List.toArray (z0 :: (.pointer (some ⟨b1, 0, none⟩)) :: (.pointer (some ⟨b2, 0, none⟩)) :: (.bool true) :: z4 :: (.bool false) :: z6 :: z7 :: z8 :: z9 :: z10 :: z11 :: z12 :: z13 :: z14 :: z15 :: z16 :: z17 :: z18 :: z19 :: z20 :: z21 :: z22 :: z23 :: z24 :: z25 :: z26 :: z27 :: z28 :: z29 :: z30 :: z31 :: z32 :: z33 :: z34 :: z35 :: z36 :: z37 :: z38 :: z39 :: z40 :: z41 :: z42 :: z43 :: z44 :: z45 :: z46 :: z47 :: z48 :: z49 :: z50 :: z51 :: z52 :: z53 :: []), defers := [] } w := by
  have fc2_29 := hO.fits i2 h2
  refine wp_region_held_drew (S := Has [(b1, c1, 22), (b2, c2, 29)]) (by kernel_rfl) ⟨hO.drew.row _ h1, hO.drew.row _ h2, trivial⟩ (fun hS => ?_)
  replace hO := hO.drew
  refine d_tk 0 f11r9Op0 (.pointer (some ⟨b1, 0, none⟩)) hQ (y_val (fun _ => by kernel_rfl)) hS ?_
  refine d_tk 1 f11r9Op1 (.int .u8 ((g28 : Nat) : Int)) hQ (y_c8 (fun _ h => h.1) v28) hS ?_
  refine d_tk 2 f11r9Op2 (.bool true) hQ (y_val (fun _ => k29 _ _ (by kernel_rfl))) hS ?_
  refine d_fr (ls 28 7) (Fr [z0, D b1, D b2, .bool true, z4, .bool false, z6, z7, z8, z9, z10, z11, z12, z13, z14, z15, z16, z17, z18, z19, z20, z21, z22, z23, z24, z25, z26, .pointer (some ⟨b1, 0, none⟩), .int .u8 ((g28 : Nat) : Int), .bool true, z30, z31, z32, z33, z34, z35, z36, z37, z38, z39, z40, z41, z42, z43, z44, z45, z46, z47, z48, z49, z50, z51, z52, z53] []) ?_
  refine d_tk 3 f11r9Op3 (.bool true) hQ (y_val (fun _ => by kernel_rfl)) hS ?_
  refine d_tk 4 f11r9Op4 (.bool true) hQ (y_val (fun _ => by kernel_rfl)) hS ?_
  refine d_tk 5 f11r9Op5 (.bool true) hQ (y_val (fun _ => by kernel_rfl)) hS ?_
  refine d_fr (ls 28 63) (Fr [z0, D b1, D b2, .bool true, z4, .bool false, z6, z7, z8, z9, z10, z11, z12, z13, z14, z15, z16, z17, z18, z19, z20, z21, z22, z23, z24, z25, z26, .pointer (some ⟨b1, 0, none⟩), .int .u8 ((g28 : Nat) : Int), .bool true, .bool true, .bool true, .bool true, z33, z34, z35, z36, z37, z38, z39, z40, z41, z42, z43, z44, z45, z46, z47, z48, z49, z50, z51, z52, z53] []) ?_
  refine d_tk 6 f11r9Op6 (.bool true) hQ (y_val (fun _ => by kernel_rfl)) hS ?_
  refine d_tk 7 f11r9Op7 (.bool false) hQ (y_val (fun _ => by kernel_rfl)) hS ?_
  refine d_tk 8 f11r9Op8 (.bool true) hQ (y_val (fun _ => by kernel_rfl)) hS ?_
  refine d_fr (ls 28 511) (Fr [z0, D b1, D b2, .bool true, z4, .bool false, z6, z7, z8, z9, z10, z11, z12, z13, z14, z15, z16, z17, z18, z19, z20, z21, z22, z23, z24, z25, z26, .pointer (some ⟨b1, 0, none⟩), .int .u8 ((g28 : Nat) : Int), .bool true, .bool true, .bool true, .bool true, .bool true, .bool false, .bool true, z36, z37, z38, z39, z40, z41, z42, z43, z44, z45, z46, z47, z48, z49, z50, z51, z52, z53] []) ?_
  refine d_tk 9 f11r9Op9 (.bool true) hQ (y_val (fun _ => by kernel_rfl)) hS ?_
  refine d_tk 10 f11r9Op10 (.bool true) hQ (y_val (fun _ => by kernel_rfl)) hS ?_
  refine d_tk 11 f11r9Op11 (.agg c2) hQ (y_l 29 (fun _ h => h.2.1) fc2_29 Tryd.underlying29) hS ?_
  refine d_fr (ls 28 4095) (Fr [z0, D b1, D b2, .bool true, z4, .bool false, z6, z7, z8, z9, z10, z11, z12, z13, z14, z15, z16, z17, z18, z19, z20, z21, z22, z23, z24, z25, z26, .pointer (some ⟨b1, 0, none⟩), .int .u8 ((g28 : Nat) : Int), .bool true, .bool true, .bool true, .bool true, .bool true, .bool false, .bool true, .bool true, .bool true, A c2, z39, z40, z41, z42, z43, z44, z45, z46, z47, z48, z49, z50, z51, z52, z53] []) ?_
  refine d_one 12 f11r9Op12 (ls 28 8191) (fun K hK => ?_)
  refine k_call hK hO (fun _ hO => ⟨hO.row _ h1, hO.row _ h2, trivial⟩) 11 #[] (.agg e39) r39 ?_
  intro w1 hO
  refine d_one 13 f11r9Op13 (ls 28 16383) (fun K hK => ?_)
  refine k_call hK hO (fun _ hO => ⟨hO.row _ h1, hO.row _ h2, trivial⟩) 7 #[.agg c2, .agg e39] (.bool true) r40 ?_
  intro w2 hO
  have hS : Has [(b1, c1, 22), (b2, c2, 29)] w2 := ⟨hO.row _ h1, hO.row _ h2, trivial⟩
  refine d_tk 14 f11r9Op14 (.bool true) hQ (y_val (fun _ => by kernel_rfl)) hS ?_
  refine d_tk 15 f11r9Op15 (.bool true) hQ (y_val (fun _ => by kernel_rfl)) hS ?_
  refine d_tk 16 f11r9Op16 (.agg c2) hQ (y_l 29 (fun _ h => h.2.1) fc2_29 Tryd.underlying29) hS ?_
  refine d_fr (ls 28 131071) (Fr [z0, D b1, D b2, .bool true, z4, .bool false, z6, z7, z8, z9, z10, z11, z12, z13, z14, z15, z16, z17, z18, z19, z20, z21, z22, z23, z24, z25, z26, .pointer (some ⟨b1, 0, none⟩), .int .u8 ((g28 : Nat) : Int), .bool true, .bool true, .bool true, .bool true, .bool true, .bool false, .bool true, .bool true, .bool true, A c2, A e39, .bool true, .bool true, .bool true, A c2, z44, z45, z46, z47, z48, z49, z50, z51, z52, z53] []) ?_
  refine d_tk 18 f11r9Op18 (.agg e45) hQ (y_val (run_bd 22 _ rfl [(0, .int IntKind.u8 1)] (by kernel_rfl) e45 q45)) hS ?_
  refine d_fr (ls 28 393215) (Fr [z0, D b1, D b2, .bool true, z4, .bool false, z6, z7, z8, z9, z10, z11, z12, z13, z14, z15, z16, z17, z18, z19, z20, z21, z22, z23, z24, z25, z26, .pointer (some ⟨b1, 0, none⟩), .int .u8 ((g28 : Nat) : Int), .bool true, .bool true, .bool true, .bool true, .bool true, .bool false, .bool true, .bool true, .bool true, A c2, A e39, .bool true, .bool true, .bool true, A c2, z44, A e45, z46, z47, z48, z49, z50, z51, z52, z53] []) ?_
  refine d_one 17 f11r9Op17 (ls 28 524287) (fun K hK => ?_)
  refine k_call hK hO (fun _ hO => ⟨hO.row _ h1, hO.row _ h2, trivial⟩) 12 #[.agg c2] (.agg e44) r44 ?_
  intro w3 hO
  have hS : Has [(b1, c1, 22), (b2, c2, 29)] w3 := ⟨hO.row _ h1, hO.row _ h2, trivial⟩
  refine d_tk 19 f11r9Op19 (.bool true) hQ (y_val (fun _ => k46 _ _ (by kernel_rfl) (by kernel_rfl))) hS ?_
  refine d_tk 20 f11r9Op20 (.bool true) hQ (y_val (fun _ => by kernel_rfl)) hS ?_
  refine d_tk 21 f11r9Op21 (.bool true) hQ (y_val (fun _ => by kernel_rfl)) hS ?_
  refine d_fr (ls 28 4194303) (Fr [z0, D b1, D b2, .bool true, z4, .bool false, z6, z7, z8, z9, z10, z11, z12, z13, z14, z15, z16, z17, z18, z19, z20, z21, z22, z23, z24, z25, z26, .pointer (some ⟨b1, 0, none⟩), .int .u8 ((g28 : Nat) : Int), .bool true, .bool true, .bool true, .bool true, .bool true, .bool false, .bool true, .bool true, .bool true, A c2, A e39, .bool true, .bool true, .bool true, A c2, A e44, A e45, .bool true, .bool true, .bool true, z49, z50, z51, z52, z53] []) ?_
  refine d_one 22 f11r9Op22 (ls 28 8388607) (fun K hK => ?_)
  refine k_call hK hO (fun _ hO => ⟨hO.row _ h1, hO.row _ h2, trivial⟩) 6 #[] (.agg e49) r49 ?_
  intro w4 hO
  refine d_one 23 f11r9Op23 (ls 28 16777215) (fun K hK => ?_)
  refine k_call hK hO (fun _ hO => ⟨hO.row _ h1, hO.row _ h2, trivial⟩) 11 #[] (.agg e50) r50 ?_
  intro w5 hO
  refine d_one 24 f11r9Op24 (ls 28 33554431) (fun K hK => ?_)
  refine k_call hK hO (fun _ hO => ⟨hO.row _ h1, hO.row _ h2, trivial⟩) 7 #[.agg e49, .agg e50] (.bool false) r51 ?_
  intro w6 hO
  have hS : Has [(b1, c1, 22), (b2, c2, 29)] w6 := ⟨hO.row _ h1, hO.row _ h2, trivial⟩
  refine d_tk 25 f11r9Op25 (.bool true) hQ (y_val (fun _ => by kernel_rfl)) hS ?_
  refine d_tk 26 f11r9Op26 (.bool true) hQ (y_val (fun _ => by kernel_rfl)) hS ?_
  refine d_tk 27 f11r9Op27 (.bool true) hQ (y_val (fun _ => by kernel_rfl)) hS ?_
  exact d_fr (ls 28 268435455) _ (wpAnyH_done (by kernel_rfl) (H  _ hO) _)
theorem eql_run11 (a : Act) (w : World) (g : Nat) (hg : g = 88) (h0 : a.eval (.tmp 28) = .int .u8 ((g : Nat) : Int)) : (execOp a.eval f11r9Op2).run Tryd.prog w = .ok (.value (.bool true)) w := by
  unfold execOp f11r9Op2
  simp only [h0]
  have e0 : a.eval (.const (.int .u8 88)) = .int .u8 88 := rfl
  have e : (((g : Nat) : Int) == 88) = true := by rw [Bool.eq_iff_iff]; simp; omega
  go_simp
set_option maxRecDepth 100000 in
set_option maxHeartbeats 4000000 in
theorem awake_c (w : World) : Ret 4 #[] w (.bool true) := by
  go_enter Tryd.func4, Tryd.ntmps4
  have hO := Own.start w
  go_upto_region 0 with (fail)
  refine f11r0_r hO ?_
  intro w1 hO
  replace hO : Own w w1 [] := hO
  go_upto_region 1 with (fail)
  refine f11r1_r hO base_p bytes_base (fit_by _) ?_
  intro n1 w2 hO
  replace hO : Own w w2 [(n1, vals .u8 32 (byt yN), 22)] := hO
  go_upto_region 2 with (fail)
  refine f11r2_r hO (e10 := vals .u8 32 (cb [1])) (by kernel_rfl) dec_c1 (fit_pt _ _) ?_
  intro n2 w3 hO
  replace hO : Own w w3 [(n2, pt zero7, 29), (n1, vals .u8 32 (byt yN), 22)] := hO
  go_upto_region 3 with (fail)
  refine f11r3_r hO (e15 := vals .u8 32 ob) (by kernel_rfl) dec_c2 (fit_pt _ _) ?_
  intro n4 w4 hO
  replace hO : Own w w4 [(n4, pt zero7, 29), (n2, pt zero7, 29), (n1, vals .u8 32 (byt yN), 22)] := hO
  go_wp2_with fail
  go_loopw [6] (fun i wr => ∃ k : Nat, 1 ≤ k ∧ k ≤ 32 ∧ i = .int .i64 k ∧ Own w wr [(n4, pt zero7, 29), (n2, pt zero7, 29), (n1, vals .u8 32 (byt yN), 22)]) (fun i _ => (32 - intOf i).toNat)
  case atStart => exact ⟨1, by omega, by omega, rfl, hO⟩
  case round =>
    clear hO
    obtain ⟨k, hk1, hk, rfl, hO⟩ := hrel
    by_cases hlt : k < 32
    · have hlt' : (k : Int) < 32 := by omega
      have hk0 : (0 : Int) ≤ (k : Int) := by omega
      have hv : byt yN k = 102 := by have h := base_bytes.2 ⟨k - 1, by omega⟩; rw [show k - 1 + 1 = k by omega] at h; exact h
      have c0 := ((hO.row 2 rfl).cell k).trans (vals_get _ _ _ _ hlt)
      rw [hv] at c0
      clear hv
      go_wp2_with fail
      go_roundw
      case rel => exact ⟨k + 1, by omega, by omega, by go_num, hO⟩
      case measure => simp [intOf]; omega
    · have hk6 : k = 32 := by omega
      subst hk6
      go_upto_region 9 with (fail)
      refine f11r9_r (fun _ _ _ _ _ h => h) hO 2 rfl 1 rfl (get_by _ 0 (by omega)) (fun a w h => eql_run11 a w _ base_bytes.1 h) zero_c (same_t ok_zero7 ok_zero7 rfl) bytes_zero (e45 := vals .u8 32 (cb [1])) (by kernel_rfl) (fun a w h1 h2 => eql_c _ _ _ _ true (by decide +kernel) w rfl h1 h2) base_p zero_c (same_f ok_base ok_zero7 base_ne) ?_
      intro w5 hO
      replace hO : Own w w5 [(n4, pt zero7, 29), (n2, pt zero7, 29), (n1, vals .u8 32 (byt yN), 22)] := hO
      go_wp2_with fail
      refine bodyPost_ret (v := .bool true) (results_tmp Tryd.results4 _ _ _) rfl ⟨rfl, hO.low⟩
end Go.Proofs.YtalnkcijebdpbaaDoor

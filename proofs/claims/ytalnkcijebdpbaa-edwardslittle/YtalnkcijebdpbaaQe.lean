/- EdwardsLittle: the walk. Any byte; no other condition. -/
import Derived.Test.YtalnkcijebdpbaaQ0
namespace Go.Proofs.Ytalnkcijebdpbaa
open F Go.RowKit

theorem wrap_u8s (n : Nat) (h : n < 256) : IntKind.u8.wrap ((n : Nat) : Int) = ((n : Nat) : Int) := by simp [IntKind.wrap, IntKind.bits, IntKind.signed]; omega
def f9r0Op0 : Oper := ⟨some 2, .assign (.const (.bool false)), 4, "law.go:129", #[], none⟩
def f9r0Ops : Array Oper := #[f9r0Op0]
set_option maxRecDepth 100000 in
set_option maxHeartbeats 2000000 in
theorem f9r0_r {Q : Exit → Act → World → Prop} {u w : World} {L : List Row} {z0 z1 z2 : Value} {zz : List Value} (hO : Own u w L) (H : ∀ (w' : World), Own u w' (L) → Q .normal { tmps := List.toArray (z0 :: z1 :: (.bool false) :: zz), defers := [] } w') :
    (Code.region 0 f9r0Ops false).wp Try.prog Q { tmps := List.toArray (z0 :: z1 :: z2 :: zz), defers := [] } w := by
  refine wp_region_list (show wpList _ f9r0Ops _ [f9r0Op0] _ _ from ?_)
  refine l_val (.bool false) (by kernel_rfl) ?_
  exact l_fr _ (wpList_nil (H  _ hO))
def f9r1Op0 : Oper := ⟨some 7, .call { callee := .value (.func 11), args := #[], argTypes := #[] }, 4, "law.go:130", #[], none⟩
def f9r1Op1 : Oper := ⟨some 3, .assign (.tmp 7), 4, "law.go:130", #[⟨0, .data⟩, ⟨0, .chain⟩, ⟨0, .phase⟩], none⟩
def f9r1Ops : Array Oper := #[f9r1Op0, f9r1Op1]
set_option maxRecDepth 100000 in
set_option maxHeartbeats 2000000 in
theorem f9r1_r {Q : Exit → Act → World → Prop} {u w : World} {L : List Row} {z0 z1 z2 z3 z4 z5 z6 z7 : Value} {zz : List Value} {p7 : Bool} (hO : Own u w L) (r7 : ∀ w, Ret 11 #[] w (.bool p7)) (H : ∀ (w' : World), Own u w' (L) → Q .normal { tmps := List.toArray (z0 :: z1 :: z2 :: (.bool p7) :: z4 :: z5 :: z6 :: (.bool p7) :: zz), defers := [] } w') :
    (Code.region 1 f9r1Ops false).wp Try.prog Q { tmps := List.toArray (z0 :: z1 :: z2 :: z3 :: z4 :: z5 :: z6 :: z7 :: zz), defers := [] } w := by
  refine wp_region_list (show wpList _ f9r1Ops _ [f9r1Op0, f9r1Op1] _ _ from ?_)
  refine l_call hO 11 #[] (.bool p7) r7 ?_
  intro w1 hO
  refine l_val (.bool p7) (by kernel_rfl) ?_
  exact l_fr _ (wpList_nil (H  _ hO))
def f9r2Op0 : Oper := ⟨some 8, .build 22 #[], 22, "law.go:131", #[], none⟩
def f9r2Op1 : Oper := ⟨some 4, .alloc 22, 0, "law.go:131", #[], none⟩
def f9r2Op2 : Oper := ⟨none, .store 22 (.tmp 4) (.tmp 8), 0, "law.go:131", #[⟨1, .data⟩, ⟨0, .data⟩, ⟨0, .phase⟩, ⟨1, .phase⟩], none⟩
def f9r2Ops : Array Oper := #[f9r2Op0, f9r2Op1, f9r2Op2]
set_option maxRecDepth 100000 in
set_option maxHeartbeats 2000000 in
theorem f9r2_r {Q : Exit → Act → World → Prop} {u w : World} {L : List Row} {z0 z1 z2 z3 z4 z5 z6 z7 z8 : Value} {zz : List Value} {e8 : Array Value} (hO : Own u w L) (q8 : Try.prog.built 22 [] = some e8) (fe8_22 : Fit 22 e8) (H : ∀ (n4 : Nat) (w' : World), Own u w' ((n4, e8, 22) :: L) → Q .normal { tmps := List.toArray (z0 :: z1 :: z2 :: z3 :: (.pointer (some ⟨n4, 0, none⟩)) :: z5 :: z6 :: z7 :: (.agg e8) :: zz), defers := [] } w') :
    (Code.region 2 f9r2Ops false).wp Try.prog Q { tmps := List.toArray (z0 :: z1 :: z2 :: z3 :: z4 :: z5 :: z6 :: z7 :: z8 :: zz), defers := [] } w := by
  refine wp_region_list (show wpList _ f9r2Ops _ [f9r2Op0, f9r2Op1, f9r2Op2] _ _ from ?_)
  refine l_val (.agg e8) (run_bd 22 _ rfl [] (by kernel_rfl) e8 q8 _) ?_
  refine l_new hO (vals .u8 32 (fun _ => 0)) 22 (al22 rfl) (fit_by _) ?_
  intro n4 w1 hO
  refine l_st hO 22 0 rfl e8 fe8_22 ?_
  intro w2 hO
  exact l_fr _ (wpList_nil (H n4 _ hO))
def f9r5Op0 : Oper := ⟨some 13, .indexAddr 22 (.tmp 4) (.const (.int .i64 31)), 0, "law.go:134", #[], none⟩
def f9r5Op1 : Oper := ⟨none, .store 5 (.tmp 13) (.const (.int .u8 128)), 0, "law.go:134", #[⟨0, .data⟩], none⟩
def f9r5Ops : Array Oper := #[f9r5Op0, f9r5Op1]
set_option maxRecDepth 100000 in
set_option maxHeartbeats 2000000 in
theorem f9r5_r {Q : Exit → Act → World → Prop} {u w : World} {L : List Row} {z0 z1 z2 z3 z5 z6 z7 z8 z9 z10 z11 z12 z13 : Value} {zz : List Value} {b4 : Nat} {c4 : Array Value} {e901 : Array Value} {g901 : Nat} (hO : Own u w L) (i4 : Nat) (h4 : L[i4]? = some (b4, c4, 22)) (v901 : c4[31]? = some (.int .u8 ((g901 : Nat) : Int))) (s1 : c4.setIfInBounds 31 (.int .u8 ((128 : Nat) : Int)) = e901) (fe901_22 : Fit 22 e901) (H : ∀ (w' : World), Own u w' ((L.set i4 (b4, e901, 22))) → Q .normal { tmps := List.toArray (z0 :: z1 :: z2 :: z3 :: (.pointer (some ⟨b4, 0, none⟩)) :: z5 :: z6 :: z7 :: z8 :: z9 :: z10 :: z11 :: z12 :: (.pointer (some ⟨b4, 31, none⟩)) :: zz), defers := [] } w') :
    (Code.region 5 f9r5Ops false).wp Try.prog Q { tmps := List.toArray (z0 :: z1 :: z2 :: z3 :: (.pointer (some ⟨b4, 0, none⟩)) :: z5 :: z6 :: z7 :: z8 :: z9 :: z10 :: z11 :: z12 :: z13 :: zz), defers := [] } w := by
  refine wp_region_list (show wpList _ f9r5Ops _ [f9r5Op0, f9r5Op1] _ _ from ?_)
  refine l_val (.pointer (some ⟨b4, 31, none⟩)) (by kernel_rfl) ?_
  refine l_stc hO i4 h4 128 v901 s1 fe901_22 ?_
  intro w1 hO
  exact l_fr _ (wpList_nil (H  _ hO))
def f9r7Op0 : Oper := ⟨some 16, .indexAddr 22 (.tmp 4) (.const (.int .i64 0)), 0, "law.go:136", #[], none⟩
def f9r7Op1 : Oper := ⟨none, .store 5 (.tmp 16) (.const (.int .u8 1)), 0, "law.go:136", #[⟨0, .data⟩], none⟩
def f9r7Ops : Array Oper := #[f9r7Op0, f9r7Op1]
set_option maxRecDepth 100000 in
set_option maxHeartbeats 2000000 in
theorem f9r7_r {Q : Exit → Act → World → Prop} {u w : World} {L : List Row} {z0 z1 z2 z3 z5 z6 z7 z8 z9 z10 z11 z12 z13 z14 z15 z16 : Value} {zz : List Value} {b4 : Nat} {c4 : Array Value} {e901 : Array Value} {g901 : Nat} (hO : Own u w L) (i4 : Nat) (h4 : L[i4]? = some (b4, c4, 22)) (v901 : c4[0]? = some (.int .u8 ((g901 : Nat) : Int))) (s1 : c4.setIfInBounds 0 (.int .u8 ((1 : Nat) : Int)) = e901) (fe901_22 : Fit 22 e901) (H : ∀ (w' : World), Own u w' ((L.set i4 (b4, e901, 22))) → Q .normal { tmps := List.toArray (z0 :: z1 :: z2 :: z3 :: (.pointer (some ⟨b4, 0, none⟩)) :: z5 :: z6 :: z7 :: z8 :: z9 :: z10 :: z11 :: z12 :: z13 :: z14 :: z15 :: (.pointer (some ⟨b4, 0, none⟩)) :: zz), defers := [] } w') :
    (Code.region 7 f9r7Ops false).wp Try.prog Q { tmps := List.toArray (z0 :: z1 :: z2 :: z3 :: (.pointer (some ⟨b4, 0, none⟩)) :: z5 :: z6 :: z7 :: z8 :: z9 :: z10 :: z11 :: z12 :: z13 :: z14 :: z15 :: z16 :: zz), defers := [] } w := by
  refine wp_region_list (show wpList _ f9r7Ops _ [f9r7Op0, f9r7Op1] _ _ from ?_)
  refine l_val (.pointer (some ⟨b4, 0, none⟩)) (by kernel_rfl) ?_
  refine l_stc hO i4 h4 1 v901 s1 fe901_22 ?_
  intro w1 hO
  exact l_fr _ (wpList_nil (H  _ hO))
def f9r9Op0 : Oper := ⟨some 19, .build 22 #[(0, .const (.int .u8 1))], 22, "law.go:138", #[], none⟩
def f9r9Op1 : Oper := ⟨some 20, .call { callee := .value (.func 33), args := #[.tmp 19], argTypes := #[22] }, 27, "law.go:138", #[⟨0, .data⟩], none⟩
def f9r9Op2 : Oper := ⟨some 21, .call { callee := .value (.func 35), args := #[.tmp 20], argTypes := #[27] }, 27, "law.go:138", #[⟨1, .data⟩, ⟨1, .chain⟩], none⟩
def f9r9Op3 : Oper := ⟨some 22, .call { callee := .value (.func 16), args := #[.tmp 21], argTypes := #[27] }, 22, "law.go:138", #[⟨2, .data⟩, ⟨2, .chain⟩], none⟩
def f9r9Op4 : Oper := ⟨none, .store 22 (.tmp 4) (.tmp 22), 0, "law.go:138", #[⟨3, .data⟩, ⟨3, .chain⟩, ⟨0, .phase⟩, ⟨1, .phase⟩, ⟨2, .phase⟩, ⟨3, .phase⟩], none⟩
def f9r9Ops : Array Oper := #[f9r9Op0, f9r9Op1, f9r9Op2, f9r9Op3, f9r9Op4]
set_option maxRecDepth 100000 in
set_option maxHeartbeats 2000000 in
theorem f9r9_r {Q : Exit → Act → World → Prop} {u w : World} {L : List Row} {z0 z1 z2 z3 z5 z6 z7 z8 z9 z10 z11 z12 z13 z14 z15 z16 z17 z18 z19 z20 z21 z22 : Value} {zz : List Value} {b4 : Nat} {c4 : Array Value} {e19 e20 e21 e22 : Array Value} (hO : Own u w L) (i4 : Nat) (h4 : L[i4]? = some (b4, c4, 22)) (q19 : Try.prog.built 22 [(0, .int IntKind.u8 1)] = some e19) (r20 : ∀ w, Ret 33 #[.agg e19] w (.agg e20)) (r21 : ∀ w, Ret 35 #[.agg e20] w (.agg e21)) (r22 : ∀ w, Ret 16 #[.agg e21] w (.agg e22)) (fe22_22 : Fit 22 e22) (H : ∀ (w' : World), Own u w' ((L.set i4 (b4, e22, 22))) → Q .normal { tmps := List.toArray (z0 :: z1 :: z2 :: z3 :: (.pointer (some ⟨b4, 0, none⟩)) :: z5 :: z6 :: z7 :: z8 :: z9 :: z10 :: z11 :: z12 :: z13 :: z14 :: z15 :: z16 :: z17 :: z18 :: (.agg e19) :: (.agg e20) :: (.agg e21) :: (.agg e22) :: zz), defers := [] } w') :
    (Code.region 9 f9r9Ops false).wp Try.prog Q { tmps := List.toArray (z0 :: z1 :: z2 :: z3 :: (.pointer (some ⟨b4, 0, none⟩)) :: z5 :: z6 :: z7 :: z8 :: z9 :: z10 :: z11 :: z12 :: z13 :: z14 :: z15 :: z16 :: z17 :: z18 :: z19 :: z20 :: z21 :: z22 :: zz), defers := [] } w := by
  refine wp_region_list (show wpList _ f9r9Ops _ [f9r9Op0, f9r9Op1, f9r9Op2, f9r9Op3, f9r9Op4] _ _ from ?_)
  refine l_val (.agg e19) (run_bd 22 _ rfl [(0, .int IntKind.u8 1)] (by kernel_rfl) e19 q19 _) ?_
  refine l_call hO 33 #[.agg e19] (.agg e20) r20 ?_
  intro w1 hO
  refine l_call hO 35 #[.agg e20] (.agg e21) r21 ?_
  intro w2 hO
  refine l_fr (Fr [z0, z1, z2, z3, D b4, z5, z6, z7, z8, z9, z10, z11, z12, z13, z14, z15, z16, z17, z18, A e19, A e20, A e21, z22] zz) ?_
  refine l_call hO 16 #[.agg e21] (.agg e22) r22 ?_
  intro w3 hO
  refine l_st hO 22 i4 h4 e22 fe22_22 ?_
  intro w4 hO
  exact l_fr _ (wpList_nil (H  _ hO))
def f9r10Op0 : Oper := ⟨some 24, .load 22 (.tmp 4), 22, "law.go:140", #[], none⟩
def f9r10Op1 : Oper := ⟨some 25, .call { callee := .value (.func 12), args := #[.tmp 24], argTypes := #[22] }, 30, "law.go:140", #[⟨0, .data⟩], none⟩
def f9r10Op2 : Oper := ⟨some 23, .move (.tmp 25), 30, "law.go:140", #[⟨1, .data⟩], none⟩
def f9r10Op3 : Oper := ⟨some 26, .extract (.tmp 23) 0, 29, "law.go:140", #[⟨2, .data⟩], none⟩
def f9r10Op4 : Oper := ⟨some 27, .extract (.tmp 23) 1, 4, "law.go:140", #[⟨2, .data⟩, ⟨6, .gcOnly .lateStores⟩], none⟩
def f9r10Op5 : Oper := ⟨some 5, .alloc 29, 0, "law.go:140", #[], none⟩
def f9r10Op6 : Oper := ⟨none, .store 29 (.tmp 5) (.tmp 26), 0, "law.go:140", #[⟨5, .data⟩, ⟨3, .data⟩, ⟨1, .chain⟩, ⟨0, .phase⟩, ⟨1, .phase⟩, ⟨2, .phase⟩, ⟨3, .phase⟩, ⟨4, .textOnly .lateStores⟩, ⟨5, .phase⟩], none⟩
def f9r10Op7 : Oper := ⟨some 6, .assign (.tmp 27), 4, "law.go:140", #[⟨4, .data⟩, ⟨6, .chain⟩, ⟨0, .phase⟩, ⟨1, .phase⟩, ⟨2, .phase⟩, ⟨3, .phase⟩, ⟨4, .phase⟩, ⟨5, .phase⟩, ⟨6, .phase⟩], none⟩
def f9r10Ops : Array Oper := #[f9r10Op0, f9r10Op1, f9r10Op2, f9r10Op3, f9r10Op4, f9r10Op5, f9r10Op6, f9r10Op7]
set_option maxRecDepth 100000 in
set_option maxHeartbeats 2000000 in
theorem f9r10_r {Q : Exit → Act → World → Prop} {u w : World} {L : List Row} {z0 z1 z2 z3 z5 z6 z7 z8 z9 z10 z11 z12 z13 z14 z15 z16 z17 z18 z19 z20 z21 z22 z23 z24 z25 z26 z27 : Value} {zz : List Value} {b4 : Nat} {c4 : Array Value} {e25a : Array Value} {p25b : Bool} (hO : Own u w L) (i4 : Nat) (h4 : L[i4]? = some (b4, c4, 22)) (r25 : ∀ w, Ret 12 #[.agg c4] w (.tuple #[.agg e25a, .bool p25b])) (fe25a_29 : Fit 29 e25a) (H : ∀ (n5 : Nat) (w' : World), Own u w' ((n5, e25a, 29) :: L) → Q .normal { tmps := List.toArray (z0 :: z1 :: z2 :: z3 :: (.pointer (some ⟨b4, 0, none⟩)) :: (.pointer (some ⟨n5, 0, none⟩)) :: (.bool p25b) :: z7 :: z8 :: z9 :: z10 :: z11 :: z12 :: z13 :: z14 :: z15 :: z16 :: z17 :: z18 :: z19 :: z20 :: z21 :: z22 :: (.tuple #[.agg e25a, .bool p25b]) :: (.agg c4) :: (.tuple #[.agg e25a, .bool p25b]) :: (.agg e25a) :: (.bool p25b) :: zz), defers := [] } w') :
    (Code.region 10 f9r10Ops false).wp Try.prog Q { tmps := List.toArray (z0 :: z1 :: z2 :: z3 :: (.pointer (some ⟨b4, 0, none⟩)) :: z5 :: z6 :: z7 :: z8 :: z9 :: z10 :: z11 :: z12 :: z13 :: z14 :: z15 :: z16 :: z17 :: z18 :: z19 :: z20 :: z21 :: z22 :: z23 :: z24 :: z25 :: z26 :: z27 :: zz), defers := [] } w := by
  refine wp_region_list (show wpList _ f9r10Ops _ [f9r10Op0, f9r10Op1, f9r10Op2, f9r10Op3, f9r10Op4, f9r10Op5, f9r10Op6, f9r10Op7] _ _ from ?_)
  refine l_ld hO 22 i4 h4 Try.underlying22 ?_
  refine l_call hO 12 #[.agg c4] (.tuple #[.agg e25a, .bool p25b]) r25 ?_
  intro w1 hO
  refine l_val (.tuple #[.agg e25a, .bool p25b]) (by kernel_rfl) ?_
  refine l_fr (Fr [z0, z1, z2, z3, D b4, z5, z6, z7, z8, z9, z10, z11, z12, z13, z14, z15, z16, z17, z18, z19, z20, z21, z22, .tuple #[.agg e25a, .bool p25b], A c4, .tuple #[.agg e25a, .bool p25b], z26, z27] zz) ?_
  refine l_val (.agg e25a) (by kernel_rfl) ?_
  refine l_val (.bool p25b) (by kernel_rfl) ?_
  refine l_new hO (ps [0, 0]) 29 (al29 rfl) (fit_pt _ _) ?_
  intro n5 w2 hO
  refine l_fr (Fr [z0, z1, z2, z3, D b4, D n5, z6, z7, z8, z9, z10, z11, z12, z13, z14, z15, z16, z17, z18, z19, z20, z21, z22, .tuple #[.agg e25a, .bool p25b], A c4, .tuple #[.agg e25a, .bool p25b], A e25a, .bool p25b] zz) ?_
  refine l_st hO 29 0 rfl e25a fe25a_29 ?_
  intro w3 hO
  refine l_val (.bool p25b) (by kernel_rfl) ?_
  exact l_fr _ (wpList_nil (H n5 _ hO))
def f9r11tOp0 : Oper := ⟨some 28, .move (.tmp 3), 4, "law.go:141", #[], none⟩
def f9r11tOp1 : Oper := ⟨some 29, .move (.tmp 28), 4, "law.go:141", #[⟨0, .data⟩], none⟩
def f9r11tOp2 : Oper := ⟨some 30, .move (.tmp 6), 4, "law.go:141", #[⟨1, .guard⟩], some (1, true)⟩
def f9r11tOp3 : Oper := ⟨some 31, .pick (.tmp 29) (.tmp 30) (.const (.bool false)), 4, "law.go:141", #[⟨1, .data⟩, ⟨2, .data⟩], none⟩
def f9r11tOp4 : Oper := ⟨some 32, .move (.tmp 31), 4, "law.go:141", #[⟨3, .data⟩, ⟨1, .chain⟩], none⟩
def f9r11tOp5 : Oper := ⟨some 33, .build 22 #[(0, .const (.int .u8 4))], 22, "law.go:141", #[⟨4, .guard⟩], some (4, true)⟩
def f9r11tOp6 : Oper := ⟨some 34, .load 29 (.tmp 5), 29, "law.go:141", #[⟨4, .guard⟩], some (4, true)⟩
def f9r11tOp7 : Oper := ⟨some 35, .call { callee := .value (.func 30), args := #[.tmp 33, .tmp 34], argTypes := #[22, 29] }, 29, "law.go:141", #[⟨5, .data⟩, ⟨6, .data⟩, ⟨4, .chain⟩, ⟨4, .guard⟩], some (4, true)⟩
def f9r11tOp8 : Oper := ⟨some 36, .call { callee := .value (.func 19), args := #[], argTypes := #[] }, 29, "law.go:141", #[⟨7, .chain⟩, ⟨4, .guard⟩], some (4, true)⟩
def f9r11tOp9 : Oper := ⟨some 37, .call { callee := .value (.func 18), args := #[.tmp 35, .tmp 36], argTypes := #[29, 29] }, 4, "law.go:141", #[⟨7, .data⟩, ⟨8, .data⟩, ⟨8, .chain⟩, ⟨4, .guard⟩], some (4, true)⟩
def f9r11tOp10 : Oper := ⟨some 38, .pick (.tmp 32) (.tmp 37) (.const (.bool false)), 4, "law.go:141", #[⟨4, .data⟩, ⟨9, .data⟩], none⟩
def f9r11tOp11 : Oper := ⟨some 39, .move (.tmp 38), 4, "law.go:141", #[⟨10, .data⟩, ⟨9, .chain⟩], none⟩
def f9r11tOp12 : Oper := ⟨some 40, .load 29 (.tmp 5), 29, "law.go:141", #[⟨11, .guard⟩], some (11, true)⟩
def f9r11tOp13 : Oper := ⟨some 41, .call { callee := .value (.func 15), args := #[.tmp 40], argTypes := #[29] }, 22, "law.go:141", #[⟨12, .data⟩, ⟨11, .chain⟩, ⟨11, .guard⟩], some (11, true)⟩
def f9r11tOp14 : Oper := ⟨some 42, .load 22 (.tmp 4), 22, "law.go:141", #[⟨11, .guard⟩], some (11, true)⟩
def f9r11tOp15 : Oper := ⟨some 43, .binOp .eql 22 (.tmp 41) (.tmp 42) 22, 4, "law.go:141", #[⟨13, .data⟩, ⟨14, .data⟩, ⟨11, .guard⟩], some (11, true)⟩
def f9r11tOp16 : Oper := ⟨some 44, .pick (.tmp 39) (.tmp 43) (.const (.bool false)), 4, "law.go:141", #[⟨11, .data⟩, ⟨15, .data⟩], none⟩
def f9r11tOp17 : Oper := ⟨some 45, .move (.tmp 44), 4, "law.go:141", #[⟨16, .data⟩, ⟨13, .chain⟩], none⟩
def f9r11tOp18 : Oper := ⟨some 46, .load 29 (.tmp 5), 29, "law.go:141", #[⟨17, .guard⟩], some (17, true)⟩
def f9r11tOp19 : Oper := ⟨some 47, .call { callee := .value (.func 19), args := #[], argTypes := #[] }, 29, "law.go:141", #[⟨17, .chain⟩, ⟨17, .guard⟩], some (17, true)⟩
def f9r11tOp20 : Oper := ⟨some 48, .call { callee := .value (.func 18), args := #[.tmp 46, .tmp 47], argTypes := #[29, 29] }, 4, "law.go:141", #[⟨18, .data⟩, ⟨19, .data⟩, ⟨19, .chain⟩, ⟨17, .guard⟩], some (17, true)⟩
def f9r11tOp21 : Oper := ⟨some 49, .move (.tmp 0), 5, "law.go:141", #[⟨17, .guard⟩], some (17, true)⟩
def f9r11tOp22 : Oper := ⟨some 50, .binOp .rem 5 (.tmp 49) (.const (.int .u8 4)) 5, 5, "law.go:141", #[⟨21, .data⟩, ⟨17, .guard⟩], some (17, true)⟩
def f9r11tOp23 : Oper := ⟨some 51, .binOp .eql 5 (.tmp 50) (.const (.int .u8 2)) 5, 4, "law.go:141", #[⟨22, .data⟩, ⟨17, .guard⟩], some (17, true)⟩
def f9r11tOp24 : Oper := ⟨some 52, .binOp .eql 4 (.tmp 48) (.tmp 51) 4, 4, "law.go:141", #[⟨20, .data⟩, ⟨23, .data⟩, ⟨17, .guard⟩], some (17, true)⟩
def f9r11tOp25 : Oper := ⟨some 53, .pick (.tmp 45) (.tmp 52) (.const (.bool false)), 4, "law.go:141", #[⟨17, .data⟩, ⟨24, .data⟩], none⟩
def f9r11tOp26 : Oper := ⟨some 2, .assign (.tmp 53), 4, "law.go:141", #[⟨25, .data⟩, ⟨20, .chain⟩, ⟨0, .phase⟩, ⟨1, .phase⟩, ⟨2, .phase⟩, ⟨3, .phase⟩, ⟨4, .phase⟩, ⟨5, .phase⟩, ⟨6, .phase⟩, ⟨7, .phase⟩, ⟨8, .phase⟩, ⟨9, .phase⟩, ⟨10, .phase⟩, ⟨11, .phase⟩, ⟨12, .phase⟩, ⟨13, .phase⟩, ⟨14, .phase⟩, ⟨15, .phase⟩, ⟨16, .phase⟩, ⟨17, .phase⟩, ⟨18, .phase⟩, ⟨19, .phase⟩, ⟨20, .phase⟩, ⟨21, .phase⟩, ⟨22, .phase⟩, ⟨23, .phase⟩, ⟨24, .phase⟩, ⟨25, .phase⟩], none⟩
def f9r11tOps : Array Oper := #[f9r11tOp0, f9r11tOp1, f9r11tOp2, f9r11tOp3, f9r11tOp4, f9r11tOp5, f9r11tOp6, f9r11tOp7, f9r11tOp8, f9r11tOp9, f9r11tOp10, f9r11tOp11, f9r11tOp12, f9r11tOp13, f9r11tOp14, f9r11tOp15, f9r11tOp16, f9r11tOp17, f9r11tOp18, f9r11tOp19, f9r11tOp20, f9r11tOp21, f9r11tOp22, f9r11tOp23, f9r11tOp24, f9r11tOp25, f9r11tOp26]
set_option maxRecDepth 100000 in
set_option maxHeartbeats 2000000 in
theorem f9r11t_r {Q : Exit → Act → World → Prop} {u w : World} {L : List Row} {z1 z2 z7 z8 z9 z10 z11 z12 z13 z14 z15 z16 z17 z18 z19 z20 z21 z22 z23 z24 z25 z26 z27 z28 z29 z30 z31 z32 z33 z34 z35 z36 z37 z38 z39 z40 z41 z42 z43 z44 z45 z46 z47 z48 z49 z50 z51 z52 z53 : Value} {x0 : Value} {b4 b5 : Nat} {c4 c5 : Array Value} {e33 e35 e36 e41 e47 : Array Value} {g50 : Nat} (hQ : ∀ c a w n v, Q (.panic c) (a.put (some n) v) w → Q (.panic c) a w) (hO : Own u w L) (i4 : Nat) (h4 : L[i4]? = some (b4, c4, 22)) (i5 : Nat) (h5 : L[i5]? = some (b5, c5, 29)) (q33 : Try.prog.built 22 [(0, .int IntKind.u8 4)] = some e33) (r35 : ∀ w, Ret 30 #[.agg e33, .agg c5] w (.agg e35)) (r36 : ∀ w, Ret 19 #[] w (.agg e36)) (r37 : ∀ w, Ret 18 #[.agg e35, .agg e36] w (.bool true)) (r41 : ∀ w, Ret 15 #[.agg c5] w (.agg e41)) (k43 : ∀ (a : Act) (w : World), a.eval (.tmp 41) = .agg e41 → a.eval (.tmp 42) = .agg c4 → (execOp a.eval f9r11tOp15).run Try.prog w = .ok (.value (.bool true)) w) (r47 : ∀ w, Ret 19 #[] w (.agg e47)) (r48 : ∀ w, Ret 18 #[.agg c5, .agg e47] w (.bool true)) (k50 : ∀ (a : Act) (w : World), a.eval (.tmp 49) = x0 → (execOp a.eval f9r11tOp22).run Try.prog w = .ok (.value (.int .u8 ((g50 : Nat) : Int))) w) (k51 : ∀ (a : Act) (w : World), a.eval (.tmp 50) = .int .u8 ((g50 : Nat) : Int) → (execOp a.eval f9r11tOp23).run Try.prog w = .ok (.value (.bool true)) w) (k52 : ∀ (a : Act) (w : World), a.eval (.tmp 48) = .bool true → a.eval (.tmp 51) = .bool true → (execOp a.eval f9r11tOp24).run Try.prog w = .ok (.value (.bool true)) w) (H : ∀ (w' : World), Own u w' (L) → Q .normal { tmps := List.toArray (x0 :: z1 :: (.bool true) :: (.bool true) :: (.pointer (some ⟨b4, 0, none⟩)) :: (.pointer (some ⟨b5, 0, none⟩)) :: (.bool true) :: z7 :: z8 :: z9 :: z10 :: z11 :: z12 :: z13 :: z14 :: z15 :: z16 :: z17 :: z18 :: z19 :: z20 :: z21 :: z22 :: z23 :: z24 :: z25 :: z26 :: z27 :: (.bool true) :: (.bool true) :: (.bool true) :: (.bool true) :: (.bool true) :: (.agg e33) :: (.agg c5) :: (.agg e35) :: (.agg e36) :: (.bool true) :: (.bool true) :: (.bool true) :: (.agg c5) :: (.agg e41) :: (.agg c4) :: (.bool true) :: (.bool true) :: (.bool true) :: (.agg c5) :: (.agg e47) :: (.bool true) :: x0 :: (.int .u8 ((g50 : Nat) : Int)) :: (.bool true) :: (.bool true) :: (.bool true) :: []), defers := [] } w') :
    (Code.region 11 f9r11tOps true).wp Try.prog Q { tmps := List.toArray (x0 :: z1 :: z2 :: (.bool true) :: (.pointer (some ⟨b4, 0, none⟩)) :: (.pointer (some ⟨b5, 0, none⟩)) :: (.bool true) :: z7 :: z8 :: z9 :: z10 :: z11 :: z12 :: z13 :: z14 :: z15 :: z16 :: z17 :: z18 :: z19 :: z20 :: z21 :: z22 :: z23 :: z24 :: z25 :: z26 :: z27 :: z28 :: z29 :: z30 :: z31 :: z32 :: z33 :: z34 :: z35 :: z36 :: z37 :: z38 :: z39 :: z40 :: z41 :: z42 :: z43 :: z44 :: z45 :: z46 :: z47 :: z48 :: z49 :: z50 :: z51 :: z52 :: z53 :: []), defers := [] } w := by
  have fc4_22 := hO.fits i4 h4
  have fc5_29 := hO.fits i5 h5
  refine wp_region_held_drew (S := Has [(b4, c4, 22), (b5, c5, 29)]) (by kernel_rfl) ⟨hO.drew.row _ h4, hO.drew.row _ h5, trivial⟩ (fun hS => ?_)
  replace hO := hO.drew
  refine d_tk 0 f9r11tOp0 (.bool true) hQ (y_val (fun _ => by kernel_rfl)) hS ?_
  refine d_tk 1 f9r11tOp1 (.bool true) hQ (y_val (fun _ => by kernel_rfl)) hS ?_
  refine d_tk 2 f9r11tOp2 (.bool true) hQ (y_val (fun _ => by kernel_rfl)) hS ?_
  refine d_fr (ls 27 7) (Fr [x0, z1, z2, .bool true, D b4, D b5, .bool true, z7, z8, z9, z10, z11, z12, z13, z14, z15, z16, z17, z18, z19, z20, z21, z22, z23, z24, z25, z26, z27, .bool true, .bool true, .bool true, z31, z32, z33, z34, z35, z36, z37, z38, z39, z40, z41, z42, z43, z44, z45, z46, z47, z48, z49, z50, z51, z52, z53] []) ?_
  refine d_tk 3 f9r11tOp3 (.bool true) hQ (y_val (fun _ => by kernel_rfl)) hS ?_
  refine d_tk 4 f9r11tOp4 (.bool true) hQ (y_val (fun _ => by kernel_rfl)) hS ?_
  refine d_tk 5 f9r11tOp5 (.agg e33) hQ (y_val (run_bd 22 _ rfl [(0, .int IntKind.u8 4)] (by kernel_rfl) e33 q33)) hS ?_
  refine d_fr (ls 27 63) (Fr [x0, z1, z2, .bool true, D b4, D b5, .bool true, z7, z8, z9, z10, z11, z12, z13, z14, z15, z16, z17, z18, z19, z20, z21, z22, z23, z24, z25, z26, z27, .bool true, .bool true, .bool true, .bool true, .bool true, A e33, z34, z35, z36, z37, z38, z39, z40, z41, z42, z43, z44, z45, z46, z47, z48, z49, z50, z51, z52, z53] []) ?_
  refine d_tk 6 f9r11tOp6 (.agg c5) hQ (y_l 29 (fun _ h => h.2.1) fc5_29 Try.underlying29) hS ?_
  refine d_fr (ls 27 127) (Fr [x0, z1, z2, .bool true, D b4, D b5, .bool true, z7, z8, z9, z10, z11, z12, z13, z14, z15, z16, z17, z18, z19, z20, z21, z22, z23, z24, z25, z26, z27, .bool true, .bool true, .bool true, .bool true, .bool true, A e33, A c5, z35, z36, z37, z38, z39, z40, z41, z42, z43, z44, z45, z46, z47, z48, z49, z50, z51, z52, z53] []) ?_
  refine d_one 7 f9r11tOp7 (ls 27 255) (fun K hK => ?_)
  refine k_call hK hO (fun _ hO => ⟨hO.row _ h4, hO.row _ h5, trivial⟩) 30 #[.agg e33, .agg c5] (.agg e35) r35 ?_
  intro w1 hO
  refine d_one 8 f9r11tOp8 (ls 27 511) (fun K hK => ?_)
  refine k_call hK hO (fun _ hO => ⟨hO.row _ h4, hO.row _ h5, trivial⟩) 19 #[] (.agg e36) r36 ?_
  intro w2 hO
  refine d_one 9 f9r11tOp9 (ls 27 1023) (fun K hK => ?_)
  refine k_call hK hO (fun _ hO => ⟨hO.row _ h4, hO.row _ h5, trivial⟩) 18 #[.agg e35, .agg e36] (.bool true) r37 ?_
  intro w3 hO
  have hS : Has [(b4, c4, 22), (b5, c5, 29)] w3 := ⟨hO.row _ h4, hO.row _ h5, trivial⟩
  refine d_tk 10 f9r11tOp10 (.bool true) hQ (y_val (fun _ => by kernel_rfl)) hS ?_
  refine d_tk 11 f9r11tOp11 (.bool true) hQ (y_val (fun _ => by kernel_rfl)) hS ?_
  refine d_tk 12 f9r11tOp12 (.agg c5) hQ (y_l 29 (fun _ h => h.2.1) fc5_29 Try.underlying29) hS ?_
  refine d_fr (ls 27 8191) (Fr [x0, z1, z2, .bool true, D b4, D b5, .bool true, z7, z8, z9, z10, z11, z12, z13, z14, z15, z16, z17, z18, z19, z20, z21, z22, z23, z24, z25, z26, z27, .bool true, .bool true, .bool true, .bool true, .bool true, A e33, A c5, A e35, A e36, .bool true, .bool true, .bool true, A c5, z41, z42, z43, z44, z45, z46, z47, z48, z49, z50, z51, z52, z53] []) ?_
  refine d_tk 14 f9r11tOp14 (.agg c4) hQ (y_l 22 (fun _ h => h.1) fc4_22 Try.underlying22) hS ?_
  refine d_fr (ls 27 24575) (Fr [x0, z1, z2, .bool true, D b4, D b5, .bool true, z7, z8, z9, z10, z11, z12, z13, z14, z15, z16, z17, z18, z19, z20, z21, z22, z23, z24, z25, z26, z27, .bool true, .bool true, .bool true, .bool true, .bool true, A e33, A c5, A e35, A e36, .bool true, .bool true, .bool true, A c5, z41, A c4, z43, z44, z45, z46, z47, z48, z49, z50, z51, z52, z53] []) ?_
  refine d_one 13 f9r11tOp13 (ls 27 32767) (fun K hK => ?_)
  refine k_call hK hO (fun _ hO => ⟨hO.row _ h4, hO.row _ h5, trivial⟩) 15 #[.agg c5] (.agg e41) r41 ?_
  intro w4 hO
  have hS : Has [(b4, c4, 22), (b5, c5, 29)] w4 := ⟨hO.row _ h4, hO.row _ h5, trivial⟩
  refine d_tk 15 f9r11tOp15 (.bool true) hQ (y_val (fun _ => k43 _ _ (by kernel_rfl) (by kernel_rfl))) hS ?_
  refine d_tk 16 f9r11tOp16 (.bool true) hQ (y_val (fun _ => by kernel_rfl)) hS ?_
  refine d_tk 17 f9r11tOp17 (.bool true) hQ (y_val (fun _ => by kernel_rfl)) hS ?_
  refine d_fr (ls 27 262143) (Fr [x0, z1, z2, .bool true, D b4, D b5, .bool true, z7, z8, z9, z10, z11, z12, z13, z14, z15, z16, z17, z18, z19, z20, z21, z22, z23, z24, z25, z26, z27, .bool true, .bool true, .bool true, .bool true, .bool true, A e33, A c5, A e35, A e36, .bool true, .bool true, .bool true, A c5, A e41, A c4, .bool true, .bool true, .bool true, z46, z47, z48, z49, z50, z51, z52, z53] []) ?_
  refine d_tk 18 f9r11tOp18 (.agg c5) hQ (y_l 29 (fun _ h => h.2.1) fc5_29 Try.underlying29) hS ?_
  refine d_tk 21 f9r11tOp21 (x0) hQ (y_val (fun _ => by kernel_rfl)) hS ?_
  refine d_tk 22 f9r11tOp22 (.int .u8 ((g50 : Nat) : Int)) hQ (y_val (fun _ => k50 _ _ (by kernel_rfl))) hS ?_
  refine d_fr (ls 27 6815743) (Fr [x0, z1, z2, .bool true, D b4, D b5, .bool true, z7, z8, z9, z10, z11, z12, z13, z14, z15, z16, z17, z18, z19, z20, z21, z22, z23, z24, z25, z26, z27, .bool true, .bool true, .bool true, .bool true, .bool true, A e33, A c5, A e35, A e36, .bool true, .bool true, .bool true, A c5, A e41, A c4, .bool true, .bool true, .bool true, A c5, z47, z48, x0, .int .u8 ((g50 : Nat) : Int), z51, z52, z53] []) ?_
  refine d_tk 23 f9r11tOp23 (.bool true) hQ (y_val (fun _ => k51 _ _ (by kernel_rfl))) hS ?_
  refine d_fr (ls 27 15204351) (Fr [x0, z1, z2, .bool true, D b4, D b5, .bool true, z7, z8, z9, z10, z11, z12, z13, z14, z15, z16, z17, z18, z19, z20, z21, z22, z23, z24, z25, z26, z27, .bool true, .bool true, .bool true, .bool true, .bool true, A e33, A c5, A e35, A e36, .bool true, .bool true, .bool true, A c5, A e41, A c4, .bool true, .bool true, .bool true, A c5, z47, z48, x0, .int .u8 ((g50 : Nat) : Int), .bool true, z52, z53] []) ?_
  refine d_one 19 f9r11tOp19 (ls 27 15728639) (fun K hK => ?_)
  refine k_call hK hO (fun _ hO => ⟨hO.row _ h4, hO.row _ h5, trivial⟩) 19 #[] (.agg e47) r47 ?_
  intro w5 hO
  refine d_one 20 f9r11tOp20 (ls 27 16777215) (fun K hK => ?_)
  refine k_call hK hO (fun _ hO => ⟨hO.row _ h4, hO.row _ h5, trivial⟩) 18 #[.agg c5, .agg e47] (.bool true) r48 ?_
  intro w6 hO
  have hS : Has [(b4, c4, 22), (b5, c5, 29)] w6 := ⟨hO.row _ h4, hO.row _ h5, trivial⟩
  refine d_tk 24 f9r11tOp24 (.bool true) hQ (y_val (fun _ => k52 _ _ (by kernel_rfl) (by kernel_rfl))) hS ?_
  refine d_tk 25 f9r11tOp25 (.bool true) hQ (y_val (fun _ => by kernel_rfl)) hS ?_
  refine d_tk 26 f9r11tOp26 (.bool true) hQ (y_val (fun _ => by kernel_rfl)) hS ?_
  exact d_fr (ls 27 134217727) _ (wpAnyH_done (by kernel_rfl) (H  _ hO) _)
def f9r11fOp0 : Oper := ⟨some 28, .move (.tmp 3), 4, "law.go:141", #[], none⟩
def f9r11fOp1 : Oper := ⟨some 29, .move (.tmp 28), 4, "law.go:141", #[⟨0, .data⟩], none⟩
def f9r11fOp2 : Oper := ⟨some 30, .move (.tmp 6), 4, "law.go:141", #[⟨1, .guard⟩], some (1, true)⟩
def f9r11fOp3 : Oper := ⟨some 31, .pick (.tmp 29) (.tmp 30) (.const (.bool false)), 4, "law.go:141", #[⟨1, .data⟩, ⟨2, .data⟩], none⟩
def f9r11fOp4 : Oper := ⟨some 32, .move (.tmp 31), 4, "law.go:141", #[⟨3, .data⟩, ⟨1, .chain⟩], none⟩
def f9r11fOp5 : Oper := ⟨some 33, .build 22 #[(0, .const (.int .u8 4))], 22, "law.go:141", #[⟨4, .guard⟩], some (4, true)⟩
def f9r11fOp6 : Oper := ⟨some 34, .load 29 (.tmp 5), 29, "law.go:141", #[⟨4, .guard⟩], some (4, true)⟩
def f9r11fOp7 : Oper := ⟨some 35, .call { callee := .value (.func 30), args := #[.tmp 33, .tmp 34], argTypes := #[22, 29] }, 29, "law.go:141", #[⟨5, .data⟩, ⟨6, .data⟩, ⟨4, .chain⟩, ⟨4, .guard⟩], some (4, true)⟩
def f9r11fOp8 : Oper := ⟨some 36, .call { callee := .value (.func 19), args := #[], argTypes := #[] }, 29, "law.go:141", #[⟨7, .chain⟩, ⟨4, .guard⟩], some (4, true)⟩
def f9r11fOp9 : Oper := ⟨some 37, .call { callee := .value (.func 18), args := #[.tmp 35, .tmp 36], argTypes := #[29, 29] }, 4, "law.go:141", #[⟨7, .data⟩, ⟨8, .data⟩, ⟨8, .chain⟩, ⟨4, .guard⟩], some (4, true)⟩
def f9r11fOp10 : Oper := ⟨some 38, .pick (.tmp 32) (.tmp 37) (.const (.bool false)), 4, "law.go:141", #[⟨4, .data⟩, ⟨9, .data⟩], none⟩
def f9r11fOp11 : Oper := ⟨some 39, .move (.tmp 38), 4, "law.go:141", #[⟨10, .data⟩, ⟨9, .chain⟩], none⟩
def f9r11fOp12 : Oper := ⟨some 40, .load 29 (.tmp 5), 29, "law.go:141", #[⟨11, .guard⟩], some (11, true)⟩
def f9r11fOp13 : Oper := ⟨some 41, .call { callee := .value (.func 15), args := #[.tmp 40], argTypes := #[29] }, 22, "law.go:141", #[⟨12, .data⟩, ⟨11, .chain⟩, ⟨11, .guard⟩], some (11, true)⟩
def f9r11fOp14 : Oper := ⟨some 42, .load 22 (.tmp 4), 22, "law.go:141", #[⟨11, .guard⟩], some (11, true)⟩
def f9r11fOp15 : Oper := ⟨some 43, .binOp .eql 22 (.tmp 41) (.tmp 42) 22, 4, "law.go:141", #[⟨13, .data⟩, ⟨14, .data⟩, ⟨11, .guard⟩], some (11, true)⟩
def f9r11fOp16 : Oper := ⟨some 44, .pick (.tmp 39) (.tmp 43) (.const (.bool false)), 4, "law.go:141", #[⟨11, .data⟩, ⟨15, .data⟩], none⟩
def f9r11fOp17 : Oper := ⟨some 45, .move (.tmp 44), 4, "law.go:141", #[⟨16, .data⟩, ⟨13, .chain⟩], none⟩
def f9r11fOp18 : Oper := ⟨some 46, .load 29 (.tmp 5), 29, "law.go:141", #[⟨17, .guard⟩], some (17, true)⟩
def f9r11fOp19 : Oper := ⟨some 47, .call { callee := .value (.func 19), args := #[], argTypes := #[] }, 29, "law.go:141", #[⟨17, .chain⟩, ⟨17, .guard⟩], some (17, true)⟩
def f9r11fOp20 : Oper := ⟨some 48, .call { callee := .value (.func 18), args := #[.tmp 46, .tmp 47], argTypes := #[29, 29] }, 4, "law.go:141", #[⟨18, .data⟩, ⟨19, .data⟩, ⟨19, .chain⟩, ⟨17, .guard⟩], some (17, true)⟩
def f9r11fOp21 : Oper := ⟨some 49, .move (.tmp 0), 5, "law.go:141", #[⟨17, .guard⟩], some (17, true)⟩
def f9r11fOp22 : Oper := ⟨some 50, .binOp .rem 5 (.tmp 49) (.const (.int .u8 4)) 5, 5, "law.go:141", #[⟨21, .data⟩, ⟨17, .guard⟩], some (17, true)⟩
def f9r11fOp23 : Oper := ⟨some 51, .binOp .eql 5 (.tmp 50) (.const (.int .u8 2)) 5, 4, "law.go:141", #[⟨22, .data⟩, ⟨17, .guard⟩], some (17, true)⟩
def f9r11fOp24 : Oper := ⟨some 52, .binOp .eql 4 (.tmp 48) (.tmp 51) 4, 4, "law.go:141", #[⟨20, .data⟩, ⟨23, .data⟩, ⟨17, .guard⟩], some (17, true)⟩
def f9r11fOp25 : Oper := ⟨some 53, .pick (.tmp 45) (.tmp 52) (.const (.bool false)), 4, "law.go:141", #[⟨17, .data⟩, ⟨24, .data⟩], none⟩
def f9r11fOp26 : Oper := ⟨some 2, .assign (.tmp 53), 4, "law.go:141", #[⟨25, .data⟩, ⟨20, .chain⟩, ⟨0, .phase⟩, ⟨1, .phase⟩, ⟨2, .phase⟩, ⟨3, .phase⟩, ⟨4, .phase⟩, ⟨5, .phase⟩, ⟨6, .phase⟩, ⟨7, .phase⟩, ⟨8, .phase⟩, ⟨9, .phase⟩, ⟨10, .phase⟩, ⟨11, .phase⟩, ⟨12, .phase⟩, ⟨13, .phase⟩, ⟨14, .phase⟩, ⟨15, .phase⟩, ⟨16, .phase⟩, ⟨17, .phase⟩, ⟨18, .phase⟩, ⟨19, .phase⟩, ⟨20, .phase⟩, ⟨21, .phase⟩, ⟨22, .phase⟩, ⟨23, .phase⟩, ⟨24, .phase⟩, ⟨25, .phase⟩], none⟩
def f9r11fOps : Array Oper := #[f9r11fOp0, f9r11fOp1, f9r11fOp2, f9r11fOp3, f9r11fOp4, f9r11fOp5, f9r11fOp6, f9r11fOp7, f9r11fOp8, f9r11fOp9, f9r11fOp10, f9r11fOp11, f9r11fOp12, f9r11fOp13, f9r11fOp14, f9r11fOp15, f9r11fOp16, f9r11fOp17, f9r11fOp18, f9r11fOp19, f9r11fOp20, f9r11fOp21, f9r11fOp22, f9r11fOp23, f9r11fOp24, f9r11fOp25, f9r11fOp26]
set_option maxRecDepth 100000 in
set_option maxHeartbeats 2000000 in
theorem f9r11f_r {Q : Exit → Act → World → Prop} {u w : World} {L : List Row} {z1 z2 z7 z8 z9 z10 z11 z12 z13 z14 z15 z16 z17 z18 z19 z20 z21 z22 z23 z24 z25 z26 z27 z28 z29 z30 z31 z32 z33 z34 z35 z36 z37 z38 z39 z40 z41 z42 z43 z44 z45 z46 z47 z48 z49 z50 z51 z52 z53 : Value} {x0 : Value} {b4 b5 : Nat} {c4 c5 : Array Value} {e33 e35 e36 e41 e47 : Array Value} {g50 : Nat} (hQ : ∀ c a w n v, Q (.panic c) (a.put (some n) v) w → Q (.panic c) a w) (hO : Own u w L) (i4 : Nat) (h4 : L[i4]? = some (b4, c4, 22)) (i5 : Nat) (h5 : L[i5]? = some (b5, c5, 29)) (q33 : Try.prog.built 22 [(0, .int IntKind.u8 4)] = some e33) (r35 : ∀ w, Ret 30 #[.agg e33, .agg c5] w (.agg e35)) (r36 : ∀ w, Ret 19 #[] w (.agg e36)) (r37 : ∀ w, Ret 18 #[.agg e35, .agg e36] w (.bool true)) (r41 : ∀ w, Ret 15 #[.agg c5] w (.agg e41)) (k43 : ∀ (a : Act) (w : World), a.eval (.tmp 41) = .agg e41 → a.eval (.tmp 42) = .agg c4 → (execOp a.eval f9r11fOp15).run Try.prog w = .ok (.value (.bool true)) w) (r47 : ∀ w, Ret 19 #[] w (.agg e47)) (r48 : ∀ w, Ret 18 #[.agg c5, .agg e47] w (.bool false)) (k50 : ∀ (a : Act) (w : World), a.eval (.tmp 49) = x0 → (execOp a.eval f9r11fOp22).run Try.prog w = .ok (.value (.int .u8 ((g50 : Nat) : Int))) w) (k51 : ∀ (a : Act) (w : World), a.eval (.tmp 50) = .int .u8 ((g50 : Nat) : Int) → (execOp a.eval f9r11fOp23).run Try.prog w = .ok (.value (.bool false)) w) (k52 : ∀ (a : Act) (w : World), a.eval (.tmp 48) = .bool false → a.eval (.tmp 51) = .bool false → (execOp a.eval f9r11fOp24).run Try.prog w = .ok (.value (.bool true)) w) (H : ∀ (w' : World), Own u w' (L) → Q .normal { tmps := List.toArray (x0 :: z1 :: (.bool true) :: (.bool true) :: (.pointer (some ⟨b4, 0, none⟩)) :: (.pointer (some ⟨b5, 0, none⟩)) :: (.bool true) :: z7 :: z8 :: z9 :: z10 :: z11 :: z12 :: z13 :: z14 :: z15 :: z16 :: z17 :: z18 :: z19 :: z20 :: z21 :: z22 :: z23 :: z24 :: z25 :: z26 :: z27 :: (.bool true) :: (.bool true) :: (.bool true) :: (.bool true) :: (.bool true) :: (.agg e33) :: (.agg c5) :: (.agg e35) :: (.agg e36) :: (.bool true) :: (.bool true) :: (.bool true) :: (.agg c5) :: (.agg e41) :: (.agg c4) :: (.bool true) :: (.bool true) :: (.bool true) :: (.agg c5) :: (.agg e47) :: (.bool false) :: x0 :: (.int .u8 ((g50 : Nat) : Int)) :: (.bool false) :: (.bool true) :: (.bool true) :: []), defers := [] } w') :
    (Code.region 11 f9r11fOps true).wp Try.prog Q { tmps := List.toArray (x0 :: z1 :: z2 :: (.bool true) :: (.pointer (some ⟨b4, 0, none⟩)) :: (.pointer (some ⟨b5, 0, none⟩)) :: (.bool true) :: z7 :: z8 :: z9 :: z10 :: z11 :: z12 :: z13 :: z14 :: z15 :: z16 :: z17 :: z18 :: z19 :: z20 :: z21 :: z22 :: z23 :: z24 :: z25 :: z26 :: z27 :: z28 :: z29 :: z30 :: z31 :: z32 :: z33 :: z34 :: z35 :: z36 :: z37 :: z38 :: z39 :: z40 :: z41 :: z42 :: z43 :: z44 :: z45 :: z46 :: z47 :: z48 :: z49 :: z50 :: z51 :: z52 :: z53 :: []), defers := [] } w := by
  have fc4_22 := hO.fits i4 h4
  have fc5_29 := hO.fits i5 h5
  refine wp_region_held_drew (S := Has [(b4, c4, 22), (b5, c5, 29)]) (by kernel_rfl) ⟨hO.drew.row _ h4, hO.drew.row _ h5, trivial⟩ (fun hS => ?_)
  replace hO := hO.drew
  refine d_tk 0 f9r11fOp0 (.bool true) hQ (y_val (fun _ => by kernel_rfl)) hS ?_
  refine d_tk 1 f9r11fOp1 (.bool true) hQ (y_val (fun _ => by kernel_rfl)) hS ?_
  refine d_tk 2 f9r11fOp2 (.bool true) hQ (y_val (fun _ => by kernel_rfl)) hS ?_
  refine d_fr (ls 27 7) (Fr [x0, z1, z2, .bool true, D b4, D b5, .bool true, z7, z8, z9, z10, z11, z12, z13, z14, z15, z16, z17, z18, z19, z20, z21, z22, z23, z24, z25, z26, z27, .bool true, .bool true, .bool true, z31, z32, z33, z34, z35, z36, z37, z38, z39, z40, z41, z42, z43, z44, z45, z46, z47, z48, z49, z50, z51, z52, z53] []) ?_
  refine d_tk 3 f9r11fOp3 (.bool true) hQ (y_val (fun _ => by kernel_rfl)) hS ?_
  refine d_tk 4 f9r11fOp4 (.bool true) hQ (y_val (fun _ => by kernel_rfl)) hS ?_
  refine d_tk 5 f9r11fOp5 (.agg e33) hQ (y_val (run_bd 22 _ rfl [(0, .int IntKind.u8 4)] (by kernel_rfl) e33 q33)) hS ?_
  refine d_fr (ls 27 63) (Fr [x0, z1, z2, .bool true, D b4, D b5, .bool true, z7, z8, z9, z10, z11, z12, z13, z14, z15, z16, z17, z18, z19, z20, z21, z22, z23, z24, z25, z26, z27, .bool true, .bool true, .bool true, .bool true, .bool true, A e33, z34, z35, z36, z37, z38, z39, z40, z41, z42, z43, z44, z45, z46, z47, z48, z49, z50, z51, z52, z53] []) ?_
  refine d_tk 6 f9r11fOp6 (.agg c5) hQ (y_l 29 (fun _ h => h.2.1) fc5_29 Try.underlying29) hS ?_
  refine d_fr (ls 27 127) (Fr [x0, z1, z2, .bool true, D b4, D b5, .bool true, z7, z8, z9, z10, z11, z12, z13, z14, z15, z16, z17, z18, z19, z20, z21, z22, z23, z24, z25, z26, z27, .bool true, .bool true, .bool true, .bool true, .bool true, A e33, A c5, z35, z36, z37, z38, z39, z40, z41, z42, z43, z44, z45, z46, z47, z48, z49, z50, z51, z52, z53] []) ?_
  refine d_one 7 f9r11fOp7 (ls 27 255) (fun K hK => ?_)
  refine k_call hK hO (fun _ hO => ⟨hO.row _ h4, hO.row _ h5, trivial⟩) 30 #[.agg e33, .agg c5] (.agg e35) r35 ?_
  intro w1 hO
  refine d_one 8 f9r11fOp8 (ls 27 511) (fun K hK => ?_)
  refine k_call hK hO (fun _ hO => ⟨hO.row _ h4, hO.row _ h5, trivial⟩) 19 #[] (.agg e36) r36 ?_
  intro w2 hO
  refine d_one 9 f9r11fOp9 (ls 27 1023) (fun K hK => ?_)
  refine k_call hK hO (fun _ hO => ⟨hO.row _ h4, hO.row _ h5, trivial⟩) 18 #[.agg e35, .agg e36] (.bool true) r37 ?_
  intro w3 hO
  have hS : Has [(b4, c4, 22), (b5, c5, 29)] w3 := ⟨hO.row _ h4, hO.row _ h5, trivial⟩
  refine d_tk 10 f9r11fOp10 (.bool true) hQ (y_val (fun _ => by kernel_rfl)) hS ?_
  refine d_tk 11 f9r11fOp11 (.bool true) hQ (y_val (fun _ => by kernel_rfl)) hS ?_
  refine d_tk 12 f9r11fOp12 (.agg c5) hQ (y_l 29 (fun _ h => h.2.1) fc5_29 Try.underlying29) hS ?_
  refine d_fr (ls 27 8191) (Fr [x0, z1, z2, .bool true, D b4, D b5, .bool true, z7, z8, z9, z10, z11, z12, z13, z14, z15, z16, z17, z18, z19, z20, z21, z22, z23, z24, z25, z26, z27, .bool true, .bool true, .bool true, .bool true, .bool true, A e33, A c5, A e35, A e36, .bool true, .bool true, .bool true, A c5, z41, z42, z43, z44, z45, z46, z47, z48, z49, z50, z51, z52, z53] []) ?_
  refine d_tk 14 f9r11fOp14 (.agg c4) hQ (y_l 22 (fun _ h => h.1) fc4_22 Try.underlying22) hS ?_
  refine d_fr (ls 27 24575) (Fr [x0, z1, z2, .bool true, D b4, D b5, .bool true, z7, z8, z9, z10, z11, z12, z13, z14, z15, z16, z17, z18, z19, z20, z21, z22, z23, z24, z25, z26, z27, .bool true, .bool true, .bool true, .bool true, .bool true, A e33, A c5, A e35, A e36, .bool true, .bool true, .bool true, A c5, z41, A c4, z43, z44, z45, z46, z47, z48, z49, z50, z51, z52, z53] []) ?_
  refine d_one 13 f9r11fOp13 (ls 27 32767) (fun K hK => ?_)
  refine k_call hK hO (fun _ hO => ⟨hO.row _ h4, hO.row _ h5, trivial⟩) 15 #[.agg c5] (.agg e41) r41 ?_
  intro w4 hO
  have hS : Has [(b4, c4, 22), (b5, c5, 29)] w4 := ⟨hO.row _ h4, hO.row _ h5, trivial⟩
  refine d_tk 15 f9r11fOp15 (.bool true) hQ (y_val (fun _ => k43 _ _ (by kernel_rfl) (by kernel_rfl))) hS ?_
  refine d_tk 16 f9r11fOp16 (.bool true) hQ (y_val (fun _ => by kernel_rfl)) hS ?_
  refine d_tk 17 f9r11fOp17 (.bool true) hQ (y_val (fun _ => by kernel_rfl)) hS ?_
  refine d_fr (ls 27 262143) (Fr [x0, z1, z2, .bool true, D b4, D b5, .bool true, z7, z8, z9, z10, z11, z12, z13, z14, z15, z16, z17, z18, z19, z20, z21, z22, z23, z24, z25, z26, z27, .bool true, .bool true, .bool true, .bool true, .bool true, A e33, A c5, A e35, A e36, .bool true, .bool true, .bool true, A c5, A e41, A c4, .bool true, .bool true, .bool true, z46, z47, z48, z49, z50, z51, z52, z53] []) ?_
  refine d_tk 18 f9r11fOp18 (.agg c5) hQ (y_l 29 (fun _ h => h.2.1) fc5_29 Try.underlying29) hS ?_
  refine d_tk 21 f9r11fOp21 (x0) hQ (y_val (fun _ => by kernel_rfl)) hS ?_
  refine d_tk 22 f9r11fOp22 (.int .u8 ((g50 : Nat) : Int)) hQ (y_val (fun _ => k50 _ _ (by kernel_rfl))) hS ?_
  refine d_fr (ls 27 6815743) (Fr [x0, z1, z2, .bool true, D b4, D b5, .bool true, z7, z8, z9, z10, z11, z12, z13, z14, z15, z16, z17, z18, z19, z20, z21, z22, z23, z24, z25, z26, z27, .bool true, .bool true, .bool true, .bool true, .bool true, A e33, A c5, A e35, A e36, .bool true, .bool true, .bool true, A c5, A e41, A c4, .bool true, .bool true, .bool true, A c5, z47, z48, x0, .int .u8 ((g50 : Nat) : Int), z51, z52, z53] []) ?_
  refine d_tk 23 f9r11fOp23 (.bool false) hQ (y_val (fun _ => k51 _ _ (by kernel_rfl))) hS ?_
  refine d_fr (ls 27 15204351) (Fr [x0, z1, z2, .bool true, D b4, D b5, .bool true, z7, z8, z9, z10, z11, z12, z13, z14, z15, z16, z17, z18, z19, z20, z21, z22, z23, z24, z25, z26, z27, .bool true, .bool true, .bool true, .bool true, .bool true, A e33, A c5, A e35, A e36, .bool true, .bool true, .bool true, A c5, A e41, A c4, .bool true, .bool true, .bool true, A c5, z47, z48, x0, .int .u8 ((g50 : Nat) : Int), .bool false, z52, z53] []) ?_
  refine d_one 19 f9r11fOp19 (ls 27 15728639) (fun K hK => ?_)
  refine k_call hK hO (fun _ hO => ⟨hO.row _ h4, hO.row _ h5, trivial⟩) 19 #[] (.agg e47) r47 ?_
  intro w5 hO
  refine d_one 20 f9r11fOp20 (ls 27 16777215) (fun K hK => ?_)
  refine k_call hK hO (fun _ hO => ⟨hO.row _ h4, hO.row _ h5, trivial⟩) 18 #[.agg c5, .agg e47] (.bool false) r48 ?_
  intro w6 hO
  have hS : Has [(b4, c4, 22), (b5, c5, 29)] w6 := ⟨hO.row _ h4, hO.row _ h5, trivial⟩
  refine d_tk 24 f9r11fOp24 (.bool true) hQ (y_val (fun _ => k52 _ _ (by kernel_rfl) (by kernel_rfl))) hS ?_
  refine d_tk 25 f9r11fOp25 (.bool true) hQ (y_val (fun _ => by kernel_rfl)) hS ?_
  refine d_tk 26 f9r11fOp26 (.bool true) hQ (y_val (fun _ => by kernel_rfl)) hS ?_
  exact d_fr (ls 27 134217727) _ (wpAnyH_done (by kernel_rfl) (H  _ hO) _)
theorem rem_run9t (a : Act) (w : World) (g : Nat) (h0 : a.eval (.tmp 49) = .int .u8 ((g : Nat) : Int)) : (execOp a.eval f9r11tOp22).run Try.prog w = .ok (.value (.int .u8 ((g % 4 : Nat) : Int))) w := by
  unfold execOp f9r11tOp22
  simp only [h0]
  have e0 : a.eval (.const (.int .u8 4)) = .int .u8 4 := rfl
  have e2 : ((g : Nat) : Int).tmod 4 = ((g % 4 : Nat) : Int) := by rw [Int.tmod_eq_emod_of_nonneg (by omega)]; omega
  have e : IntKind.u8.wrap (((g % 4 : Nat) : Int)) = ((g % 4 : Nat) : Int) := wrap_u8s _ (by omega)
  go_simp
theorem eql_run9t (a : Act) (w : World) (g : Nat) (hg : g = 2) (h0 : a.eval (.tmp 50) = .int .u8 ((g : Nat) : Int)) : (execOp a.eval f9r11tOp23).run Try.prog w = .ok (.value (.bool true)) w := by
  unfold execOp f9r11tOp23
  simp only [h0]
  have e0 : a.eval (.const (.int .u8 2)) = .int .u8 2 := rfl
  have e : (((g : Nat) : Int) == 2) = true := by rw [Bool.eq_iff_iff]; simp; omega
  go_simp
theorem rem_run9f (a : Act) (w : World) (g : Nat) (h0 : a.eval (.tmp 49) = .int .u8 ((g : Nat) : Int)) : (execOp a.eval f9r11fOp22).run Try.prog w = .ok (.value (.int .u8 ((g % 4 : Nat) : Int))) w := by
  unfold execOp f9r11fOp22
  simp only [h0]
  have e0 : a.eval (.const (.int .u8 4)) = .int .u8 4 := rfl
  have e2 : ((g : Nat) : Int).tmod 4 = ((g % 4 : Nat) : Int) := by rw [Int.tmod_eq_emod_of_nonneg (by omega)]; omega
  have e : IntKind.u8.wrap (((g % 4 : Nat) : Int)) = ((g % 4 : Nat) : Int) := wrap_u8s _ (by omega)
  go_simp
theorem eql_run9f (a : Act) (w : World) (g : Nat) (hg : ¬ g = 2) (h0 : a.eval (.tmp 50) = .int .u8 ((g : Nat) : Int)) : (execOp a.eval f9r11fOp23).run Try.prog w = .ok (.value (.bool false)) w := by
  unfold execOp f9r11fOp23
  simp only [h0]
  have e0 : a.eval (.const (.int .u8 2)) = .int .u8 2 := rfl
  have e : (((g : Nat) : Int) == 2) = false := by rw [Bool.eq_iff_iff]; simp; omega
  go_simp
theorem dec_at {f : Nat → Nat} (hf : ∀ i, f i < 256) {P : Nat × Nat} (h : dec7 (nb f 32) = some P) (w : World) : Ret 12 #[.agg (vals .u8 32 f)] w (.tuple #[.agg (pt P), .bool true]) := by
  have h1 := decode_p f hf w
  rw [decR_some h] at h1
  exact h1
theorem little_bytes {f : Nat → Nat} (hf : ∀ i, f i < 256) {P : Nat × Nat} (h : dec7 (nb f 32) = some P) : sameB (byt (num7 P)) f = true := same_byt hf (dec7_ok _ (nb_lt32 f hf) P h).2
def lb (k : Nat) (j : Nat) : Nat := if k = 1 then (if j = 31 then 128 else 0) else if k = 2 then (if j = 0 then 1 else 0) else if k = 3 then byt (pP - 1) j else 0
theorem lb_lt (k j : Nat) : lb k j < 256 := by unfold lb; split; split <;> omega; split; split <;> omega; split; exact byt_lt _ _; omega
def lq (k : Nat) : Nat × Nat := if k = 1 then (s7N, 0) else if k = 2 then zero7 else if k = 3 then (0, pP - 1) else neg7 (s7N, 0)
theorem lb0 : dec7 (nb (lb 0) 32) = some (lq 0) := by rw [show nb (lb 0) 32 = 0 by decide +kernel]; exact dec_s0
theorem lb1 : dec7 (nb (lb 1) 32) = some (lq 1) := by rw [show nb (lb 1) 32 = 2 ^ 255 by decide +kernel]; exact dec_s1
theorem lb2 : dec7 (nb (lb 2) 32) = some (lq 2) := by rw [show nb (lb 2) 32 = 1 by decide +kernel]; exact dec_one
theorem lb3 : dec7 (nb (lb 3) 32) = some (lq 3) := by rw [show nb (lb 3) 32 = pP - 1 by decide +kernel]; exact dec_low
theorem lq_zero {k : Nat} (hk : k < 4) (h2 : ¬ k = 2) : ¬ lq k = zero7 := by
  have := (by decide +kernel : ∀ i : Fin 4, ¬ i.val = 2 → ¬ lq i.val = zero7) ⟨k, hk⟩
  exact this h2
theorem lq_four {k : Nat} (hk : k < 4) (h : Ok7 (lq k)) : mul7 (lq k) (nb (cb [4]) 32) = zero7 := by
  rw [show nb (cb [4]) 32 = 4 by decide +kernel]
  refine four_little h ?_
  have := (by decide +kernel : ∀ i : Fin 4, (lq i.val).1 = 0 ∨ (lq i.val).2 = 0) ⟨k, hk⟩
  exact this
theorem ng_one : ng 1 = pP - 1 := by decide +kernel
set_option maxRecDepth 100000 in
set_option maxHeartbeats 4000000 in
theorem little_walk (m : Nat) (w : World) (hm : m < 256) : Ret 9 #[.int .u8 ((m : Nat) : Int)] w (.bool true) := by
  go_enter Try.func9, Try.ntmps9
  have hO := Own.start w
  have e2 : ((m : Nat) : Int).tmod 4 = ((m % 4 : Nat) : Int) := by rw [Int.tmod_eq_emod_of_nonneg (by omega)]; omega
  have e3 : IntKind.u8.wrap (((m % 4 : Nat) : Int)) = ((m % 4 : Nat) : Int) := wrap_u8s _ (by omega)
  obtain ⟨k, hk⟩ : ∃ k, k = m % 4 := ⟨_, rfl⟩
  have hk4 : k < 4 := by omega
  have Hk := hide hk
  go_upto_region 0 with (fail)
  refine f9r0_r hO ?_
  intro w1 hO
  replace hO : Own w w1 [] := hO
  go_upto_region 1 with (fail)
  refine f9r1_r hO awake_c ?_
  intro w2 hO
  replace hO : Own w w2 [] := hO
  go_upto_region 2 with (fail)
  refine f9r2_r hO (e8 := vals .u8 32 (fun _ => 0)) (by kernel_rfl) (fit_by _) ?_
  intro n4 w3 hO
  replace hO : Own w w3 [(n4, vals .u8 32 (fun _ => 0), 22)] := hO
  rw [← hk] at e2 e3
  clear hk
  rcases (show k = 0 ∨ k = 1 ∨ k = 2 ∨ k = 3 by omega) with h | h | h | h
  · skip
    subst h
    replace hO : Own w w3 [(n4, vals .u8 32 (lb 0), 22)] := hO
    have hL := (dec7_ok _ (nb_lt32 _ (lb_lt 0)) _ lb0).1
    go_upto_region 10 with (fail)
    refine f9r10_r hO 0 rfl (dec_at (lb_lt 0) lb0) (fit_pt _ _) ?_
    intro n5 w4 hO
    replace hO : Own w w4 [(n5, pt (lq 0), 29), (n4, vals .u8 32 (lb 0), 22)] := hO
    go_upto_region 11 with (fail)
    refine f9r11f_r (fun _ _ _ _ _ h => h) hO 1 rfl 0 rfl (e33 := vals .u8 32 (cb [4])) (by kernel_rfl) (mul7_c _ (cb_lt _ (by decide +kernel)) hL) zero_c (same_t (ok_mul hL _) ok_zero7 (lq_four (by omega) hL)) (bytes_p hL) (fun a w h1 h2 => eql_c _ _ _ _ true (little_bytes (lb_lt 0) lb0) w rfl h1 h2) zero_c (same_f hL ok_zero7 (lq_zero (by omega) (by omega))) (fun a w h => rem_run9f a w m h) (fun a w h => eql_run9f a w _ (by rw [← Hk.out]; omega) h) (fun a w h1 h2 => eqb_c _ _ _ w rfl h1 h2) ?_
    intro w5 hO
    replace hO : Own w w5 [(n5, pt (lq 0), 29), (n4, vals .u8 32 (lb 0), 22)] := hO
    go_wp2_with fail
    refine bodyPost_ret (v := .bool true) (results_tmp Try.results9 _ _ _) rfl ⟨rfl, hO.low⟩
  · skip
    subst h
    go_upto_region 5 with (fail)
    refine f9r5_r hO 0 rfl (get_by _ 31 (by omega)) (set_by _ _ _) (fit_by _) ?_
    intro w4 hO
    replace hO : Own w w4 [(n4, vals .u8 32 (fun j => if j = 31 then 128 else (fun _ => 0) j), 22)] := hO
    replace hO : Own w w4 [(n4, vals .u8 32 (lb 1), 22)] := hO
    have hL := (dec7_ok _ (nb_lt32 _ (lb_lt 1)) _ lb1).1
    go_upto_region 10 with (fail)
    refine f9r10_r hO 0 rfl (dec_at (lb_lt 1) lb1) (fit_pt _ _) ?_
    intro n5 w5 hO
    replace hO : Own w w5 [(n5, pt (lq 1), 29), (n4, vals .u8 32 (lb 1), 22)] := hO
    go_upto_region 11 with (fail)
    refine f9r11f_r (fun _ _ _ _ _ h => h) hO 1 rfl 0 rfl (e33 := vals .u8 32 (cb [4])) (by kernel_rfl) (mul7_c _ (cb_lt _ (by decide +kernel)) hL) zero_c (same_t (ok_mul hL _) ok_zero7 (lq_four (by omega) hL)) (bytes_p hL) (fun a w h1 h2 => eql_c _ _ _ _ true (little_bytes (lb_lt 1) lb1) w rfl h1 h2) zero_c (same_f hL ok_zero7 (lq_zero (by omega) (by omega))) (fun a w h => rem_run9f a w m h) (fun a w h => eql_run9f a w _ (by rw [← Hk.out]; omega) h) (fun a w h1 h2 => eqb_c _ _ _ w rfl h1 h2) ?_
    intro w6 hO
    replace hO : Own w w6 [(n5, pt (lq 1), 29), (n4, vals .u8 32 (lb 1), 22)] := hO
    go_wp2_with fail
    refine bodyPost_ret (v := .bool true) (results_tmp Try.results9 _ _ _) rfl ⟨rfl, hO.low⟩
  · skip
    subst h
    go_upto_region 7 with (fail)
    refine f9r7_r hO 0 rfl (get_by _ 0 (by omega)) (set_by _ _ _) (fit_by _) ?_
    intro w4 hO
    replace hO : Own w w4 [(n4, vals .u8 32 (fun j => if j = 0 then 1 else (fun _ => 0) j), 22)] := hO
    replace hO : Own w w4 [(n4, vals .u8 32 (lb 2), 22)] := hO
    have hL := (dec7_ok _ (nb_lt32 _ (lb_lt 2)) _ lb2).1
    go_upto_region 10 with (fail)
    refine f9r10_r hO 0 rfl (dec_at (lb_lt 2) lb2) (fit_pt _ _) ?_
    intro n5 w5 hO
    replace hO : Own w w5 [(n5, pt (lq 2), 29), (n4, vals .u8 32 (lb 2), 22)] := hO
    go_upto_region 11 with (fail)
    refine f9r11t_r (fun _ _ _ _ _ h => h) hO 1 rfl 0 rfl (e33 := vals .u8 32 (cb [4])) (by kernel_rfl) (mul7_c _ (cb_lt _ (by decide +kernel)) hL) zero_c (same_t (ok_mul hL _) ok_zero7 (lq_four (by omega) hL)) (bytes_p hL) (fun a w h1 h2 => eql_c _ _ _ _ true (little_bytes (lb_lt 2) lb2) w rfl h1 h2) zero_c (same_t hL ok_zero7 rfl) (fun a w h => rem_run9t a w m h) (fun a w h => eql_run9t a w _ Hk.out.symm h) (fun a w h1 h2 => eqb_c _ _ _ w rfl h1 h2) ?_
    intro w6 hO
    replace hO : Own w w6 [(n5, pt (lq 2), 29), (n4, vals .u8 32 (lb 2), 22)] := hO
    go_wp2_with fail
    refine bodyPost_ret (v := .bool true) (results_tmp Try.results9 _ _ _) rfl ⟨rfl, hO.low⟩
  · skip
    subst h
    go_upto_region 9 with (fail)
    refine f9r9_r hO 0 rfl (e19 := vals .u8 32 (cb [1])) (by kernel_rfl) (load_k _ 1 (cb_lt _ (by decide +kernel)) (by decide +kernel)) (neg_c _ (of_lt (by omega))) (bytes_c _) (fit_by _) ?_
    intro w4 hO
    replace hO : Own w w4 [(n4, vals .u8 32 (byt (ng 1)), 22)] := hO
    rw [ng_one] at hO
    replace hO : Own w w4 [(n4, vals .u8 32 (lb 3), 22)] := hO
    have hL := (dec7_ok _ (nb_lt32 _ (lb_lt 3)) _ lb3).1
    go_upto_region 10 with (fail)
    refine f9r10_r hO 0 rfl (dec_at (lb_lt 3) lb3) (fit_pt _ _) ?_
    intro n5 w5 hO
    replace hO : Own w w5 [(n5, pt (lq 3), 29), (n4, vals .u8 32 (lb 3), 22)] := hO
    go_upto_region 11 with (fail)
    refine f9r11f_r (fun _ _ _ _ _ h => h) hO 1 rfl 0 rfl (e33 := vals .u8 32 (cb [4])) (by kernel_rfl) (mul7_c _ (cb_lt _ (by decide +kernel)) hL) zero_c (same_t (ok_mul hL _) ok_zero7 (lq_four (by omega) hL)) (bytes_p hL) (fun a w h1 h2 => eql_c _ _ _ _ true (little_bytes (lb_lt 3) lb3) w rfl h1 h2) zero_c (same_f hL ok_zero7 (lq_zero (by omega) (by omega))) (fun a w h => rem_run9f a w m h) (fun a w h => eql_run9f a w _ (by rw [← Hk.out]; omega) h) (fun a w h1 h2 => eqb_c _ _ _ w rfl h1 h2) ?_
    intro w6 hO
    replace hO : Own w w6 [(n5, pt (lq 3), 29), (n4, vals .u8 32 (lb 3), 22)] := hO
    go_wp2_with fail
    refine bodyPost_ret (v := .bool true) (results_tmp Try.results9 _ _ _) rfl ⟨rfl, hO.low⟩
end Go.Proofs.Ytalnkcijebdpbaa

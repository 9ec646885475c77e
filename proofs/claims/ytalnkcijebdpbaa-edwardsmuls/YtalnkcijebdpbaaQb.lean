/- EdwardsMuls: the walk. Thirty-two bytes each; no other condition. -/
import Derived.Test.YtalnkcijebdpbaaQ0
namespace Go.Proofs.Ytalnkcijebdpbaa
open F Go.RowKit

def f5r0Op0 : Oper := ⟨some 4, .box 22 (.tmp 0), 0, "law.go:65", #[], none⟩
def f5r0Op1 : Oper := ⟨some 5, .box 22 (.tmp 1), 0, "law.go:65", #[], none⟩
def f5r0Op2 : Oper := ⟨some 6, .box 22 (.tmp 2), 0, "law.go:65", #[], none⟩
def f5r0Op3 : Oper := ⟨some 7, .box 22 (.tmp 3), 0, "law.go:65", #[], none⟩
def f5r0Op4 : Oper := ⟨some 8, .assign (.const (.bool false)), 4, "law.go:65", #[], none⟩
def f5r0Ops : Array Oper := #[f5r0Op0, f5r0Op1, f5r0Op2, f5r0Op3, f5r0Op4]
set_option maxRecDepth 100000 in
set_option maxHeartbeats 2000000 in
theorem f5r0_r {Q : Exit → Act → World → Prop} {u w : World} {L : List Row} {z4 z5 z6 z7 z8 : Value} {zz : List Value} {e0 e1 e2 e3 : Array Value} (hO : Own u w L) (fe0_22 : Fit 22 e0) (fe1_22 : Fit 22 e1) (fe2_22 : Fit 22 e2) (fe3_22 : Fit 22 e3) (H : ∀ (n4 : Nat) (n5 : Nat) (n6 : Nat) (n7 : Nat) (w' : World), Own u w' ((n7, e3, 22) :: (n6, e2, 22) :: (n5, e1, 22) :: (n4, e0, 22) :: L) → Q .normal { tmps := List.toArray ((.agg e0) :: (.agg e1) :: (.agg e2) :: (.agg e3) :: (.pointer (some ⟨n4, 0, none⟩)) :: (.pointer (some ⟨n5, 0, none⟩)) :: (.pointer (some ⟨n6, 0, none⟩)) :: (.pointer (some ⟨n7, 0, none⟩)) :: (.bool false) :: zz), defers := [] } w') :
    (Code.region 0 f5r0Ops false).wp Try.prog Q { tmps := List.toArray ((.agg e0) :: (.agg e1) :: (.agg e2) :: (.agg e3) :: z4 :: z5 :: z6 :: z7 :: z8 :: zz), defers := [] } w := by
  refine wp_region_list (show wpList _ f5r0Ops _ [f5r0Op0, f5r0Op1, f5r0Op2, f5r0Op3, f5r0Op4] _ _ from ?_)
  refine l_new hO (e0) 22 (run_box 22 _ rfl _ (by kernel_rfl)) fe0_22 ?_
  intro n4 w1 hO
  refine l_new hO (e1) 22 (run_box 22 _ rfl _ (by kernel_rfl)) fe1_22 ?_
  intro n5 w2 hO
  refine l_new hO (e2) 22 (run_box 22 _ rfl _ (by kernel_rfl)) fe2_22 ?_
  intro n6 w3 hO
  refine l_fr (Fr [A e0, A e1, A e2, A e3, D n4, D n5, D n6, z7, z8] zz) ?_
  refine l_new hO (e3) 22 (run_box 22 _ rfl _ (by kernel_rfl)) fe3_22 ?_
  intro n7 w4 hO
  refine l_val (.bool false) (by kernel_rfl) ?_
  exact l_fr _ (wpList_nil (H n4 n5 n6 n7 _ hO))
def f5r1Op0 : Oper := ⟨some 17, .call { callee := .value (.func 11), args := #[], argTypes := #[] }, 4, "law.go:66", #[], none⟩
def f5r1Op1 : Oper := ⟨some 9, .assign (.tmp 17), 4, "law.go:66", #[⟨0, .data⟩, ⟨0, .chain⟩, ⟨0, .phase⟩], none⟩
def f5r1Ops : Array Oper := #[f5r1Op0, f5r1Op1]
set_option maxRecDepth 100000 in
set_option maxHeartbeats 2000000 in
theorem f5r1_r {Q : Exit → Act → World → Prop} {u w : World} {L : List Row} {z0 z1 z2 z3 z4 z5 z6 z7 z8 z9 z10 z11 z12 z13 z14 z15 z16 z17 : Value} {zz : List Value} {p17 : Bool} (hO : Own u w L) (r17 : ∀ w, Ret 11 #[] w (.bool p17)) (H : ∀ (w' : World), Own u w' (L) → Q .normal { tmps := List.toArray (z0 :: z1 :: z2 :: z3 :: z4 :: z5 :: z6 :: z7 :: z8 :: (.bool p17) :: z10 :: z11 :: z12 :: z13 :: z14 :: z15 :: z16 :: (.bool p17) :: zz), defers := [] } w') :
    (Code.region 1 f5r1Ops false).wp Try.prog Q { tmps := List.toArray (z0 :: z1 :: z2 :: z3 :: z4 :: z5 :: z6 :: z7 :: z8 :: z9 :: z10 :: z11 :: z12 :: z13 :: z14 :: z15 :: z16 :: z17 :: zz), defers := [] } w := by
  refine wp_region_list (show wpList _ f5r1Ops _ [f5r1Op0, f5r1Op1] _ _ from ?_)
  refine l_call hO 11 #[] (.bool p17) r17 ?_
  intro w1 hO
  refine l_val (.bool p17) (by kernel_rfl) ?_
  exact l_fr _ (wpList_nil (H  _ hO))
def f5r2Op0 : Oper := ⟨some 19, .load 22 (.tmp 5), 22, "law.go:67", #[], none⟩
def f5r2Op1 : Oper := ⟨some 20, .call { callee := .value (.func 20), args := #[.tmp 19], argTypes := #[22] }, 45, "law.go:67", #[⟨0, .data⟩], none⟩
def f5r2Op2 : Oper := ⟨some 18, .move (.tmp 20), 45, "law.go:67", #[⟨1, .data⟩], none⟩
def f5r2Op3 : Oper := ⟨some 21, .extract (.tmp 18) 0, 29, "law.go:67", #[⟨2, .data⟩], none⟩
def f5r2Op4 : Oper := ⟨some 22, .extract (.tmp 18) 1, 35, "law.go:67", #[⟨2, .data⟩, ⟨7, .gcOnly .lateStores⟩], none⟩
def f5r2Op5 : Oper := ⟨some 10, .alloc 29, 0, "law.go:67", #[], none⟩
def f5r2Op6 : Oper := ⟨some 11, .alloc 35, 0, "law.go:67", #[], none⟩
def f5r2Op7 : Oper := ⟨none, .store 29 (.tmp 10) (.tmp 21), 0, "law.go:67", #[⟨5, .data⟩, ⟨3, .data⟩, ⟨1, .chain⟩, ⟨0, .phase⟩, ⟨1, .phase⟩, ⟨2, .phase⟩, ⟨3, .phase⟩, ⟨4, .textOnly .lateStores⟩, ⟨5, .phase⟩, ⟨6, .phase⟩], none⟩
def f5r2Op8 : Oper := ⟨none, .store 35 (.tmp 11) (.tmp 22), 0, "law.go:67", #[⟨6, .data⟩, ⟨4, .data⟩, ⟨7, .chain⟩, ⟨0, .phase⟩, ⟨1, .phase⟩, ⟨2, .phase⟩, ⟨3, .phase⟩, ⟨4, .phase⟩, ⟨5, .phase⟩, ⟨6, .phase⟩, ⟨7, .phase⟩], none⟩
def f5r2Ops : Array Oper := #[f5r2Op0, f5r2Op1, f5r2Op2, f5r2Op3, f5r2Op4, f5r2Op5, f5r2Op6, f5r2Op7, f5r2Op8]
set_option maxRecDepth 100000 in
set_option maxHeartbeats 2000000 in
theorem f5r2_r {Q : Exit → Act → World → Prop} {u w : World} {L : List Row} {z0 z1 z2 z3 z4 z6 z7 z8 z9 z10 z11 z12 z13 z14 z15 z16 z17 z18 z19 z20 z21 z22 : Value} {zz : List Value} {b5 : Nat} {c5 : Array Value} {e20a e20b : Array Value} (hO : Own u w L) (i5 : Nat) (h5 : L[i5]? = some (b5, c5, 22)) (r20 : ∀ w, Ret 20 #[.agg c5] w (.tuple #[.agg e20a, .agg e20b])) (fe20a_29 : Fit 29 e20a) (fe20b_35 : Fit 35 e20b) (H : ∀ (n10 : Nat) (n11 : Nat) (w' : World), Own u w' ((n11, e20b, 35) :: (n10, e20a, 29) :: L) → Q .normal { tmps := List.toArray (z0 :: z1 :: z2 :: z3 :: z4 :: (.pointer (some ⟨b5, 0, none⟩)) :: z6 :: z7 :: z8 :: z9 :: (.pointer (some ⟨n10, 0, none⟩)) :: (.pointer (some ⟨n11, 0, none⟩)) :: z12 :: z13 :: z14 :: z15 :: z16 :: z17 :: (.tuple #[.agg e20a, .agg e20b]) :: (.agg c5) :: (.tuple #[.agg e20a, .agg e20b]) :: (.agg e20a) :: (.agg e20b) :: zz), defers := [] } w') :
    (Code.region 2 f5r2Ops false).wp Try.prog Q { tmps := List.toArray (z0 :: z1 :: z2 :: z3 :: z4 :: (.pointer (some ⟨b5, 0, none⟩)) :: z6 :: z7 :: z8 :: z9 :: z10 :: z11 :: z12 :: z13 :: z14 :: z15 :: z16 :: z17 :: z18 :: z19 :: z20 :: z21 :: z22 :: zz), defers := [] } w := by
  refine wp_region_list (show wpList _ f5r2Ops _ [f5r2Op0, f5r2Op1, f5r2Op2, f5r2Op3, f5r2Op4, f5r2Op5, f5r2Op6, f5r2Op7, f5r2Op8] _ _ from ?_)
  refine l_ld hO 22 i5 h5 Try.underlying22 ?_
  refine l_call hO 20 #[.agg c5] (.tuple #[.agg e20a, .agg e20b]) r20 ?_
  intro w1 hO
  refine l_val (.tuple #[.agg e20a, .agg e20b]) (by kernel_rfl) ?_
  refine l_fr (Fr [z0, z1, z2, z3, z4, D b5, z6, z7, z8, z9, z10, z11, z12, z13, z14, z15, z16, z17, .tuple #[.agg e20a, .agg e20b], A c5, .tuple #[.agg e20a, .agg e20b], z21, z22] zz) ?_
  refine l_val (.agg e20a) (by kernel_rfl) ?_
  refine l_val (.agg e20b) (by kernel_rfl) ?_
  refine l_new hO (ps [0, 0]) 29 (al29 rfl) (fit_pt _ _) ?_
  intro n10 w2 hO
  refine l_fr (Fr [z0, z1, z2, z3, z4, D b5, z6, z7, z8, z9, D n10, z11, z12, z13, z14, z15, z16, z17, .tuple #[.agg e20a, .agg e20b], A c5, .tuple #[.agg e20a, .agg e20b], A e20a, A e20b] zz) ?_
  refine l_new hO (qn [0, 0]) 35 (al35 rfl) (fit_rp _ _) ?_
  intro n11 w3 hO
  refine l_st hO 29 1 rfl e20a fe20a_29 ?_
  intro w4 hO
  replace hO : Own u w4 ((n11, qn [0, 0], 35) :: (n10, e20a, 29) :: L) := hO
  refine l_st hO 35 0 rfl e20b fe20b_35 ?_
  intro w5 hO
  exact l_fr _ (wpList_nil (H n10 n11 _ hO))
def f5r3Op0 : Oper := ⟨some 24, .load 22 (.tmp 7), 22, "law.go:68", #[], none⟩
def f5r3Op1 : Oper := ⟨some 25, .call { callee := .value (.func 20), args := #[.tmp 24], argTypes := #[22] }, 45, "law.go:68", #[⟨0, .data⟩], none⟩
def f5r3Op2 : Oper := ⟨some 23, .move (.tmp 25), 45, "law.go:68", #[⟨1, .data⟩], none⟩
def f5r3Op3 : Oper := ⟨some 26, .extract (.tmp 23) 0, 29, "law.go:68", #[⟨2, .data⟩], none⟩
def f5r3Op4 : Oper := ⟨some 27, .extract (.tmp 23) 1, 35, "law.go:68", #[⟨2, .data⟩, ⟨7, .gcOnly .lateStores⟩], none⟩
def f5r3Op5 : Oper := ⟨some 12, .alloc 29, 0, "law.go:68", #[], none⟩
def f5r3Op6 : Oper := ⟨some 13, .alloc 35, 0, "law.go:68", #[], none⟩
def f5r3Op7 : Oper := ⟨none, .store 29 (.tmp 12) (.tmp 26), 0, "law.go:68", #[⟨5, .data⟩, ⟨3, .data⟩, ⟨1, .chain⟩, ⟨0, .phase⟩, ⟨1, .phase⟩, ⟨2, .phase⟩, ⟨3, .phase⟩, ⟨4, .textOnly .lateStores⟩, ⟨5, .phase⟩, ⟨6, .phase⟩], none⟩
def f5r3Op8 : Oper := ⟨none, .store 35 (.tmp 13) (.tmp 27), 0, "law.go:68", #[⟨6, .data⟩, ⟨4, .data⟩, ⟨7, .chain⟩, ⟨0, .phase⟩, ⟨1, .phase⟩, ⟨2, .phase⟩, ⟨3, .phase⟩, ⟨4, .phase⟩, ⟨5, .phase⟩, ⟨6, .phase⟩, ⟨7, .phase⟩], none⟩
def f5r3Ops : Array Oper := #[f5r3Op0, f5r3Op1, f5r3Op2, f5r3Op3, f5r3Op4, f5r3Op5, f5r3Op6, f5r3Op7, f5r3Op8]
set_option maxRecDepth 100000 in
set_option maxHeartbeats 2000000 in
theorem f5r3_r {Q : Exit → Act → World → Prop} {u w : World} {L : List Row} {z0 z1 z2 z3 z4 z5 z6 z8 z9 z10 z11 z12 z13 z14 z15 z16 z17 z18 z19 z20 z21 z22 z23 z24 z25 z26 z27 : Value} {zz : List Value} {b7 : Nat} {c7 : Array Value} {e25a e25b : Array Value} (hO : Own u w L) (i7 : Nat) (h7 : L[i7]? = some (b7, c7, 22)) (r25 : ∀ w, Ret 20 #[.agg c7] w (.tuple #[.agg e25a, .agg e25b])) (fe25a_29 : Fit 29 e25a) (fe25b_35 : Fit 35 e25b) (H : ∀ (n12 : Nat) (n13 : Nat) (w' : World), Own u w' ((n13, e25b, 35) :: (n12, e25a, 29) :: L) → Q .normal { tmps := List.toArray (z0 :: z1 :: z2 :: z3 :: z4 :: z5 :: z6 :: (.pointer (some ⟨b7, 0, none⟩)) :: z8 :: z9 :: z10 :: z11 :: (.pointer (some ⟨n12, 0, none⟩)) :: (.pointer (some ⟨n13, 0, none⟩)) :: z14 :: z15 :: z16 :: z17 :: z18 :: z19 :: z20 :: z21 :: z22 :: (.tuple #[.agg e25a, .agg e25b]) :: (.agg c7) :: (.tuple #[.agg e25a, .agg e25b]) :: (.agg e25a) :: (.agg e25b) :: zz), defers := [] } w') :
    (Code.region 3 f5r3Ops false).wp Try.prog Q { tmps := List.toArray (z0 :: z1 :: z2 :: z3 :: z4 :: z5 :: z6 :: (.pointer (some ⟨b7, 0, none⟩)) :: z8 :: z9 :: z10 :: z11 :: z12 :: z13 :: z14 :: z15 :: z16 :: z17 :: z18 :: z19 :: z20 :: z21 :: z22 :: z23 :: z24 :: z25 :: z26 :: z27 :: zz), defers := [] } w := by
  refine wp_region_list (show wpList _ f5r3Ops _ [f5r3Op0, f5r3Op1, f5r3Op2, f5r3Op3, f5r3Op4, f5r3Op5, f5r3Op6, f5r3Op7, f5r3Op8] _ _ from ?_)
  refine l_ld hO 22 i7 h7 Try.underlying22 ?_
  refine l_call hO 20 #[.agg c7] (.tuple #[.agg e25a, .agg e25b]) r25 ?_
  intro w1 hO
  refine l_val (.tuple #[.agg e25a, .agg e25b]) (by kernel_rfl) ?_
  refine l_fr (Fr [z0, z1, z2, z3, z4, z5, z6, D b7, z8, z9, z10, z11, z12, z13, z14, z15, z16, z17, z18, z19, z20, z21, z22, .tuple #[.agg e25a, .agg e25b], A c7, .tuple #[.agg e25a, .agg e25b], z26, z27] zz) ?_
  refine l_val (.agg e25a) (by kernel_rfl) ?_
  refine l_val (.agg e25b) (by kernel_rfl) ?_
  refine l_new hO (ps [0, 0]) 29 (al29 rfl) (fit_pt _ _) ?_
  intro n12 w2 hO
  refine l_fr (Fr [z0, z1, z2, z3, z4, z5, z6, D b7, z8, z9, z10, z11, D n12, z13, z14, z15, z16, z17, z18, z19, z20, z21, z22, .tuple #[.agg e25a, .agg e25b], A c7, .tuple #[.agg e25a, .agg e25b], A e25a, A e25b] zz) ?_
  refine l_new hO (qn [0, 0]) 35 (al35 rfl) (fit_rp _ _) ?_
  intro n13 w3 hO
  refine l_st hO 29 1 rfl e25a fe25a_29 ?_
  intro w4 hO
  replace hO : Own u w4 ((n13, qn [0, 0], 35) :: (n12, e25a, 29) :: L) := hO
  refine l_st hO 35 0 rfl e25b fe25b_35 ?_
  intro w5 hO
  exact l_fr _ (wpList_nil (H n12 n13 _ hO))
def f5r4Op0 : Oper := ⟨some 28, .load 22 (.tmp 4), 22, "law.go:69", #[], none⟩
def f5r4Op1 : Oper := ⟨some 29, .load 35 (.tmp 11), 35, "law.go:69", #[], none⟩
def f5r4Op2 : Oper := ⟨some 30, .call { callee := .value (.func 29), args := #[.tmp 28, .tmp 29], argTypes := #[22, 35] }, 35, "law.go:69", #[⟨0, .data⟩, ⟨1, .data⟩], none⟩
def f5r4Op3 : Oper := ⟨some 14, .alloc 35, 0, "law.go:69", #[], none⟩
def f5r4Op4 : Oper := ⟨none, .store 35 (.tmp 14) (.tmp 30), 0, "law.go:69", #[⟨3, .data⟩, ⟨2, .data⟩, ⟨2, .chain⟩, ⟨0, .phase⟩, ⟨1, .phase⟩, ⟨2, .phase⟩, ⟨3, .phase⟩], none⟩
def f5r4Ops : Array Oper := #[f5r4Op0, f5r4Op1, f5r4Op2, f5r4Op3, f5r4Op4]
set_option maxRecDepth 100000 in
set_option maxHeartbeats 2000000 in
theorem f5r4_r {Q : Exit → Act → World → Prop} {u w : World} {L : List Row} {z0 z1 z2 z3 z5 z6 z7 z8 z9 z10 z12 z13 z14 z15 z16 z17 z18 z19 z20 z21 z22 z23 z24 z25 z26 z27 z28 z29 z30 : Value} {zz : List Value} {b4 b11 : Nat} {c4 c11 : Array Value} {e30 : Array Value} (hO : Own u w L) (i4 : Nat) (h4 : L[i4]? = some (b4, c4, 22)) (i11 : Nat) (h11 : L[i11]? = some (b11, c11, 35)) (r30 : ∀ w, Ret 29 #[.agg c4, .agg c11] w (.agg e30)) (fe30_35 : Fit 35 e30) (H : ∀ (n14 : Nat) (w' : World), Own u w' ((n14, e30, 35) :: L) → Q .normal { tmps := List.toArray (z0 :: z1 :: z2 :: z3 :: (.pointer (some ⟨b4, 0, none⟩)) :: z5 :: z6 :: z7 :: z8 :: z9 :: z10 :: (.pointer (some ⟨b11, 0, none⟩)) :: z12 :: z13 :: (.pointer (some ⟨n14, 0, none⟩)) :: z15 :: z16 :: z17 :: z18 :: z19 :: z20 :: z21 :: z22 :: z23 :: z24 :: z25 :: z26 :: z27 :: (.agg c4) :: (.agg c11) :: (.agg e30) :: zz), defers := [] } w') :
    (Code.region 4 f5r4Ops false).wp Try.prog Q { tmps := List.toArray (z0 :: z1 :: z2 :: z3 :: (.pointer (some ⟨b4, 0, none⟩)) :: z5 :: z6 :: z7 :: z8 :: z9 :: z10 :: (.pointer (some ⟨b11, 0, none⟩)) :: z12 :: z13 :: z14 :: z15 :: z16 :: z17 :: z18 :: z19 :: z20 :: z21 :: z22 :: z23 :: z24 :: z25 :: z26 :: z27 :: z28 :: z29 :: z30 :: zz), defers := [] } w := by
  refine wp_region_list (show wpList _ f5r4Ops _ [f5r4Op0, f5r4Op1, f5r4Op2, f5r4Op3, f5r4Op4] _ _ from ?_)
  refine l_ld hO 22 i4 h4 Try.underlying22 ?_
  refine l_ld hO 35 i11 h11 Try.underlying35 ?_
  refine l_call hO 29 #[.agg c4, .agg c11] (.agg e30) r30 ?_
  intro w1 hO
  refine l_fr (Fr [z0, z1, z2, z3, D b4, z5, z6, z7, z8, z9, z10, D b11, z12, z13, z14, z15, z16, z17, z18, z19, z20, z21, z22, z23, z24, z25, z26, z27, A c4, A c11, A e30] zz) ?_
  refine l_new hO (qn [0, 0]) 35 (al35 rfl) (fit_rp _ _) ?_
  intro n14 w2 hO
  refine l_st hO 35 0 rfl e30 fe30_35 ?_
  intro w3 hO
  exact l_fr _ (wpList_nil (H n14 _ hO))
def f5r5Op0 : Oper := ⟨some 31, .load 22 (.tmp 6), 22, "law.go:70", #[], none⟩
def f5r5Op1 : Oper := ⟨some 32, .load 35 (.tmp 13), 35, "law.go:70", #[], none⟩
def f5r5Op2 : Oper := ⟨some 33, .call { callee := .value (.func 29), args := #[.tmp 31, .tmp 32], argTypes := #[22, 35] }, 35, "law.go:70", #[⟨0, .data⟩, ⟨1, .data⟩], none⟩
def f5r5Op3 : Oper := ⟨some 15, .alloc 35, 0, "law.go:70", #[], none⟩
def f5r5Op4 : Oper := ⟨none, .store 35 (.tmp 15) (.tmp 33), 0, "law.go:70", #[⟨3, .data⟩, ⟨2, .data⟩, ⟨2, .chain⟩, ⟨0, .phase⟩, ⟨1, .phase⟩, ⟨2, .phase⟩, ⟨3, .phase⟩], none⟩
def f5r5Ops : Array Oper := #[f5r5Op0, f5r5Op1, f5r5Op2, f5r5Op3, f5r5Op4]
set_option maxRecDepth 100000 in
set_option maxHeartbeats 2000000 in
theorem f5r5_r {Q : Exit → Act → World → Prop} {u w : World} {L : List Row} {z0 z1 z2 z3 z4 z5 z7 z8 z9 z10 z11 z12 z14 z15 z16 z17 z18 z19 z20 z21 z22 z23 z24 z25 z26 z27 z28 z29 z30 z31 z32 z33 : Value} {zz : List Value} {b6 b13 : Nat} {c6 c13 : Array Value} {e33 : Array Value} (hO : Own u w L) (i6 : Nat) (h6 : L[i6]? = some (b6, c6, 22)) (i13 : Nat) (h13 : L[i13]? = some (b13, c13, 35)) (r33 : ∀ w, Ret 29 #[.agg c6, .agg c13] w (.agg e33)) (fe33_35 : Fit 35 e33) (H : ∀ (n15 : Nat) (w' : World), Own u w' ((n15, e33, 35) :: L) → Q .normal { tmps := List.toArray (z0 :: z1 :: z2 :: z3 :: z4 :: z5 :: (.pointer (some ⟨b6, 0, none⟩)) :: z7 :: z8 :: z9 :: z10 :: z11 :: z12 :: (.pointer (some ⟨b13, 0, none⟩)) :: z14 :: (.pointer (some ⟨n15, 0, none⟩)) :: z16 :: z17 :: z18 :: z19 :: z20 :: z21 :: z22 :: z23 :: z24 :: z25 :: z26 :: z27 :: z28 :: z29 :: z30 :: (.agg c6) :: (.agg c13) :: (.agg e33) :: zz), defers := [] } w') :
    (Code.region 5 f5r5Ops false).wp Try.prog Q { tmps := List.toArray (z0 :: z1 :: z2 :: z3 :: z4 :: z5 :: (.pointer (some ⟨b6, 0, none⟩)) :: z7 :: z8 :: z9 :: z10 :: z11 :: z12 :: (.pointer (some ⟨b13, 0, none⟩)) :: z14 :: z15 :: z16 :: z17 :: z18 :: z19 :: z20 :: z21 :: z22 :: z23 :: z24 :: z25 :: z26 :: z27 :: z28 :: z29 :: z30 :: z31 :: z32 :: z33 :: zz), defers := [] } w := by
  refine wp_region_list (show wpList _ f5r5Ops _ [f5r5Op0, f5r5Op1, f5r5Op2, f5r5Op3, f5r5Op4] _ _ from ?_)
  refine l_ld hO 22 i6 h6 Try.underlying22 ?_
  refine l_ld hO 35 i13 h13 Try.underlying35 ?_
  refine l_call hO 29 #[.agg c6, .agg c13] (.agg e33) r33 ?_
  intro w1 hO
  refine l_fr (Fr [z0, z1, z2, z3, z4, z5, D b6, z7, z8, z9, z10, z11, z12, D b13, z14, z15, z16, z17, z18, z19, z20, z21, z22, z23, z24, z25, z26, z27, z28, z29, z30, A c6, A c13, A e33] zz) ?_
  refine l_new hO (qn [0, 0]) 35 (al35 rfl) (fit_rp _ _) ?_
  intro n15 w2 hO
  refine l_st hO 35 0 rfl e33 fe33_35 ?_
  intro w3 hO
  exact l_fr _ (wpList_nil (H n15 _ hO))
def f5r6Op0 : Oper := ⟨some 34, .load 22 (.tmp 4), 22, "law.go:71", #[], none⟩
def f5r6Op1 : Oper := ⟨some 35, .load 29 (.tmp 10), 29, "law.go:71", #[], none⟩
def f5r6Op2 : Oper := ⟨some 36, .call { callee := .value (.func 30), args := #[.tmp 34, .tmp 35], argTypes := #[22, 29] }, 29, "law.go:71", #[⟨0, .data⟩, ⟨1, .data⟩], none⟩
def f5r6Op3 : Oper := ⟨some 37, .call { callee := .value (.func 15), args := #[.tmp 36], argTypes := #[29] }, 22, "law.go:71", #[⟨2, .data⟩, ⟨2, .chain⟩], none⟩
def f5r6Op4 : Oper := ⟨some 38, .load 35 (.tmp 14), 35, "law.go:71", #[], none⟩
def f5r6Op5 : Oper := ⟨some 39, .call { callee := .value (.func 23), args := #[.tmp 38], argTypes := #[35] }, 22, "law.go:71", #[⟨4, .data⟩, ⟨3, .chain⟩], none⟩
def f5r6Op6 : Oper := ⟨some 40, .binOp .eql 22 (.tmp 37) (.tmp 39) 22, 4, "law.go:71", #[⟨3, .data⟩, ⟨5, .data⟩], none⟩
def f5r6Op7 : Oper := ⟨some 16, .assign (.tmp 40), 4, "law.go:71", #[⟨6, .data⟩, ⟨5, .chain⟩, ⟨0, .phase⟩, ⟨1, .phase⟩, ⟨2, .phase⟩, ⟨3, .phase⟩, ⟨4, .phase⟩, ⟨5, .phase⟩, ⟨6, .phase⟩], none⟩
def f5r6Ops : Array Oper := #[f5r6Op0, f5r6Op1, f5r6Op2, f5r6Op3, f5r6Op4, f5r6Op5, f5r6Op6, f5r6Op7]
set_option maxRecDepth 100000 in
set_option maxHeartbeats 2000000 in
theorem f5r6_r {Q : Exit → Act → World → Prop} {u w : World} {L : List Row} {z0 z1 z2 z3 z5 z6 z7 z8 z9 z11 z12 z13 z15 z16 z17 z18 z19 z20 z21 z22 z23 z24 z25 z26 z27 z28 z29 z30 z31 z32 z33 z34 z35 z36 z37 z38 z39 z40 : Value} {zz : List Value} {b4 b10 b14 : Nat} {c4 c10 c14 : Array Value} {e36 e37 e39 : Array Value} (hQ : ∀ c a w n v, Q (.panic c) (a.put (some n) v) w → Q (.panic c) a w) (hO : Own u w L) (i4 : Nat) (h4 : L[i4]? = some (b4, c4, 22)) (i10 : Nat) (h10 : L[i10]? = some (b10, c10, 29)) (i14 : Nat) (h14 : L[i14]? = some (b14, c14, 35)) (r36 : ∀ w, Ret 30 #[.agg c4, .agg c10] w (.agg e36)) (r37 : ∀ w, Ret 15 #[.agg e36] w (.agg e37)) (r39 : ∀ w, Ret 23 #[.agg c14] w (.agg e39)) (k40 : ∀ (a : Act) (w : World), a.eval (.tmp 37) = .agg e37 → a.eval (.tmp 39) = .agg e39 → (execOp a.eval f5r6Op6).run Try.prog w = .ok (.value (.bool true)) w) (H : ∀ (w' : World), Own u w' (L) → Q .normal { tmps := List.toArray (z0 :: z1 :: z2 :: z3 :: (.pointer (some ⟨b4, 0, none⟩)) :: z5 :: z6 :: z7 :: z8 :: z9 :: (.pointer (some ⟨b10, 0, none⟩)) :: z11 :: z12 :: z13 :: (.pointer (some ⟨b14, 0, none⟩)) :: z15 :: (.bool true) :: z17 :: z18 :: z19 :: z20 :: z21 :: z22 :: z23 :: z24 :: z25 :: z26 :: z27 :: z28 :: z29 :: z30 :: z31 :: z32 :: z33 :: (.agg c4) :: (.agg c10) :: (.agg e36) :: (.agg e37) :: (.agg c14) :: (.agg e39) :: (.bool true) :: zz), defers := [] } w') :
    (Code.region 6 f5r6Ops true).wp Try.prog Q { tmps := List.toArray (z0 :: z1 :: z2 :: z3 :: (.pointer (some ⟨b4, 0, none⟩)) :: z5 :: z6 :: z7 :: z8 :: z9 :: (.pointer (some ⟨b10, 0, none⟩)) :: z11 :: z12 :: z13 :: (.pointer (some ⟨b14, 0, none⟩)) :: z15 :: z16 :: z17 :: z18 :: z19 :: z20 :: z21 :: z22 :: z23 :: z24 :: z25 :: z26 :: z27 :: z28 :: z29 :: z30 :: z31 :: z32 :: z33 :: z34 :: z35 :: z36 :: z37 :: z38 :: z39 :: z40 :: zz), defers := [] } w := by
  have fc4_22 := hO.fits i4 h4
  have fc10_29 := hO.fits i10 h10
  have fc14_35 := hO.fits i14 h14
  refine wp_region_held_drew (S := Has [(b4, c4, 22), (b10, c10, 29), (b14, c14, 35)]) (by kernel_rfl) ⟨hO.drew.row _ h4, hO.drew.row _ h10, hO.drew.row _ h14, trivial⟩ (fun hS => ?_)
  replace hO := hO.drew
  refine d_tk 0 f5r6Op0 (.agg c4) hQ (y_l 22 (fun _ h => h.1) fc4_22 Try.underlying22) hS ?_
  refine d_tk 1 f5r6Op1 (.agg c10) hQ (y_l 29 (fun _ h => h.2.1) fc10_29 Try.underlying29) hS ?_
  refine d_tk 4 f5r6Op4 (.agg c14) hQ (y_l 35 (fun _ h => h.2.2.1) fc14_35 Try.underlying35) hS ?_
  refine d_fr (ls 8 19) (Fr [z0, z1, z2, z3, D b4, z5, z6, z7, z8, z9, D b10, z11, z12, z13, D b14, z15, z16, z17, z18, z19, z20, z21, z22, z23, z24, z25, z26, z27, z28, z29, z30, z31, z32, z33, A c4, A c10, z36, z37, A c14, z39, z40] zz) ?_
  refine d_one 2 f5r6Op2 (ls 8 23) (fun K hK => ?_)
  refine k_call hK hO (fun _ hO => ⟨hO.row _ h4, hO.row _ h10, hO.row _ h14, trivial⟩) 30 #[.agg c4, .agg c10] (.agg e36) r36 ?_
  intro w1 hO
  refine d_one 3 f5r6Op3 (ls 8 31) (fun K hK => ?_)
  refine k_call hK hO (fun _ hO => ⟨hO.row _ h4, hO.row _ h10, hO.row _ h14, trivial⟩) 15 #[.agg e36] (.agg e37) r37 ?_
  intro w2 hO
  refine d_one 5 f5r6Op5 (ls 8 63) (fun K hK => ?_)
  refine k_call hK hO (fun _ hO => ⟨hO.row _ h4, hO.row _ h10, hO.row _ h14, trivial⟩) 23 #[.agg c14] (.agg e39) r39 ?_
  intro w3 hO
  have hS : Has [(b4, c4, 22), (b10, c10, 29), (b14, c14, 35)] w3 := ⟨hO.row _ h4, hO.row _ h10, hO.row _ h14, trivial⟩
  refine d_tk 6 f5r6Op6 (.bool true) hQ (y_val (fun _ => k40 _ _ (by kernel_rfl) (by kernel_rfl))) hS ?_
  refine d_tk 7 f5r6Op7 (.bool true) hQ (y_val (fun _ => by kernel_rfl)) hS ?_
  exact d_fr (ls 8 255) _ (wpAnyH_done (by kernel_rfl) (H  _ hO) _)
def f5r7Op0 : Oper := ⟨some 41, .move (.tmp 9), 4, "law.go:72", #[], none⟩
def f5r7Op1 : Oper := ⟨some 42, .move (.tmp 41), 4, "law.go:72", #[⟨0, .data⟩], none⟩
def f5r7Op2 : Oper := ⟨some 43, .move (.tmp 16), 4, "law.go:72", #[⟨1, .guard⟩], some (1, true)⟩
def f5r7Op3 : Oper := ⟨some 44, .pick (.tmp 42) (.tmp 43) (.const (.bool false)), 4, "law.go:72", #[⟨1, .data⟩, ⟨2, .data⟩], none⟩
def f5r7Op4 : Oper := ⟨some 45, .move (.tmp 44), 4, "law.go:72", #[⟨3, .data⟩, ⟨1, .chain⟩], none⟩
def f5r7Op5 : Oper := ⟨some 46, .load 22 (.tmp 4), 22, "law.go:72", #[⟨4, .guard⟩], some (4, true)⟩
def f5r7Op6 : Oper := ⟨some 47, .load 29 (.tmp 10), 29, "law.go:72", #[⟨4, .guard⟩], some (4, true)⟩
def f5r7Op7 : Oper := ⟨some 48, .load 22 (.tmp 6), 22, "law.go:72", #[⟨4, .guard⟩], some (4, true)⟩
def f5r7Op8 : Oper := ⟨some 49, .load 29 (.tmp 12), 29, "law.go:72", #[⟨4, .guard⟩], some (4, true)⟩
def f5r7Op9 : Oper := ⟨some 50, .call { callee := .value (.func 31), args := #[.tmp 46, .tmp 47, .tmp 48, .tmp 49], argTypes := #[22, 29, 22, 29] }, 29, "law.go:72", #[⟨5, .data⟩, ⟨6, .data⟩, ⟨7, .data⟩, ⟨8, .data⟩, ⟨4, .chain⟩, ⟨4, .guard⟩], some (4, true)⟩
def f5r7Op10 : Oper := ⟨some 51, .call { callee := .value (.func 15), args := #[.tmp 50], argTypes := #[29] }, 22, "law.go:72", #[⟨9, .data⟩, ⟨9, .chain⟩, ⟨4, .guard⟩], some (4, true)⟩
def f5r7Op11 : Oper := ⟨some 52, .load 35 (.tmp 14), 35, "law.go:72", #[⟨4, .guard⟩], some (4, true)⟩
def f5r7Op12 : Oper := ⟨some 53, .load 35 (.tmp 15), 35, "law.go:72", #[⟨4, .guard⟩], some (4, true)⟩
def f5r7Op13 : Oper := ⟨some 54, .call { callee := .value (.func 22), args := #[.tmp 52, .tmp 53], argTypes := #[35, 35] }, 35, "law.go:72", #[⟨11, .data⟩, ⟨12, .data⟩, ⟨10, .chain⟩, ⟨4, .guard⟩], some (4, true)⟩
def f5r7Op14 : Oper := ⟨some 55, .call { callee := .value (.func 23), args := #[.tmp 54], argTypes := #[35] }, 22, "law.go:72", #[⟨13, .data⟩, ⟨13, .chain⟩, ⟨4, .guard⟩], some (4, true)⟩
def f5r7Op15 : Oper := ⟨some 56, .binOp .eql 22 (.tmp 51) (.tmp 55) 22, 4, "law.go:72", #[⟨10, .data⟩, ⟨14, .data⟩, ⟨4, .guard⟩], some (4, true)⟩
def f5r7Op16 : Oper := ⟨some 57, .pick (.tmp 45) (.tmp 56) (.const (.bool false)), 4, "law.go:72", #[⟨4, .data⟩, ⟨15, .data⟩], none⟩
def f5r7Op17 : Oper := ⟨some 8, .assign (.tmp 57), 4, "law.go:72", #[⟨16, .data⟩, ⟨14, .chain⟩, ⟨0, .phase⟩, ⟨1, .phase⟩, ⟨2, .phase⟩, ⟨3, .phase⟩, ⟨4, .phase⟩, ⟨5, .phase⟩, ⟨6, .phase⟩, ⟨7, .phase⟩, ⟨8, .phase⟩, ⟨9, .phase⟩, ⟨10, .phase⟩, ⟨11, .phase⟩, ⟨12, .phase⟩, ⟨13, .phase⟩, ⟨14, .phase⟩, ⟨15, .phase⟩, ⟨16, .phase⟩], none⟩
def f5r7Ops : Array Oper := #[f5r7Op0, f5r7Op1, f5r7Op2, f5r7Op3, f5r7Op4, f5r7Op5, f5r7Op6, f5r7Op7, f5r7Op8, f5r7Op9, f5r7Op10, f5r7Op11, f5r7Op12, f5r7Op13, f5r7Op14, f5r7Op15, f5r7Op16, f5r7Op17]
set_option maxRecDepth 100000 in
set_option maxHeartbeats 2000000 in
theorem f5r7_r {Q : Exit → Act → World → Prop} {u w : World} {L : List Row} {z0 z1 z2 z3 z5 z7 z8 z11 z13 z17 z18 z19 z20 z21 z22 z23 z24 z25 z26 z27 z28 z29 z30 z31 z32 z33 z34 z35 z36 z37 z38 z39 z40 z41 z42 z43 z44 z45 z46 z47 z48 z49 z50 z51 z52 z53 z54 z55 z56 z57 : Value} {b4 b6 b10 b12 b14 b15 : Nat} {c4 c6 c10 c12 c14 c15 : Array Value} {e50 e51 e54 e55 : Array Value} (hQ : ∀ c a w n v, Q (.panic c) (a.put (some n) v) w → Q (.panic c) a w) (hO : Own u w L) (i4 : Nat) (h4 : L[i4]? = some (b4, c4, 22)) (i6 : Nat) (h6 : L[i6]? = some (b6, c6, 22)) (i10 : Nat) (h10 : L[i10]? = some (b10, c10, 29)) (i12 : Nat) (h12 : L[i12]? = some (b12, c12, 29)) (i14 : Nat) (h14 : L[i14]? = some (b14, c14, 35)) (i15 : Nat) (h15 : L[i15]? = some (b15, c15, 35)) (r50 : ∀ w, Ret 31 #[.agg c4, .agg c10, .agg c6, .agg c12] w (.agg e50)) (r51 : ∀ w, Ret 15 #[.agg e50] w (.agg e51)) (r54 : ∀ w, Ret 22 #[.agg c14, .agg c15] w (.agg e54)) (r55 : ∀ w, Ret 23 #[.agg e54] w (.agg e55)) (k56 : ∀ (a : Act) (w : World), a.eval (.tmp 51) = .agg e51 → a.eval (.tmp 55) = .agg e55 → (execOp a.eval f5r7Op15).run Try.prog w = .ok (.value (.bool true)) w) (H : ∀ (w' : World), Own u w' (L) → Q .normal { tmps := List.toArray (z0 :: z1 :: z2 :: z3 :: (.pointer (some ⟨b4, 0, none⟩)) :: z5 :: (.pointer (some ⟨b6, 0, none⟩)) :: z7 :: (.bool true) :: (.bool true) :: (.pointer (some ⟨b10, 0, none⟩)) :: z11 :: (.pointer (some ⟨b12, 0, none⟩)) :: z13 :: (.pointer (some ⟨b14, 0, none⟩)) :: (.pointer (some ⟨b15, 0, none⟩)) :: (.bool true) :: z17 :: z18 :: z19 :: z20 :: z21 :: z22 :: z23 :: z24 :: z25 :: z26 :: z27 :: z28 :: z29 :: z30 :: z31 :: z32 :: z33 :: z34 :: z35 :: z36 :: z37 :: z38 :: z39 :: z40 :: (.bool true) :: (.bool true) :: (.bool true) :: (.bool true) :: (.bool true) :: (.agg c4) :: (.agg c10) :: (.agg c6) :: (.agg c12) :: (.agg e50) :: (.agg e51) :: (.agg c14) :: (.agg c15) :: (.agg e54) :: (.agg e55) :: (.bool true) :: (.bool true) :: []), defers := [] } w') :
    (Code.region 7 f5r7Ops true).wp Try.prog Q { tmps := List.toArray (z0 :: z1 :: z2 :: z3 :: (.pointer (some ⟨b4, 0, none⟩)) :: z5 :: (.pointer (some ⟨b6, 0, none⟩)) :: z7 :: z8 :: (.bool true) :: (.pointer (some ⟨b10, 0, none⟩)) :: z11 :: (.pointer (some ⟨b12, 0, none⟩)) :: z13 :: (.pointer (some ⟨b14, 0, none⟩)) :: (.pointer (some ⟨b15, 0, none⟩)) :: (.bool true) :: z17 :: z18 :: z19 :: z20 :: z21 :: z22 :: z23 :: z24 :: z25 :: z26 :: z27 :: z28 :: z29 :: z30 :: z31 :: z32 :: z33 :: z34 :: z35 :: z36 :: z37 :: z38 :: z39 :: z40 :: z41 :: z42 :: z43 :: z44 :: z45 :: z46 :: z47 :: z48 :: z49 :: z50 :: z51 :: z52 :: z53 :: z54 :: z55 :: z56 :: z57 :: []), defers := [] } w := by
  have fc4_22 := hO.fits i4 h4
  have fc6_22 := hO.fits i6 h6
  have fc10_29 := hO.fits i10 h10
  have fc12_29 := hO.fits i12 h12
  have fc14_35 := hO.fits i14 h14
  have fc15_35 := hO.fits i15 h15
  refine wp_region_held_drew (S := Has [(b4, c4, 22), (b6, c6, 22), (b10, c10, 29), (b12, c12, 29), (b14, c14, 35), (b15, c15, 35)]) (by kernel_rfl) ⟨hO.drew.row _ h4, hO.drew.row _ h6, hO.drew.row _ h10, hO.drew.row _ h12, hO.drew.row _ h14, hO.drew.row _ h15, trivial⟩ (fun hS => ?_)
  replace hO := hO.drew
  refine d_tk 0 f5r7Op0 (.bool true) hQ (y_val (fun _ => by kernel_rfl)) hS ?_
  refine d_tk 1 f5r7Op1 (.bool true) hQ (y_val (fun _ => by kernel_rfl)) hS ?_
  refine d_tk 2 f5r7Op2 (.bool true) hQ (y_val (fun _ => by kernel_rfl)) hS ?_
  refine d_fr (ls 18 7) (Fr [z0, z1, z2, z3, D b4, z5, D b6, z7, z8, .bool true, D b10, z11, D b12, z13, D b14, D b15, .bool true, z17, z18, z19, z20, z21, z22, z23, z24, z25, z26, z27, z28, z29, z30, z31, z32, z33, z34, z35, z36, z37, z38, z39, z40, .bool true, .bool true, .bool true, z44, z45, z46, z47, z48, z49, z50, z51, z52, z53, z54, z55, z56, z57] []) ?_
  refine d_tk 3 f5r7Op3 (.bool true) hQ (y_val (fun _ => by kernel_rfl)) hS ?_
  refine d_tk 4 f5r7Op4 (.bool true) hQ (y_val (fun _ => by kernel_rfl)) hS ?_
  refine d_tk 5 f5r7Op5 (.agg c4) hQ (y_l 22 (fun _ h => h.1) fc4_22 Try.underlying22) hS ?_
  refine d_fr (ls 18 63) (Fr [z0, z1, z2, z3, D b4, z5, D b6, z7, z8, .bool true, D b10, z11, D b12, z13, D b14, D b15, .bool true, z17, z18, z19, z20, z21, z22, z23, z24, z25, z26, z27, z28, z29, z30, z31, z32, z33, z34, z35, z36, z37, z38, z39, z40, .bool true, .bool true, .bool true, .bool true, .bool true, A c4, z47, z48, z49, z50, z51, z52, z53, z54, z55, z56, z57] []) ?_
  refine d_tk 6 f5r7Op6 (.agg c10) hQ (y_l 29 (fun _ h => h.2.2.1) fc10_29 Try.underlying29) hS ?_
  refine d_tk 7 f5r7Op7 (.agg c6) hQ (y_l 22 (fun _ h => h.2.1) fc6_22 Try.underlying22) hS ?_
  refine d_tk 8 f5r7Op8 (.agg c12) hQ (y_l 29 (fun _ h => h.2.2.2.1) fc12_29 Try.underlying29) hS ?_
  refine d_fr (ls 18 511) (Fr [z0, z1, z2, z3, D b4, z5, D b6, z7, z8, .bool true, D b10, z11, D b12, z13, D b14, D b15, .bool true, z17, z18, z19, z20, z21, z22, z23, z24, z25, z26, z27, z28, z29, z30, z31, z32, z33, z34, z35, z36, z37, z38, z39, z40, .bool true, .bool true, .bool true, .bool true, .bool true, A c4, A c10, A c6, A c12, z50, z51, z52, z53, z54, z55, z56, z57] []) ?_
  refine d_tk 11 f5r7Op11 (.agg c14) hQ (y_l 35 (fun _ h => h.2.2.2.2.1) fc14_35 Try.underlying35) hS ?_
  refine d_tk 12 f5r7Op12 (.agg c15) hQ (y_l 35 (fun _ h => h.2.2.2.2.2.1) fc15_35 Try.underlying35) hS ?_
  refine d_fr (ls 18 6655) (Fr [z0, z1, z2, z3, D b4, z5, D b6, z7, z8, .bool true, D b10, z11, D b12, z13, D b14, D b15, .bool true, z17, z18, z19, z20, z21, z22, z23, z24, z25, z26, z27, z28, z29, z30, z31, z32, z33, z34, z35, z36, z37, z38, z39, z40, .bool true, .bool true, .bool true, .bool true, .bool true, A c4, A c10, A c6, A c12, z50, z51, A c14, A c15, z54, z55, z56, z57] []) ?_
  refine d_one 9 f5r7Op9 (ls 18 7167) (fun K hK => ?_)
  refine k_call hK hO (fun _ hO => ⟨hO.row _ h4, hO.row _ h6, hO.row _ h10, hO.row _ h12, hO.row _ h14, hO.row _ h15, trivial⟩) 31 #[.agg c4, .agg c10, .agg c6, .agg c12] (.agg e50) r50 ?_
  intro w1 hO
  refine d_one 10 f5r7Op10 (ls 18 8191) (fun K hK => ?_)
  refine k_call hK hO (fun _ hO => ⟨hO.row _ h4, hO.row _ h6, hO.row _ h10, hO.row _ h12, hO.row _ h14, hO.row _ h15, trivial⟩) 15 #[.agg e50] (.agg e51) r51 ?_
  intro w2 hO
  refine d_one 13 f5r7Op13 (ls 18 16383) (fun K hK => ?_)
  refine k_call hK hO (fun _ hO => ⟨hO.row _ h4, hO.row _ h6, hO.row _ h10, hO.row _ h12, hO.row _ h14, hO.row _ h15, trivial⟩) 22 #[.agg c14, .agg c15] (.agg e54) r54 ?_
  intro w3 hO
  refine d_fr (ls 18 16383) (Fr [z0, z1, z2, z3, D b4, z5, D b6, z7, z8, .bool true, D b10, z11, D b12, z13, D b14, D b15, .bool true, z17, z18, z19, z20, z21, z22, z23, z24, z25, z26, z27, z28, z29, z30, z31, z32, z33, z34, z35, z36, z37, z38, z39, z40, .bool true, .bool true, .bool true, .bool true, .bool true, A c4, A c10, A c6, A c12, A e50, A e51, A c14, A c15, A e54, z55, z56, z57] []) ?_
  refine d_one 14 f5r7Op14 (ls 18 32767) (fun K hK => ?_)
  refine k_call hK hO (fun _ hO => ⟨hO.row _ h4, hO.row _ h6, hO.row _ h10, hO.row _ h12, hO.row _ h14, hO.row _ h15, trivial⟩) 23 #[.agg e54] (.agg e55) r55 ?_
  intro w4 hO
  have hS : Has [(b4, c4, 22), (b6, c6, 22), (b10, c10, 29), (b12, c12, 29), (b14, c14, 35), (b15, c15, 35)] w4 := ⟨hO.row _ h4, hO.row _ h6, hO.row _ h10, hO.row _ h12, hO.row _ h14, hO.row _ h15, trivial⟩
  refine d_tk 15 f5r7Op15 (.bool true) hQ (y_val (fun _ => k56 _ _ (by kernel_rfl) (by kernel_rfl))) hS ?_
  refine d_tk 16 f5r7Op16 (.bool true) hQ (y_val (fun _ => by kernel_rfl)) hS ?_
  refine d_tk 17 f5r7Op17 (.bool true) hQ (y_val (fun _ => by kernel_rfl)) hS ?_
  exact d_fr (ls 18 262143) _ (wpAnyH_done (by kernel_rfl) (H  _ hO) _)
set_option maxRecDepth 100000 in
set_option maxHeartbeats 4000000 in
theorem muls_walk (f : Nat → Nat) (a : Nat → Nat) (g : Nat → Nat) (b : Nat → Nat) (w : World) (hf : ∀ i, f i < 256) (ha : ∀ i, a i < 256) (hg : ∀ i, g i < 256) (hb : ∀ i, b i < 256) : Ret 5 #[.agg (vals .u8 32 f), .agg (vals .u8 32 a), .agg (vals .u8 32 g), .agg (vals .u8 32 b)] w (.bool true) := by
  go_enter Try.func5, Try.ntmps5
  have hO := Own.start w
  have qP := point_p a ha
  have hP := ok_ptP a ha
  generalize ptP a = P at qP hP
  have KP := hide qP
  clear qP
  have qQ := point_p b hb
  have hQ := ok_ptP b hb
  generalize ptP b = Q at qQ hQ
  have KQ := hide qQ
  clear qQ
  go_upto_region 0 with (fail)
  refine f5r0_r hO (fit_by _) (fit_by _) (fit_by _) (fit_by _) ?_
  intro n4 n5 n6 n7 w1 hO
  replace hO : Own w w1 [(n7, vals .u8 32 b, 22), (n6, vals .u8 32 g, 22), (n5, vals .u8 32 a, 22), (n4, vals .u8 32 f, 22)] := hO
  go_upto_region 1 with (fail)
  refine f5r1_r hO awake_c ?_
  intro w2 hO
  replace hO : Own w w2 [(n7, vals .u8 32 b, 22), (n6, vals .u8 32 g, 22), (n5, vals .u8 32 a, 22), (n4, vals .u8 32 f, 22)] := hO
  go_upto_region 2 with (fail)
  refine f5r2_r hO 2 rfl KP.out (fit_pt _ _) (fit_rp _ _) ?_
  intro n10 n11 w3 hO
  replace hO : Own w w3 [(n11, rp P, 35), (n10, pt P, 29), (n7, vals .u8 32 b, 22), (n6, vals .u8 32 g, 22), (n5, vals .u8 32 a, 22), (n4, vals .u8 32 f, 22)] := hO
  go_upto_region 3 with (fail)
  refine f5r3_r hO 2 rfl KQ.out (fit_pt _ _) (fit_rp _ _) ?_
  intro n12 n13 w4 hO
  replace hO : Own w w4 [(n13, rp Q, 35), (n12, pt Q, 29), (n11, rp P, 35), (n10, pt P, 29), (n7, vals .u8 32 b, 22), (n6, vals .u8 32 g, 22), (n5, vals .u8 32 a, 22), (n4, vals .u8 32 f, 22)] := hO
  go_upto_region 4 with (fail)
  refine f5r4_r hO 7 rfl 2 rfl (rmul_p _ hf hP) (fit_rp _ _) ?_
  intro n14 w5 hO
  replace hO : Own w w5 [(n14, rp (mul7 P (nb f 32)), 35), (n13, rp Q, 35), (n12, pt Q, 29), (n11, rp P, 35), (n10, pt P, 29), (n7, vals .u8 32 b, 22), (n6, vals .u8 32 g, 22), (n5, vals .u8 32 a, 22), (n4, vals .u8 32 f, 22)] := hO
  go_upto_region 5 with (fail)
  refine f5r5_r hO 6 rfl 1 rfl (rmul_p _ hg hQ) (fit_rp _ _) ?_
  intro n15 w6 hO
  replace hO : Own w w6 [(n15, rp (mul7 Q (nb g 32)), 35), (n14, rp (mul7 P (nb f 32)), 35), (n13, rp Q, 35), (n12, pt Q, 29), (n11, rp P, 35), (n10, pt P, 29), (n7, vals .u8 32 b, 22), (n6, vals .u8 32 g, 22), (n5, vals .u8 32 a, 22), (n4, vals .u8 32 f, 22)] := hO
  go_upto_region 6 with (fail)
  refine f5r6_r (fun _ _ _ _ _ h => h) hO 9 rfl 5 rfl 1 rfl (mul7_c _ hf hP) (bytes_p (ok_mul hP _)) (rbytes_p (ok_mul hP _)) (fun a w h1 h2 => eql_c _ _ _ _ true (same_self _) w rfl h1 h2) ?_
  intro w7 hO
  replace hO : Own w w7 [(n15, rp (mul7 Q (nb g 32)), 35), (n14, rp (mul7 P (nb f 32)), 35), (n13, rp Q, 35), (n12, pt Q, 29), (n11, rp P, 35), (n10, pt P, 29), (n7, vals .u8 32 b, 22), (n6, vals .u8 32 g, 22), (n5, vals .u8 32 a, 22), (n4, vals .u8 32 f, 22)] := hO
  go_upto_region 7 with (fail)
  refine f5r7_r (fun _ _ _ _ _ h => h) hO 9 rfl 7 rfl 5 rfl 3 rfl 1 rfl 0 rfl (both7_c _ _ hf hP hg hQ) (bytes_p (ok_add (ok_mul hP _) (ok_mul hQ _))) (radd_p (ok_mul hP _) (ok_mul hQ _)) (rbytes_p (ok_add (ok_mul hP _) (ok_mul hQ _))) (fun a w h1 h2 => eql_c _ _ _ _ true (same_self _) w rfl h1 h2) ?_
  intro w8 hO
  replace hO : Own w w8 [(n15, rp (mul7 Q (nb g 32)), 35), (n14, rp (mul7 P (nb f 32)), 35), (n13, rp Q, 35), (n12, pt Q, 29), (n11, rp P, 35), (n10, pt P, 29), (n7, vals .u8 32 b, 22), (n6, vals .u8 32 g, 22), (n5, vals .u8 32 a, 22), (n4, vals .u8 32 f, 22)] := hO
  go_wp2_with fail
  refine bodyPost_ret (v := .bool true) (results_tmp Try.results5 _ _ _) rfl ⟨rfl, hO.low⟩
end Go.Proofs.Ytalnkcijebdpbaa

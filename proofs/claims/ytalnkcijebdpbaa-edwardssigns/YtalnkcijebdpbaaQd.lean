/- EdwardsSigns: the walk. Thirty-two bytes; no other condition. -/
import Derived.Test.YtalnkcijebdpbaaQ0
namespace Go.Proofs.Ytalnkcijebdpbaa
open F Go.RowKit

def f7r0Op0 : Oper := ⟨some 1, .box 22 (.tmp 0), 0, "law.go:106", #[], none⟩
def f7r0Op1 : Oper := ⟨some 2, .assign (.const (.bool false)), 4, "law.go:106", #[], none⟩
def f7r0Ops : Array Oper := #[f7r0Op0, f7r0Op1]
set_option maxRecDepth 100000 in
set_option maxHeartbeats 2000000 in
theorem f7r0_r {Q : Exit → Act → World → Prop} {u w : World} {L : List Row} {z1 z2 : Value} {zz : List Value} {e0 : Array Value} (hO : Own u w L) (fe0_22 : Fit 22 e0) (H : ∀ (n1 : Nat) (w' : World), Own u w' ((n1, e0, 22) :: L) → Q .normal { tmps := List.toArray ((.agg e0) :: (.pointer (some ⟨n1, 0, none⟩)) :: (.bool false) :: zz), defers := [] } w') :
    (Code.region 0 f7r0Ops false).wp Try.prog Q { tmps := List.toArray ((.agg e0) :: z1 :: z2 :: zz), defers := [] } w := by
  refine wp_region_list (show wpList _ f7r0Ops _ [f7r0Op0, f7r0Op1] _ _ from ?_)
  refine l_new hO (e0) 22 (run_box 22 _ rfl _ (by kernel_rfl)) fe0_22 ?_
  intro n1 w1 hO
  refine l_val (.bool false) (by kernel_rfl) ?_
  exact l_fr _ (wpList_nil (H n1 _ hO))
def f7r1Op0 : Oper := ⟨some 11, .call { callee := .value (.func 11), args := #[], argTypes := #[] }, 4, "law.go:107", #[], none⟩
def f7r1Op1 : Oper := ⟨some 3, .assign (.tmp 11), 4, "law.go:107", #[⟨0, .data⟩, ⟨0, .chain⟩, ⟨0, .phase⟩], none⟩
def f7r1Ops : Array Oper := #[f7r1Op0, f7r1Op1]
set_option maxRecDepth 100000 in
set_option maxHeartbeats 2000000 in
theorem f7r1_r {Q : Exit → Act → World → Prop} {u w : World} {L : List Row} {z0 z1 z2 z3 z4 z5 z6 z7 z8 z9 z10 z11 : Value} {zz : List Value} {p11 : Bool} (hO : Own u w L) (r11 : ∀ w, Ret 11 #[] w (.bool p11)) (H : ∀ (w' : World), Own u w' (L) → Q .normal { tmps := List.toArray (z0 :: z1 :: z2 :: (.bool p11) :: z4 :: z5 :: z6 :: z7 :: z8 :: z9 :: z10 :: (.bool p11) :: zz), defers := [] } w') :
    (Code.region 1 f7r1Ops false).wp Try.prog Q { tmps := List.toArray (z0 :: z1 :: z2 :: z3 :: z4 :: z5 :: z6 :: z7 :: z8 :: z9 :: z10 :: z11 :: zz), defers := [] } w := by
  refine wp_region_list (show wpList _ f7r1Ops _ [f7r1Op0, f7r1Op1] _ _ from ?_)
  refine l_call hO 11 #[] (.bool p11) r11 ?_
  intro w1 hO
  refine l_val (.bool p11) (by kernel_rfl) ?_
  exact l_fr _ (wpList_nil (H  _ hO))
def f7r2Op0 : Oper := ⟨some 13, .load 22 (.tmp 1), 22, "law.go:108", #[], none⟩
def f7r2Op1 : Oper := ⟨some 14, .call { callee := .value (.func 20), args := #[.tmp 13], argTypes := #[22] }, 45, "law.go:108", #[⟨0, .data⟩], none⟩
def f7r2Op2 : Oper := ⟨some 12, .move (.tmp 14), 45, "law.go:108", #[⟨1, .data⟩], none⟩
def f7r2Op3 : Oper := ⟨some 15, .extract (.tmp 12) 0, 29, "law.go:108", #[⟨2, .data⟩], none⟩
def f7r2Op4 : Oper := ⟨some 16, .extract (.tmp 12) 1, 35, "law.go:108", #[⟨2, .data⟩, ⟨7, .gcOnly .lateStores⟩], none⟩
def f7r2Op5 : Oper := ⟨some 4, .alloc 29, 0, "law.go:108", #[], none⟩
def f7r2Op6 : Oper := ⟨some 5, .alloc 35, 0, "law.go:108", #[], none⟩
def f7r2Op7 : Oper := ⟨none, .store 29 (.tmp 4) (.tmp 15), 0, "law.go:108", #[⟨5, .data⟩, ⟨3, .data⟩, ⟨1, .chain⟩, ⟨0, .phase⟩, ⟨1, .phase⟩, ⟨2, .phase⟩, ⟨3, .phase⟩, ⟨4, .textOnly .lateStores⟩, ⟨5, .phase⟩, ⟨6, .phase⟩], none⟩
def f7r2Op8 : Oper := ⟨none, .store 35 (.tmp 5) (.tmp 16), 0, "law.go:108", #[⟨6, .data⟩, ⟨4, .data⟩, ⟨7, .chain⟩, ⟨0, .phase⟩, ⟨1, .phase⟩, ⟨2, .phase⟩, ⟨3, .phase⟩, ⟨4, .phase⟩, ⟨5, .phase⟩, ⟨6, .phase⟩, ⟨7, .phase⟩], none⟩
def f7r2Ops : Array Oper := #[f7r2Op0, f7r2Op1, f7r2Op2, f7r2Op3, f7r2Op4, f7r2Op5, f7r2Op6, f7r2Op7, f7r2Op8]
set_option maxRecDepth 100000 in
set_option maxHeartbeats 2000000 in
theorem f7r2_r {Q : Exit → Act → World → Prop} {u w : World} {L : List Row} {z0 z2 z3 z4 z5 z6 z7 z8 z9 z10 z11 z12 z13 z14 z15 z16 : Value} {zz : List Value} {b1 : Nat} {c1 : Array Value} {e14a e14b : Array Value} (hO : Own u w L) (i1 : Nat) (h1 : L[i1]? = some (b1, c1, 22)) (r14 : ∀ w, Ret 20 #[.agg c1] w (.tuple #[.agg e14a, .agg e14b])) (fe14a_29 : Fit 29 e14a) (fe14b_35 : Fit 35 e14b) (H : ∀ (n4 : Nat) (n5 : Nat) (w' : World), Own u w' ((n5, e14b, 35) :: (n4, e14a, 29) :: L) → Q .normal { tmps := List.toArray (z0 :: (.pointer (some ⟨b1, 0, none⟩)) :: z2 :: z3 :: (.pointer (some ⟨n4, 0, none⟩)) :: (.pointer (some ⟨n5, 0, none⟩)) :: z6 :: z7 :: z8 :: z9 :: z10 :: z11 :: (.tuple #[.agg e14a, .agg e14b]) :: (.agg c1) :: (.tuple #[.agg e14a, .agg e14b]) :: (.agg e14a) :: (.agg e14b) :: zz), defers := [] } w') :
    (Code.region 2 f7r2Ops false).wp Try.prog Q { tmps := List.toArray (z0 :: (.pointer (some ⟨b1, 0, none⟩)) :: z2 :: z3 :: z4 :: z5 :: z6 :: z7 :: z8 :: z9 :: z10 :: z11 :: z12 :: z13 :: z14 :: z15 :: z16 :: zz), defers := [] } w := by
  refine wp_region_list (show wpList _ f7r2Ops _ [f7r2Op0, f7r2Op1, f7r2Op2, f7r2Op3, f7r2Op4, f7r2Op5, f7r2Op6, f7r2Op7, f7r2Op8] _ _ from ?_)
  refine l_ld hO 22 i1 h1 Try.underlying22 ?_
  refine l_call hO 20 #[.agg c1] (.tuple #[.agg e14a, .agg e14b]) r14 ?_
  intro w1 hO
  refine l_val (.tuple #[.agg e14a, .agg e14b]) (by kernel_rfl) ?_
  refine l_fr (Fr [z0, D b1, z2, z3, z4, z5, z6, z7, z8, z9, z10, z11, .tuple #[.agg e14a, .agg e14b], A c1, .tuple #[.agg e14a, .agg e14b], z15, z16] zz) ?_
  refine l_val (.agg e14a) (by kernel_rfl) ?_
  refine l_val (.agg e14b) (by kernel_rfl) ?_
  refine l_new hO (ps [0, 0]) 29 (al29 rfl) (fit_pt _ _) ?_
  intro n4 w2 hO
  refine l_fr (Fr [z0, D b1, z2, z3, D n4, z5, z6, z7, z8, z9, z10, z11, .tuple #[.agg e14a, .agg e14b], A c1, .tuple #[.agg e14a, .agg e14b], A e14a, A e14b] zz) ?_
  refine l_new hO (qn [0, 0]) 35 (al35 rfl) (fit_rp _ _) ?_
  intro n5 w3 hO
  refine l_st hO 29 1 rfl e14a fe14a_29 ?_
  intro w4 hO
  replace hO : Own u w4 ((n5, qn [0, 0], 35) :: (n4, e14a, 29) :: L) := hO
  refine l_st hO 35 0 rfl e14b fe14b_35 ?_
  intro w5 hO
  exact l_fr _ (wpList_nil (H n4 n5 _ hO))
def f7r3Op0 : Oper := ⟨some 17, .load 29 (.tmp 4), 29, "law.go:109", #[], none⟩
def f7r3Op1 : Oper := ⟨some 18, .call { callee := .value (.func 25), args := #[.tmp 17], argTypes := #[29] }, 29, "law.go:109", #[⟨0, .data⟩], none⟩
def f7r3Op2 : Oper := ⟨some 6, .alloc 29, 0, "law.go:109", #[], none⟩
def f7r3Op3 : Oper := ⟨none, .store 29 (.tmp 6) (.tmp 18), 0, "law.go:109", #[⟨2, .data⟩, ⟨1, .data⟩, ⟨1, .chain⟩, ⟨0, .phase⟩, ⟨1, .phase⟩, ⟨2, .phase⟩], none⟩
def f7r3Ops : Array Oper := #[f7r3Op0, f7r3Op1, f7r3Op2, f7r3Op3]
set_option maxRecDepth 100000 in
set_option maxHeartbeats 2000000 in
theorem f7r3_r {Q : Exit → Act → World → Prop} {u w : World} {L : List Row} {z0 z1 z2 z3 z5 z6 z7 z8 z9 z10 z11 z12 z13 z14 z15 z16 z17 z18 : Value} {zz : List Value} {b4 : Nat} {c4 : Array Value} {e18 : Array Value} (hO : Own u w L) (i4 : Nat) (h4 : L[i4]? = some (b4, c4, 29)) (r18 : ∀ w, Ret 25 #[.agg c4] w (.agg e18)) (fe18_29 : Fit 29 e18) (H : ∀ (n6 : Nat) (w' : World), Own u w' ((n6, e18, 29) :: L) → Q .normal { tmps := List.toArray (z0 :: z1 :: z2 :: z3 :: (.pointer (some ⟨b4, 0, none⟩)) :: z5 :: (.pointer (some ⟨n6, 0, none⟩)) :: z7 :: z8 :: z9 :: z10 :: z11 :: z12 :: z13 :: z14 :: z15 :: z16 :: (.agg c4) :: (.agg e18) :: zz), defers := [] } w') :
    (Code.region 3 f7r3Ops false).wp Try.prog Q { tmps := List.toArray (z0 :: z1 :: z2 :: z3 :: (.pointer (some ⟨b4, 0, none⟩)) :: z5 :: z6 :: z7 :: z8 :: z9 :: z10 :: z11 :: z12 :: z13 :: z14 :: z15 :: z16 :: z17 :: z18 :: zz), defers := [] } w := by
  refine wp_region_list (show wpList _ f7r3Ops _ [f7r3Op0, f7r3Op1, f7r3Op2, f7r3Op3] _ _ from ?_)
  refine l_ld hO 29 i4 h4 Try.underlying29 ?_
  refine l_call hO 25 #[.agg c4] (.agg e18) r18 ?_
  intro w1 hO
  refine l_new hO (ps [0, 0]) 29 (al29 rfl) (fit_pt _ _) ?_
  intro n6 w2 hO
  refine l_fr (Fr [z0, z1, z2, z3, D b4, z5, D n6, z7, z8, z9, z10, z11, z12, z13, z14, z15, z16, A c4, A e18] zz) ?_
  refine l_st hO 29 0 rfl e18 fe18_29 ?_
  intro w3 hO
  exact l_fr _ (wpList_nil (H n6 _ hO))
def f7r4Op0 : Oper := ⟨some 20, .load 29 (.tmp 4), 29, "law.go:110", #[], none⟩
def f7r4Op1 : Oper := ⟨some 21, .call { callee := .value (.func 14), args := #[.tmp 20], argTypes := #[29] }, 38, "law.go:110", #[⟨0, .data⟩], none⟩
def f7r4Op2 : Oper := ⟨some 19, .move (.tmp 21), 38, "law.go:110", #[⟨1, .data⟩], none⟩
def f7r4Op3 : Oper := ⟨some 22, .extract (.tmp 19) 0, 27, "law.go:110", #[⟨2, .data⟩], none⟩
def f7r4Op4 : Oper := ⟨some 23, .extract (.tmp 19) 1, 27, "law.go:110", #[⟨2, .data⟩, ⟨7, .gcOnly .lateStores⟩], none⟩
def f7r4Op5 : Oper := ⟨some 7, .alloc 27, 0, "law.go:110", #[], none⟩
def f7r4Op6 : Oper := ⟨some 8, .alloc 27, 0, "law.go:110", #[], none⟩
def f7r4Op7 : Oper := ⟨none, .store 27 (.tmp 7) (.tmp 22), 0, "law.go:110", #[⟨5, .data⟩, ⟨3, .data⟩, ⟨1, .chain⟩, ⟨0, .phase⟩, ⟨1, .phase⟩, ⟨2, .phase⟩, ⟨3, .phase⟩, ⟨4, .textOnly .lateStores⟩, ⟨5, .phase⟩, ⟨6, .phase⟩], none⟩
def f7r4Op8 : Oper := ⟨none, .store 27 (.tmp 8) (.tmp 23), 0, "law.go:110", #[⟨6, .data⟩, ⟨4, .data⟩, ⟨7, .chain⟩, ⟨0, .phase⟩, ⟨1, .phase⟩, ⟨2, .phase⟩, ⟨3, .phase⟩, ⟨4, .phase⟩, ⟨5, .phase⟩, ⟨6, .phase⟩, ⟨7, .phase⟩], none⟩
def f7r4Ops : Array Oper := #[f7r4Op0, f7r4Op1, f7r4Op2, f7r4Op3, f7r4Op4, f7r4Op5, f7r4Op6, f7r4Op7, f7r4Op8]
set_option maxRecDepth 100000 in
set_option maxHeartbeats 2000000 in
theorem f7r4_r {Q : Exit → Act → World → Prop} {u w : World} {L : List Row} {z0 z1 z2 z3 z5 z6 z7 z8 z9 z10 z11 z12 z13 z14 z15 z16 z17 z18 z19 z20 z21 z22 z23 : Value} {zz : List Value} {b4 : Nat} {c4 : Array Value} {e21a e21b : Array Value} (hO : Own u w L) (i4 : Nat) (h4 : L[i4]? = some (b4, c4, 29)) (r21 : ∀ w, Ret 14 #[.agg c4] w (.tuple #[.agg e21a, .agg e21b])) (fe21a_27 : Fit 27 e21a) (fe21b_27 : Fit 27 e21b) (H : ∀ (n7 : Nat) (n8 : Nat) (w' : World), Own u w' ((n8, e21b, 27) :: (n7, e21a, 27) :: L) → Q .normal { tmps := List.toArray (z0 :: z1 :: z2 :: z3 :: (.pointer (some ⟨b4, 0, none⟩)) :: z5 :: z6 :: (.pointer (some ⟨n7, 0, none⟩)) :: (.pointer (some ⟨n8, 0, none⟩)) :: z9 :: z10 :: z11 :: z12 :: z13 :: z14 :: z15 :: z16 :: z17 :: z18 :: (.tuple #[.agg e21a, .agg e21b]) :: (.agg c4) :: (.tuple #[.agg e21a, .agg e21b]) :: (.agg e21a) :: (.agg e21b) :: zz), defers := [] } w') :
    (Code.region 4 f7r4Ops false).wp Try.prog Q { tmps := List.toArray (z0 :: z1 :: z2 :: z3 :: (.pointer (some ⟨b4, 0, none⟩)) :: z5 :: z6 :: z7 :: z8 :: z9 :: z10 :: z11 :: z12 :: z13 :: z14 :: z15 :: z16 :: z17 :: z18 :: z19 :: z20 :: z21 :: z22 :: z23 :: zz), defers := [] } w := by
  refine wp_region_list (show wpList _ f7r4Ops _ [f7r4Op0, f7r4Op1, f7r4Op2, f7r4Op3, f7r4Op4, f7r4Op5, f7r4Op6, f7r4Op7, f7r4Op8] _ _ from ?_)
  refine l_ld hO 29 i4 h4 Try.underlying29 ?_
  refine l_call hO 14 #[.agg c4] (.tuple #[.agg e21a, .agg e21b]) r21 ?_
  intro w1 hO
  refine l_val (.tuple #[.agg e21a, .agg e21b]) (by kernel_rfl) ?_
  refine l_fr (Fr [z0, z1, z2, z3, D b4, z5, z6, z7, z8, z9, z10, z11, z12, z13, z14, z15, z16, z17, z18, .tuple #[.agg e21a, .agg e21b], A c4, .tuple #[.agg e21a, .agg e21b], z22, z23] zz) ?_
  refine l_val (.agg e21a) (by kernel_rfl) ?_
  refine l_val (.agg e21b) (by kernel_rfl) ?_
  refine l_new hO (arr 4 (limb 0)) 27 (al27 rfl) (fit_fe _) ?_
  intro n7 w2 hO
  refine l_fr (Fr [z0, z1, z2, z3, D b4, z5, z6, D n7, z8, z9, z10, z11, z12, z13, z14, z15, z16, z17, z18, .tuple #[.agg e21a, .agg e21b], A c4, .tuple #[.agg e21a, .agg e21b], A e21a, A e21b] zz) ?_
  refine l_new hO (arr 4 (limb 0)) 27 (al27 rfl) (fit_fe _) ?_
  intro n8 w3 hO
  refine l_st hO 27 1 rfl e21a fe21a_27 ?_
  intro w4 hO
  replace hO : Own u w4 ((n8, arr 4 (limb 0), 27) :: (n7, e21a, 27) :: L) := hO
  refine l_st hO 27 0 rfl e21b fe21b_27 ?_
  intro w5 hO
  exact l_fr _ (wpList_nil (H n7 n8 _ hO))
def f7r5Op0 : Oper := ⟨some 24, .load 29 (.tmp 4), 29, "law.go:111", #[], none⟩
def f7r5Op1 : Oper := ⟨some 25, .call { callee := .value (.func 15), args := #[.tmp 24], argTypes := #[29] }, 22, "law.go:111", #[⟨0, .data⟩], none⟩
def f7r5Op2 : Oper := ⟨some 9, .alloc 22, 0, "law.go:111", #[], none⟩
def f7r5Op3 : Oper := ⟨none, .store 22 (.tmp 9) (.tmp 25), 0, "law.go:111", #[⟨2, .data⟩, ⟨1, .data⟩, ⟨1, .chain⟩, ⟨0, .phase⟩, ⟨1, .phase⟩, ⟨2, .phase⟩], none⟩
def f7r5Ops : Array Oper := #[f7r5Op0, f7r5Op1, f7r5Op2, f7r5Op3]
set_option maxRecDepth 100000 in
set_option maxHeartbeats 2000000 in
theorem f7r5_r {Q : Exit → Act → World → Prop} {u w : World} {L : List Row} {z0 z1 z2 z3 z5 z6 z7 z8 z9 z10 z11 z12 z13 z14 z15 z16 z17 z18 z19 z20 z21 z22 z23 z24 z25 : Value} {zz : List Value} {b4 : Nat} {c4 : Array Value} {e25 : Array Value} (hO : Own u w L) (i4 : Nat) (h4 : L[i4]? = some (b4, c4, 29)) (r25 : ∀ w, Ret 15 #[.agg c4] w (.agg e25)) (fe25_22 : Fit 22 e25) (H : ∀ (n9 : Nat) (w' : World), Own u w' ((n9, e25, 22) :: L) → Q .normal { tmps := List.toArray (z0 :: z1 :: z2 :: z3 :: (.pointer (some ⟨b4, 0, none⟩)) :: z5 :: z6 :: z7 :: z8 :: (.pointer (some ⟨n9, 0, none⟩)) :: z10 :: z11 :: z12 :: z13 :: z14 :: z15 :: z16 :: z17 :: z18 :: z19 :: z20 :: z21 :: z22 :: z23 :: (.agg c4) :: (.agg e25) :: zz), defers := [] } w') :
    (Code.region 5 f7r5Ops false).wp Try.prog Q { tmps := List.toArray (z0 :: z1 :: z2 :: z3 :: (.pointer (some ⟨b4, 0, none⟩)) :: z5 :: z6 :: z7 :: z8 :: z9 :: z10 :: z11 :: z12 :: z13 :: z14 :: z15 :: z16 :: z17 :: z18 :: z19 :: z20 :: z21 :: z22 :: z23 :: z24 :: z25 :: zz), defers := [] } w := by
  refine wp_region_list (show wpList _ f7r5Ops _ [f7r5Op0, f7r5Op1, f7r5Op2, f7r5Op3] _ _ from ?_)
  refine l_ld hO 29 i4 h4 Try.underlying29 ?_
  refine l_call hO 15 #[.agg c4] (.agg e25) r25 ?_
  intro w1 hO
  refine l_new hO (vals .u8 32 (fun _ => 0)) 22 (al22 rfl) (fit_by _) ?_
  intro n9 w2 hO
  refine l_fr (Fr [z0, z1, z2, z3, D b4, z5, z6, z7, z8, D n9, z10, z11, z12, z13, z14, z15, z16, z17, z18, z19, z20, z21, z22, z23, A c4, A e25] zz) ?_
  refine l_st hO 22 0 rfl e25 fe25_22 ?_
  intro w3 hO
  exact l_fr _ (wpList_nil (H n9 _ hO))
def f7r6tOp0 : Oper := ⟨some 26, .load 27 (.tmp 7), 27, "law.go:112", #[], none⟩
def f7r6tOp1 : Oper := ⟨some 27, .build 27 #[], 27, "law.go:112", #[], none⟩
def f7r6tOp2 : Oper := ⟨some 28, .call { callee := .value (.func 32), args := #[.tmp 26, .tmp 27], argTypes := #[27, 27] }, 4, "law.go:112", #[⟨0, .data⟩, ⟨1, .data⟩], none⟩
def f7r6tOp3 : Oper := ⟨some 10, .assign (.tmp 28), 4, "law.go:112", #[⟨2, .data⟩, ⟨2, .chain⟩, ⟨0, .phase⟩, ⟨1, .phase⟩, ⟨2, .phase⟩], none⟩
def f7r6tOps : Array Oper := #[f7r6tOp0, f7r6tOp1, f7r6tOp2, f7r6tOp3]
set_option maxRecDepth 100000 in
set_option maxHeartbeats 2000000 in
theorem f7r6t_r {Q : Exit → Act → World → Prop} {u w : World} {L : List Row} {z0 z1 z2 z3 z4 z5 z6 z8 z9 z10 z11 z12 z13 z14 z15 z16 z17 z18 z19 z20 z21 z22 z23 z24 z25 z26 z27 z28 : Value} {zz : List Value} {b7 : Nat} {c7 : Array Value} {e27 : Array Value} (hO : Own u w L) (i7 : Nat) (h7 : L[i7]? = some (b7, c7, 27)) (q27 : Try.prog.built 27 [] = some e27) (r28 : ∀ w, Ret 32 #[.agg c7, .agg e27] w (.bool true)) (H : ∀ (w' : World), Own u w' (L) → Q .normal { tmps := List.toArray (z0 :: z1 :: z2 :: z3 :: z4 :: z5 :: z6 :: (.pointer (some ⟨b7, 0, none⟩)) :: z8 :: z9 :: (.bool true) :: z11 :: z12 :: z13 :: z14 :: z15 :: z16 :: z17 :: z18 :: z19 :: z20 :: z21 :: z22 :: z23 :: z24 :: z25 :: (.agg c7) :: (.agg e27) :: (.bool true) :: zz), defers := [] } w') :
    (Code.region 6 f7r6tOps false).wp Try.prog Q { tmps := List.toArray (z0 :: z1 :: z2 :: z3 :: z4 :: z5 :: z6 :: (.pointer (some ⟨b7, 0, none⟩)) :: z8 :: z9 :: z10 :: z11 :: z12 :: z13 :: z14 :: z15 :: z16 :: z17 :: z18 :: z19 :: z20 :: z21 :: z22 :: z23 :: z24 :: z25 :: z26 :: z27 :: z28 :: zz), defers := [] } w := by
  refine wp_region_list (show wpList _ f7r6tOps _ [f7r6tOp0, f7r6tOp1, f7r6tOp2, f7r6tOp3] _ _ from ?_)
  refine l_ld hO 27 i7 h7 Try.underlying27 ?_
  refine l_val (.agg e27) (run_bd 27 _ rfl [] (by kernel_rfl) e27 q27 _) ?_
  refine l_call hO 32 #[.agg c7, .agg e27] (.bool true) r28 ?_
  intro w1 hO
  refine l_fr (Fr [z0, z1, z2, z3, z4, z5, z6, D b7, z8, z9, z10, z11, z12, z13, z14, z15, z16, z17, z18, z19, z20, z21, z22, z23, z24, z25, A c7, A e27, .bool true] zz) ?_
  refine l_val (.bool true) (by kernel_rfl) ?_
  exact l_fr _ (wpList_nil (H  _ hO))
def f7r9tOp0 : Oper := ⟨some 35, .move (.tmp 3), 4, "law.go:116", #[], none⟩
def f7r9tOp1 : Oper := ⟨some 36, .move (.tmp 35), 4, "law.go:116", #[⟨0, .data⟩], none⟩
def f7r9tOp2 : Oper := ⟨some 37, .load 29 (.tmp 6), 29, "law.go:116", #[⟨1, .guard⟩], some (1, true)⟩
def f7r9tOp3 : Oper := ⟨some 38, .call { callee := .value (.func 15), args := #[.tmp 37], argTypes := #[29] }, 22, "law.go:116", #[⟨2, .data⟩, ⟨1, .chain⟩, ⟨1, .guard⟩], some (1, true)⟩
def f7r9tOp4 : Oper := ⟨some 39, .load 22 (.tmp 9), 22, "law.go:116", #[⟨1, .guard⟩], some (1, true)⟩
def f7r9tOp5 : Oper := ⟨some 40, .binOp .eql 22 (.tmp 38) (.tmp 39) 22, 4, "law.go:116", #[⟨3, .data⟩, ⟨4, .data⟩, ⟨1, .guard⟩], some (1, true)⟩
def f7r9tOp6 : Oper := ⟨some 41, .pick (.tmp 36) (.tmp 40) (.const (.bool false)), 4, "law.go:116", #[⟨1, .data⟩, ⟨5, .data⟩], none⟩
def f7r9tOp7 : Oper := ⟨some 42, .move (.tmp 41), 4, "law.go:116", #[⟨6, .data⟩, ⟨3, .chain⟩], none⟩
def f7r9tOp8 : Oper := ⟨some 43, .load 29 (.tmp 6), 29, "law.go:116", #[⟨7, .guard⟩], some (7, true)⟩
def f7r9tOp9 : Oper := ⟨some 44, .call { callee := .value (.func 25), args := #[.tmp 43], argTypes := #[29] }, 29, "law.go:116", #[⟨8, .data⟩, ⟨7, .chain⟩, ⟨7, .guard⟩], some (7, true)⟩
def f7r9tOp10 : Oper := ⟨some 45, .load 29 (.tmp 4), 29, "law.go:116", #[⟨7, .guard⟩], some (7, true)⟩
def f7r9tOp11 : Oper := ⟨some 46, .call { callee := .value (.func 18), args := #[.tmp 44, .tmp 45], argTypes := #[29, 29] }, 4, "law.go:116", #[⟨9, .data⟩, ⟨10, .data⟩, ⟨9, .chain⟩, ⟨7, .guard⟩], some (7, true)⟩
def f7r9tOp12 : Oper := ⟨some 47, .pick (.tmp 42) (.tmp 46) (.const (.bool false)), 4, "law.go:116", #[⟨7, .data⟩, ⟨11, .data⟩], none⟩
def f7r9tOp13 : Oper := ⟨some 48, .move (.tmp 47), 4, "law.go:116", #[⟨12, .data⟩, ⟨11, .chain⟩], none⟩
def f7r9tOp14 : Oper := ⟨some 49, .load 29 (.tmp 6), 29, "law.go:116", #[⟨13, .guard⟩], some (13, true)⟩
def f7r9tOp15 : Oper := ⟨some 50, .load 29 (.tmp 4), 29, "law.go:116", #[⟨13, .guard⟩], some (13, true)⟩
def f7r9tOp16 : Oper := ⟨some 51, .call { callee := .value (.func 18), args := #[.tmp 49, .tmp 50], argTypes := #[29, 29] }, 4, "law.go:116", #[⟨14, .data⟩, ⟨15, .data⟩, ⟨13, .chain⟩, ⟨13, .guard⟩], some (13, true)⟩
def f7r9tOp17 : Oper := ⟨some 52, .move (.tmp 10), 4, "law.go:116", #[⟨13, .guard⟩], some (13, true)⟩
def f7r9tOp18 : Oper := ⟨some 53, .binOp .eql 4 (.tmp 51) (.tmp 52) 4, 4, "law.go:116", #[⟨16, .data⟩, ⟨17, .data⟩, ⟨13, .guard⟩], some (13, true)⟩
def f7r9tOp19 : Oper := ⟨some 54, .pick (.tmp 48) (.tmp 53) (.const (.bool false)), 4, "law.go:116", #[⟨13, .data⟩, ⟨18, .data⟩], none⟩
def f7r9tOp20 : Oper := ⟨some 2, .assign (.tmp 54), 4, "law.go:116", #[⟨19, .data⟩, ⟨16, .chain⟩, ⟨0, .phase⟩, ⟨1, .phase⟩, ⟨2, .phase⟩, ⟨3, .phase⟩, ⟨4, .phase⟩, ⟨5, .phase⟩, ⟨6, .phase⟩, ⟨7, .phase⟩, ⟨8, .phase⟩, ⟨9, .phase⟩, ⟨10, .phase⟩, ⟨11, .phase⟩, ⟨12, .phase⟩, ⟨13, .phase⟩, ⟨14, .phase⟩, ⟨15, .phase⟩, ⟨16, .phase⟩, ⟨17, .phase⟩, ⟨18, .phase⟩, ⟨19, .phase⟩], none⟩
def f7r9tOps : Array Oper := #[f7r9tOp0, f7r9tOp1, f7r9tOp2, f7r9tOp3, f7r9tOp4, f7r9tOp5, f7r9tOp6, f7r9tOp7, f7r9tOp8, f7r9tOp9, f7r9tOp10, f7r9tOp11, f7r9tOp12, f7r9tOp13, f7r9tOp14, f7r9tOp15, f7r9tOp16, f7r9tOp17, f7r9tOp18, f7r9tOp19, f7r9tOp20]
set_option maxRecDepth 100000 in
set_option maxHeartbeats 2000000 in
theorem f7r9t_r {Q : Exit → Act → World → Prop} {u w : World} {L : List Row} {z0 z1 z2 z5 z7 z8 z11 z12 z13 z14 z15 z16 z17 z18 z19 z20 z21 z22 z23 z24 z25 z26 z27 z28 z29 z30 z31 z32 z33 z34 z35 z36 z37 z38 z39 z40 z41 z42 z43 z44 z45 z46 z47 z48 z49 z50 z51 z52 z53 z54 : Value} {b4 b6 b9 : Nat} {c4 c6 c9 : Array Value} {e38 e44 : Array Value} (hQ : ∀ c a w n v, Q (.panic c) (a.put (some n) v) w → Q (.panic c) a w) (hO : Own u w L) (i4 : Nat) (h4 : L[i4]? = some (b4, c4, 29)) (i6 : Nat) (h6 : L[i6]? = some (b6, c6, 29)) (i9 : Nat) (h9 : L[i9]? = some (b9, c9, 22)) (r38 : ∀ w, Ret 15 #[.agg c6] w (.agg e38)) (k40 : ∀ (a : Act) (w : World), a.eval (.tmp 38) = .agg e38 → a.eval (.tmp 39) = .agg c9 → (execOp a.eval f7r9tOp5).run Try.prog w = .ok (.value (.bool true)) w) (r44 : ∀ w, Ret 25 #[.agg c6] w (.agg e44)) (r46 : ∀ w, Ret 18 #[.agg e44, .agg c4] w (.bool true)) (r51 : ∀ w, Ret 18 #[.agg c6, .agg c4] w (.bool true)) (k53 : ∀ (a : Act) (w : World), a.eval (.tmp 51) = .bool true → a.eval (.tmp 52) = .bool true → (execOp a.eval f7r9tOp18).run Try.prog w = .ok (.value (.bool true)) w) (H : ∀ (w' : World), Own u w' (L) → Q .normal { tmps := List.toArray (z0 :: z1 :: (.bool true) :: (.bool true) :: (.pointer (some ⟨b4, 0, none⟩)) :: z5 :: (.pointer (some ⟨b6, 0, none⟩)) :: z7 :: z8 :: (.pointer (some ⟨b9, 0, none⟩)) :: (.bool true) :: z11 :: z12 :: z13 :: z14 :: z15 :: z16 :: z17 :: z18 :: z19 :: z20 :: z21 :: z22 :: z23 :: z24 :: z25 :: z26 :: z27 :: z28 :: z29 :: z30 :: z31 :: z32 :: z33 :: z34 :: (.bool true) :: (.bool true) :: (.agg c6) :: (.agg e38) :: (.agg c9) :: (.bool true) :: (.bool true) :: (.bool true) :: (.agg c6) :: (.agg e44) :: (.agg c4) :: (.bool true) :: (.bool true) :: (.bool true) :: (.agg c6) :: (.agg c4) :: (.bool true) :: (.bool true) :: (.bool true) :: (.bool true) :: []), defers := [] } w') :
    (Code.region 9 f7r9tOps true).wp Try.prog Q { tmps := List.toArray (z0 :: z1 :: z2 :: (.bool true) :: (.pointer (some ⟨b4, 0, none⟩)) :: z5 :: (.pointer (some ⟨b6, 0, none⟩)) :: z7 :: z8 :: (.pointer (some ⟨b9, 0, none⟩)) :: (.bool true) :: z11 :: z12 :: z13 :: z14 :: z15 :: z16 :: z17 :: z18 :: z19 :: z20 :: z21 :: z22 :: z23 :: z24 :: z25 :: z26 :: z27 :: z28 :: z29 :: z30 :: z31 :: z32 :: z33 :: z34 :: z35 :: z36 :: z37 :: z38 :: z39 :: z40 :: z41 :: z42 :: z43 :: z44 :: z45 :: z46 :: z47 :: z48 :: z49 :: z50 :: z51 :: z52 :: z53 :: z54 :: []), defers := [] } w := by
  have fc4_29 := hO.fits i4 h4
  have fc6_29 := hO.fits i6 h6
  have fc9_22 := hO.fits i9 h9
  refine wp_region_held_drew (S := Has [(b4, c4, 29), (b6, c6, 29), (b9, c9, 22)]) (by kernel_rfl) ⟨hO.drew.row _ h4, hO.drew.row _ h6, hO.drew.row _ h9, trivial⟩ (fun hS => ?_)
  replace hO := hO.drew
  refine d_tk 0 f7r9tOp0 (.bool true) hQ (y_val (fun _ => by kernel_rfl)) hS ?_
  refine d_tk 1 f7r9tOp1 (.bool true) hQ (y_val (fun _ => by kernel_rfl)) hS ?_
  refine d_tk 2 f7r9tOp2 (.agg c6) hQ (y_l 29 (fun _ h => h.2.1) fc6_29 Try.underlying29) hS ?_
  refine d_fr (ls 21 7) (Fr [z0, z1, z2, .bool true, D b4, z5, D b6, z7, z8, D b9, .bool true, z11, z12, z13, z14, z15, z16, z17, z18, z19, z20, z21, z22, z23, z24, z25, z26, z27, z28, z29, z30, z31, z32, z33, z34, .bool true, .bool true, A c6, z38, z39, z40, z41, z42, z43, z44, z45, z46, z47, z48, z49, z50, z51, z52, z53, z54] []) ?_
  refine d_tk 4 f7r9tOp4 (.agg c9) hQ (y_l 22 (fun _ h => h.2.2.1) fc9_22 Try.underlying22) hS ?_
  refine d_fr (ls 21 23) (Fr [z0, z1, z2, .bool true, D b4, z5, D b6, z7, z8, D b9, .bool true, z11, z12, z13, z14, z15, z16, z17, z18, z19, z20, z21, z22, z23, z24, z25, z26, z27, z28, z29, z30, z31, z32, z33, z34, .bool true, .bool true, A c6, z38, A c9, z40, z41, z42, z43, z44, z45, z46, z47, z48, z49, z50, z51, z52, z53, z54] []) ?_
  refine d_one 3 f7r9tOp3 (ls 21 31) (fun K hK => ?_)
  refine k_call hK hO (fun _ hO => ⟨hO.row _ h4, hO.row _ h6, hO.row _ h9, trivial⟩) 15 #[.agg c6] (.agg e38) r38 ?_
  intro w1 hO
  have hS : Has [(b4, c4, 29), (b6, c6, 29), (b9, c9, 22)] w1 := ⟨hO.row _ h4, hO.row _ h6, hO.row _ h9, trivial⟩
  refine d_tk 5 f7r9tOp5 (.bool true) hQ (y_val (fun _ => k40 _ _ (by kernel_rfl) (by kernel_rfl))) hS ?_
  refine d_tk 6 f7r9tOp6 (.bool true) hQ (y_val (fun _ => by kernel_rfl)) hS ?_
  refine d_tk 7 f7r9tOp7 (.bool true) hQ (y_val (fun _ => by kernel_rfl)) hS ?_
  refine d_fr (ls 21 255) (Fr [z0, z1, z2, .bool true, D b4, z5, D b6, z7, z8, D b9, .bool true, z11, z12, z13, z14, z15, z16, z17, z18, z19, z20, z21, z22, z23, z24, z25, z26, z27, z28, z29, z30, z31, z32, z33, z34, .bool true, .bool true, A c6, A e38, A c9, .bool true, .bool true, .bool true, z43, z44, z45, z46, z47, z48, z49, z50, z51, z52, z53, z54] []) ?_
  refine d_tk 8 f7r9tOp8 (.agg c6) hQ (y_l 29 (fun _ h => h.2.1) fc6_29 Try.underlying29) hS ?_
  refine d_tk 10 f7r9tOp10 (.agg c4) hQ (y_l 29 (fun _ h => h.1) fc4_29 Try.underlying29) hS ?_
  refine d_fr (ls 21 1535) (Fr [z0, z1, z2, .bool true, D b4, z5, D b6, z7, z8, D b9, .bool true, z11, z12, z13, z14, z15, z16, z17, z18, z19, z20, z21, z22, z23, z24, z25, z26, z27, z28, z29, z30, z31, z32, z33, z34, .bool true, .bool true, A c6, A e38, A c9, .bool true, .bool true, .bool true, A c6, z44, A c4, z46, z47, z48, z49, z50, z51, z52, z53, z54] []) ?_
  refine d_one 9 f7r9tOp9 (ls 21 2047) (fun K hK => ?_)
  refine k_call hK hO (fun _ hO => ⟨hO.row _ h4, hO.row _ h6, hO.row _ h9, trivial⟩) 25 #[.agg c6] (.agg e44) r44 ?_
  intro w2 hO
  refine d_one 11 f7r9tOp11 (ls 21 4095) (fun K hK => ?_)
  refine k_call hK hO (fun _ hO => ⟨hO.row _ h4, hO.row _ h6, hO.row _ h9, trivial⟩) 18 #[.agg e44, .agg c4] (.bool true) r46 ?_
  intro w3 hO
  have hS : Has [(b4, c4, 29), (b6, c6, 29), (b9, c9, 22)] w3 := ⟨hO.row _ h4, hO.row _ h6, hO.row _ h9, trivial⟩
  refine d_tk 12 f7r9tOp12 (.bool true) hQ (y_val (fun _ => by kernel_rfl)) hS ?_
  refine d_tk 13 f7r9tOp13 (.bool true) hQ (y_val (fun _ => by kernel_rfl)) hS ?_
  refine d_tk 14 f7r9tOp14 (.agg c6) hQ (y_l 29 (fun _ h => h.2.1) fc6_29 Try.underlying29) hS ?_
  refine d_fr (ls 21 32767) (Fr [z0, z1, z2, .bool true, D b4, z5, D b6, z7, z8, D b9, .bool true, z11, z12, z13, z14, z15, z16, z17, z18, z19, z20, z21, z22, z23, z24, z25, z26, z27, z28, z29, z30, z31, z32, z33, z34, .bool true, .bool true, A c6, A e38, A c9, .bool true, .bool true, .bool true, A c6, A e44, A c4, .bool true, .bool true, .bool true, A c6, z50, z51, z52, z53, z54] []) ?_
  refine d_tk 15 f7r9tOp15 (.agg c4) hQ (y_l 29 (fun _ h => h.1) fc4_29 Try.underlying29) hS ?_
  refine d_tk 17 f7r9tOp17 (.bool true) hQ (y_val (fun _ => by kernel_rfl)) hS ?_
  refine d_fr (ls 21 196607) (Fr [z0, z1, z2, .bool true, D b4, z5, D b6, z7, z8, D b9, .bool true, z11, z12, z13, z14, z15, z16, z17, z18, z19, z20, z21, z22, z23, z24, z25, z26, z27, z28, z29, z30, z31, z32, z33, z34, .bool true, .bool true, A c6, A e38, A c9, .bool true, .bool true, .bool true, A c6, A e44, A c4, .bool true, .bool true, .bool true, A c6, A c4, z51, .bool true, z53, z54] []) ?_
  refine d_one 16 f7r9tOp16 (ls 21 262143) (fun K hK => ?_)
  refine k_call hK hO (fun _ hO => ⟨hO.row _ h4, hO.row _ h6, hO.row _ h9, trivial⟩) 18 #[.agg c6, .agg c4] (.bool true) r51 ?_
  intro w4 hO
  have hS : Has [(b4, c4, 29), (b6, c6, 29), (b9, c9, 22)] w4 := ⟨hO.row _ h4, hO.row _ h6, hO.row _ h9, trivial⟩
  refine d_tk 18 f7r9tOp18 (.bool true) hQ (y_val (fun _ => k53 _ _ (by kernel_rfl) (by kernel_rfl))) hS ?_
  refine d_tk 19 f7r9tOp19 (.bool true) hQ (y_val (fun _ => by kernel_rfl)) hS ?_
  refine d_tk 20 f7r9tOp20 (.bool true) hQ (y_val (fun _ => by kernel_rfl)) hS ?_
  exact d_fr (ls 21 2097151) _ (wpAnyH_done (by kernel_rfl) (H  _ hO) _)
def f7r6fOp0 : Oper := ⟨some 26, .load 27 (.tmp 7), 27, "law.go:112", #[], none⟩
def f7r6fOp1 : Oper := ⟨some 27, .build 27 #[], 27, "law.go:112", #[], none⟩
def f7r6fOp2 : Oper := ⟨some 28, .call { callee := .value (.func 32), args := #[.tmp 26, .tmp 27], argTypes := #[27, 27] }, 4, "law.go:112", #[⟨0, .data⟩, ⟨1, .data⟩], none⟩
def f7r6fOp3 : Oper := ⟨some 10, .assign (.tmp 28), 4, "law.go:112", #[⟨2, .data⟩, ⟨2, .chain⟩, ⟨0, .phase⟩, ⟨1, .phase⟩, ⟨2, .phase⟩], none⟩
def f7r6fOps : Array Oper := #[f7r6fOp0, f7r6fOp1, f7r6fOp2, f7r6fOp3]
set_option maxRecDepth 100000 in
set_option maxHeartbeats 2000000 in
theorem f7r6f_r {Q : Exit → Act → World → Prop} {u w : World} {L : List Row} {z0 z1 z2 z3 z4 z5 z6 z8 z9 z10 z11 z12 z13 z14 z15 z16 z17 z18 z19 z20 z21 z22 z23 z24 z25 z26 z27 z28 : Value} {zz : List Value} {b7 : Nat} {c7 : Array Value} {e27 : Array Value} (hO : Own u w L) (i7 : Nat) (h7 : L[i7]? = some (b7, c7, 27)) (q27 : Try.prog.built 27 [] = some e27) (r28 : ∀ w, Ret 32 #[.agg c7, .agg e27] w (.bool false)) (H : ∀ (w' : World), Own u w' (L) → Q .normal { tmps := List.toArray (z0 :: z1 :: z2 :: z3 :: z4 :: z5 :: z6 :: (.pointer (some ⟨b7, 0, none⟩)) :: z8 :: z9 :: (.bool false) :: z11 :: z12 :: z13 :: z14 :: z15 :: z16 :: z17 :: z18 :: z19 :: z20 :: z21 :: z22 :: z23 :: z24 :: z25 :: (.agg c7) :: (.agg e27) :: (.bool false) :: zz), defers := [] } w') :
    (Code.region 6 f7r6fOps false).wp Try.prog Q { tmps := List.toArray (z0 :: z1 :: z2 :: z3 :: z4 :: z5 :: z6 :: (.pointer (some ⟨b7, 0, none⟩)) :: z8 :: z9 :: z10 :: z11 :: z12 :: z13 :: z14 :: z15 :: z16 :: z17 :: z18 :: z19 :: z20 :: z21 :: z22 :: z23 :: z24 :: z25 :: z26 :: z27 :: z28 :: zz), defers := [] } w := by
  refine wp_region_list (show wpList _ f7r6fOps _ [f7r6fOp0, f7r6fOp1, f7r6fOp2, f7r6fOp3] _ _ from ?_)
  refine l_ld hO 27 i7 h7 Try.underlying27 ?_
  refine l_val (.agg e27) (run_bd 27 _ rfl [] (by kernel_rfl) e27 q27 _) ?_
  refine l_call hO 32 #[.agg c7, .agg e27] (.bool false) r28 ?_
  intro w1 hO
  refine l_fr (Fr [z0, z1, z2, z3, z4, z5, z6, D b7, z8, z9, z10, z11, z12, z13, z14, z15, z16, z17, z18, z19, z20, z21, z22, z23, z24, z25, A c7, A e27, .bool false] zz) ?_
  refine l_val (.bool false) (by kernel_rfl) ?_
  exact l_fr _ (wpList_nil (H  _ hO))
def f7r9fOp0 : Oper := ⟨some 35, .move (.tmp 3), 4, "law.go:116", #[], none⟩
def f7r9fOp1 : Oper := ⟨some 36, .move (.tmp 35), 4, "law.go:116", #[⟨0, .data⟩], none⟩
def f7r9fOp2 : Oper := ⟨some 37, .load 29 (.tmp 6), 29, "law.go:116", #[⟨1, .guard⟩], some (1, true)⟩
def f7r9fOp3 : Oper := ⟨some 38, .call { callee := .value (.func 15), args := #[.tmp 37], argTypes := #[29] }, 22, "law.go:116", #[⟨2, .data⟩, ⟨1, .chain⟩, ⟨1, .guard⟩], some (1, true)⟩
def f7r9fOp4 : Oper := ⟨some 39, .load 22 (.tmp 9), 22, "law.go:116", #[⟨1, .guard⟩], some (1, true)⟩
def f7r9fOp5 : Oper := ⟨some 40, .binOp .eql 22 (.tmp 38) (.tmp 39) 22, 4, "law.go:116", #[⟨3, .data⟩, ⟨4, .data⟩, ⟨1, .guard⟩], some (1, true)⟩
def f7r9fOp6 : Oper := ⟨some 41, .pick (.tmp 36) (.tmp 40) (.const (.bool false)), 4, "law.go:116", #[⟨1, .data⟩, ⟨5, .data⟩], none⟩
def f7r9fOp7 : Oper := ⟨some 42, .move (.tmp 41), 4, "law.go:116", #[⟨6, .data⟩, ⟨3, .chain⟩], none⟩
def f7r9fOp8 : Oper := ⟨some 43, .load 29 (.tmp 6), 29, "law.go:116", #[⟨7, .guard⟩], some (7, true)⟩
def f7r9fOp9 : Oper := ⟨some 44, .call { callee := .value (.func 25), args := #[.tmp 43], argTypes := #[29] }, 29, "law.go:116", #[⟨8, .data⟩, ⟨7, .chain⟩, ⟨7, .guard⟩], some (7, true)⟩
def f7r9fOp10 : Oper := ⟨some 45, .load 29 (.tmp 4), 29, "law.go:116", #[⟨7, .guard⟩], some (7, true)⟩
def f7r9fOp11 : Oper := ⟨some 46, .call { callee := .value (.func 18), args := #[.tmp 44, .tmp 45], argTypes := #[29, 29] }, 4, "law.go:116", #[⟨9, .data⟩, ⟨10, .data⟩, ⟨9, .chain⟩, ⟨7, .guard⟩], some (7, true)⟩
def f7r9fOp12 : Oper := ⟨some 47, .pick (.tmp 42) (.tmp 46) (.const (.bool false)), 4, "law.go:116", #[⟨7, .data⟩, ⟨11, .data⟩], none⟩
def f7r9fOp13 : Oper := ⟨some 48, .move (.tmp 47), 4, "law.go:116", #[⟨12, .data⟩, ⟨11, .chain⟩], none⟩
def f7r9fOp14 : Oper := ⟨some 49, .load 29 (.tmp 6), 29, "law.go:116", #[⟨13, .guard⟩], some (13, true)⟩
def f7r9fOp15 : Oper := ⟨some 50, .load 29 (.tmp 4), 29, "law.go:116", #[⟨13, .guard⟩], some (13, true)⟩
def f7r9fOp16 : Oper := ⟨some 51, .call { callee := .value (.func 18), args := #[.tmp 49, .tmp 50], argTypes := #[29, 29] }, 4, "law.go:116", #[⟨14, .data⟩, ⟨15, .data⟩, ⟨13, .chain⟩, ⟨13, .guard⟩], some (13, true)⟩
def f7r9fOp17 : Oper := ⟨some 52, .move (.tmp 10), 4, "law.go:116", #[⟨13, .guard⟩], some (13, true)⟩
def f7r9fOp18 : Oper := ⟨some 53, .binOp .eql 4 (.tmp 51) (.tmp 52) 4, 4, "law.go:116", #[⟨16, .data⟩, ⟨17, .data⟩, ⟨13, .guard⟩], some (13, true)⟩
def f7r9fOp19 : Oper := ⟨some 54, .pick (.tmp 48) (.tmp 53) (.const (.bool false)), 4, "law.go:116", #[⟨13, .data⟩, ⟨18, .data⟩], none⟩
def f7r9fOp20 : Oper := ⟨some 2, .assign (.tmp 54), 4, "law.go:116", #[⟨19, .data⟩, ⟨16, .chain⟩, ⟨0, .phase⟩, ⟨1, .phase⟩, ⟨2, .phase⟩, ⟨3, .phase⟩, ⟨4, .phase⟩, ⟨5, .phase⟩, ⟨6, .phase⟩, ⟨7, .phase⟩, ⟨8, .phase⟩, ⟨9, .phase⟩, ⟨10, .phase⟩, ⟨11, .phase⟩, ⟨12, .phase⟩, ⟨13, .phase⟩, ⟨14, .phase⟩, ⟨15, .phase⟩, ⟨16, .phase⟩, ⟨17, .phase⟩, ⟨18, .phase⟩, ⟨19, .phase⟩], none⟩
def f7r9fOps : Array Oper := #[f7r9fOp0, f7r9fOp1, f7r9fOp2, f7r9fOp3, f7r9fOp4, f7r9fOp5, f7r9fOp6, f7r9fOp7, f7r9fOp8, f7r9fOp9, f7r9fOp10, f7r9fOp11, f7r9fOp12, f7r9fOp13, f7r9fOp14, f7r9fOp15, f7r9fOp16, f7r9fOp17, f7r9fOp18, f7r9fOp19, f7r9fOp20]
set_option maxRecDepth 100000 in
set_option maxHeartbeats 2000000 in
theorem f7r9f_r {Q : Exit → Act → World → Prop} {u w : World} {L : List Row} {z0 z1 z2 z5 z7 z8 z11 z12 z13 z14 z15 z16 z17 z18 z19 z20 z21 z22 z23 z24 z25 z26 z27 z28 z29 z30 z31 z32 z33 z34 z35 z36 z37 z38 z39 z40 z41 z42 z43 z44 z45 z46 z47 z48 z49 z50 z51 z52 z53 z54 : Value} {b4 b6 b9 : Nat} {c4 c6 c9 : Array Value} {e38 e44 : Array Value} (hQ : ∀ c a w n v, Q (.panic c) (a.put (some n) v) w → Q (.panic c) a w) (hO : Own u w L) (i4 : Nat) (h4 : L[i4]? = some (b4, c4, 29)) (i6 : Nat) (h6 : L[i6]? = some (b6, c6, 29)) (i9 : Nat) (h9 : L[i9]? = some (b9, c9, 22)) (r38 : ∀ w, Ret 15 #[.agg c6] w (.agg e38)) (k40 : ∀ (a : Act) (w : World), a.eval (.tmp 38) = .agg e38 → a.eval (.tmp 39) = .agg c9 → (execOp a.eval f7r9fOp5).run Try.prog w = .ok (.value (.bool true)) w) (r44 : ∀ w, Ret 25 #[.agg c6] w (.agg e44)) (r46 : ∀ w, Ret 18 #[.agg e44, .agg c4] w (.bool true)) (r51 : ∀ w, Ret 18 #[.agg c6, .agg c4] w (.bool false)) (k53 : ∀ (a : Act) (w : World), a.eval (.tmp 51) = .bool false → a.eval (.tmp 52) = .bool false → (execOp a.eval f7r9fOp18).run Try.prog w = .ok (.value (.bool true)) w) (H : ∀ (w' : World), Own u w' (L) → Q .normal { tmps := List.toArray (z0 :: z1 :: (.bool true) :: (.bool true) :: (.pointer (some ⟨b4, 0, none⟩)) :: z5 :: (.pointer (some ⟨b6, 0, none⟩)) :: z7 :: z8 :: (.pointer (some ⟨b9, 0, none⟩)) :: (.bool false) :: z11 :: z12 :: z13 :: z14 :: z15 :: z16 :: z17 :: z18 :: z19 :: z20 :: z21 :: z22 :: z23 :: z24 :: z25 :: z26 :: z27 :: z28 :: z29 :: z30 :: z31 :: z32 :: z33 :: z34 :: (.bool true) :: (.bool true) :: (.agg c6) :: (.agg e38) :: (.agg c9) :: (.bool true) :: (.bool true) :: (.bool true) :: (.agg c6) :: (.agg e44) :: (.agg c4) :: (.bool true) :: (.bool true) :: (.bool true) :: (.agg c6) :: (.agg c4) :: (.bool false) :: (.bool false) :: (.bool true) :: (.bool true) :: []), defers := [] } w') :
    (Code.region 9 f7r9fOps true).wp Try.prog Q { tmps := List.toArray (z0 :: z1 :: z2 :: (.bool true) :: (.pointer (some ⟨b4, 0, none⟩)) :: z5 :: (.pointer (some ⟨b6, 0, none⟩)) :: z7 :: z8 :: (.pointer (some ⟨b9, 0, none⟩)) :: (.bool false) :: z11 :: z12 :: z13 :: z14 :: z15 :: z16 :: z17 :: z18 :: z19 :: z20 :: z21 :: z22 :: z23 :: z24 :: z25 :: z26 :: z27 :: z28 :: z29 :: z30 :: z31 :: z32 :: z33 :: z34 :: z35 :: z36 :: z37 :: z38 :: z39 :: z40 :: z41 :: z42 :: z43 :: z44 :: z45 :: z46 :: z47 :: z48 :: z49 :: z50 :: z51 :: z52 :: z53 :: z54 :: []), defers := [] } w := by
  have fc4_29 := hO.fits i4 h4
  have fc6_29 := hO.fits i6 h6
  have fc9_22 := hO.fits i9 h9
  refine wp_region_held_drew (S := Has [(b4, c4, 29), (b6, c6, 29), (b9, c9, 22)]) (by kernel_rfl) ⟨hO.drew.row _ h4, hO.drew.row _ h6, hO.drew.row _ h9, trivial⟩ (fun hS => ?_)
  replace hO := hO.drew
  refine d_tk 0 f7r9fOp0 (.bool true) hQ (y_val (fun _ => by kernel_rfl)) hS ?_
  refine d_tk 1 f7r9fOp1 (.bool true) hQ (y_val (fun _ => by kernel_rfl)) hS ?_
  refine d_tk 2 f7r9fOp2 (.agg c6) hQ (y_l 29 (fun _ h => h.2.1) fc6_29 Try.underlying29) hS ?_
  refine d_fr (ls 21 7) (Fr [z0, z1, z2, .bool true, D b4, z5, D b6, z7, z8, D b9, .bool false, z11, z12, z13, z14, z15, z16, z17, z18, z19, z20, z21, z22, z23, z24, z25, z26, z27, z28, z29, z30, z31, z32, z33, z34, .bool true, .bool true, A c6, z38, z39, z40, z41, z42, z43, z44, z45, z46, z47, z48, z49, z50, z51, z52, z53, z54] []) ?_
  refine d_tk 4 f7r9fOp4 (.agg c9) hQ (y_l 22 (fun _ h => h.2.2.1) fc9_22 Try.underlying22) hS ?_
  refine d_fr (ls 21 23) (Fr [z0, z1, z2, .bool true, D b4, z5, D b6, z7, z8, D b9, .bool false, z11, z12, z13, z14, z15, z16, z17, z18, z19, z20, z21, z22, z23, z24, z25, z26, z27, z28, z29, z30, z31, z32, z33, z34, .bool true, .bool true, A c6, z38, A c9, z40, z41, z42, z43, z44, z45, z46, z47, z48, z49, z50, z51, z52, z53, z54] []) ?_
  refine d_one 3 f7r9fOp3 (ls 21 31) (fun K hK => ?_)
  refine k_call hK hO (fun _ hO => ⟨hO.row _ h4, hO.row _ h6, hO.row _ h9, trivial⟩) 15 #[.agg c6] (.agg e38) r38 ?_
  intro w1 hO
  have hS : Has [(b4, c4, 29), (b6, c6, 29), (b9, c9, 22)] w1 := ⟨hO.row _ h4, hO.row _ h6, hO.row _ h9, trivial⟩
  refine d_tk 5 f7r9fOp5 (.bool true) hQ (y_val (fun _ => k40 _ _ (by kernel_rfl) (by kernel_rfl))) hS ?_
  refine d_tk 6 f7r9fOp6 (.bool true) hQ (y_val (fun _ => by kernel_rfl)) hS ?_
  refine d_tk 7 f7r9fOp7 (.bool true) hQ (y_val (fun _ => by kernel_rfl)) hS ?_
  refine d_fr (ls 21 255) (Fr [z0, z1, z2, .bool true, D b4, z5, D b6, z7, z8, D b9, .bool false, z11, z12, z13, z14, z15, z16, z17, z18, z19, z20, z21, z22, z23, z24, z25, z26, z27, z28, z29, z30, z31, z32, z33, z34, .bool true, .bool true, A c6, A e38, A c9, .bool true, .bool true, .bool true, z43, z44, z45, z46, z47, z48, z49, z50, z51, z52, z53, z54] []) ?_
  refine d_tk 8 f7r9fOp8 (.agg c6) hQ (y_l 29 (fun _ h => h.2.1) fc6_29 Try.underlying29) hS ?_
  refine d_tk 10 f7r9fOp10 (.agg c4) hQ (y_l 29 (fun _ h => h.1) fc4_29 Try.underlying29) hS ?_
  refine d_fr (ls 21 1535) (Fr [z0, z1, z2, .bool true, D b4, z5, D b6, z7, z8, D b9, .bool false, z11, z12, z13, z14, z15, z16, z17, z18, z19, z20, z21, z22, z23, z24, z25, z26, z27, z28, z29, z30, z31, z32, z33, z34, .bool true, .bool true, A c6, A e38, A c9, .bool true, .bool true, .bool true, A c6, z44, A c4, z46, z47, z48, z49, z50, z51, z52, z53, z54] []) ?_
  refine d_one 9 f7r9fOp9 (ls 21 2047) (fun K hK => ?_)
  refine k_call hK hO (fun _ hO => ⟨hO.row _ h4, hO.row _ h6, hO.row _ h9, trivial⟩) 25 #[.agg c6] (.agg e44) r44 ?_
  intro w2 hO
  refine d_one 11 f7r9fOp11 (ls 21 4095) (fun K hK => ?_)
  refine k_call hK hO (fun _ hO => ⟨hO.row _ h4, hO.row _ h6, hO.row _ h9, trivial⟩) 18 #[.agg e44, .agg c4] (.bool true) r46 ?_
  intro w3 hO
  have hS : Has [(b4, c4, 29), (b6, c6, 29), (b9, c9, 22)] w3 := ⟨hO.row _ h4, hO.row _ h6, hO.row _ h9, trivial⟩
  refine d_tk 12 f7r9fOp12 (.bool true) hQ (y_val (fun _ => by kernel_rfl)) hS ?_
  refine d_tk 13 f7r9fOp13 (.bool true) hQ (y_val (fun _ => by kernel_rfl)) hS ?_
  refine d_tk 14 f7r9fOp14 (.agg c6) hQ (y_l 29 (fun _ h => h.2.1) fc6_29 Try.underlying29) hS ?_
  refine d_fr (ls 21 32767) (Fr [z0, z1, z2, .bool true, D b4, z5, D b6, z7, z8, D b9, .bool false, z11, z12, z13, z14, z15, z16, z17, z18, z19, z20, z21, z22, z23, z24, z25, z26, z27, z28, z29, z30, z31, z32, z33, z34, .bool true, .bool true, A c6, A e38, A c9, .bool true, .bool true, .bool true, A c6, A e44, A c4, .bool true, .bool true, .bool true, A c6, z50, z51, z52, z53, z54] []) ?_
  refine d_tk 15 f7r9fOp15 (.agg c4) hQ (y_l 29 (fun _ h => h.1) fc4_29 Try.underlying29) hS ?_
  refine d_tk 17 f7r9fOp17 (.bool false) hQ (y_val (fun _ => by kernel_rfl)) hS ?_
  refine d_fr (ls 21 196607) (Fr [z0, z1, z2, .bool true, D b4, z5, D b6, z7, z8, D b9, .bool false, z11, z12, z13, z14, z15, z16, z17, z18, z19, z20, z21, z22, z23, z24, z25, z26, z27, z28, z29, z30, z31, z32, z33, z34, .bool true, .bool true, A c6, A e38, A c9, .bool true, .bool true, .bool true, A c6, A e44, A c4, .bool true, .bool true, .bool true, A c6, A c4, z51, .bool false, z53, z54] []) ?_
  refine d_one 16 f7r9fOp16 (ls 21 262143) (fun K hK => ?_)
  refine k_call hK hO (fun _ hO => ⟨hO.row _ h4, hO.row _ h6, hO.row _ h9, trivial⟩) 18 #[.agg c6, .agg c4] (.bool false) r51 ?_
  intro w4 hO
  have hS : Has [(b4, c4, 29), (b6, c6, 29), (b9, c9, 22)] w4 := ⟨hO.row _ h4, hO.row _ h6, hO.row _ h9, trivial⟩
  refine d_tk 18 f7r9fOp18 (.bool true) hQ (y_val (fun _ => k53 _ _ (by kernel_rfl) (by kernel_rfl))) hS ?_
  refine d_tk 19 f7r9fOp19 (.bool true) hQ (y_val (fun _ => by kernel_rfl)) hS ?_
  refine d_tk 20 f7r9fOp20 (.bool true) hQ (y_val (fun _ => by kernel_rfl)) hS ?_
  exact d_fr (ls 21 2097151) _ (wpAnyH_done (by kernel_rfl) (H  _ hO) _)
def f7r8Op0 : Oper := ⟨some 31, .indexAddr 22 (.tmp 9) (.const (.int .i64 31)), 0, "law.go:114", #[], none⟩
def f7r8Op1 : Oper := ⟨some 32, .load 5 (.tmp 31), 5, "law.go:114", #[⟨0, .data⟩], none⟩
def f7r8Op2 : Oper := ⟨some 33, .binOp .xor 5 (.tmp 32) (.const (.int .u8 128)) 5, 5, "law.go:114", #[⟨1, .data⟩], none⟩
def f7r8Op3 : Oper := ⟨some 34, .indexAddr 22 (.tmp 9) (.const (.int .i64 31)), 0, "law.go:114", #[⟨0, .phase⟩, ⟨1, .phase⟩, ⟨2, .phase⟩], none⟩
def f7r8Op4 : Oper := ⟨none, .store 5 (.tmp 34) (.tmp 33), 0, "law.go:114", #[⟨3, .data⟩, ⟨2, .data⟩, ⟨0, .phase⟩, ⟨1, .phase⟩, ⟨2, .phase⟩], none⟩
def f7r8Ops : Array Oper := #[f7r8Op0, f7r8Op1, f7r8Op2, f7r8Op3, f7r8Op4]
set_option maxRecDepth 100000 in
set_option maxHeartbeats 2000000 in
theorem f7r8_r {Q : Exit → Act → World → Prop} {u w : World} {L : List Row} {z0 z1 z2 z3 z4 z5 z6 z7 z8 z10 z11 z12 z13 z14 z15 z16 z17 z18 z19 z20 z21 z22 z23 z24 z25 z26 z27 z28 z29 z30 z31 z32 z33 z34 : Value} {zz : List Value} {b9 : Nat} {c9 : Array Value} {e904 : Array Value} {g32 g33 : Nat} (hO : Own u w L) (i9 : Nat) (h9 : L[i9]? = some (b9, c9, 22)) (v32 : c9[31]? = some (.int .u8 ((g32 : Nat) : Int))) (k33 : ∀ (a : Act) (w : World), a.eval (.tmp 32) = .int .u8 ((g32 : Nat) : Int) → (execOp a.eval f7r8Op2).run Try.prog w = .ok (.value (.int .u8 ((g33 : Nat) : Int))) w) (s4 : c9.setIfInBounds 31 (.int .u8 ((g33 : Nat) : Int)) = e904) (fe904_22 : Fit 22 e904) (H : ∀ (w' : World), Own u w' ((L.set i9 (b9, e904, 22))) → Q .normal { tmps := List.toArray (z0 :: z1 :: z2 :: z3 :: z4 :: z5 :: z6 :: z7 :: z8 :: (.pointer (some ⟨b9, 0, none⟩)) :: z10 :: z11 :: z12 :: z13 :: z14 :: z15 :: z16 :: z17 :: z18 :: z19 :: z20 :: z21 :: z22 :: z23 :: z24 :: z25 :: z26 :: z27 :: z28 :: z29 :: z30 :: (.pointer (some ⟨b9, 31, none⟩)) :: (.int .u8 ((g32 : Nat) : Int)) :: (.int .u8 ((g33 : Nat) : Int)) :: (.pointer (some ⟨b9, 31, none⟩)) :: zz), defers := [] } w') :
    (Code.region 8 f7r8Ops false).wp Try.prog Q { tmps := List.toArray (z0 :: z1 :: z2 :: z3 :: z4 :: z5 :: z6 :: z7 :: z8 :: (.pointer (some ⟨b9, 0, none⟩)) :: z10 :: z11 :: z12 :: z13 :: z14 :: z15 :: z16 :: z17 :: z18 :: z19 :: z20 :: z21 :: z22 :: z23 :: z24 :: z25 :: z26 :: z27 :: z28 :: z29 :: z30 :: z31 :: z32 :: z33 :: z34 :: zz), defers := [] } w := by
  refine wp_region_list (show wpList _ f7r8Ops _ [f7r8Op0, f7r8Op1, f7r8Op2, f7r8Op3, f7r8Op4] _ _ from ?_)
  refine l_val (.pointer (some ⟨b9, 31, none⟩)) (by kernel_rfl) ?_
  refine l_c8 hO i9 h9 v32 ?_
  refine l_val (.int .u8 ((g33 : Nat) : Int)) (k33 _ _ (by kernel_rfl)) ?_
  refine l_fr (Fr [z0, z1, z2, z3, z4, z5, z6, z7, z8, D b9, z10, z11, z12, z13, z14, z15, z16, z17, z18, z19, z20, z21, z22, z23, z24, z25, z26, z27, z28, z29, z30, .pointer (some ⟨b9, 31, none⟩), .int .u8 ((g32 : Nat) : Int), .int .u8 ((g33 : Nat) : Int), z34] zz) ?_
  refine l_val (.pointer (some ⟨b9, 31, none⟩)) (by kernel_rfl) ?_
  refine l_stc hO i9 h9 g33 v32 s4 fe904_22 ?_
  intro w1 hO
  exact l_fr _ (wpList_nil (H  _ hO))
def xh (n : Nat) : Nat := if n < 128 then n + 128 else n - 128
theorem xor8_128 (n : Nat) (h : n < 256) : bits .xor .u8 (n : Int) 128 = ((xh n : Nat) : Int) := by
  have := (by decide +kernel : ∀ i : Fin 256, bits .xor .u8 ((i.val : Nat) : Int) 128 = ((xh i.val : Nat) : Int)) ⟨n, h⟩
  exact this
theorem byt_low {y : Nat} (hy : y < pP) : byt y 31 < 128 := by
  have hp : y < 2 ^ 255 := Nat.lt_of_lt_of_le hy (by unfold pP; omega)
  unfold byt
  have h1 : y / 2 ^ (8 * 31) < 128 := Nat.div_lt_of_lt_mul (by rw [show 2 ^ (8 * 31) * 128 = 2 ^ 255 by decide +kernel]; exact hp)
  omega
theorem xor_bytes {P : Nat × Nat} (hP : Ok7 P) (h0 : ¬ P.1 = 0) : vals .u8 32 (fun j => if j = 31 then xh (byt (num7 P) 31) else byt (num7 P) j) = vals .u8 32 (byt (num7 (neg7 P))) := by
  have hl := byt_low hP.y
  rw [num7_neg hP h0]
  unfold num7
  apply vals_congr
  intro j _
  rcases Nat.mod_two_eq_zero_or_one P.1 with hm | hm
  · have e1 : P.2 + 2 ^ 255 * (P.1 % 2) = P.2 := by omega
    have e2 : P.2 + 2 ^ 255 * (1 - P.1 % 2) = P.2 + 2 ^ 255 := by omega
    rw [e1, e2, byt_high hP.y]
    by_cases hj : j = 31
    · rw [if_pos hj, if_pos hj]; unfold xh; rw [if_pos hl, Nat.mod_eq_of_lt hl]
    · rw [if_neg hj, if_neg hj]
  · have e1 : P.2 + 2 ^ 255 * (P.1 % 2) = P.2 + 2 ^ 255 := by omega
    have e2 : P.2 + 2 ^ 255 * (1 - P.1 % 2) = P.2 := by omega
    rw [e1, e2]
    by_cases hj : j = 31
    · rw [if_pos hj, byt_high hP.y, if_pos rfl]; unfold xh; rw [if_neg (by omega), Nat.mod_eq_of_lt hl, hj]; omega
    · rw [if_neg hj, byt_high hP.y, if_neg hj]
theorem xor_run7 (a : Act) (w : World) (g : Nat) (hg : g < 256) (h0 : a.eval (.tmp 32) = .int .u8 ((g : Nat) : Int)) : (execOp a.eval f7r8Op2).run Try.prog w = .ok (.value (.int .u8 ((xh g : Nat) : Int))) w := by
  unfold execOp f7r8Op2
  simp only [h0]
  have e0 : a.eval (.const (.int .u8 128)) = .int .u8 128 := rfl
  have e := xor8_128 g hg
  go_simp
set_option maxRecDepth 100000 in
set_option maxHeartbeats 4000000 in
theorem signs_walk (f : Nat → Nat) (w : World) (hf : ∀ i, f i < 256) : Ret 7 #[.agg (vals .u8 32 f)] w (.bool true) := by
  go_enter Try.func7, Try.ntmps7
  have hO := Own.start w
  have qP := point_p f hf
  have hP := ok_ptP f hf
  generalize ptP f = P at qP hP
  have KP := hide qP
  clear qP
  go_upto_region 0 with (fail)
  refine f7r0_r hO (fit_by _) ?_
  intro n1 w1 hO
  replace hO : Own w w1 [(n1, vals .u8 32 f, 22)] := hO
  go_upto_region 1 with (fail)
  refine f7r1_r hO awake_c ?_
  intro w2 hO
  replace hO : Own w w2 [(n1, vals .u8 32 f, 22)] := hO
  go_upto_region 2 with (fail)
  refine f7r2_r hO 0 rfl KP.out (fit_pt _ _) (fit_rp _ _) ?_
  intro n4 n5 w3 hO
  replace hO : Own w w3 [(n5, rp P, 35), (n4, pt P, 29), (n1, vals .u8 32 f, 22)] := hO
  go_upto_region 3 with (fail)
  refine f7r3_r hO 1 rfl (neg_p hP) (fit_pt _ _) ?_
  intro n6 w4 hO
  replace hO : Own w w4 [(n6, pt (neg7 P), 29), (n5, rp P, 35), (n4, pt P, 29), (n1, vals .u8 32 f, 22)] := hO
  go_upto_region 4 with (fail)
  refine f7r4_r hO 2 rfl (places_p hP) (fit_fe _) (fit_fe _) ?_
  intro n7 n8 w5 hO
  replace hO : Own w w5 [(n8, arr 4 (limb P.2), 27), (n7, arr 4 (limb P.1), 27), (n6, pt (neg7 P), 29), (n5, rp P, 35), (n4, pt P, 29), (n1, vals .u8 32 f, 22)] := hO
  go_upto_region 5 with (fail)
  refine f7r5_r hO 4 rfl (bytes_p hP) (fit_by _) ?_
  intro n9 w6 hO
  replace hO : Own w w6 [(n9, vals .u8 32 (byt (num7 P)), 22), (n8, arr 4 (limb P.2), 27), (n7, arr 4 (limb P.1), 27), (n6, pt (neg7 P), 29), (n5, rp P, 35), (n4, pt P, 29), (n1, vals .u8 32 f, 22)] := hO
  have hs := same_c P.1 0 hP.x (of_lt (by omega))
  by_cases h0 : P.1 = 0
  · skip
    rw [decide_eq_true h0] at hs
    have hn := (neg7_same hP).2 h0
    have Hn := hide hn
    clear hn
    go_upto_region 6 with (fail)
    refine f7r6t_r hO 2 rfl bd_fe0 hs ?_
    intro w7 hO
    replace hO : Own w w7 [(n9, vals .u8 32 (byt (num7 P)), 22), (n8, arr 4 (limb P.2), 27), (n7, arr 4 (limb P.1), 27), (n6, pt (neg7 P), 29), (n5, rp P, 35), (n4, pt P, 29), (n1, vals .u8 32 f, 22)] := hO
    go_upto_region 9 with (fail)
    refine f7r9t_r (fun _ _ _ _ _ h => h) hO 5 rfl 3 rfl 0 rfl (bytes_p (ok_neg hP)) (fun a w h1 h2 => eql_c _ _ _ _ true (by rw [Hn.out]; exact same_self _) w rfl h1 h2) (neg_p (ok_neg hP)) (same_t (ok_neg (ok_neg hP)) hP (neg7_neg hP)) (same_t (ok_neg hP) hP Hn.out) (fun a w h1 h2 => eqb_c _ _ _ w rfl h1 h2) ?_
    intro w8 hO
    replace hO : Own w w8 [(n9, vals .u8 32 (byt (num7 P)), 22), (n8, arr 4 (limb P.2), 27), (n7, arr 4 (limb P.1), 27), (n6, pt (neg7 P), 29), (n5, rp P, 35), (n4, pt P, 29), (n1, vals .u8 32 f, 22)] := hO
    go_wp2_with fail
    refine bodyPost_ret (v := .bool true) (results_tmp Try.results7 _ _ _) rfl ⟨rfl, hO.low⟩
  · skip
    rw [decide_eq_false h0] at hs
    have hn : ¬ neg7 P = P := fun h => h0 ((neg7_same hP).1 h)
    have hb := xor_bytes hP h0
    have Hn := hide hn
    have Hb := hide hb
    clear hn hb
    go_upto_region 6 with (fail)
    refine f7r6f_r hO 2 rfl bd_fe0 hs ?_
    intro w7 hO
    replace hO : Own w w7 [(n9, vals .u8 32 (byt (num7 P)), 22), (n8, arr 4 (limb P.2), 27), (n7, arr 4 (limb P.1), 27), (n6, pt (neg7 P), 29), (n5, rp P, 35), (n4, pt P, 29), (n1, vals .u8 32 f, 22)] := hO
    go_upto_region 8 with (fail)
    refine f7r8_r hO 0 rfl (get_by _ 31 (by omega)) (fun a w h => xor_run7 a w _ (byt_lt _ _) h) (set_by _ _ _) (fit_by _) ?_
    intro w8 hO
    replace hO : Own w w8 [(n9, vals .u8 32 (fun j => if j = 31 then xh (byt (num7 P) 31) else (byt (num7 P)) j), 22), (n8, arr 4 (limb P.2), 27), (n7, arr 4 (limb P.1), 27), (n6, pt (neg7 P), 29), (n5, rp P, 35), (n4, pt P, 29), (n1, vals .u8 32 f, 22)] := hO
    rw [Hb.out] at hO
    replace hO : Own w w8 [(n9, vals .u8 32 (byt (num7 (neg7 P))), 22), (n8, arr 4 (limb P.2), 27), (n7, arr 4 (limb P.1), 27), (n6, pt (neg7 P), 29), (n5, rp P, 35), (n4, pt P, 29), (n1, vals .u8 32 f, 22)] := hO
    go_upto_region 9 with (fail)
    refine f7r9f_r (fun _ _ _ _ _ h => h) hO 5 rfl 3 rfl 0 rfl (bytes_p (ok_neg hP)) (fun a w h1 h2 => eql_c _ _ _ _ true (same_self _) w rfl h1 h2) (neg_p (ok_neg hP)) (same_t (ok_neg (ok_neg hP)) hP (neg7_neg hP)) (same_f (ok_neg hP) hP Hn.out) (fun a w h1 h2 => eqb_c _ _ _ w rfl h1 h2) ?_
    intro w9 hO
    replace hO : Own w w9 [(n9, vals .u8 32 (byt (num7 (neg7 P))), 22), (n8, arr 4 (limb P.2), 27), (n7, arr 4 (limb P.1), 27), (n6, pt (neg7 P), 29), (n5, rp P, 35), (n4, pt P, 29), (n1, vals .u8 32 f, 22)] := hO
    go_wp2_with fail
    refine bodyPost_ret (v := .bool true) (results_tmp Try.results7 _ _ _) rfl ⟨rfl, hO.low⟩
end Go.Proofs.Ytalnkcijebdpbaa

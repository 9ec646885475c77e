/- EdwardsBoth: the walk. Thirty-two bytes each; no other condition. -/
import Derived.Test.YtalnkcijebdpbaaQ0
namespace Go.Proofs.Ytalnkcijebdpbaa
open F Go.RowKit

def f8r0Op0 : Oper := ⟨some 4, .box 22 (.tmp 0), 0, "law.go:120", #[], none⟩
def f8r0Op1 : Oper := ⟨some 5, .box 22 (.tmp 1), 0, "law.go:120", #[], none⟩
def f8r0Op2 : Oper := ⟨some 6, .box 22 (.tmp 2), 0, "law.go:120", #[], none⟩
def f8r0Op3 : Oper := ⟨some 7, .box 22 (.tmp 3), 0, "law.go:120", #[], none⟩
def f8r0Op4 : Oper := ⟨some 8, .assign (.const (.bool false)), 4, "law.go:120", #[], none⟩
def f8r0Ops : Array Oper := #[f8r0Op0, f8r0Op1, f8r0Op2, f8r0Op3, f8r0Op4]
set_option maxRecDepth 100000 in
set_option maxHeartbeats 2000000 in
theorem f8r0_r {Q : Exit → Act → World → Prop} {u w : World} {L : List Row} {z4 z5 z6 z7 z8 : Value} {zz : List Value} {e0 e1 e2 e3 : Array Value} (hO : Own u w L) (fe0_22 : Fit 22 e0) (fe1_22 : Fit 22 e1) (fe2_22 : Fit 22 e2) (fe3_22 : Fit 22 e3) (H : ∀ (n4 : Nat) (n5 : Nat) (n6 : Nat) (n7 : Nat) (w' : World), Own u w' ((n7, e3, 22) :: (n6, e2, 22) :: (n5, e1, 22) :: (n4, e0, 22) :: L) → Q .normal { tmps := List.toArray ((.agg e0) :: (.agg e1) :: (.agg e2) :: (.agg e3) :: (.pointer (some ⟨n4, 0, none⟩)) :: (.pointer (some ⟨n5, 0, none⟩)) :: (.pointer (some ⟨n6, 0, none⟩)) :: (.pointer (some ⟨n7, 0, none⟩)) :: (.bool false) :: zz), defers := [] } w') :
    (Code.region 0 f8r0Ops false).wp Try.prog Q { tmps := List.toArray ((.agg e0) :: (.agg e1) :: (.agg e2) :: (.agg e3) :: z4 :: z5 :: z6 :: z7 :: z8 :: zz), defers := [] } w := by
  refine wp_region_list (show wpList _ f8r0Ops _ [f8r0Op0, f8r0Op1, f8r0Op2, f8r0Op3, f8r0Op4] _ _ from ?_)
  refine l_new hO (e0) 22 (run_box 22 _ rfl _ (by kernel_rfl)) fe0_22 ?_
  intro n4 w1 hO
  refine l_new hO (e1) 22 (run_box 22 _ rfl _ (by kernel_rfl)) fe1_22 ?_
  intro n5 w2 hO
  refine l_new hO (e2) 22 (run_box 22 _ rfl _ (by kernel_rfl)) fe2_22 ?_
  intro n6 w3 hO
  refine l_fr (Fr [A e0, A e1, A e2, A e3, D n4, D n5, D n6, z7, z8] zz) ?_
  refine l_new hO (e3) 22 (run_box 22 _ rfl _ (by kernel_rfl)) fe3_22 ?_
  intro n7 w4 hO
  refine l_val (.bool false) (by kernel_rfl) ?_
  exact l_fr _ (wpList_nil (H n4 n5 n6 n7 _ hO))
def f8r1Op0 : Oper := ⟨some 15, .call { callee := .value (.func 11), args := #[], argTypes := #[] }, 4, "law.go:121", #[], none⟩
def f8r1Op1 : Oper := ⟨some 9, .assign (.tmp 15), 4, "law.go:121", #[⟨0, .data⟩, ⟨0, .chain⟩, ⟨0, .phase⟩], none⟩
def f8r1Ops : Array Oper := #[f8r1Op0, f8r1Op1]
set_option maxRecDepth 100000 in
set_option maxHeartbeats 2000000 in
theorem f8r1_r {Q : Exit → Act → World → Prop} {u w : World} {L : List Row} {z0 z1 z2 z3 z4 z5 z6 z7 z8 z9 z10 z11 z12 z13 z14 z15 : Value} {zz : List Value} {p15 : Bool} (hO : Own u w L) (r15 : ∀ w, Ret 11 #[] w (.bool p15)) (H : ∀ (w' : World), Own u w' (L) → Q .normal { tmps := List.toArray (z0 :: z1 :: z2 :: z3 :: z4 :: z5 :: z6 :: z7 :: z8 :: (.bool p15) :: z10 :: z11 :: z12 :: z13 :: z14 :: (.bool p15) :: zz), defers := [] } w') :
    (Code.region 1 f8r1Ops false).wp Try.prog Q { tmps := List.toArray (z0 :: z1 :: z2 :: z3 :: z4 :: z5 :: z6 :: z7 :: z8 :: z9 :: z10 :: z11 :: z12 :: z13 :: z14 :: z15 :: zz), defers := [] } w := by
  refine wp_region_list (show wpList _ f8r1Ops _ [f8r1Op0, f8r1Op1] _ _ from ?_)
  refine l_call hO 11 #[] (.bool p15) r15 ?_
  intro w1 hO
  refine l_val (.bool p15) (by kernel_rfl) ?_
  exact l_fr _ (wpList_nil (H  _ hO))
def f8r2Op0 : Oper := ⟨some 17, .load 22 (.tmp 4), 22, "law.go:122", #[], none⟩
def f8r2Op1 : Oper := ⟨some 18, .call { callee := .value (.func 20), args := #[.tmp 17], argTypes := #[22] }, 45, "law.go:122", #[⟨0, .data⟩], none⟩
def f8r2Op2 : Oper := ⟨some 16, .move (.tmp 18), 45, "law.go:122", #[⟨1, .data⟩], none⟩
def f8r2Op3 : Oper := ⟨some 19, .extract (.tmp 16) 0, 29, "law.go:122", #[⟨2, .data⟩], none⟩
def f8r2Op4 : Oper := ⟨some 20, .extract (.tmp 16) 1, 35, "law.go:122", #[⟨2, .data⟩, ⟨7, .gcOnly .lateStores⟩], none⟩
def f8r2Op5 : Oper := ⟨some 10, .alloc 29, 0, "law.go:122", #[], none⟩
def f8r2Op6 : Oper := ⟨some 11, .alloc 35, 0, "law.go:122", #[], none⟩
def f8r2Op7 : Oper := ⟨none, .store 29 (.tmp 10) (.tmp 19), 0, "law.go:122", #[⟨5, .data⟩, ⟨3, .data⟩, ⟨1, .chain⟩, ⟨0, .phase⟩, ⟨1, .phase⟩, ⟨2, .phase⟩, ⟨3, .phase⟩, ⟨4, .textOnly .lateStores⟩, ⟨5, .phase⟩, ⟨6, .phase⟩], none⟩
def f8r2Op8 : Oper := ⟨none, .store 35 (.tmp 11) (.tmp 20), 0, "law.go:122", #[⟨6, .data⟩, ⟨4, .data⟩, ⟨7, .chain⟩, ⟨0, .phase⟩, ⟨1, .phase⟩, ⟨2, .phase⟩, ⟨3, .phase⟩, ⟨4, .phase⟩, ⟨5, .phase⟩, ⟨6, .phase⟩, ⟨7, .phase⟩], none⟩
def f8r2Ops : Array Oper := #[f8r2Op0, f8r2Op1, f8r2Op2, f8r2Op3, f8r2Op4, f8r2Op5, f8r2Op6, f8r2Op7, f8r2Op8]
set_option maxRecDepth 100000 in
set_option maxHeartbeats 2000000 in
theorem f8r2_r {Q : Exit → Act → World → Prop} {u w : World} {L : List Row} {z0 z1 z2 z3 z5 z6 z7 z8 z9 z10 z11 z12 z13 z14 z15 z16 z17 z18 z19 z20 : Value} {zz : List Value} {b4 : Nat} {c4 : Array Value} {e18a e18b : Array Value} (hO : Own u w L) (i4 : Nat) (h4 : L[i4]? = some (b4, c4, 22)) (r18 : ∀ w, Ret 20 #[.agg c4] w (.tuple #[.agg e18a, .agg e18b])) (fe18a_29 : Fit 29 e18a) (fe18b_35 : Fit 35 e18b) (H : ∀ (n10 : Nat) (n11 : Nat) (w' : World), Own u w' ((n11, e18b, 35) :: (n10, e18a, 29) :: L) → Q .normal { tmps := List.toArray (z0 :: z1 :: z2 :: z3 :: (.pointer (some ⟨b4, 0, none⟩)) :: z5 :: z6 :: z7 :: z8 :: z9 :: (.pointer (some ⟨n10, 0, none⟩)) :: (.pointer (some ⟨n11, 0, none⟩)) :: z12 :: z13 :: z14 :: z15 :: (.tuple #[.agg e18a, .agg e18b]) :: (.agg c4) :: (.tuple #[.agg e18a, .agg e18b]) :: (.agg e18a) :: (.agg e18b) :: zz), defers := [] } w') :
    (Code.region 2 f8r2Ops false).wp Try.prog Q { tmps := List.toArray (z0 :: z1 :: z2 :: z3 :: (.pointer (some ⟨b4, 0, none⟩)) :: z5 :: z6 :: z7 :: z8 :: z9 :: z10 :: z11 :: z12 :: z13 :: z14 :: z15 :: z16 :: z17 :: z18 :: z19 :: z20 :: zz), defers := [] } w := by
  refine wp_region_list (show wpList _ f8r2Ops _ [f8r2Op0, f8r2Op1, f8r2Op2, f8r2Op3, f8r2Op4, f8r2Op5, f8r2Op6, f8r2Op7, f8r2Op8] _ _ from ?_)
  refine l_ld hO 22 i4 h4 Try.underlying22 ?_
  refine l_call hO 20 #[.agg c4] (.tuple #[.agg e18a, .agg e18b]) r18 ?_
  intro w1 hO
  refine l_val (.tuple #[.agg e18a, .agg e18b]) (by kernel_rfl) ?_
  refine l_fr (Fr [z0, z1, z2, z3, D b4, z5, z6, z7, z8, z9, z10, z11, z12, z13, z14, z15, .tuple #[.agg e18a, .agg e18b], A c4, .tuple #[.agg e18a, .agg e18b], z19, z20] zz) ?_
  refine l_val (.agg e18a) (by kernel_rfl) ?_
  refine l_val (.agg e18b) (by kernel_rfl) ?_
  refine l_new hO (ps [0, 0]) 29 (al29 rfl) (fit_pt _ _) ?_
  intro n10 w2 hO
  refine l_fr (Fr [z0, z1, z2, z3, D b4, z5, z6, z7, z8, z9, D n10, z11, z12, z13, z14, z15, .tuple #[.agg e18a, .agg e18b], A c4, .tuple #[.agg e18a, .agg e18b], A e18a, A e18b] zz) ?_
  refine l_new hO (qn [0, 0]) 35 (al35 rfl) (fit_rp _ _) ?_
  intro n11 w3 hO
  refine l_st hO 29 1 rfl e18a fe18a_29 ?_
  intro w4 hO
  replace hO : Own u w4 ((n11, qn [0, 0], 35) :: (n10, e18a, 29) :: L) := hO
  refine l_st hO 35 0 rfl e18b fe18b_35 ?_
  intro w5 hO
  exact l_fr _ (wpList_nil (H n10 n11 _ hO))
def f8r3Op0 : Oper := ⟨some 22, .load 22 (.tmp 5), 22, "law.go:123", #[], none⟩
def f8r3Op1 : Oper := ⟨some 23, .call { callee := .value (.func 20), args := #[.tmp 22], argTypes := #[22] }, 45, "law.go:123", #[⟨0, .data⟩], none⟩
def f8r3Op2 : Oper := ⟨some 21, .move (.tmp 23), 45, "law.go:123", #[⟨1, .data⟩], none⟩
def f8r3Op3 : Oper := ⟨some 24, .extract (.tmp 21) 0, 29, "law.go:123", #[⟨2, .data⟩], none⟩
def f8r3Op4 : Oper := ⟨some 25, .extract (.tmp 21) 1, 35, "law.go:123", #[⟨2, .data⟩, ⟨7, .gcOnly .lateStores⟩], none⟩
def f8r3Op5 : Oper := ⟨some 12, .alloc 29, 0, "law.go:123", #[], none⟩
def f8r3Op6 : Oper := ⟨some 13, .alloc 35, 0, "law.go:123", #[], none⟩
def f8r3Op7 : Oper := ⟨none, .store 29 (.tmp 12) (.tmp 24), 0, "law.go:123", #[⟨5, .data⟩, ⟨3, .data⟩, ⟨1, .chain⟩, ⟨0, .phase⟩, ⟨1, .phase⟩, ⟨2, .phase⟩, ⟨3, .phase⟩, ⟨4, .textOnly .lateStores⟩, ⟨5, .phase⟩, ⟨6, .phase⟩], none⟩
def f8r3Op8 : Oper := ⟨none, .store 35 (.tmp 13) (.tmp 25), 0, "law.go:123", #[⟨6, .data⟩, ⟨4, .data⟩, ⟨7, .chain⟩, ⟨0, .phase⟩, ⟨1, .phase⟩, ⟨2, .phase⟩, ⟨3, .phase⟩, ⟨4, .phase⟩, ⟨5, .phase⟩, ⟨6, .phase⟩, ⟨7, .phase⟩], none⟩
def f8r3Ops : Array Oper := #[f8r3Op0, f8r3Op1, f8r3Op2, f8r3Op3, f8r3Op4, f8r3Op5, f8r3Op6, f8r3Op7, f8r3Op8]
set_option maxRecDepth 100000 in
set_option maxHeartbeats 2000000 in
theorem f8r3_r {Q : Exit → Act → World → Prop} {u w : World} {L : List Row} {z0 z1 z2 z3 z4 z6 z7 z8 z9 z10 z11 z12 z13 z14 z15 z16 z17 z18 z19 z20 z21 z22 z23 z24 z25 : Value} {zz : List Value} {b5 : Nat} {c5 : Array Value} {e23a e23b : Array Value} (hO : Own u w L) (i5 : Nat) (h5 : L[i5]? = some (b5, c5, 22)) (r23 : ∀ w, Ret 20 #[.agg c5] w (.tuple #[.agg e23a, .agg e23b])) (fe23a_29 : Fit 29 e23a) (fe23b_35 : Fit 35 e23b) (H : ∀ (n12 : Nat) (n13 : Nat) (w' : World), Own u w' ((n13, e23b, 35) :: (n12, e23a, 29) :: L) → Q .normal { tmps := List.toArray (z0 :: z1 :: z2 :: z3 :: z4 :: (.pointer (some ⟨b5, 0, none⟩)) :: z6 :: z7 :: z8 :: z9 :: z10 :: z11 :: (.pointer (some ⟨n12, 0, none⟩)) :: (.pointer (some ⟨n13, 0, none⟩)) :: z14 :: z15 :: z16 :: z17 :: z18 :: z19 :: z20 :: (.tuple #[.agg e23a, .agg e23b]) :: (.agg c5) :: (.tuple #[.agg e23a, .agg e23b]) :: (.agg e23a) :: (.agg e23b) :: zz), defers := [] } w') :
    (Code.region 3 f8r3Ops false).wp Try.prog Q { tmps := List.toArray (z0 :: z1 :: z2 :: z3 :: z4 :: (.pointer (some ⟨b5, 0, none⟩)) :: z6 :: z7 :: z8 :: z9 :: z10 :: z11 :: z12 :: z13 :: z14 :: z15 :: z16 :: z17 :: z18 :: z19 :: z20 :: z21 :: z22 :: z23 :: z24 :: z25 :: zz), defers := [] } w := by
  refine wp_region_list (show wpList _ f8r3Ops _ [f8r3Op0, f8r3Op1, f8r3Op2, f8r3Op3, f8r3Op4, f8r3Op5, f8r3Op6, f8r3Op7, f8r3Op8] _ _ from ?_)
  refine l_ld hO 22 i5 h5 Try.underlying22 ?_
  refine l_call hO 20 #[.agg c5] (.tuple #[.agg e23a, .agg e23b]) r23 ?_
  intro w1 hO
  refine l_val (.tuple #[.agg e23a, .agg e23b]) (by kernel_rfl) ?_
  refine l_fr (Fr [z0, z1, z2, z3, z4, D b5, z6, z7, z8, z9, z10, z11, z12, z13, z14, z15, z16, z17, z18, z19, z20, .tuple #[.agg e23a, .agg e23b], A c5, .tuple #[.agg e23a, .agg e23b], z24, z25] zz) ?_
  refine l_val (.agg e23a) (by kernel_rfl) ?_
  refine l_val (.agg e23b) (by kernel_rfl) ?_
  refine l_new hO (ps [0, 0]) 29 (al29 rfl) (fit_pt _ _) ?_
  intro n12 w2 hO
  refine l_fr (Fr [z0, z1, z2, z3, z4, D b5, z6, z7, z8, z9, z10, z11, D n12, z13, z14, z15, z16, z17, z18, z19, z20, .tuple #[.agg e23a, .agg e23b], A c5, .tuple #[.agg e23a, .agg e23b], A e23a, A e23b] zz) ?_
  refine l_new hO (qn [0, 0]) 35 (al35 rfl) (fit_rp _ _) ?_
  intro n13 w3 hO
  refine l_st hO 29 1 rfl e23a fe23a_29 ?_
  intro w4 hO
  replace hO : Own u w4 ((n13, qn [0, 0], 35) :: (n12, e23a, 29) :: L) := hO
  refine l_st hO 35 0 rfl e23b fe23b_35 ?_
  intro w5 hO
  exact l_fr _ (wpList_nil (H n12 n13 _ hO))
def f8r4Op0 : Oper := ⟨some 26, .build 22 #[(0, .const (.int .u8 2))], 22, "law.go:124", #[], none⟩
def f8r4Op1 : Oper := ⟨some 27, .load 29 (.tmp 10), 29, "law.go:124", #[], none⟩
def f8r4Op2 : Oper := ⟨some 28, .call { callee := .value (.func 30), args := #[.tmp 26, .tmp 27], argTypes := #[22, 29] }, 29, "law.go:124", #[⟨0, .data⟩, ⟨1, .data⟩], none⟩
def f8r4Op3 : Oper := ⟨some 14, .alloc 29, 0, "law.go:124", #[], none⟩
def f8r4Op4 : Oper := ⟨none, .store 29 (.tmp 14) (.tmp 28), 0, "law.go:124", #[⟨3, .data⟩, ⟨2, .data⟩, ⟨2, .chain⟩, ⟨0, .phase⟩, ⟨1, .phase⟩, ⟨2, .phase⟩, ⟨3, .phase⟩], none⟩
def f8r4Ops : Array Oper := #[f8r4Op0, f8r4Op1, f8r4Op2, f8r4Op3, f8r4Op4]
set_option maxRecDepth 100000 in
set_option maxHeartbeats 2000000 in
theorem f8r4_r {Q : Exit → Act → World → Prop} {u w : World} {L : List Row} {z0 z1 z2 z3 z4 z5 z6 z7 z8 z9 z11 z12 z13 z14 z15 z16 z17 z18 z19 z20 z21 z22 z23 z24 z25 z26 z27 z28 : Value} {zz : List Value} {b10 : Nat} {c10 : Array Value} {e26 e28 : Array Value} (hO : Own u w L) (i10 : Nat) (h10 : L[i10]? = some (b10, c10, 29)) (q26 : Try.prog.built 22 [(0, .int IntKind.u8 2)] = some e26) (r28 : ∀ w, Ret 30 #[.agg e26, .agg c10] w (.agg e28)) (fe28_29 : Fit 29 e28) (H : ∀ (n14 : Nat) (w' : World), Own u w' ((n14, e28, 29) :: L) → Q .normal { tmps := List.toArray (z0 :: z1 :: z2 :: z3 :: z4 :: z5 :: z6 :: z7 :: z8 :: z9 :: (.pointer (some ⟨b10, 0, none⟩)) :: z11 :: z12 :: z13 :: (.pointer (some ⟨n14, 0, none⟩)) :: z15 :: z16 :: z17 :: z18 :: z19 :: z20 :: z21 :: z22 :: z23 :: z24 :: z25 :: (.agg e26) :: (.agg c10) :: (.agg e28) :: zz), defers := [] } w') :
    (Code.region 4 f8r4Ops false).wp Try.prog Q { tmps := List.toArray (z0 :: z1 :: z2 :: z3 :: z4 :: z5 :: z6 :: z7 :: z8 :: z9 :: (.pointer (some ⟨b10, 0, none⟩)) :: z11 :: z12 :: z13 :: z14 :: z15 :: z16 :: z17 :: z18 :: z19 :: z20 :: z21 :: z22 :: z23 :: z24 :: z25 :: z26 :: z27 :: z28 :: zz), defers := [] } w := by
  refine wp_region_list (show wpList _ f8r4Ops _ [f8r4Op0, f8r4Op1, f8r4Op2, f8r4Op3, f8r4Op4] _ _ from ?_)
  refine l_val (.agg e26) (run_bd 22 _ rfl [(0, .int IntKind.u8 2)] (by kernel_rfl) e26 q26 _) ?_
  refine l_ld hO 29 i10 h10 Try.underlying29 ?_
  refine l_call hO 30 #[.agg e26, .agg c10] (.agg e28) r28 ?_
  intro w1 hO
  refine l_fr (Fr [z0, z1, z2, z3, z4, z5, z6, z7, z8, z9, D b10, z11, z12, z13, z14, z15, z16, z17, z18, z19, z20, z21, z22, z23, z24, z25, A e26, A c10, A e28] zz) ?_
  refine l_new hO (ps [0, 0]) 29 (al29 rfl) (fit_pt _ _) ?_
  intro n14 w2 hO
  refine l_st hO 29 0 rfl e28 fe28_29 ?_
  intro w3 hO
  exact l_fr _ (wpList_nil (H n14 _ hO))
def f8r5Op0 : Oper := ⟨some 29, .move (.tmp 9), 4, "law.go:125", #[], none⟩
def f8r5Op1 : Oper := ⟨some 30, .move (.tmp 29), 4, "law.go:125", #[⟨0, .data⟩], none⟩
def f8r5Op2 : Oper := ⟨some 31, .load 22 (.tmp 6), 22, "law.go:125", #[⟨1, .guard⟩], some (1, true)⟩
def f8r5Op3 : Oper := ⟨some 32, .load 29 (.tmp 10), 29, "law.go:125", #[⟨1, .guard⟩], some (1, true)⟩
def f8r5Op4 : Oper := ⟨some 33, .load 22 (.tmp 7), 22, "law.go:125", #[⟨1, .guard⟩], some (1, true)⟩
def f8r5Op5 : Oper := ⟨some 34, .load 29 (.tmp 12), 29, "law.go:125", #[⟨1, .guard⟩], some (1, true)⟩
def f8r5Op6 : Oper := ⟨some 35, .call { callee := .value (.func 31), args := #[.tmp 31, .tmp 32, .tmp 33, .tmp 34], argTypes := #[22, 29, 22, 29] }, 29, "law.go:125", #[⟨2, .data⟩, ⟨3, .data⟩, ⟨4, .data⟩, ⟨5, .data⟩, ⟨1, .chain⟩, ⟨1, .guard⟩], some (1, true)⟩
def f8r5Op7 : Oper := ⟨some 36, .load 22 (.tmp 6), 22, "law.go:125", #[⟨1, .guard⟩], some (1, true)⟩
def f8r5Op8 : Oper := ⟨some 37, .load 29 (.tmp 10), 29, "law.go:125", #[⟨1, .guard⟩], some (1, true)⟩
def f8r5Op9 : Oper := ⟨some 38, .call { callee := .value (.func 30), args := #[.tmp 36, .tmp 37], argTypes := #[22, 29] }, 29, "law.go:125", #[⟨7, .data⟩, ⟨8, .data⟩, ⟨6, .chain⟩, ⟨1, .guard⟩], some (1, true)⟩
def f8r5Op10 : Oper := ⟨some 39, .load 22 (.tmp 7), 22, "law.go:125", #[⟨1, .guard⟩], some (1, true)⟩
def f8r5Op11 : Oper := ⟨some 40, .load 29 (.tmp 12), 29, "law.go:125", #[⟨1, .guard⟩], some (1, true)⟩
def f8r5Op12 : Oper := ⟨some 41, .call { callee := .value (.func 30), args := #[.tmp 39, .tmp 40], argTypes := #[22, 29] }, 29, "law.go:125", #[⟨10, .data⟩, ⟨11, .data⟩, ⟨9, .chain⟩, ⟨1, .guard⟩], some (1, true)⟩
def f8r5Op13 : Oper := ⟨some 42, .call { callee := .value (.func 21), args := #[.tmp 38, .tmp 41], argTypes := #[29, 29] }, 29, "law.go:125", #[⟨9, .data⟩, ⟨12, .data⟩, ⟨12, .chain⟩, ⟨1, .guard⟩], some (1, true)⟩
def f8r5Op14 : Oper := ⟨some 43, .call { callee := .value (.func 18), args := #[.tmp 35, .tmp 42], argTypes := #[29, 29] }, 4, "law.go:125", #[⟨6, .data⟩, ⟨13, .data⟩, ⟨13, .chain⟩, ⟨1, .guard⟩], some (1, true)⟩
def f8r5Op15 : Oper := ⟨some 44, .pick (.tmp 30) (.tmp 43) (.const (.bool false)), 4, "law.go:125", #[⟨1, .data⟩, ⟨14, .data⟩], none⟩
def f8r5Op16 : Oper := ⟨some 45, .move (.tmp 44), 4, "law.go:125", #[⟨15, .data⟩, ⟨14, .chain⟩], none⟩
def f8r5Op17 : Oper := ⟨some 46, .load 29 (.tmp 14), 29, "law.go:125", #[⟨16, .guard⟩], some (16, true)⟩
def f8r5Op18 : Oper := ⟨some 47, .load 29 (.tmp 10), 29, "law.go:125", #[⟨16, .guard⟩], some (16, true)⟩
def f8r5Op19 : Oper := ⟨some 48, .load 29 (.tmp 10), 29, "law.go:125", #[⟨16, .guard⟩], some (16, true)⟩
def f8r5Op20 : Oper := ⟨some 49, .call { callee := .value (.func 21), args := #[.tmp 47, .tmp 48], argTypes := #[29, 29] }, 29, "law.go:125", #[⟨18, .data⟩, ⟨19, .data⟩, ⟨16, .chain⟩, ⟨16, .guard⟩], some (16, true)⟩
def f8r5Op21 : Oper := ⟨some 50, .call { callee := .value (.func 18), args := #[.tmp 46, .tmp 49], argTypes := #[29, 29] }, 4, "law.go:125", #[⟨17, .data⟩, ⟨20, .data⟩, ⟨20, .chain⟩, ⟨16, .guard⟩], some (16, true)⟩
def f8r5Op22 : Oper := ⟨some 51, .pick (.tmp 45) (.tmp 50) (.const (.bool false)), 4, "law.go:125", #[⟨16, .data⟩, ⟨21, .data⟩], none⟩
def f8r5Op23 : Oper := ⟨some 52, .move (.tmp 51), 4, "law.go:125", #[⟨22, .data⟩, ⟨21, .chain⟩], none⟩
def f8r5Op24 : Oper := ⟨some 53, .load 22 (.tmp 6), 22, "law.go:125", #[⟨23, .guard⟩], some (23, true)⟩
def f8r5Op25 : Oper := ⟨some 54, .call { callee := .value (.func 19), args := #[], argTypes := #[] }, 29, "law.go:125", #[⟨23, .chain⟩, ⟨23, .guard⟩], some (23, true)⟩
def f8r5Op26 : Oper := ⟨some 55, .call { callee := .value (.func 30), args := #[.tmp 53, .tmp 54], argTypes := #[22, 29] }, 29, "law.go:125", #[⟨24, .data⟩, ⟨25, .data⟩, ⟨25, .chain⟩, ⟨23, .guard⟩], some (23, true)⟩
def f8r5Op27 : Oper := ⟨some 56, .call { callee := .value (.func 19), args := #[], argTypes := #[] }, 29, "law.go:125", #[⟨26, .chain⟩, ⟨23, .guard⟩], some (23, true)⟩
def f8r5Op28 : Oper := ⟨some 57, .call { callee := .value (.func 18), args := #[.tmp 55, .tmp 56], argTypes := #[29, 29] }, 4, "law.go:125", #[⟨26, .data⟩, ⟨27, .data⟩, ⟨27, .chain⟩, ⟨23, .guard⟩], some (23, true)⟩
def f8r5Op29 : Oper := ⟨some 58, .pick (.tmp 52) (.tmp 57) (.const (.bool false)), 4, "law.go:125", #[⟨23, .data⟩, ⟨28, .data⟩], none⟩
def f8r5Op30 : Oper := ⟨some 8, .assign (.tmp 58), 4, "law.go:125", #[⟨29, .data⟩, ⟨28, .chain⟩, ⟨0, .phase⟩, ⟨1, .phase⟩, ⟨2, .phase⟩, ⟨3, .phase⟩, ⟨4, .phase⟩, ⟨5, .phase⟩, ⟨6, .phase⟩, ⟨7, .phase⟩, ⟨8, .phase⟩, ⟨9, .phase⟩, ⟨10, .phase⟩, ⟨11, .phase⟩, ⟨12, .phase⟩, ⟨13, .phase⟩, ⟨14, .phase⟩, ⟨15, .phase⟩, ⟨16, .phase⟩, ⟨17, .phase⟩, ⟨18, .phase⟩, ⟨19, .phase⟩, ⟨20, .phase⟩, ⟨21, .phase⟩, ⟨22, .phase⟩, ⟨23, .phase⟩, ⟨24, .phase⟩, ⟨25, .phase⟩, ⟨26, .phase⟩, ⟨27, .phase⟩, ⟨28, .phase⟩, ⟨29, .phase⟩], none⟩
def f8r5Ops : Array Oper := #[f8r5Op0, f8r5Op1, f8r5Op2, f8r5Op3, f8r5Op4, f8r5Op5, f8r5Op6, f8r5Op7, f8r5Op8, f8r5Op9, f8r5Op10, f8r5Op11, f8r5Op12, f8r5Op13, f8r5Op14, f8r5Op15, f8r5Op16, f8r5Op17, f8r5Op18, f8r5Op19, f8r5Op20, f8r5Op21, f8r5Op22, f8r5Op23, f8r5Op24, f8r5Op25, f8r5Op26, f8r5Op27, f8r5Op28, f8r5Op29, f8r5Op30]
set_option maxRecDepth 100000 in
set_option maxHeartbeats 2000000 in
theorem f8r5_r {Q : Exit → Act → World → Prop} {u w : World} {L : List Row} {z0 z1 z2 z3 z4 z5 z8 z11 z13 z15 z16 z17 z18 z19 z20 z21 z22 z23 z24 z25 z26 z27 z28 z29 z30 z31 z32 z33 z34 z35 z36 z37 z38 z39 z40 z41 z42 z43 z44 z45 z46 z47 z48 z49 z50 z51 z52 z53 z54 z55 z56 z57 z58 : Value} {b6 b7 b10 b12 b14 : Nat} {c6 c7 c10 c12 c14 : Array Value} {e35 e38 e41 e42 e49 e54 e55 e56 : Array Value} (hQ : ∀ c a w n v, Q (.panic c) (a.put (some n) v) w → Q (.panic c) a w) (hO : Own u w L) (i6 : Nat) (h6 : L[i6]? = some (b6, c6, 22)) (i7 : Nat) (h7 : L[i7]? = some (b7, c7, 22)) (i10 : Nat) (h10 : L[i10]? = some (b10, c10, 29)) (i12 : Nat) (h12 : L[i12]? = some (b12, c12, 29)) (i14 : Nat) (h14 : L[i14]? = some (b14, c14, 29)) (r35 : ∀ w, Ret 31 #[.agg c6, .agg c10, .agg c7, .agg c12] w (.agg e35)) (r38 : ∀ w, Ret 30 #[.agg c6, .agg c10] w (.agg e38)) (r41 : ∀ w, Ret 30 #[.agg c7, .agg c12] w (.agg e41)) (r42 : ∀ w, Ret 21 #[.agg e38, .agg e41] w (.agg e42)) (r43 : ∀ w, Ret 18 #[.agg e35, .agg e42] w (.bool true)) (r49 : ∀ w, Ret 21 #[.agg c10, .agg c10] w (.agg e49)) (r50 : ∀ w, Ret 18 #[.agg c14, .agg e49] w (.bool true)) (r54 : ∀ w, Ret 19 #[] w (.agg e54)) (r55 : ∀ w, Ret 30 #[.agg c6, .agg e54] w (.agg e55)) (r56 : ∀ w, Ret 19 #[] w (.agg e56)) (r57 : ∀ w, Ret 18 #[.agg e55, .agg e56] w (.bool true)) (H : ∀ (w' : World), Own u w' (L) → Q .normal { tmps := List.toArray (z0 :: z1 :: z2 :: z3 :: z4 :: z5 :: (.pointer (some ⟨b6, 0, none⟩)) :: (.pointer (some ⟨b7, 0, none⟩)) :: (.bool true) :: (.bool true) :: (.pointer (some ⟨b10, 0, none⟩)) :: z11 :: (.pointer (some ⟨b12, 0, none⟩)) :: z13 :: (.pointer (some ⟨b14, 0, none⟩)) :: z15 :: z16 :: z17 :: z18 :: z19 :: z20 :: z21 :: z22 :: z23 :: z24 :: z25 :: z26 :: z27 :: z28 :: (.bool true) :: (.bool true) :: (.agg c6) :: (.agg c10) :: (.agg c7) :: (.agg c12) :: (.agg e35) :: (.agg c6) :: (.agg c10) :: (.agg e38) :: (.agg c7) :: (.agg c12) :: (.agg e41) :: (.agg e42) :: (.bool true) :: (.bool true) :: (.bool true) :: (.agg c14) :: (.agg c10) :: (.agg c10) :: (.agg e49) :: (.bool true) :: (.bool true) :: (.bool true) :: (.agg c6) :: (.agg e54) :: (.agg e55) :: (.agg e56) :: (.bool true) :: (.bool true) :: []), defers := [] } w') :
    (Code.region 5 f8r5Ops true).wp Try.prog Q { tmps := List.toArray (z0 :: z1 :: z2 :: z3 :: z4 :: z5 :: (.pointer (some ⟨b6, 0, none⟩)) :: (.pointer (some ⟨b7, 0, none⟩)) :: z8 :: (.bool true) :: (.pointer (some ⟨b10, 0, none⟩)) :: z11 :: (.pointer (some ⟨b12, 0, none⟩)) :: z13 :: (.pointer (some ⟨b14, 0, none⟩)) :: z15 :: z16 :: z17 :: z18 :: z19 :: z20 :: z21 :: z22 :: z23 :: z24 :: z25 :: z26 :: z27 :: z28 :: z29 :: z30 :: z31 :: z32 :: z33 :: z34 :: z35 :: z36 :: z37 :: z38 :: z39 :: z40 :: z41 :: z42 :: z43 :: z44 :: z45 :: z46 :: z47 :: z48 :: z49 :: z50 :: z51 :: z52 :: z53 :: z54 :: z55 :: z56 :: z57 :: z58 :: []), defers := [] } w := by
  have fc6_22 := hO.fits i6 h6
  have fc7_22 := hO.fits i7 h7
  have fc10_29 := hO.fits i10 h10
  have fc12_29 := hO.fits i12 h12
  have fc14_29 := hO.fits i14 h14
  refine wp_region_held_drew (S := Has [(b6, c6, 22), (b7, c7, 22), (b10, c10, 29), (b12, c12, 29), (b14, c14, 29)]) (by kernel_rfl) ⟨hO.drew.row _ h6, hO.drew.row _ h7, hO.drew.row _ h10, hO.drew.row _ h12, hO.drew.row _ h14, trivial⟩ (fun hS => ?_)
  replace hO := hO.drew
  refine d_tk 0 f8r5Op0 (.bool true) hQ (y_val (fun _ => by kernel_rfl)) hS ?_
  refine d_tk 1 f8r5Op1 (.bool true) hQ (y_val (fun _ => by kernel_rfl)) hS ?_
  refine d_tk 2 f8r5Op2 (.agg c6) hQ (y_l 22 (fun _ h => h.1) fc6_22 Try.underlying22) hS ?_
  refine d_fr (ls 31 7) (Fr [z0, z1, z2, z3, z4, z5, D b6, D b7, z8, .bool true, D b10, z11, D b12, z13, D b14, z15, z16, z17, z18, z19, z20, z21, z22, z23, z24, z25, z26, z27, z28, .bool true, .bool true, A c6, z32, z33, z34, z35, z36, z37, z38, z39, z40, z41, z42, z43, z44, z45, z46, z47, z48, z49, z50, z51, z52, z53, z54, z55, z56, z57, z58] []) ?_
  refine d_tk 3 f8r5Op3 (.agg c10) hQ (y_l 29 (fun _ h => h.2.2.1) fc10_29 Try.underlying29) hS ?_
  refine d_tk 4 f8r5Op4 (.agg c7) hQ (y_l 22 (fun _ h => h.2.1) fc7_22 Try.underlying22) hS ?_
  refine d_tk 5 f8r5Op5 (.agg c12) hQ (y_l 29 (fun _ h => h.2.2.2.1) fc12_29 Try.underlying29) hS ?_
  refine d_fr (ls 31 63) (Fr [z0, z1, z2, z3, z4, z5, D b6, D b7, z8, .bool true, D b10, z11, D b12, z13, D b14, z15, z16, z17, z18, z19, z20, z21, z22, z23, z24, z25, z26, z27, z28, .bool true, .bool true, A c6, A c10, A c7, A c12, z35, z36, z37, z38, z39, z40, z41, z42, z43, z44, z45, z46, z47, z48, z49, z50, z51, z52, z53, z54, z55, z56, z57, z58] []) ?_
  refine d_tk 7 f8r5Op7 (.agg c6) hQ (y_l 22 (fun _ h => h.1) fc6_22 Try.underlying22) hS ?_
  refine d_tk 8 f8r5Op8 (.agg c10) hQ (y_l 29 (fun _ h => h.2.2.1) fc10_29 Try.underlying29) hS ?_
  refine d_tk 10 f8r5Op10 (.agg c7) hQ (y_l 22 (fun _ h => h.2.1) fc7_22 Try.underlying22) hS ?_
  refine d_fr (ls 31 1471) (Fr [z0, z1, z2, z3, z4, z5, D b6, D b7, z8, .bool true, D b10, z11, D b12, z13, D b14, z15, z16, z17, z18, z19, z20, z21, z22, z23, z24, z25, z26, z27, z28, .bool true, .bool true, A c6, A c10, A c7, A c12, z35, A c6, A c10, z38, A c7, z40, z41, z42, z43, z44, z45, z46, z47, z48, z49, z50, z51, z52, z53, z54, z55, z56, z57, z58] []) ?_
  refine d_tk 11 f8r5Op11 (.agg c12) hQ (y_l 29 (fun _ h => h.2.2.2.1) fc12_29 Try.underlying29) hS ?_
  refine d_fr (ls 31 3519) (Fr [z0, z1, z2, z3, z4, z5, D b6, D b7, z8, .bool true, D b10, z11, D b12, z13, D b14, z15, z16, z17, z18, z19, z20, z21, z22, z23, z24, z25, z26, z27, z28, .bool true, .bool true, A c6, A c10, A c7, A c12, z35, A c6, A c10, z38, A c7, A c12, z41, z42, z43, z44, z45, z46, z47, z48, z49, z50, z51, z52, z53, z54, z55, z56, z57, z58] []) ?_
  refine d_one 6 f8r5Op6 (ls 31 3583) (fun K hK => ?_)
  refine k_call hK hO (fun _ hO => ⟨hO.row _ h6, hO.row _ h7, hO.row _ h10, hO.row _ h12, hO.row _ h14, trivial⟩) 31 #[.agg c6, .agg c10, .agg c7, .agg c12] (.agg e35) r35 ?_
  intro w1 hO
  refine d_one 9 f8r5Op9 (ls 31 4095) (fun K hK => ?_)
  refine k_call hK hO (fun _ hO => ⟨hO.row _ h6, hO.row _ h7, hO.row _ h10, hO.row _ h12, hO.row _ h14, trivial⟩) 30 #[.agg c6, .agg c10] (.agg e38) r38 ?_
  intro w2 hO
  refine d_one 12 f8r5Op12 (ls 31 8191) (fun K hK => ?_)
  refine k_call hK hO (fun _ hO => ⟨hO.row _ h6, hO.row _ h7, hO.row _ h10, hO.row _ h12, hO.row _ h14, trivial⟩) 30 #[.agg c7, .agg c12] (.agg e41) r41 ?_
  intro w3 hO
  refine d_fr (ls 31 8191) (Fr [z0, z1, z2, z3, z4, z5, D b6, D b7, z8, .bool true, D b10, z11, D b12, z13, D b14, z15, z16, z17, z18, z19, z20, z21, z22, z23, z24, z25, z26, z27, z28, .bool true, .bool true, A c6, A c10, A c7, A c12, A e35, A c6, A c10, A e38, A c7, A c12, A e41, z42, z43, z44, z45, z46, z47, z48, z49, z50, z51, z52, z53, z54, z55, z56, z57, z58] []) ?_
  refine d_one 13 f8r5Op13 (ls 31 16383) (fun K hK => ?_)
  refine k_call hK hO (fun _ hO => ⟨hO.row _ h6, hO.row _ h7, hO.row _ h10, hO.row _ h12, hO.row _ h14, trivial⟩) 21 #[.agg e38, .agg e41] (.agg e42) r42 ?_
  intro w4 hO
  refine d_one 14 f8r5Op14 (ls 31 32767) (fun K hK => ?_)
  refine k_call hK hO (fun _ hO => ⟨hO.row _ h6, hO.row _ h7, hO.row _ h10, hO.row _ h12, hO.row _ h14, trivial⟩) 18 #[.agg e35, .agg e42] (.bool true) r43 ?_
  intro w5 hO
  have hS : Has [(b6, c6, 22), (b7, c7, 22), (b10, c10, 29), (b12, c12, 29), (b14, c14, 29)] w5 := ⟨hO.row _ h6, hO.row _ h7, hO.row _ h10, hO.row _ h12, hO.row _ h14, trivial⟩
  refine d_tk 15 f8r5Op15 (.bool true) hQ (y_val (fun _ => by kernel_rfl)) hS ?_
  refine d_tk 16 f8r5Op16 (.bool true) hQ (y_val (fun _ => by kernel_rfl)) hS ?_
  refine d_tk 17 f8r5Op17 (.agg c14) hQ (y_l 29 (fun _ h => h.2.2.2.2.1) fc14_29 Try.underlying29) hS ?_
  refine d_fr (ls 31 262143) (Fr [z0, z1, z2, z3, z4, z5, D b6, D b7, z8, .bool true, D b10, z11, D b12, z13, D b14, z15, z16, z17, z18, z19, z20, z21, z22, z23, z24, z25, z26, z27, z28, .bool true, .bool true, A c6, A c10, A c7, A c12, A e35, A c6, A c10, A e38, A c7, A c12, A e41, A e42, .bool true, .bool true, .bool true, A c14, z47, z48, z49, z50, z51, z52, z53, z54, z55, z56, z57, z58] []) ?_
  refine d_tk 18 f8r5Op18 (.agg c10) hQ (y_l 29 (fun _ h => h.2.2.1) fc10_29 Try.underlying29) hS ?_
  refine d_tk 19 f8r5Op19 (.agg c10) hQ (y_l 29 (fun _ h => h.2.2.1) fc10_29 Try.underlying29) hS ?_
  refine d_fr (ls 31 1048575) (Fr [z0, z1, z2, z3, z4, z5, D b6, D b7, z8, .bool true, D b10, z11, D b12, z13, D b14, z15, z16, z17, z18, z19, z20, z21, z22, z23, z24, z25, z26, z27, z28, .bool true, .bool true, A c6, A c10, A c7, A c12, A e35, A c6, A c10, A e38, A c7, A c12, A e41, A e42, .bool true, .bool true, .bool true, A c14, A c10, A c10, z49, z50, z51, z52, z53, z54, z55, z56, z57, z58] []) ?_
  refine d_one 20 f8r5Op20 (ls 31 2097151) (fun K hK => ?_)
  refine k_call hK hO (fun _ hO => ⟨hO.row _ h6, hO.row _ h7, hO.row _ h10, hO.row _ h12, hO.row _ h14, trivial⟩) 21 #[.agg c10, .agg c10] (.agg e49) r49 ?_
  intro w6 hO
  refine d_one 21 f8r5Op21 (ls 31 4194303) (fun K hK => ?_)
  refine k_call hK hO (fun _ hO => ⟨hO.row _ h6, hO.row _ h7, hO.row _ h10, hO.row _ h12, hO.row _ h14, trivial⟩) 18 #[.agg c14, .agg e49] (.bool true) r50 ?_
  intro w7 hO
  have hS : Has [(b6, c6, 22), (b7, c7, 22), (b10, c10, 29), (b12, c12, 29), (b14, c14, 29)] w7 := ⟨hO.row _ h6, hO.row _ h7, hO.row _ h10, hO.row _ h12, hO.row _ h14, trivial⟩
  refine d_tk 22 f8r5Op22 (.bool true) hQ (y_val (fun _ => by kernel_rfl)) hS ?_
  refine d_tk 23 f8r5Op23 (.bool true) hQ (y_val (fun _ => by kernel_rfl)) hS ?_
  refine d_tk 24 f8r5Op24 (.agg c6) hQ (y_l 22 (fun _ h => h.1) fc6_22 Try.underlying22) hS ?_
  refine d_fr (ls 31 33554431) (Fr [z0, z1, z2, z3, z4, z5, D b6, D b7, z8, .bool true, D b10, z11, D b12, z13, D b14, z15, z16, z17, z18, z19, z20, z21, z22, z23, z24, z25, z26, z27, z28, .bool true, .bool true, A c6, A c10, A c7, A c12, A e35, A c6, A c10, A e38, A c7, A c12, A e41, A e42, .bool true, .bool true, .bool true, A c14, A c10, A c10, A e49, .bool true, .bool true, .bool true, A c6, z54, z55, z56, z57, z58] []) ?_
  refine d_one 25 f8r5Op25 (ls 31 67108863) (fun K hK => ?_)
  refine k_call hK hO (fun _ hO => ⟨hO.row _ h6, hO.row _ h7, hO.row _ h10, hO.row _ h12, hO.row _ h14, trivial⟩) 19 #[] (.agg e54) r54 ?_
  intro w8 hO
  refine d_one 26 f8r5Op26 (ls 31 134217727) (fun K hK => ?_)
  refine k_call hK hO (fun _ hO => ⟨hO.row _ h6, hO.row _ h7, hO.row _ h10, hO.row _ h12, hO.row _ h14, trivial⟩) 30 #[.agg c6, .agg e54] (.agg e55) r55 ?_
  intro w9 hO
  refine d_one 27 f8r5Op27 (ls 31 268435455) (fun K hK => ?_)
  refine k_call hK hO (fun _ hO => ⟨hO.row _ h6, hO.row _ h7, hO.row _ h10, hO.row _ h12, hO.row _ h14, trivial⟩) 19 #[] (.agg e56) r56 ?_
  intro w10 hO
  refine d_fr (ls 31 268435455) (Fr [z0, z1, z2, z3, z4, z5, D b6, D b7, z8, .bool true, D b10, z11, D b12, z13, D b14, z15, z16, z17, z18, z19, z20, z21, z22, z23, z24, z25, z26, z27, z28, .bool true, .bool true, A c6, A c10, A c7, A c12, A e35, A c6, A c10, A e38, A c7, A c12, A e41, A e42, .bool true, .bool true, .bool true, A c14, A c10, A c10, A e49, .bool true, .bool true, .bool true, A c6, A e54, A e55, A e56, z57, z58] []) ?_
  refine d_one 28 f8r5Op28 (ls 31 536870911) (fun K hK => ?_)
  refine k_call hK hO (fun _ hO => ⟨hO.row _ h6, hO.row _ h7, hO.row _ h10, hO.row _ h12, hO.row _ h14, trivial⟩) 18 #[.agg e55, .agg e56] (.bool true) r57 ?_
  intro w11 hO
  have hS : Has [(b6, c6, 22), (b7, c7, 22), (b10, c10, 29), (b12, c12, 29), (b14, c14, 29)] w11 := ⟨hO.row _ h6, hO.row _ h7, hO.row _ h10, hO.row _ h12, hO.row _ h14, trivial⟩
  refine d_tk 29 f8r5Op29 (.bool true) hQ (y_val (fun _ => by kernel_rfl)) hS ?_
  refine d_tk 30 f8r5Op30 (.bool true) hQ (y_val (fun _ => by kernel_rfl)) hS ?_
  exact d_fr (ls 31 2147483647) _ (wpAnyH_done (by kernel_rfl) (H  _ hO) _)
set_option maxRecDepth 100000 in
set_option maxHeartbeats 4000000 in
theorem both_walk (a : Nat → Nat) (b : Nat → Nat) (f : Nat → Nat) (g : Nat → Nat) (w : World) (ha : ∀ i, a i < 256) (hb : ∀ i, b i < 256) (hf : ∀ i, f i < 256) (hg : ∀ i, g i < 256) : Ret 8 #[.agg (vals .u8 32 a), .agg (vals .u8 32 b), .agg (vals .u8 32 f), .agg (vals .u8 32 g)] w (.bool true) := by
  go_enter Try.func8, Try.ntmps8
  have hO := Own.start w
  have qP := point_p a ha
  have hP := ok_ptP a ha
  generalize ptP a = P at qP hP
  have KP := hide qP
  clear qP
  have qQ := point_p b hb
  have hQ := ok_ptP b hb
  generalize ptP b = Q at qQ hQ
  have KQ := hide qQ
  clear qQ
  go_upto_region 0 with (fail)
  refine f8r0_r hO (fit_by _) (fit_by _) (fit_by _) (fit_by _) ?_
  intro n4 n5 n6 n7 w1 hO
  replace hO : Own w w1 [(n7, vals .u8 32 g, 22), (n6, vals .u8 32 f, 22), (n5, vals .u8 32 b, 22), (n4, vals .u8 32 a, 22)] := hO
  go_upto_region 1 with (fail)
  refine f8r1_r hO awake_c ?_
  intro w2 hO
  replace hO : Own w w2 [(n7, vals .u8 32 g, 22), (n6, vals .u8 32 f, 22), (n5, vals .u8 32 b, 22), (n4, vals .u8 32 a, 22)] := hO
  go_upto_region 2 with (fail)
  refine f8r2_r hO 3 rfl KP.out (fit_pt _ _) (fit_rp _ _) ?_
  intro n10 n11 w3 hO
  replace hO : Own w w3 [(n11, rp P, 35), (n10, pt P, 29), (n7, vals .u8 32 g, 22), (n6, vals .u8 32 f, 22), (n5, vals .u8 32 b, 22), (n4, vals .u8 32 a, 22)] := hO
  go_upto_region 3 with (fail)
  refine f8r3_r hO 4 rfl KQ.out (fit_pt _ _) (fit_rp _ _) ?_
  intro n12 n13 w4 hO
  replace hO : Own w w4 [(n13, rp Q, 35), (n12, pt Q, 29), (n11, rp P, 35), (n10, pt P, 29), (n7, vals .u8 32 g, 22), (n6, vals .u8 32 f, 22), (n5, vals .u8 32 b, 22), (n4, vals .u8 32 a, 22)] := hO
  go_upto_region 4 with (fail)
  refine f8r4_r hO 3 rfl (e26 := vals .u8 32 (cb [2])) (by kernel_rfl) (mul7_c _ (cb_lt _ (by decide +kernel)) hP) (fit_pt _ _) ?_
  intro n14 w5 hO
  replace hO : Own w w5 [(n14, pt (mul7 P (nb (cb [2]) 32)), 29), (n13, rp Q, 35), (n12, pt Q, 29), (n11, rp P, 35), (n10, pt P, 29), (n7, vals .u8 32 g, 22), (n6, vals .u8 32 f, 22), (n5, vals .u8 32 b, 22), (n4, vals .u8 32 a, 22)] := hO
  go_upto_region 5 with (fail)
  refine f8r5_r (fun _ _ _ _ _ h => h) hO 6 rfl 5 rfl 4 rfl 2 rfl 0 rfl (both7_c _ _ hf hP hg hQ) (mul7_c _ hf hP) (mul7_c _ hg hQ) (add7_c (ok_mul hP _) (ok_mul hQ _)) (same_t (ok_add (ok_mul hP _) (ok_mul hQ _)) (ok_add (ok_mul hP _) (ok_mul hQ _)) rfl) (add7_c hP hP) (same_t (ok_mul hP _) (ok_add hP hP) (by rw [show nb (cb [2]) 32 = 2 by decide +kernel]; exact mul7_two hP)) zero_c (mul7_c _ hf ok_zero7) zero_c (same_t (ok_mul ok_zero7 _) ok_zero7 (mul7_none _)) ?_
  intro w6 hO
  replace hO : Own w w6 [(n14, pt (mul7 P (nb (cb [2]) 32)), 29), (n13, rp Q, 35), (n12, pt Q, 29), (n11, rp P, 35), (n10, pt P, 29), (n7, vals .u8 32 g, 22), (n6, vals .u8 32 f, 22), (n5, vals .u8 32 b, 22), (n4, vals .u8 32 a, 22)] := hO
  go_wp2_with fail
  refine bodyPost_ret (v := .bool true) (results_tmp Try.results8 _ _ _) rfl ⟨rfl, hO.low⟩
end Go.Proofs.Ytalnkcijebdpbaa

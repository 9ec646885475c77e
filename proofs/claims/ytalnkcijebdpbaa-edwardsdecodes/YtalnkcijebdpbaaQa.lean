/- EdwardsDecodes: the walk. Thirty-two bytes; no other condition. -/
import Derived.Test.YtalnkcijebdpbaaQ0
namespace Go.Proofs.Ytalnkcijebdpbaa
open F Go.RowKit

def f3r0Op0 : Oper := ⟨some 1, .box 22 (.tmp 0), 0, "law.go:40", #[], none⟩
def f3r0Op1 : Oper := ⟨some 2, .assign (.const (.bool false)), 4, "law.go:40", #[], none⟩
def f3r0Ops : Array Oper := #[f3r0Op0, f3r0Op1]
set_option maxRecDepth 100000 in
set_option maxHeartbeats 2000000 in
theorem f3r0_r {Q : Exit → Act → World → Prop} {u w : World} {L : List Row} {z1 z2 : Value} {zz : List Value} {e0 : Array Value} (hO : Own u w L) (fe0_22 : Fit 22 e0) (H : ∀ (n1 : Nat) (w' : World), Own u w' ((n1, e0, 22) :: L) → Q .normal { tmps := List.toArray ((.agg e0) :: (.pointer (some ⟨n1, 0, none⟩)) :: (.bool false) :: zz), defers := [] } w') :
    (Code.region 0 f3r0Ops false).wp Try.prog Q { tmps := List.toArray ((.agg e0) :: z1 :: z2 :: zz), defers := [] } w := by
  refine wp_region_list (show wpList _ f3r0Ops _ [f3r0Op0, f3r0Op1] _ _ from ?_)
  refine l_new hO (e0) 22 (run_box 22 _ rfl _ (by kernel_rfl)) fe0_22 ?_
  intro n1 w1 hO
  refine l_val (.bool false) (by kernel_rfl) ?_
  exact l_fr _ (wpList_nil (H n1 _ hO))
def f3r1Op0 : Oper := ⟨some 10, .call { callee := .value (.func 11), args := #[], argTypes := #[] }, 4, "law.go:41", #[], none⟩
def f3r1Op1 : Oper := ⟨some 3, .assign (.tmp 10), 4, "law.go:41", #[⟨0, .data⟩, ⟨0, .chain⟩, ⟨0, .phase⟩], none⟩
def f3r1Ops : Array Oper := #[f3r1Op0, f3r1Op1]
set_option maxRecDepth 100000 in
set_option maxHeartbeats 2000000 in
theorem f3r1_r {Q : Exit → Act → World → Prop} {u w : World} {L : List Row} {z0 z1 z2 z3 z4 z5 z6 z7 z8 z9 z10 : Value} {zz : List Value} {p10 : Bool} (hO : Own u w L) (r10 : ∀ w, Ret 11 #[] w (.bool p10)) (H : ∀ (w' : World), Own u w' (L) → Q .normal { tmps := List.toArray (z0 :: z1 :: z2 :: (.bool p10) :: z4 :: z5 :: z6 :: z7 :: z8 :: z9 :: (.bool p10) :: zz), defers := [] } w') :
    (Code.region 1 f3r1Ops false).wp Try.prog Q { tmps := List.toArray (z0 :: z1 :: z2 :: z3 :: z4 :: z5 :: z6 :: z7 :: z8 :: z9 :: z10 :: zz), defers := [] } w := by
  refine wp_region_list (show wpList _ f3r1Ops _ [f3r1Op0, f3r1Op1] _ _ from ?_)
  refine l_call hO 11 #[] (.bool p10) r10 ?_
  intro w1 hO
  refine l_val (.bool p10) (by kernel_rfl) ?_
  exact l_fr _ (wpList_nil (H  _ hO))
def f3r2Op0 : Oper := ⟨some 12, .load 22 (.tmp 1), 22, "law.go:42", #[], none⟩
def f3r2Op1 : Oper := ⟨some 13, .call { callee := .value (.func 12), args := #[.tmp 12], argTypes := #[22] }, 30, "law.go:42", #[⟨0, .data⟩], none⟩
def f3r2Op2 : Oper := ⟨some 11, .move (.tmp 13), 30, "law.go:42", #[⟨1, .data⟩], none⟩
def f3r2Op3 : Oper := ⟨some 14, .extract (.tmp 11) 0, 29, "law.go:42", #[⟨2, .data⟩], none⟩
def f3r2Op4 : Oper := ⟨some 15, .extract (.tmp 11) 1, 4, "law.go:42", #[⟨2, .data⟩, ⟨6, .gcOnly .lateStores⟩], none⟩
def f3r2Op5 : Oper := ⟨some 4, .alloc 29, 0, "law.go:42", #[], none⟩
def f3r2Op6 : Oper := ⟨none, .store 29 (.tmp 4) (.tmp 14), 0, "law.go:42", #[⟨5, .data⟩, ⟨3, .data⟩, ⟨1, .chain⟩, ⟨0, .phase⟩, ⟨1, .phase⟩, ⟨2, .phase⟩, ⟨3, .phase⟩, ⟨4, .textOnly .lateStores⟩, ⟨5, .phase⟩], none⟩
def f3r2Op7 : Oper := ⟨some 5, .assign (.tmp 15), 4, "law.go:42", #[⟨4, .data⟩, ⟨6, .chain⟩, ⟨0, .phase⟩, ⟨1, .phase⟩, ⟨2, .phase⟩, ⟨3, .phase⟩, ⟨4, .phase⟩, ⟨5, .phase⟩, ⟨6, .phase⟩], none⟩
def f3r2Ops : Array Oper := #[f3r2Op0, f3r2Op1, f3r2Op2, f3r2Op3, f3r2Op4, f3r2Op5, f3r2Op6, f3r2Op7]
set_option maxRecDepth 100000 in
set_option maxHeartbeats 2000000 in
theorem f3r2_r {Q : Exit → Act → World → Prop} {u w : World} {L : List Row} {z0 z2 z3 z4 z5 z6 z7 z8 z9 z10 z11 z12 z13 z14 z15 : Value} {zz : List Value} {b1 : Nat} {c1 : Array Value} {e13a : Array Value} {p13b : Bool} (hO : Own u w L) (i1 : Nat) (h1 : L[i1]? = some (b1, c1, 22)) (r13 : ∀ w, Ret 12 #[.agg c1] w (.tuple #[.agg e13a, .bool p13b])) (fe13a_29 : Fit 29 e13a) (H : ∀ (n4 : Nat) (w' : World), Own u w' ((n4, e13a, 29) :: L) → Q .normal { tmps := List.toArray (z0 :: (.pointer (some ⟨b1, 0, none⟩)) :: z2 :: z3 :: (.pointer (some ⟨n4, 0, none⟩)) :: (.bool p13b) :: z6 :: z7 :: z8 :: z9 :: z10 :: (.tuple #[.agg e13a, .bool p13b]) :: (.agg c1) :: (.tuple #[.agg e13a, .bool p13b]) :: (.agg e13a) :: (.bool p13b) :: zz), defers := [] } w') :
    (Code.region 2 f3r2Ops false).wp Try.prog Q { tmps := List.toArray (z0 :: (.pointer (some ⟨b1, 0, none⟩)) :: z2 :: z3 :: z4 :: z5 :: z6 :: z7 :: z8 :: z9 :: z10 :: z11 :: z12 :: z13 :: z14 :: z15 :: zz), defers := [] } w := by
  refine wp_region_list (show wpList _ f3r2Ops _ [f3r2Op0, f3r2Op1, f3r2Op2, f3r2Op3, f3r2Op4, f3r2Op5, f3r2Op6, f3r2Op7] _ _ from ?_)
  refine l_ld hO 22 i1 h1 Try.underlying22 ?_
  refine l_call hO 12 #[.agg c1] (.tuple #[.agg e13a, .bool p13b]) r13 ?_
  intro w1 hO
  refine l_val (.tuple #[.agg e13a, .bool p13b]) (by kernel_rfl) ?_
  refine l_fr (Fr [z0, D b1, z2, z3, z4, z5, z6, z7, z8, z9, z10, .tuple #[.agg e13a, .bool p13b], A c1, .tuple #[.agg e13a, .bool p13b], z14, z15] zz) ?_
  refine l_val (.agg e13a) (by kernel_rfl) ?_
  refine l_val (.bool p13b) (by kernel_rfl) ?_
  refine l_new hO (ps [0, 0]) 29 (al29 rfl) (fit_pt _ _) ?_
  intro n4 w2 hO
  refine l_fr (Fr [z0, D b1, z2, z3, D n4, z5, z6, z7, z8, z9, z10, .tuple #[.agg e13a, .bool p13b], A c1, .tuple #[.agg e13a, .bool p13b], A e13a, .bool p13b] zz) ?_
  refine l_st hO 29 0 rfl e13a fe13a_29 ?_
  intro w3 hO
  refine l_val (.bool p13b) (by kernel_rfl) ?_
  exact l_fr _ (wpList_nil (H n4 _ hO))
def f3r3Op0 : Oper := ⟨some 17, .load 22 (.tmp 1), 22, "law.go:43", #[], none⟩
def f3r3Op1 : Oper := ⟨some 18, .call { callee := .value (.func 13), args := #[.tmp 17], argTypes := #[22] }, 36, "law.go:43", #[⟨0, .data⟩], none⟩
def f3r3Op2 : Oper := ⟨some 16, .move (.tmp 18), 36, "law.go:43", #[⟨1, .data⟩], none⟩
def f3r3Op3 : Oper := ⟨some 19, .extract (.tmp 16) 0, 35, "law.go:43", #[⟨2, .data⟩], none⟩
def f3r3Op4 : Oper := ⟨some 20, .extract (.tmp 16) 1, 4, "law.go:43", #[⟨2, .data⟩, ⟨6, .gcOnly .lateStores⟩], none⟩
def f3r3Op5 : Oper := ⟨some 6, .alloc 35, 0, "law.go:43", #[], none⟩
def f3r3Op6 : Oper := ⟨none, .store 35 (.tmp 6) (.tmp 19), 0, "law.go:43", #[⟨5, .data⟩, ⟨3, .data⟩, ⟨1, .chain⟩, ⟨0, .phase⟩, ⟨1, .phase⟩, ⟨2, .phase⟩, ⟨3, .phase⟩, ⟨4, .textOnly .lateStores⟩, ⟨5, .phase⟩], none⟩
def f3r3Op7 : Oper := ⟨some 7, .assign (.tmp 20), 4, "law.go:43", #[⟨4, .data⟩, ⟨6, .chain⟩, ⟨0, .phase⟩, ⟨1, .phase⟩, ⟨2, .phase⟩, ⟨3, .phase⟩, ⟨4, .phase⟩, ⟨5, .phase⟩, ⟨6, .phase⟩], none⟩
def f3r3Ops : Array Oper := #[f3r3Op0, f3r3Op1, f3r3Op2, f3r3Op3, f3r3Op4, f3r3Op5, f3r3Op6, f3r3Op7]
set_option maxRecDepth 100000 in
set_option maxHeartbeats 2000000 in
theorem f3r3_r {Q : Exit → Act → World → Prop} {u w : World} {L : List Row} {z0 z2 z3 z4 z5 z6 z7 z8 z9 z10 z11 z12 z13 z14 z15 z16 z17 z18 z19 z20 : Value} {zz : List Value} {b1 : Nat} {c1 : Array Value} {e18a : Array Value} {p18b : Bool} (hO : Own u w L) (i1 : Nat) (h1 : L[i1]? = some (b1, c1, 22)) (r18 : ∀ w, Ret 13 #[.agg c1] w (.tuple #[.agg e18a, .bool p18b])) (fe18a_35 : Fit 35 e18a) (H : ∀ (n6 : Nat) (w' : World), Own u w' ((n6, e18a, 35) :: L) → Q .normal { tmps := List.toArray (z0 :: (.pointer (some ⟨b1, 0, none⟩)) :: z2 :: z3 :: z4 :: z5 :: (.pointer (some ⟨n6, 0, none⟩)) :: (.bool p18b) :: z8 :: z9 :: z10 :: z11 :: z12 :: z13 :: z14 :: z15 :: (.tuple #[.agg e18a, .bool p18b]) :: (.agg c1) :: (.tuple #[.agg e18a, .bool p18b]) :: (.agg e18a) :: (.bool p18b) :: zz), defers := [] } w') :
    (Code.region 3 f3r3Ops false).wp Try.prog Q { tmps := List.toArray (z0 :: (.pointer (some ⟨b1, 0, none⟩)) :: z2 :: z3 :: z4 :: z5 :: z6 :: z7 :: z8 :: z9 :: z10 :: z11 :: z12 :: z13 :: z14 :: z15 :: z16 :: z17 :: z18 :: z19 :: z20 :: zz), defers := [] } w := by
  refine wp_region_list (show wpList _ f3r3Ops _ [f3r3Op0, f3r3Op1, f3r3Op2, f3r3Op3, f3r3Op4, f3r3Op5, f3r3Op6, f3r3Op7] _ _ from ?_)
  refine l_ld hO 22 i1 h1 Try.underlying22 ?_
  refine l_call hO 13 #[.agg c1] (.tuple #[.agg e18a, .bool p18b]) r18 ?_
  intro w1 hO
  refine l_val (.tuple #[.agg e18a, .bool p18b]) (by kernel_rfl) ?_
  refine l_fr (Fr [z0, D b1, z2, z3, z4, z5, z6, z7, z8, z9, z10, z11, z12, z13, z14, z15, .tuple #[.agg e18a, .bool p18b], A c1, .tuple #[.agg e18a, .bool p18b], z19, z20] zz) ?_
  refine l_val (.agg e18a) (by kernel_rfl) ?_
  refine l_val (.bool p18b) (by kernel_rfl) ?_
  refine l_new hO (qn [0, 0]) 35 (al35 rfl) (fit_rp _ _) ?_
  intro n6 w2 hO
  refine l_fr (Fr [z0, D b1, z2, z3, z4, z5, D n6, z7, z8, z9, z10, z11, z12, z13, z14, z15, .tuple #[.agg e18a, .bool p18b], A c1, .tuple #[.agg e18a, .bool p18b], A e18a, .bool p18b] zz) ?_
  refine l_st hO 35 0 rfl e18a fe18a_35 ?_
  intro w3 hO
  refine l_val (.bool p18b) (by kernel_rfl) ?_
  exact l_fr _ (wpList_nil (H n6 _ hO))
def f3r4Op0 : Oper := ⟨some 22, .load 29 (.tmp 4), 29, "law.go:44", #[], none⟩
def f3r4Op1 : Oper := ⟨some 23, .call { callee := .value (.func 14), args := #[.tmp 22], argTypes := #[29] }, 38, "law.go:44", #[⟨0, .data⟩], none⟩
def f3r4Op2 : Oper := ⟨some 21, .move (.tmp 23), 38, "law.go:44", #[⟨1, .data⟩], none⟩
def f3r4Op3 : Oper := ⟨some 24, .extract (.tmp 21) 0, 27, "law.go:44", #[⟨2, .data⟩], none⟩
def f3r4Op4 : Oper := ⟨some 25, .extract (.tmp 21) 1, 27, "law.go:44", #[⟨2, .data⟩, ⟨7, .gcOnly .lateStores⟩], none⟩
def f3r4Op5 : Oper := ⟨some 8, .alloc 27, 0, "law.go:44", #[], none⟩
def f3r4Op6 : Oper := ⟨some 9, .alloc 27, 0, "law.go:44", #[], none⟩
def f3r4Op7 : Oper := ⟨none, .store 27 (.tmp 8) (.tmp 24), 0, "law.go:44", #[⟨5, .data⟩, ⟨3, .data⟩, ⟨1, .chain⟩, ⟨0, .phase⟩, ⟨1, .phase⟩, ⟨2, .phase⟩, ⟨3, .phase⟩, ⟨4, .textOnly .lateStores⟩, ⟨5, .phase⟩, ⟨6, .phase⟩], none⟩
def f3r4Op8 : Oper := ⟨none, .store 27 (.tmp 9) (.tmp 25), 0, "law.go:44", #[⟨6, .data⟩, ⟨4, .data⟩, ⟨7, .chain⟩, ⟨0, .phase⟩, ⟨1, .phase⟩, ⟨2, .phase⟩, ⟨3, .phase⟩, ⟨4, .phase⟩, ⟨5, .phase⟩, ⟨6, .phase⟩, ⟨7, .phase⟩], none⟩
def f3r4Ops : Array Oper := #[f3r4Op0, f3r4Op1, f3r4Op2, f3r4Op3, f3r4Op4, f3r4Op5, f3r4Op6, f3r4Op7, f3r4Op8]
set_option maxRecDepth 100000 in
set_option maxHeartbeats 2000000 in
theorem f3r4_r {Q : Exit → Act → World → Prop} {u w : World} {L : List Row} {z0 z1 z2 z3 z5 z6 z7 z8 z9 z10 z11 z12 z13 z14 z15 z16 z17 z18 z19 z20 z21 z22 z23 z24 z25 : Value} {zz : List Value} {b4 : Nat} {c4 : Array Value} {e23a e23b : Array Value} (hO : Own u w L) (i4 : Nat) (h4 : L[i4]? = some (b4, c4, 29)) (r23 : ∀ w, Ret 14 #[.agg c4] w (.tuple #[.agg e23a, .agg e23b])) (fe23a_27 : Fit 27 e23a) (fe23b_27 : Fit 27 e23b) (H : ∀ (n8 : Nat) (n9 : Nat) (w' : World), Own u w' ((n9, e23b, 27) :: (n8, e23a, 27) :: L) → Q .normal { tmps := List.toArray (z0 :: z1 :: z2 :: z3 :: (.pointer (some ⟨b4, 0, none⟩)) :: z5 :: z6 :: z7 :: (.pointer (some ⟨n8, 0, none⟩)) :: (.pointer (some ⟨n9, 0, none⟩)) :: z10 :: z11 :: z12 :: z13 :: z14 :: z15 :: z16 :: z17 :: z18 :: z19 :: z20 :: (.tuple #[.agg e23a, .agg e23b]) :: (.agg c4) :: (.tuple #[.agg e23a, .agg e23b]) :: (.agg e23a) :: (.agg e23b) :: zz), defers := [] } w') :
    (Code.region 4 f3r4Ops false).wp Try.prog Q { tmps := List.toArray (z0 :: z1 :: z2 :: z3 :: (.pointer (some ⟨b4, 0, none⟩)) :: z5 :: z6 :: z7 :: z8 :: z9 :: z10 :: z11 :: z12 :: z13 :: z14 :: z15 :: z16 :: z17 :: z18 :: z19 :: z20 :: z21 :: z22 :: z23 :: z24 :: z25 :: zz), defers := [] } w := by
  refine wp_region_list (show wpList _ f3r4Ops _ [f3r4Op0, f3r4Op1, f3r4Op2, f3r4Op3, f3r4Op4, f3r4Op5, f3r4Op6, f3r4Op7, f3r4Op8] _ _ from ?_)
  refine l_ld hO 29 i4 h4 Try.underlying29 ?_
  refine l_call hO 14 #[.agg c4] (.tuple #[.agg e23a, .agg e23b]) r23 ?_
  intro w1 hO
  refine l_val (.tuple #[.agg e23a, .agg e23b]) (by kernel_rfl) ?_
  refine l_fr (Fr [z0, z1, z2, z3, D b4, z5, z6, z7, z8, z9, z10, z11, z12, z13, z14, z15, z16, z17, z18, z19, z20, .tuple #[.agg e23a, .agg e23b], A c4, .tuple #[.agg e23a, .agg e23b], z24, z25] zz) ?_
  refine l_val (.agg e23a) (by kernel_rfl) ?_
  refine l_val (.agg e23b) (by kernel_rfl) ?_
  refine l_new hO (arr 4 (limb 0)) 27 (al27 rfl) (fit_fe _) ?_
  intro n8 w2 hO
  refine l_fr (Fr [z0, z1, z2, z3, D b4, z5, z6, z7, D n8, z9, z10, z11, z12, z13, z14, z15, z16, z17, z18, z19, z20, .tuple #[.agg e23a, .agg e23b], A c4, .tuple #[.agg e23a, .agg e23b], A e23a, A e23b] zz) ?_
  refine l_new hO (arr 4 (limb 0)) 27 (al27 rfl) (fit_fe _) ?_
  intro n9 w3 hO
  refine l_st hO 27 1 rfl e23a fe23a_27 ?_
  intro w4 hO
  replace hO : Own u w4 ((n9, arr 4 (limb 0), 27) :: (n8, e23a, 27) :: L) := hO
  refine l_st hO 27 0 rfl e23b fe23b_27 ?_
  intro w5 hO
  exact l_fr _ (wpList_nil (H n8 n9 _ hO))
def f3r5tOp0 : Oper := ⟨some 26, .move (.tmp 5), 4, "law.go:45", #[], none⟩
def f3r5tOp1 : Oper := ⟨some 27, .move (.tmp 26), 4, "law.go:45", #[⟨0, .data⟩], none⟩
def f3r5tOp2 : Oper := ⟨some 28, .load 29 (.tmp 4), 29, "law.go:45", #[⟨1, .guard⟩], some (1, true)⟩
def f3r5tOp3 : Oper := ⟨some 29, .call { callee := .value (.func 15), args := #[.tmp 28], argTypes := #[29] }, 22, "law.go:45", #[⟨2, .data⟩, ⟨1, .chain⟩, ⟨1, .guard⟩], some (1, true)⟩
def f3r5tOp4 : Oper := ⟨some 30, .load 22 (.tmp 1), 22, "law.go:45", #[⟨1, .guard⟩], some (1, true)⟩
def f3r5tOp5 : Oper := ⟨some 31, .binOp .neq 22 (.tmp 29) (.tmp 30) 22, 4, "law.go:45", #[⟨3, .data⟩, ⟨4, .data⟩, ⟨1, .guard⟩], some (1, true)⟩
def f3r5tOp6 : Oper := ⟨some 32, .pick (.tmp 27) (.tmp 31) (.const (.bool false)), 4, "law.go:45", #[⟨1, .data⟩, ⟨5, .data⟩], none⟩
def f3r5tOps : Array Oper := #[f3r5tOp0, f3r5tOp1, f3r5tOp2, f3r5tOp3, f3r5tOp4, f3r5tOp5, f3r5tOp6]
set_option maxRecDepth 100000 in
set_option maxHeartbeats 2000000 in
theorem f3r5t_r {Q : Exit → Act → World → Prop} {u w : World} {L : List Row} {z0 z2 z3 z6 z7 z8 z9 z10 z11 z12 z13 z14 z15 z16 z17 z18 z19 z20 z21 z22 z23 z24 z25 z26 z27 z28 z29 z30 z31 z32 : Value} {zz : List Value} {b1 b4 : Nat} {c1 c4 : Array Value} {e29 : Array Value} (hQ : ∀ c a w n v, Q (.panic c) (a.put (some n) v) w → Q (.panic c) a w) (hO : Own u w L) (i1 : Nat) (h1 : L[i1]? = some (b1, c1, 22)) (i4 : Nat) (h4 : L[i4]? = some (b4, c4, 29)) (r29 : ∀ w, Ret 15 #[.agg c4] w (.agg e29)) (k31 : ∀ (a : Act) (w : World), a.eval (.tmp 29) = .agg e29 → a.eval (.tmp 30) = .agg c1 → (execOp a.eval f3r5tOp5).run Try.prog w = .ok (.value (.bool false)) w) (H : ∀ (w' : World), Own u w' (L) → Q .normal { tmps := List.toArray (z0 :: (.pointer (some ⟨b1, 0, none⟩)) :: z2 :: z3 :: (.pointer (some ⟨b4, 0, none⟩)) :: (.bool true) :: z6 :: z7 :: z8 :: z9 :: z10 :: z11 :: z12 :: z13 :: z14 :: z15 :: z16 :: z17 :: z18 :: z19 :: z20 :: z21 :: z22 :: z23 :: z24 :: z25 :: (.bool true) :: (.bool true) :: (.agg c4) :: (.agg e29) :: (.agg c1) :: (.bool false) :: (.bool false) :: zz), defers := [] } w') :
    (Code.region 5 f3r5tOps true).wp Try.prog Q { tmps := List.toArray (z0 :: (.pointer (some ⟨b1, 0, none⟩)) :: z2 :: z3 :: (.pointer (some ⟨b4, 0, none⟩)) :: (.bool true) :: z6 :: z7 :: z8 :: z9 :: z10 :: z11 :: z12 :: z13 :: z14 :: z15 :: z16 :: z17 :: z18 :: z19 :: z20 :: z21 :: z22 :: z23 :: z24 :: z25 :: z26 :: z27 :: z28 :: z29 :: z30 :: z31 :: z32 :: zz), defers := [] } w := by
  have fc1_22 := hO.fits i1 h1
  have fc4_29 := hO.fits i4 h4
  refine wp_region_held_drew (S := Has [(b1, c1, 22), (b4, c4, 29)]) (by kernel_rfl) ⟨hO.drew.row _ h1, hO.drew.row _ h4, trivial⟩ (fun hS => ?_)
  replace hO := hO.drew
  refine d_tk 0 f3r5tOp0 (.bool true) hQ (y_val (fun _ => by kernel_rfl)) hS ?_
  refine d_tk 1 f3r5tOp1 (.bool true) hQ (y_val (fun _ => by kernel_rfl)) hS ?_
  refine d_tk 2 f3r5tOp2 (.agg c4) hQ (y_l 29 (fun _ h => h.2.1) fc4_29 Try.underlying29) hS ?_
  refine d_fr (ls 7 7) (Fr [z0, D b1, z2, z3, D b4, .bool true, z6, z7, z8, z9, z10, z11, z12, z13, z14, z15, z16, z17, z18, z19, z20, z21, z22, z23, z24, z25, .bool true, .bool true, A c4, z29, z30, z31, z32] zz) ?_
  refine d_tk 4 f3r5tOp4 (.agg c1) hQ (y_l 22 (fun _ h => h.1) fc1_22 Try.underlying22) hS ?_
  refine d_fr (ls 7 23) (Fr [z0, D b1, z2, z3, D b4, .bool true, z6, z7, z8, z9, z10, z11, z12, z13, z14, z15, z16, z17, z18, z19, z20, z21, z22, z23, z24, z25, .bool true, .bool true, A c4, z29, A c1, z31, z32] zz) ?_
  refine d_one 3 f3r5tOp3 (ls 7 31) (fun K hK => ?_)
  refine k_call hK hO (fun _ hO => ⟨hO.row _ h1, hO.row _ h4, trivial⟩) 15 #[.agg c4] (.agg e29) r29 ?_
  intro w1 hO
  have hS : Has [(b1, c1, 22), (b4, c4, 29)] w1 := ⟨hO.row _ h1, hO.row _ h4, trivial⟩
  refine d_tk 5 f3r5tOp5 (.bool false) hQ (y_val (fun _ => k31 _ _ (by kernel_rfl) (by kernel_rfl))) hS ?_
  refine d_tk 6 f3r5tOp6 (.bool false) hQ (y_val (fun _ => by kernel_rfl)) hS ?_
  exact d_fr (ls 7 127) _ (wpAnyH_done (by kernel_rfl) (H  _ hO) _)
def f3r5fOp0 : Oper := ⟨some 26, .move (.tmp 5), 4, "law.go:45", #[], none⟩
def f3r5fOp1 : Oper := ⟨some 27, .move (.tmp 26), 4, "law.go:45", #[⟨0, .data⟩], none⟩
def f3r5fOp2 : Oper := ⟨some 28, .load 29 (.tmp 4), 29, "law.go:45", #[⟨1, .guard⟩], some (1, true)⟩
def f3r5fOp3 : Oper := ⟨some 29, .call { callee := .value (.func 15), args := #[.tmp 28], argTypes := #[29] }, 22, "law.go:45", #[⟨2, .data⟩, ⟨1, .chain⟩, ⟨1, .guard⟩], some (1, true)⟩
def f3r5fOp4 : Oper := ⟨some 30, .load 22 (.tmp 1), 22, "law.go:45", #[⟨1, .guard⟩], some (1, true)⟩
def f3r5fOp5 : Oper := ⟨some 31, .binOp .neq 22 (.tmp 29) (.tmp 30) 22, 4, "law.go:45", #[⟨3, .data⟩, ⟨4, .data⟩, ⟨1, .guard⟩], some (1, true)⟩
def f3r5fOp6 : Oper := ⟨some 32, .pick (.tmp 27) (.tmp 31) (.const (.bool false)), 4, "law.go:45", #[⟨1, .data⟩, ⟨5, .data⟩], none⟩
def f3r5fOps : Array Oper := #[f3r5fOp0, f3r5fOp1, f3r5fOp2, f3r5fOp3, f3r5fOp4, f3r5fOp5, f3r5fOp6]
set_option maxRecDepth 100000 in
set_option maxHeartbeats 2000000 in
theorem f3r5f_r {Q : Exit → Act → World → Prop} {u w : World} {L : List Row} {z0 z2 z3 z6 z7 z8 z9 z10 z11 z12 z13 z14 z15 z16 z17 z18 z19 z20 z21 z22 z23 z24 z25 z26 z27 z28 z29 z30 z31 z32 : Value} {zz : List Value} {b1 b4 : Nat} (hQ : ∀ c a w n v, Q (.panic c) (a.put (some n) v) w → Q (.panic c) a w) (hO : Own u w L) (H : ∀ (w' : World), Own u w' (L) → Q .normal { tmps := List.toArray (z0 :: (.pointer (some ⟨b1, 0, none⟩)) :: z2 :: z3 :: (.pointer (some ⟨b4, 0, none⟩)) :: (.bool false) :: z6 :: z7 :: z8 :: z9 :: z10 :: z11 :: z12 :: z13 :: z14 :: z15 :: z16 :: z17 :: z18 :: z19 :: z20 :: z21 :: z22 :: z23 :: z24 :: z25 :: (.bool false) :: (.bool false) :: undef :: undef :: undef :: undef :: (.bool false) :: zz), defers := [] } w') :
    (Code.region 5 f3r5fOps true).wp Try.prog Q { tmps := List.toArray (z0 :: (.pointer (some ⟨b1, 0, none⟩)) :: z2 :: z3 :: (.pointer (some ⟨b4, 0, none⟩)) :: (.bool false) :: z6 :: z7 :: z8 :: z9 :: z10 :: z11 :: z12 :: z13 :: z14 :: z15 :: z16 :: z17 :: z18 :: z19 :: z20 :: z21 :: z22 :: z23 :: z24 :: z25 :: z26 :: z27 :: z28 :: z29 :: z30 :: z31 :: z32 :: zz), defers := [] } w := by
  refine wp_region_held_drew (S := Has []) (by kernel_rfl) trivial (fun hS => ?_)
  replace hO := hO.drew
  refine d_tk 0 f3r5fOp0 (.bool false) hQ (y_val (fun _ => by kernel_rfl)) hS ?_
  refine d_tk 1 f3r5fOp1 (.bool false) hQ (y_val (fun _ => by kernel_rfl)) hS ?_
  refine d_tk 2 f3r5fOp2 (undef) hQ y_skip hS ?_
  refine d_fr (ls 7 7) (Fr [z0, D b1, z2, z3, D b4, .bool false, z6, z7, z8, z9, z10, z11, z12, z13, z14, z15, z16, z17, z18, z19, z20, z21, z22, z23, z24, z25, .bool false, .bool false, undef, z29, z30, z31, z32] zz) ?_
  refine d_tk 3 f3r5fOp3 (undef) hQ y_skip hS ?_
  refine d_tk 4 f3r5fOp4 (undef) hQ y_skip hS ?_
  refine d_tk 5 f3r5fOp5 (undef) hQ y_skip hS ?_
  refine d_fr (ls 7 63) (Fr [z0, D b1, z2, z3, D b4, .bool false, z6, z7, z8, z9, z10, z11, z12, z13, z14, z15, z16, z17, z18, z19, z20, z21, z22, z23, z24, z25, .bool false, .bool false, undef, undef, undef, undef, z32] zz) ?_
  refine d_tk 6 f3r5fOp6 (.bool false) hQ (y_val (fun _ => by kernel_rfl)) hS ?_
  refine d_fr (ls 7 127) (Fr [z0, D b1, z2, z3, D b4, .bool false, z6, z7, z8, z9, z10, z11, z12, z13, z14, z15, z16, z17, z18, z19, z20, z21, z22, z23, z24, z25, .bool false, .bool false, undef, undef, undef, undef, .bool false] zz) ?_
  exact wpAnyH_done (by kernel_rfl) (H  _ hO) _
def f3r7tOp0 : Oper := ⟨some 33, .move (.tmp 3), 4, "law.go:48", #[], none⟩
def f3r7tOp1 : Oper := ⟨some 34, .move (.tmp 33), 4, "law.go:48", #[⟨0, .data⟩], none⟩
def f3r7tOp2 : Oper := ⟨some 35, .move (.tmp 5), 4, "law.go:48", #[⟨1, .guard⟩], some (1, true)⟩
def f3r7tOp3 : Oper := ⟨some 36, .move (.tmp 7), 4, "law.go:48", #[⟨1, .guard⟩], some (1, true)⟩
def f3r7tOp4 : Oper := ⟨some 37, .binOp .eql 4 (.tmp 35) (.tmp 36) 4, 4, "law.go:48", #[⟨2, .data⟩, ⟨3, .data⟩, ⟨1, .guard⟩], some (1, true)⟩
def f3r7tOp5 : Oper := ⟨some 38, .pick (.tmp 34) (.tmp 37) (.const (.bool false)), 4, "law.go:48", #[⟨1, .data⟩, ⟨4, .data⟩], none⟩
def f3r7tOp6 : Oper := ⟨some 39, .move (.tmp 38), 4, "law.go:48", #[⟨5, .data⟩, ⟨1, .chain⟩], none⟩
def f3r7tOp7 : Oper := ⟨some 40, .load 27 (.tmp 8), 27, "law.go:48", #[⟨6, .guard⟩], some (6, true)⟩
def f3r7tOp8 : Oper := ⟨some 41, .call { callee := .value (.func 16), args := #[.tmp 40], argTypes := #[27] }, 22, "law.go:48", #[⟨7, .data⟩, ⟨6, .chain⟩, ⟨6, .guard⟩], some (6, true)⟩
def f3r7tOp9 : Oper := ⟨some 42, .fieldAddr 35 (.tmp 6) 0, 0, "law.go:48", #[⟨6, .guard⟩], some (6, true)⟩
def f3r7tOp10 : Oper := ⟨some 43, .load 33 (.tmp 42), 33, "law.go:48", #[⟨9, .data⟩, ⟨6, .guard⟩], some (6, true)⟩
def f3r7tOp11 : Oper := ⟨some 44, .call { callee := .value (.func 17), args := #[.tmp 43], argTypes := #[33] }, 22, "law.go:48", #[⟨10, .data⟩, ⟨8, .chain⟩, ⟨6, .guard⟩], some (6, true)⟩
def f3r7tOp12 : Oper := ⟨some 45, .binOp .eql 22 (.tmp 41) (.tmp 44) 22, 4, "law.go:48", #[⟨8, .data⟩, ⟨11, .data⟩, ⟨6, .guard⟩], some (6, true)⟩
def f3r7tOp13 : Oper := ⟨some 46, .pick (.tmp 39) (.tmp 45) (.const (.bool false)), 4, "law.go:48", #[⟨6, .data⟩, ⟨12, .data⟩], none⟩
def f3r7tOp14 : Oper := ⟨some 47, .move (.tmp 46), 4, "law.go:48", #[⟨13, .data⟩, ⟨11, .chain⟩], none⟩
def f3r7tOp15 : Oper := ⟨some 48, .load 27 (.tmp 9), 27, "law.go:48", #[⟨14, .guard⟩], some (14, true)⟩
def f3r7tOp16 : Oper := ⟨some 49, .call { callee := .value (.func 16), args := #[.tmp 48], argTypes := #[27] }, 22, "law.go:48", #[⟨15, .data⟩, ⟨14, .chain⟩, ⟨14, .guard⟩], some (14, true)⟩
def f3r7tOp17 : Oper := ⟨some 50, .fieldAddr 35 (.tmp 6) 1, 0, "law.go:48", #[⟨14, .guard⟩], some (14, true)⟩
def f3r7tOp18 : Oper := ⟨some 51, .load 33 (.tmp 50), 33, "law.go:48", #[⟨17, .data⟩, ⟨14, .guard⟩], some (14, true)⟩
def f3r7tOp19 : Oper := ⟨some 52, .call { callee := .value (.func 17), args := #[.tmp 51], argTypes := #[33] }, 22, "law.go:48", #[⟨18, .data⟩, ⟨16, .chain⟩, ⟨14, .guard⟩], some (14, true)⟩
def f3r7tOp20 : Oper := ⟨some 53, .binOp .eql 22 (.tmp 49) (.tmp 52) 22, 4, "law.go:48", #[⟨16, .data⟩, ⟨19, .data⟩, ⟨14, .guard⟩], some (14, true)⟩
def f3r7tOp21 : Oper := ⟨some 54, .pick (.tmp 47) (.tmp 53) (.const (.bool false)), 4, "law.go:48", #[⟨14, .data⟩, ⟨20, .data⟩], none⟩
def f3r7tOp22 : Oper := ⟨some 55, .move (.tmp 54), 4, "law.go:48", #[⟨21, .data⟩, ⟨19, .chain⟩], none⟩
def f3r7tOp23 : Oper := ⟨some 56, .move (.tmp 5), 4, "law.go:48", #[⟨22, .guard⟩], some (22, true)⟩
def f3r7tOp24 : Oper := ⟨some 57, .move (.tmp 56), 4, "law.go:48", #[⟨23, .data⟩, ⟨22, .chain⟩, ⟨22, .guard⟩], some (22, true)⟩
def f3r7tOp25 : Oper := ⟨some 58, .load 29 (.tmp 4), 29, "law.go:48", #[⟨24, .guard⟩], some (24, false)⟩
def f3r7tOp26 : Oper := ⟨some 59, .call { callee := .value (.func 19), args := #[], argTypes := #[] }, 29, "law.go:48", #[⟨24, .chain⟩, ⟨24, .guard⟩], some (24, false)⟩
def f3r7tOp27 : Oper := ⟨some 60, .call { callee := .value (.func 18), args := #[.tmp 58, .tmp 59], argTypes := #[29, 29] }, 4, "law.go:48", #[⟨25, .data⟩, ⟨26, .data⟩, ⟨26, .chain⟩, ⟨24, .guard⟩], some (24, false)⟩
def f3r7tOp28 : Oper := ⟨some 61, .pick (.tmp 57) (.const (.bool true)) (.tmp 60), 4, "law.go:48", #[⟨24, .data⟩, ⟨27, .data⟩, ⟨22, .guard⟩], some (22, true)⟩
def f3r7tOp29 : Oper := ⟨some 62, .pick (.tmp 55) (.tmp 61) (.const (.bool false)), 4, "law.go:48", #[⟨22, .data⟩, ⟨28, .data⟩], none⟩
def f3r7tOp30 : Oper := ⟨some 2, .assign (.tmp 62), 4, "law.go:48", #[⟨29, .data⟩, ⟨27, .chain⟩, ⟨0, .phase⟩, ⟨1, .phase⟩, ⟨2, .phase⟩, ⟨3, .phase⟩, ⟨4, .phase⟩, ⟨5, .phase⟩, ⟨6, .phase⟩, ⟨7, .phase⟩, ⟨8, .phase⟩, ⟨9, .phase⟩, ⟨10, .phase⟩, ⟨11, .phase⟩, ⟨12, .phase⟩, ⟨13, .phase⟩, ⟨14, .phase⟩, ⟨15, .phase⟩, ⟨16, .phase⟩, ⟨17, .phase⟩, ⟨18, .phase⟩, ⟨19, .phase⟩, ⟨20, .phase⟩, ⟨21, .phase⟩, ⟨22, .phase⟩, ⟨23, .phase⟩, ⟨24, .phase⟩, ⟨25, .phase⟩, ⟨26, .phase⟩, ⟨27, .phase⟩, ⟨28, .phase⟩, ⟨29, .phase⟩], none⟩
def f3r7tOps : Array Oper := #[f3r7tOp0, f3r7tOp1, f3r7tOp2, f3r7tOp3, f3r7tOp4, f3r7tOp5, f3r7tOp6, f3r7tOp7, f3r7tOp8, f3r7tOp9, f3r7tOp10, f3r7tOp11, f3r7tOp12, f3r7tOp13, f3r7tOp14, f3r7tOp15, f3r7tOp16, f3r7tOp17, f3r7tOp18, f3r7tOp19, f3r7tOp20, f3r7tOp21, f3r7tOp22, f3r7tOp23, f3r7tOp24, f3r7tOp25, f3r7tOp26, f3r7tOp27, f3r7tOp28, f3r7tOp29, f3r7tOp30]
set_option maxRecDepth 100000 in
set_option maxHeartbeats 2000000 in
theorem f3r7t_r {Q : Exit → Act → World → Prop} {u w : World} {L : List Row} {z0 z1 z2 z10 z11 z12 z13 z14 z15 z16 z17 z18 z19 z20 z21 z22 z23 z24 z25 z26 z27 z28 z29 z30 z31 z32 z33 z34 z35 z36 z37 z38 z39 z40 z41 z42 z43 z44 z45 z46 z47 z48 z49 z50 z51 z52 z53 z54 z55 z56 z57 z58 z59 z60 z61 z62 : Value} {b4 b6 b8 b9 : Nat} {c6 c8 c9 : Array Value} {e41 e43 e44 e49 e51 e52 : Array Value} (hQ : ∀ c a w n v, Q (.panic c) (a.put (some n) v) w → Q (.panic c) a w) (hO : Own u w L) (i6 : Nat) (h6 : L[i6]? = some (b6, c6, 35)) (i8 : Nat) (h8 : L[i8]? = some (b8, c8, 27)) (i9 : Nat) (h9 : L[i9]? = some (b9, c9, 27)) (k37 : ∀ (a : Act) (w : World), a.eval (.tmp 35) = .bool true → a.eval (.tmp 36) = .bool true → (execOp a.eval f3r7tOp4).run Try.prog w = .ok (.value (.bool true)) w) (r41 : ∀ w, Ret 16 #[.agg c8] w (.agg e41)) (q43 : Part c6 0 33 e43) (r44 : ∀ w, Ret 17 #[.agg e43] w (.agg e44)) (k45 : ∀ (a : Act) (w : World), a.eval (.tmp 41) = .agg e41 → a.eval (.tmp 44) = .agg e44 → (execOp a.eval f3r7tOp12).run Try.prog w = .ok (.value (.bool true)) w) (r49 : ∀ w, Ret 16 #[.agg c9] w (.agg e49)) (q51 : Part c6 16 33 e51) (r52 : ∀ w, Ret 17 #[.agg e51] w (.agg e52)) (k53 : ∀ (a : Act) (w : World), a.eval (.tmp 49) = .agg e49 → a.eval (.tmp 52) = .agg e52 → (execOp a.eval f3r7tOp20).run Try.prog w = .ok (.value (.bool true)) w) (H : ∀ (w' : World), Own u w' (L) → Q .normal { tmps := List.toArray (z0 :: z1 :: (.bool true) :: (.bool true) :: (.pointer (some ⟨b4, 0, none⟩)) :: (.bool true) :: (.pointer (some ⟨b6, 0, none⟩)) :: (.bool true) :: (.pointer (some ⟨b8, 0, none⟩)) :: (.pointer (some ⟨b9, 0, none⟩)) :: z10 :: z11 :: z12 :: z13 :: z14 :: z15 :: z16 :: z17 :: z18 :: z19 :: z20 :: z21 :: z22 :: z23 :: z24 :: z25 :: z26 :: z27 :: z28 :: z29 :: z30 :: z31 :: z32 :: (.bool true) :: (.bool true) :: (.bool true) :: (.bool true) :: (.bool true) :: (.bool true) :: (.bool true) :: (.agg c8) :: (.agg e41) :: (.pointer (some ⟨b6, 0, none⟩)) :: (.agg e43) :: (.agg e44) :: (.bool true) :: (.bool true) :: (.bool true) :: (.agg c9) :: (.agg e49) :: (.pointer (some ⟨b6, 16, none⟩)) :: (.agg e51) :: (.agg e52) :: (.bool true) :: (.bool true) :: (.bool true) :: (.bool true) :: (.bool true) :: undef :: undef :: undef :: (.bool true) :: (.bool true) :: []), defers := [] } w') :
    (Code.region 7 f3r7tOps true).wp Try.prog Q { tmps := List.toArray (z0 :: z1 :: z2 :: (.bool true) :: (.pointer (some ⟨b4, 0, none⟩)) :: (.bool true) :: (.pointer (some ⟨b6, 0, none⟩)) :: (.bool true) :: (.pointer (some ⟨b8, 0, none⟩)) :: (.pointer (some ⟨b9, 0, none⟩)) :: z10 :: z11 :: z12 :: z13 :: z14 :: z15 :: z16 :: z17 :: z18 :: z19 :: z20 :: z21 :: z22 :: z23 :: z24 :: z25 :: z26 :: z27 :: z28 :: z29 :: z30 :: z31 :: z32 :: z33 :: z34 :: z35 :: z36 :: z37 :: z38 :: z39 :: z40 :: z41 :: z42 :: z43 :: z44 :: z45 :: z46 :: z47 :: z48 :: z49 :: z50 :: z51 :: z52 :: z53 :: z54 :: z55 :: z56 :: z57 :: z58 :: z59 :: z60 :: z61 :: z62 :: []), defers := [] } w := by
  have fc8_27 := hO.fits i8 h8
  have fc9_27 := hO.fits i9 h9
  refine wp_region_held_drew (S := Has [(b6, c6, 35), (b8, c8, 27), (b9, c9, 27)]) (by kernel_rfl) ⟨hO.drew.row _ h6, hO.drew.row _ h8, hO.drew.row _ h9, trivial⟩ (fun hS => ?_)
  replace hO := hO.drew
  refine d_tk 0 f3r7tOp0 (.bool true) hQ (y_val (fun _ => by kernel_rfl)) hS ?_
  refine d_tk 1 f3r7tOp1 (.bool true) hQ (y_val (fun _ => by kernel_rfl)) hS ?_
  refine d_tk 2 f3r7tOp2 (.bool true) hQ (y_val (fun _ => by kernel_rfl)) hS ?_
  refine d_fr (ls 31 7) (Fr [z0, z1, z2, .bool true, D b4, .bool true, D b6, .bool true, D b8, D b9, z10, z11, z12, z13, z14, z15, z16, z17, z18, z19, z20, z21, z22, z23, z24, z25, z26, z27, z28, z29, z30, z31, z32, .bool true, .bool true, .bool true, z36, z37, z38, z39, z40, z41, z42, z43, z44, z45, z46, z47, z48, z49, z50, z51, z52, z53, z54, z55, z56, z57, z58, z59, z60, z61, z62] []) ?_
  refine d_tk 3 f3r7tOp3 (.bool true) hQ (y_val (fun _ => by kernel_rfl)) hS ?_
  refine d_tk 4 f3r7tOp4 (.bool true) hQ (y_val (fun _ => k37 _ _ (by kernel_rfl) (by kernel_rfl))) hS ?_
  refine d_tk 5 f3r7tOp5 (.bool true) hQ (y_val (fun _ => by kernel_rfl)) hS ?_
  refine d_fr (ls 31 63) (Fr [z0, z1, z2, .bool true, D b4, .bool true, D b6, .bool true, D b8, D b9, z10, z11, z12, z13, z14, z15, z16, z17, z18, z19, z20, z21, z22, z23, z24, z25, z26, z27, z28, z29, z30, z31, z32, .bool true, .bool true, .bool true, .bool true, .bool true, .bool true, z39, z40, z41, z42, z43, z44, z45, z46, z47, z48, z49, z50, z51, z52, z53, z54, z55, z56, z57, z58, z59, z60, z61, z62] []) ?_
  refine d_tk 6 f3r7tOp6 (.bool true) hQ (y_val (fun _ => by kernel_rfl)) hS ?_
  refine d_tk 7 f3r7tOp7 (.agg c8) hQ (y_l 27 (fun _ h => h.2.1) fc8_27 Try.underlying27) hS ?_
  refine d_tk 9 f3r7tOp9 (.pointer (some ⟨b6, 0, none⟩)) hQ (y_val (fun _ => by kernel_rfl)) hS ?_
  refine d_fr (ls 31 767) (Fr [z0, z1, z2, .bool true, D b4, .bool true, D b6, .bool true, D b8, D b9, z10, z11, z12, z13, z14, z15, z16, z17, z18, z19, z20, z21, z22, z23, z24, z25, z26, z27, z28, z29, z30, z31, z32, .bool true, .bool true, .bool true, .bool true, .bool true, .bool true, .bool true, A c8, z41, .pointer (some ⟨b6, 0, none⟩), z43, z44, z45, z46, z47, z48, z49, z50, z51, z52, z53, z54, z55, z56, z57, z58, z59, z60, z61, z62] []) ?_
  refine d_tk 10 f3r7tOp10 (.agg e43) hQ (y_p 33 (fun _ h => h.1) q43 Try.underlying33) hS ?_
  refine d_fr (ls 31 1791) (Fr [z0, z1, z2, .bool true, D b4, .bool true, D b6, .bool true, D b8, D b9, z10, z11, z12, z13, z14, z15, z16, z17, z18, z19, z20, z21, z22, z23, z24, z25, z26, z27, z28, z29, z30, z31, z32, .bool true, .bool true, .bool true, .bool true, .bool true, .bool true, .bool true, A c8, z41, .pointer (some ⟨b6, 0, none⟩), A e43, z44, z45, z46, z47, z48, z49, z50, z51, z52, z53, z54, z55, z56, z57, z58, z59, z60, z61, z62] []) ?_
  refine d_one 8 f3r7tOp8 (ls 31 2047) (fun K hK => ?_)
  refine k_call hK hO (fun _ hO => ⟨hO.row _ h6, hO.row _ h8, hO.row _ h9, trivial⟩) 16 #[.agg c8] (.agg e41) r41 ?_
  intro w1 hO
  refine d_one 11 f3r7tOp11 (ls 31 4095) (fun K hK => ?_)
  refine k_call hK hO (fun _ hO => ⟨hO.row _ h6, hO.row _ h8, hO.row _ h9, trivial⟩) 17 #[.agg e43] (.agg e44) r44 ?_
  intro w2 hO
  have hS : Has [(b6, c6, 35), (b8, c8, 27), (b9, c9, 27)] w2 := ⟨hO.row _ h6, hO.row _ h8, hO.row _ h9, trivial⟩
  refine d_tk 12 f3r7tOp12 (.bool true) hQ (y_val (fun _ => k45 _ _ (by kernel_rfl) (by kernel_rfl))) hS ?_
  refine d_tk 13 f3r7tOp13 (.bool true) hQ (y_val (fun _ => by kernel_rfl)) hS ?_
  refine d_tk 14 f3r7tOp14 (.bool true) hQ (y_val (fun _ => by kernel_rfl)) hS ?_
  refine d_fr (ls 31 32767) (Fr [z0, z1, z2, .bool true, D b4, .bool true, D b6, .bool true, D b8, D b9, z10, z11, z12, z13, z14, z15, z16, z17, z18, z19, z20, z21, z22, z23, z24, z25, z26, z27, z28, z29, z30, z31, z32, .bool true, .bool true, .bool true, .bool true, .bool true, .bool true, .bool true, A c8, A e41, .pointer (some ⟨b6, 0, none⟩), A e43, A e44, .bool true, .bool true, .bool true, z48, z49, z50, z51, z52, z53, z54, z55, z56, z57, z58, z59, z60, z61, z62] []) ?_
  refine d_tk 15 f3r7tOp15 (.agg c9) hQ (y_l 27 (fun _ h => h.2.2.1) fc9_27 Try.underlying27) hS ?_
  refine d_tk 17 f3r7tOp17 (.pointer (some ⟨b6, 16, none⟩)) hQ (y_val (fun _ => by kernel_rfl)) hS ?_
  refine d_tk 18 f3r7tOp18 (.agg e51) hQ (y_p 33 (fun _ h => h.1) q51 Try.underlying33) hS ?_
  refine d_fr (ls 31 458751) (Fr [z0, z1, z2, .bool true, D b4, .bool true, D b6, .bool true, D b8, D b9, z10, z11, z12, z13, z14, z15, z16, z17, z18, z19, z20, z21, z22, z23, z24, z25, z26, z27, z28, z29, z30, z31, z32, .bool true, .bool true, .bool true, .bool true, .bool true, .bool true, .bool true, A c8, A e41, .pointer (some ⟨b6, 0, none⟩), A e43, A e44, .bool true, .bool true, .bool true, A c9, z49, .pointer (some ⟨b6, 16, none⟩), A e51, z52, z53, z54, z55, z56, z57, z58, z59, z60, z61, z62] []) ?_
  refine d_one 16 f3r7tOp16 (ls 31 524287) (fun K hK => ?_)
  refine k_call hK hO (fun _ hO => ⟨hO.row _ h6, hO.row _ h8, hO.row _ h9, trivial⟩) 16 #[.agg c9] (.agg e49) r49 ?_
  intro w3 hO
  refine d_one 19 f3r7tOp19 (ls 31 1048575) (fun K hK => ?_)
  refine k_call hK hO (fun _ hO => ⟨hO.row _ h6, hO.row _ h8, hO.row _ h9, trivial⟩) 17 #[.agg e51] (.agg e52) r52 ?_
  intro w4 hO
  have hS : Has [(b6, c6, 35), (b8, c8, 27), (b9, c9, 27)] w4 := ⟨hO.row _ h6, hO.row _ h8, hO.row _ h9, trivial⟩
  refine d_tk 20 f3r7tOp20 (.bool true) hQ (y_val (fun _ => k53 _ _ (by kernel_rfl) (by kernel_rfl))) hS ?_
  refine d_tk 21 f3r7tOp21 (.bool true) hQ (y_val (fun _ => by kernel_rfl)) hS ?_
  refine d_tk 22 f3r7tOp22 (.bool true) hQ (y_val (fun _ => by kernel_rfl)) hS ?_
  refine d_fr (ls 31 8388607) (Fr [z0, z1, z2, .bool true, D b4, .bool true, D b6, .bool true, D b8, D b9, z10, z11, z12, z13, z14, z15, z16, z17, z18, z19, z20, z21, z22, z23, z24, z25, z26, z27, z28, z29, z30, z31, z32, .bool true, .bool true, .bool true, .bool true, .bool true, .bool true, .bool true, A c8, A e41, .pointer (some ⟨b6, 0, none⟩), A e43, A e44, .bool true, .bool true, .bool true, A c9, A e49, .pointer (some ⟨b6, 16, none⟩), A e51, A e52, .bool true, .bool true, .bool true, z56, z57, z58, z59, z60, z61, z62] []) ?_
  refine d_tk 23 f3r7tOp23 (.bool true) hQ (y_val (fun _ => by kernel_rfl)) hS ?_
  refine d_tk 24 f3r7tOp24 (.bool true) hQ (y_val (fun _ => by kernel_rfl)) hS ?_
  refine d_tk 25 f3r7tOp25 (undef) hQ y_skip hS ?_
  refine d_fr (ls 31 67108863) (Fr [z0, z1, z2, .bool true, D b4, .bool true, D b6, .bool true, D b8, D b9, z10, z11, z12, z13, z14, z15, z16, z17, z18, z19, z20, z21, z22, z23, z24, z25, z26, z27, z28, z29, z30, z31, z32, .bool true, .bool true, .bool true, .bool true, .bool true, .bool true, .bool true, A c8, A e41, .pointer (some ⟨b6, 0, none⟩), A e43, A e44, .bool true, .bool true, .bool true, A c9, A e49, .pointer (some ⟨b6, 16, none⟩), A e51, A e52, .bool true, .bool true, .bool true, .bool true, .bool true, undef, z59, z60, z61, z62] []) ?_
  refine d_tk 26 f3r7tOp26 (undef) hQ y_skip hS ?_
  refine d_tk 27 f3r7tOp27 (undef) hQ y_skip hS ?_
  refine d_tk 28 f3r7tOp28 (.bool true) hQ (y_val (fun _ => by kernel_rfl)) hS ?_
  refine d_fr (ls 31 536870911) (Fr [z0, z1, z2, .bool true, D b4, .bool true, D b6, .bool true, D b8, D b9, z10, z11, z12, z13, z14, z15, z16, z17, z18, z19, z20, z21, z22, z23, z24, z25, z26, z27, z28, z29, z30, z31, z32, .bool true, .bool true, .bool true, .bool true, .bool true, .bool true, .bool true, A c8, A e41, .pointer (some ⟨b6, 0, none⟩), A e43, A e44, .bool true, .bool true, .bool true, A c9, A e49, .pointer (some ⟨b6, 16, none⟩), A e51, A e52, .bool true, .bool true, .bool true, .bool true, .bool true, undef, undef, undef, .bool true, z62] []) ?_
  refine d_tk 29 f3r7tOp29 (.bool true) hQ (y_val (fun _ => by kernel_rfl)) hS ?_
  refine d_tk 30 f3r7tOp30 (.bool true) hQ (y_val (fun _ => by kernel_rfl)) hS ?_
  exact d_fr (ls 31 2147483647) _ (wpAnyH_done (by kernel_rfl) (H  _ hO) _)
def f3r7fOp0 : Oper := ⟨some 33, .move (.tmp 3), 4, "law.go:48", #[], none⟩
def f3r7fOp1 : Oper := ⟨some 34, .move (.tmp 33), 4, "law.go:48", #[⟨0, .data⟩], none⟩
def f3r7fOp2 : Oper := ⟨some 35, .move (.tmp 5), 4, "law.go:48", #[⟨1, .guard⟩], some (1, true)⟩
def f3r7fOp3 : Oper := ⟨some 36, .move (.tmp 7), 4, "law.go:48", #[⟨1, .guard⟩], some (1, true)⟩
def f3r7fOp4 : Oper := ⟨some 37, .binOp .eql 4 (.tmp 35) (.tmp 36) 4, 4, "law.go:48", #[⟨2, .data⟩, ⟨3, .data⟩, ⟨1, .guard⟩], some (1, true)⟩
def f3r7fOp5 : Oper := ⟨some 38, .pick (.tmp 34) (.tmp 37) (.const (.bool false)), 4, "law.go:48", #[⟨1, .data⟩, ⟨4, .data⟩], none⟩
def f3r7fOp6 : Oper := ⟨some 39, .move (.tmp 38), 4, "law.go:48", #[⟨5, .data⟩, ⟨1, .chain⟩], none⟩
def f3r7fOp7 : Oper := ⟨some 40, .load 27 (.tmp 8), 27, "law.go:48", #[⟨6, .guard⟩], some (6, true)⟩
def f3r7fOp8 : Oper := ⟨some 41, .call { callee := .value (.func 16), args := #[.tmp 40], argTypes := #[27] }, 22, "law.go:48", #[⟨7, .data⟩, ⟨6, .chain⟩, ⟨6, .guard⟩], some (6, true)⟩
def f3r7fOp9 : Oper := ⟨some 42, .fieldAddr 35 (.tmp 6) 0, 0, "law.go:48", #[⟨6, .guard⟩], some (6, true)⟩
def f3r7fOp10 : Oper := ⟨some 43, .load 33 (.tmp 42), 33, "law.go:48", #[⟨9, .data⟩, ⟨6, .guard⟩], some (6, true)⟩
def f3r7fOp11 : Oper := ⟨some 44, .call { callee := .value (.func 17), args := #[.tmp 43], argTypes := #[33] }, 22, "law.go:48", #[⟨10, .data⟩, ⟨8, .chain⟩, ⟨6, .guard⟩], some (6, true)⟩
def f3r7fOp12 : Oper := ⟨some 45, .binOp .eql 22 (.tmp 41) (.tmp 44) 22, 4, "law.go:48", #[⟨8, .data⟩, ⟨11, .data⟩, ⟨6, .guard⟩], some (6, true)⟩
def f3r7fOp13 : Oper := ⟨some 46, .pick (.tmp 39) (.tmp 45) (.const (.bool false)), 4, "law.go:48", #[⟨6, .data⟩, ⟨12, .data⟩], none⟩
def f3r7fOp14 : Oper := ⟨some 47, .move (.tmp 46), 4, "law.go:48", #[⟨13, .data⟩, ⟨11, .chain⟩], none⟩
def f3r7fOp15 : Oper := ⟨some 48, .load 27 (.tmp 9), 27, "law.go:48", #[⟨14, .guard⟩], some (14, true)⟩
def f3r7fOp16 : Oper := ⟨some 49, .call { callee := .value (.func 16), args := #[.tmp 48], argTypes := #[27] }, 22, "law.go:48", #[⟨15, .data⟩, ⟨14, .chain⟩, ⟨14, .guard⟩], some (14, true)⟩
def f3r7fOp17 : Oper := ⟨some 50, .fieldAddr 35 (.tmp 6) 1, 0, "law.go:48", #[⟨14, .guard⟩], some (14, true)⟩
def f3r7fOp18 : Oper := ⟨some 51, .load 33 (.tmp 50), 33, "law.go:48", #[⟨17, .data⟩, ⟨14, .guard⟩], some (14, true)⟩
def f3r7fOp19 : Oper := ⟨some 52, .call { callee := .value (.func 17), args := #[.tmp 51], argTypes := #[33] }, 22, "law.go:48", #[⟨18, .data⟩, ⟨16, .chain⟩, ⟨14, .guard⟩], some (14, true)⟩
def f3r7fOp20 : Oper := ⟨some 53, .binOp .eql 22 (.tmp 49) (.tmp 52) 22, 4, "law.go:48", #[⟨16, .data⟩, ⟨19, .data⟩, ⟨14, .guard⟩], some (14, true)⟩
def f3r7fOp21 : Oper := ⟨some 54, .pick (.tmp 47) (.tmp 53) (.const (.bool false)), 4, "law.go:48", #[⟨14, .data⟩, ⟨20, .data⟩], none⟩
def f3r7fOp22 : Oper := ⟨some 55, .move (.tmp 54), 4, "law.go:48", #[⟨21, .data⟩, ⟨19, .chain⟩], none⟩
def f3r7fOp23 : Oper := ⟨some 56, .move (.tmp 5), 4, "law.go:48", #[⟨22, .guard⟩], some (22, true)⟩
def f3r7fOp24 : Oper := ⟨some 57, .move (.tmp 56), 4, "law.go:48", #[⟨23, .data⟩, ⟨22, .chain⟩, ⟨22, .guard⟩], some (22, true)⟩
def f3r7fOp25 : Oper := ⟨some 58, .load 29 (.tmp 4), 29, "law.go:48", #[⟨24, .guard⟩], some (24, false)⟩
def f3r7fOp26 : Oper := ⟨some 59, .call { callee := .value (.func 19), args := #[], argTypes := #[] }, 29, "law.go:48", #[⟨24, .chain⟩, ⟨24, .guard⟩], some (24, false)⟩
def f3r7fOp27 : Oper := ⟨some 60, .call { callee := .value (.func 18), args := #[.tmp 58, .tmp 59], argTypes := #[29, 29] }, 4, "law.go:48", #[⟨25, .data⟩, ⟨26, .data⟩, ⟨26, .chain⟩, ⟨24, .guard⟩], some (24, false)⟩
def f3r7fOp28 : Oper := ⟨some 61, .pick (.tmp 57) (.const (.bool true)) (.tmp 60), 4, "law.go:48", #[⟨24, .data⟩, ⟨27, .data⟩, ⟨22, .guard⟩], some (22, true)⟩
def f3r7fOp29 : Oper := ⟨some 62, .pick (.tmp 55) (.tmp 61) (.const (.bool false)), 4, "law.go:48", #[⟨22, .data⟩, ⟨28, .data⟩], none⟩
def f3r7fOp30 : Oper := ⟨some 2, .assign (.tmp 62), 4, "law.go:48", #[⟨29, .data⟩, ⟨27, .chain⟩, ⟨0, .phase⟩, ⟨1, .phase⟩, ⟨2, .phase⟩, ⟨3, .phase⟩, ⟨4, .phase⟩, ⟨5, .phase⟩, ⟨6, .phase⟩, ⟨7, .phase⟩, ⟨8, .phase⟩, ⟨9, .phase⟩, ⟨10, .phase⟩, ⟨11, .phase⟩, ⟨12, .phase⟩, ⟨13, .phase⟩, ⟨14, .phase⟩, ⟨15, .phase⟩, ⟨16, .phase⟩, ⟨17, .phase⟩, ⟨18, .phase⟩, ⟨19, .phase⟩, ⟨20, .phase⟩, ⟨21, .phase⟩, ⟨22, .phase⟩, ⟨23, .phase⟩, ⟨24, .phase⟩, ⟨25, .phase⟩, ⟨26, .phase⟩, ⟨27, .phase⟩, ⟨28, .phase⟩, ⟨29, .phase⟩], none⟩
def f3r7fOps : Array Oper := #[f3r7fOp0, f3r7fOp1, f3r7fOp2, f3r7fOp3, f3r7fOp4, f3r7fOp5, f3r7fOp6, f3r7fOp7, f3r7fOp8, f3r7fOp9, f3r7fOp10, f3r7fOp11, f3r7fOp12, f3r7fOp13, f3r7fOp14, f3r7fOp15, f3r7fOp16, f3r7fOp17, f3r7fOp18, f3r7fOp19, f3r7fOp20, f3r7fOp21, f3r7fOp22, f3r7fOp23, f3r7fOp24, f3r7fOp25, f3r7fOp26, f3r7fOp27, f3r7fOp28, f3r7fOp29, f3r7fOp30]
set_option maxRecDepth 100000 in
set_option maxHeartbeats 2000000 in
theorem f3r7f_r {Q : Exit → Act → World → Prop} {u w : World} {L : List Row} {z0 z1 z2 z10 z11 z12 z13 z14 z15 z16 z17 z18 z19 z20 z21 z22 z23 z24 z25 z26 z27 z28 z29 z30 z31 z32 z33 z34 z35 z36 z37 z38 z39 z40 z41 z42 z43 z44 z45 z46 z47 z48 z49 z50 z51 z52 z53 z54 z55 z56 z57 z58 z59 z60 z61 z62 : Value} {b4 b6 b8 b9 : Nat} {c4 c6 c8 c9 : Array Value} {e41 e43 e44 e49 e51 e52 e59 : Array Value} (hQ : ∀ c a w n v, Q (.panic c) (a.put (some n) v) w → Q (.panic c) a w) (hO : Own u w L) (i4 : Nat) (h4 : L[i4]? = some (b4, c4, 29)) (i6 : Nat) (h6 : L[i6]? = some (b6, c6, 35)) (i8 : Nat) (h8 : L[i8]? = some (b8, c8, 27)) (i9 : Nat) (h9 : L[i9]? = some (b9, c9, 27)) (k37 : ∀ (a : Act) (w : World), a.eval (.tmp 35) = .bool false → a.eval (.tmp 36) = .bool false → (execOp a.eval f3r7fOp4).run Try.prog w = .ok (.value (.bool true)) w) (r41 : ∀ w, Ret 16 #[.agg c8] w (.agg e41)) (q43 : Part c6 0 33 e43) (r44 : ∀ w, Ret 17 #[.agg e43] w (.agg e44)) (k45 : ∀ (a : Act) (w : World), a.eval (.tmp 41) = .agg e41 → a.eval (.tmp 44) = .agg e44 → (execOp a.eval f3r7fOp12).run Try.prog w = .ok (.value (.bool true)) w) (r49 : ∀ w, Ret 16 #[.agg c9] w (.agg e49)) (q51 : Part c6 16 33 e51) (r52 : ∀ w, Ret 17 #[.agg e51] w (.agg e52)) (k53 : ∀ (a : Act) (w : World), a.eval (.tmp 49) = .agg e49 → a.eval (.tmp 52) = .agg e52 → (execOp a.eval f3r7fOp20).run Try.prog w = .ok (.value (.bool true)) w) (r59 : ∀ w, Ret 19 #[] w (.agg e59)) (r60 : ∀ w, Ret 18 #[.agg c4, .agg e59] w (.bool true)) (H : ∀ (w' : World), Own u w' (L) → Q .normal { tmps := List.toArray (z0 :: z1 :: (.bool true) :: (.bool true) :: (.pointer (some ⟨b4, 0, none⟩)) :: (.bool false) :: (.pointer (some ⟨b6, 0, none⟩)) :: (.bool false) :: (.pointer (some ⟨b8, 0, none⟩)) :: (.pointer (some ⟨b9, 0, none⟩)) :: z10 :: z11 :: z12 :: z13 :: z14 :: z15 :: z16 :: z17 :: z18 :: z19 :: z20 :: z21 :: z22 :: z23 :: z24 :: z25 :: z26 :: z27 :: z28 :: z29 :: z30 :: z31 :: z32 :: (.bool true) :: (.bool true) :: (.bool false) :: (.bool false) :: (.bool true) :: (.bool true) :: (.bool true) :: (.agg c8) :: (.agg e41) :: (.pointer (some ⟨b6, 0, none⟩)) :: (.agg e43) :: (.agg e44) :: (.bool true) :: (.bool true) :: (.bool true) :: (.agg c9) :: (.agg e49) :: (.pointer (some ⟨b6, 16, none⟩)) :: (.agg e51) :: (.agg e52) :: (.bool true) :: (.bool true) :: (.bool true) :: (.bool false) :: (.bool false) :: (.agg c4) :: (.agg e59) :: (.bool true) :: (.bool true) :: (.bool true) :: []), defers := [] } w') :
    (Code.region 7 f3r7fOps true).wp Try.prog Q { tmps := List.toArray (z0 :: z1 :: z2 :: (.bool true) :: (.pointer (some ⟨b4, 0, none⟩)) :: (.bool false) :: (.pointer (some ⟨b6, 0, none⟩)) :: (.bool false) :: (.pointer (some ⟨b8, 0, none⟩)) :: (.pointer (some ⟨b9, 0, none⟩)) :: z10 :: z11 :: z12 :: z13 :: z14 :: z15 :: z16 :: z17 :: z18 :: z19 :: z20 :: z21 :: z22 :: z23 :: z24 :: z25 :: z26 :: z27 :: z28 :: z29 :: z30 :: z31 :: z32 :: z33 :: z34 :: z35 :: z36 :: z37 :: z38 :: z39 :: z40 :: z41 :: z42 :: z43 :: z44 :: z45 :: z46 :: z47 :: z48 :: z49 :: z50 :: z51 :: z52 :: z53 :: z54 :: z55 :: z56 :: z57 :: z58 :: z59 :: z60 :: z61 :: z62 :: []), defers := [] } w := by
  have fc4_29 := hO.fits i4 h4
  have fc8_27 := hO.fits i8 h8
  have fc9_27 := hO.fits i9 h9
  refine wp_region_held_drew (S := Has [(b4, c4, 29), (b6, c6, 35), (b8, c8, 27), (b9, c9, 27)]) (by kernel_rfl) ⟨hO.drew.row _ h4, hO.drew.row _ h6, hO.drew.row _ h8, hO.drew.row _ h9, trivial⟩ (fun hS => ?_)
  replace hO := hO.drew
  refine d_tk 0 f3r7fOp0 (.bool true) hQ (y_val (fun _ => by kernel_rfl)) hS ?_
  refine d_tk 1 f3r7fOp1 (.bool true) hQ (y_val (fun _ => by kernel_rfl)) hS ?_
  refine d_tk 2 f3r7fOp2 (.bool false) hQ (y_val (fun _ => by kernel_rfl)) hS ?_
  refine d_fr (ls 31 7) (Fr [z0, z1, z2, .bool true, D b4, .bool false, D b6, .bool false, D b8, D b9, z10, z11, z12, z13, z14, z15, z16, z17, z18, z19, z20, z21, z22, z23, z24, z25, z26, z27, z28, z29, z30, z31, z32, .bool true, .bool true, .bool false, z36, z37, z38, z39, z40, z41, z42, z43, z44, z45, z46, z47, z48, z49, z50, z51, z52, z53, z54, z55, z56, z57, z58, z59, z60, z61, z62] []) ?_
  refine d_tk 3 f3r7fOp3 (.bool false) hQ (y_val (fun _ => by kernel_rfl)) hS ?_
  refine d_tk 4 f3r7fOp4 (.bool true) hQ (y_val (fun _ => k37 _ _ (by kernel_rfl) (by kernel_rfl))) hS ?_
  refine d_tk 5 f3r7fOp5 (.bool true) hQ (y_val (fun _ => by kernel_rfl)) hS ?_
  refine d_fr (ls 31 63) (Fr [z0, z1, z2, .bool true, D b4, .bool false, D b6, .bool false, D b8, D b9, z10, z11, z12, z13, z14, z15, z16, z17, z18, z19, z20, z21, z22, z23, z24, z25, z26, z27, z28, z29, z30, z31, z32, .bool true, .bool true, .bool false, .bool false, .bool true, .bool true, z39, z40, z41, z42, z43, z44, z45, z46, z47, z48, z49, z50, z51, z52, z53, z54, z55, z56, z57, z58, z59, z60, z61, z62] []) ?_
  refine d_tk 6 f3r7fOp6 (.bool true) hQ (y_val (fun _ => by kernel_rfl)) hS ?_
  refine d_tk 7 f3r7fOp7 (.agg c8) hQ (y_l 27 (fun _ h => h.2.2.1) fc8_27 Try.underlying27) hS ?_
  refine d_tk 9 f3r7fOp9 (.pointer (some ⟨b6, 0, none⟩)) hQ (y_val (fun _ => by kernel_rfl)) hS ?_
  refine d_fr (ls 31 767) (Fr [z0, z1, z2, .bool true, D b4, .bool false, D b6, .bool false, D b8, D b9, z10, z11, z12, z13, z14, z15, z16, z17, z18, z19, z20, z21, z22, z23, z24, z25, z26, z27, z28, z29, z30, z31, z32, .bool true, .bool true, .bool false, .bool false, .bool true, .bool true, .bool true, A c8, z41, .pointer (some ⟨b6, 0, none⟩), z43, z44, z45, z46, z47, z48, z49, z50, z51, z52, z53, z54, z55, z56, z57, z58, z59, z60, z61, z62] []) ?_
  refine d_tk 10 f3r7fOp10 (.agg e43) hQ (y_p 33 (fun _ h => h.2.1) q43 Try.underlying33) hS ?_
  refine d_fr (ls 31 1791) (Fr [z0, z1, z2, .bool true, D b4, .bool false, D b6, .bool false, D b8, D b9, z10, z11, z12, z13, z14, z15, z16, z17, z18, z19, z20, z21, z22, z23, z24, z25, z26, z27, z28, z29, z30, z31, z32, .bool true, .bool true, .bool false, .bool false, .bool true, .bool true, .bool true, A c8, z41, .pointer (some ⟨b6, 0, none⟩), A e43, z44, z45, z46, z47, z48, z49, z50, z51, z52, z53, z54, z55, z56, z57, z58, z59, z60, z61, z62] []) ?_
  refine d_one 8 f3r7fOp8 (ls 31 2047) (fun K hK => ?_)
  refine k_call hK hO (fun _ hO => ⟨hO.row _ h4, hO.row _ h6, hO.row _ h8, hO.row _ h9, trivial⟩) 16 #[.agg c8] (.agg e41) r41 ?_
  intro w1 hO
  refine d_one 11 f3r7fOp11 (ls 31 4095) (fun K hK => ?_)
  refine k_call hK hO (fun _ hO => ⟨hO.row _ h4, hO.row _ h6, hO.row _ h8, hO.row _ h9, trivial⟩) 17 #[.agg e43] (.agg e44) r44 ?_
  intro w2 hO
  have hS : Has [(b4, c4, 29), (b6, c6, 35), (b8, c8, 27), (b9, c9, 27)] w2 := ⟨hO.row _ h4, hO.row _ h6, hO.row _ h8, hO.row _ h9, trivial⟩
  refine d_tk 12 f3r7fOp12 (.bool true) hQ (y_val (fun _ => k45 _ _ (by kernel_rfl) (by kernel_rfl))) hS ?_
  refine d_tk 13 f3r7fOp13 (.bool true) hQ (y_val (fun _ => by kernel_rfl)) hS ?_
  refine d_tk 14 f3r7fOp14 (.bool true) hQ (y_val (fun _ => by kernel_rfl)) hS ?_
  refine d_fr (ls 31 32767) (Fr [z0, z1, z2, .bool true, D b4, .bool false, D b6, .bool false, D b8, D b9, z10, z11, z12, z13, z14, z15, z16, z17, z18, z19, z20, z21, z22, z23, z24, z25, z26, z27, z28, z29, z30, z31, z32, .bool true, .bool true, .bool false, .bool false, .bool true, .bool true, .bool true, A c8, A e41, .pointer (some ⟨b6, 0, none⟩), A e43, A e44, .bool true, .bool true, .bool true, z48, z49, z50, z51, z52, z53, z54, z55, z56, z57, z58, z59, z60, z61, z62] []) ?_
  refine d_tk 15 f3r7fOp15 (.agg c9) hQ (y_l 27 (fun _ h => h.2.2.2.1) fc9_27 Try.underlying27) hS ?_
  refine d_tk 17 f3r7fOp17 (.pointer (some ⟨b6, 16, none⟩)) hQ (y_val (fun _ => by kernel_rfl)) hS ?_
  refine d_tk 18 f3r7fOp18 (.agg e51) hQ (y_p 33 (fun _ h => h.2.1) q51 Try.underlying33) hS ?_
  refine d_fr (ls 31 458751) (Fr [z0, z1, z2, .bool true, D b4, .bool false, D b6, .bool false, D b8, D b9, z10, z11, z12, z13, z14, z15, z16, z17, z18, z19, z20, z21, z22, z23, z24, z25, z26, z27, z28, z29, z30, z31, z32, .bool true, .bool true, .bool false, .bool false, .bool true, .bool true, .bool true, A c8, A e41, .pointer (some ⟨b6, 0, none⟩), A e43, A e44, .bool true, .bool true, .bool true, A c9, z49, .pointer (some ⟨b6, 16, none⟩), A e51, z52, z53, z54, z55, z56, z57, z58, z59, z60, z61, z62] []) ?_
  refine d_one 16 f3r7fOp16 (ls 31 524287) (fun K hK => ?_)
  refine k_call hK hO (fun _ hO => ⟨hO.row _ h4, hO.row _ h6, hO.row _ h8, hO.row _ h9, trivial⟩) 16 #[.agg c9] (.agg e49) r49 ?_
  intro w3 hO
  refine d_one 19 f3r7fOp19 (ls 31 1048575) (fun K hK => ?_)
  refine k_call hK hO (fun _ hO => ⟨hO.row _ h4, hO.row _ h6, hO.row _ h8, hO.row _ h9, trivial⟩) 17 #[.agg e51] (.agg e52) r52 ?_
  intro w4 hO
  have hS : Has [(b4, c4, 29), (b6, c6, 35), (b8, c8, 27), (b9, c9, 27)] w4 := ⟨hO.row _ h4, hO.row _ h6, hO.row _ h8, hO.row _ h9, trivial⟩
  refine d_tk 20 f3r7fOp20 (.bool true) hQ (y_val (fun _ => k53 _ _ (by kernel_rfl) (by kernel_rfl))) hS ?_
  refine d_tk 21 f3r7fOp21 (.bool true) hQ (y_val (fun _ => by kernel_rfl)) hS ?_
  refine d_tk 22 f3r7fOp22 (.bool true) hQ (y_val (fun _ => by kernel_rfl)) hS ?_
  refine d_fr (ls 31 8388607) (Fr [z0, z1, z2, .bool true, D b4, .bool false, D b6, .bool false, D b8, D b9, z10, z11, z12, z13, z14, z15, z16, z17, z18, z19, z20, z21, z22, z23, z24, z25, z26, z27, z28, z29, z30, z31, z32, .bool true, .bool true, .bool false, .bool false, .bool true, .bool true, .bool true, A c8, A e41, .pointer (some ⟨b6, 0, none⟩), A e43, A e44, .bool true, .bool true, .bool true, A c9, A e49, .pointer (some ⟨b6, 16, none⟩), A e51, A e52, .bool true, .bool true, .bool true, z56, z57, z58, z59, z60, z61, z62] []) ?_
  refine d_tk 23 f3r7fOp23 (.bool false) hQ (y_val (fun _ => by kernel_rfl)) hS ?_
  refine d_tk 24 f3r7fOp24 (.bool false) hQ (y_val (fun _ => by kernel_rfl)) hS ?_
  refine d_tk 25 f3r7fOp25 (.agg c4) hQ (y_l 29 (fun _ h => h.1) fc4_29 Try.underlying29) hS ?_
  refine d_fr (ls 31 67108863) (Fr [z0, z1, z2, .bool true, D b4, .bool false, D b6, .bool false, D b8, D b9, z10, z11, z12, z13, z14, z15, z16, z17, z18, z19, z20, z21, z22, z23, z24, z25, z26, z27, z28, z29, z30, z31, z32, .bool true, .bool true, .bool false, .bool false, .bool true, .bool true, .bool true, A c8, A e41, .pointer (some ⟨b6, 0, none⟩), A e43, A e44, .bool true, .bool true, .bool true, A c9, A e49, .pointer (some ⟨b6, 16, none⟩), A e51, A e52, .bool true, .bool true, .bool true, .bool false, .bool false, A c4, z59, z60, z61, z62] []) ?_
  refine d_one 26 f3r7fOp26 (ls 31 134217727) (fun K hK => ?_)
  refine k_call hK hO (fun _ hO => ⟨hO.row _ h4, hO.row _ h6, hO.row _ h8, hO.row _ h9, trivial⟩) 19 #[] (.agg e59) r59 ?_
  intro w5 hO
  refine d_one 27 f3r7fOp27 (ls 31 268435455) (fun K hK => ?_)
  refine k_call hK hO (fun _ hO => ⟨hO.row _ h4, hO.row _ h6, hO.row _ h8, hO.row _ h9, trivial⟩) 18 #[.agg c4, .agg e59] (.bool true) r60 ?_
  intro w6 hO
  have hS : Has [(b4, c4, 29), (b6, c6, 35), (b8, c8, 27), (b9, c9, 27)] w6 := ⟨hO.row _ h4, hO.row _ h6, hO.row _ h8, hO.row _ h9, trivial⟩
  refine d_tk 28 f3r7fOp28 (.bool true) hQ (y_val (fun _ => by kernel_rfl)) hS ?_
  refine d_tk 29 f3r7fOp29 (.bool true) hQ (y_val (fun _ => by kernel_rfl)) hS ?_
  refine d_tk 30 f3r7fOp30 (.bool true) hQ (y_val (fun _ => by kernel_rfl)) hS ?_
  exact d_fr (ls 31 2147483647) _ (wpAnyH_done (by kernel_rfl) (H  _ hO) _)
set_option maxRecDepth 100000 in
set_option maxHeartbeats 4000000 in
theorem decodes_walk (f : Nat → Nat) (w : World) (hf : ∀ i, f i < 256) : Ret 3 #[.agg (vals .u8 32 f)] w (.bool true) := by
  go_enter Try.func3, Try.ntmps3
  have hO := Own.start w
  have h1 := decode_p f hf
  have h2 := rdecode_p f hf
  have hP := decR_ok _ (nb_lt32 f hf)
  have hn := decR_num (nb_lt32 f hf)
  have hz := @decR_no (nb f 32)
  generalize (decR (nb f 32)).1 = P at *
  generalize (decR (nb f 32)).2 = b at *
  have H1 := hide h1
  have H2 := hide h2
  have Hn := hide hn
  have Hz := hide hz
  clear h1 h2 hn hz
  go_upto_region 0 with (fail)
  refine f3r0_r hO (fit_by _) ?_
  intro n1 w1 hO
  replace hO : Own w w1 [(n1, vals .u8 32 f, 22)] := hO
  go_upto_region 1 with (fail)
  refine f3r1_r hO awake_c ?_
  intro w2 hO
  replace hO : Own w w2 [(n1, vals .u8 32 f, 22)] := hO
  go_upto_region 2 with (fail)
  refine f3r2_r hO 0 rfl H1.out (fit_pt _ _) ?_
  intro n4 w3 hO
  replace hO : Own w w3 [(n4, pt P, 29), (n1, vals .u8 32 f, 22)] := hO
  go_upto_region 3 with (fail)
  refine f3r3_r hO 1 rfl H2.out (fit_rp _ _) ?_
  intro n6 w4 hO
  replace hO : Own w w4 [(n6, rp P, 35), (n4, pt P, 29), (n1, vals .u8 32 f, 22)] := hO
  go_upto_region 4 with (fail)
  refine f3r4_r hO 1 rfl (places_p hP) (fit_fe _) (fit_fe _) ?_
  intro n8 n9 w5 hO
  replace hO : Own w w5 [(n9, arr 4 (limb P.2), 27), (n8, arr 4 (limb P.1), 27), (n6, rp P, 35), (n4, pt P, 29), (n1, vals .u8 32 f, 22)] := hO
  cases b
  · skip
    go_upto_region 5 with (fail)
    refine f3r5f_r (fun _ _ _ _ _ h => h) hO ?_
    intro w6 hO
    replace hO : Own w w6 [(n9, arr 4 (limb P.2), 27), (n8, arr 4 (limb P.1), 27), (n6, rp P, 35), (n4, pt P, 29), (n1, vals .u8 32 f, 22)] := hO
    go_upto_region 7 with (fail)
    refine f3r7f_r (fun _ _ _ _ _ h => h) hO 3 rfl 2 rfl 1 rfl 0 rfl (fun a w h1 h2 => eqb_c _ _ _ w rfl h1 h2) (bytes_c _) (part_rp0 _ _) (rbytes_c _) (fun a w h1 h2 => eql_c _ _ _ _ true (same_self _) w rfl h1 h2) (bytes_c _) (part_rp1 _ _) (rbytes_c _) (fun a w h1 h2 => eql_c _ _ _ _ true (same_self _) w rfl h1 h2) zero_c (same_t hP ok_zero7 (Hz.out rfl)) ?_
    intro w7 hO
    replace hO : Own w w7 [(n9, arr 4 (limb P.2), 27), (n8, arr 4 (limb P.1), 27), (n6, rp P, 35), (n4, pt P, 29), (n1, vals .u8 32 f, 22)] := hO
    go_wp2_with fail
    refine bodyPost_ret (v := .bool true) (results_tmp Try.results3 _ _ _) rfl ⟨rfl, hO.low⟩
  · skip
    go_upto_region 5 with (fail)
    refine f3r5t_r (fun _ _ _ _ _ h => h) hO 4 rfl 3 rfl (bytes_p hP) (fun a w h1 h2 => neq_c _ _ _ _ true (same_byt hf (Hn.out rfl)) w rfl h1 h2) ?_
    intro w6 hO
    replace hO : Own w w6 [(n9, arr 4 (limb P.2), 27), (n8, arr 4 (limb P.1), 27), (n6, rp P, 35), (n4, pt P, 29), (n1, vals .u8 32 f, 22)] := hO
    go_upto_region 7 with (fail)
    refine f3r7t_r (fun _ _ _ _ _ h => h) hO 2 rfl 1 rfl 0 rfl (fun a w h1 h2 => eqb_c _ _ _ w rfl h1 h2) (bytes_c _) (part_rp0 _ _) (rbytes_c _) (fun a w h1 h2 => eql_c _ _ _ _ true (same_self _) w rfl h1 h2) (bytes_c _) (part_rp1 _ _) (rbytes_c _) (fun a w h1 h2 => eql_c _ _ _ _ true (same_self _) w rfl h1 h2) ?_
    intro w7 hO
    replace hO : Own w w7 [(n9, arr 4 (limb P.2), 27), (n8, arr 4 (limb P.1), 27), (n6, rp P, 35), (n4, pt P, 29), (n1, vals .u8 32 f, 22)] := hO
    go_wp2_with fail
    refine bodyPost_ret (v := .bool true) (results_tmp Try.results3 _ _ _) rfl ⟨rfl, hO.low⟩
end Go.Proofs.Ytalnkcijebdpbaa

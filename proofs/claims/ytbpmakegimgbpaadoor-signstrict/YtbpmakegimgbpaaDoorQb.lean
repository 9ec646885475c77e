/- SignStrict: the walk. A text of any length; the package's variables lie as they were laid. -/
import Derived.Test.YtbpmakegimgbpaaDoorQs
namespace Go.Proofs.YtbpmakegimgbpaaDoor
set_option maxRecDepth 100000
open F Go.RowKit

def s4r0Op0 : Oper := ⟨some 2, .box 22 (.tmp 0), 0, "law.go:76", #[], none⟩
def s4r0Op1 : Oper := ⟨some 4, .assign (.const (.bool false)), 4, "law.go:76", #[], none⟩
def s4r0Ops : Array Oper := #[s4r0Op0, s4r0Op1]
set_option maxHeartbeats 2000000 in
theorem s4r0_r {Q : Exit → Act → World → Prop} {u w : World} {L : List Row} {z1 z2 z3 z4 : Value} {zz : List Value} {e0 : Array Value} (hO : Own u w L) (fe0_22 : Fit 22 e0) (H : ∀ (n2 : Nat) (w' : World), Own u w' ((n2, e0, 22) :: L) → Q .normal { tmps := List.toArray ((.agg e0) :: z1 :: (.pointer (some ⟨n2, 0, none⟩)) :: z3 :: (.bool false) :: zz), defers := [] } w') :
    (Code.region 0 s4r0Ops false).wp Tryd.prog Q { tmps := List.toArray ((.agg e0) :: z1 :: z2 :: z3 :: z4 :: zz), defers := [] } w := by
  refine wp_region_list (show wpList _ s4r0Ops _ [s4r0Op0, s4r0Op1] _ _ from ?_)
  refine l_new hO (e0) 22 (run_box 22 _ rfl _ (by kernel_rfl)) fe0_22 ?_
  intro n2 w1 hO
  refine l_val (.bool false) (by kernel_rfl) ?_
  exact l_fr _ (wpList_nil (H n2 _ hO))
def s4r1Op0 : Oper := ⟨some 17, .call { callee := .value (.func 6), args := #[], argTypes := #[] }, 4, "law.go:77", #[], none⟩
def s4r1Op1 : Oper := ⟨some 5, .assign (.tmp 17), 4, "law.go:77", #[⟨0, .data⟩, ⟨0, .chain⟩, ⟨0, .phase⟩], none⟩
def s4r1Ops : Array Oper := #[s4r1Op0, s4r1Op1]
set_option maxHeartbeats 2000000 in
theorem s4r1_r {Q : Exit → Act → World → Prop} {u w : World} {L : List Row} {z0 z1 z2 z3 z4 z5 z6 z7 z8 z9 z10 z11 z12 z13 z14 z15 z16 z17 : Value} {zz : List Value} (hO : Own u w L) (r17 : ∀ (w : World), Below u.heap.size u w → Ret 6 #[] w (.bool true)) (H : ∀ (w' : World), Own u w' (L) → Q .normal { tmps := List.toArray (z0 :: z1 :: z2 :: z3 :: z4 :: (.bool true) :: z6 :: z7 :: z8 :: z9 :: z10 :: z11 :: z12 :: z13 :: z14 :: z15 :: z16 :: (.bool true) :: zz), defers := [] } w') :
    (Code.region 1 s4r1Ops false).wp Tryd.prog Q { tmps := List.toArray (z0 :: z1 :: z2 :: z3 :: z4 :: z5 :: z6 :: z7 :: z8 :: z9 :: z10 :: z11 :: z12 :: z13 :: z14 :: z15 :: z16 :: z17 :: zz), defers := [] } w := by
  refine wp_region_list (show wpList _ s4r1Ops _ [s4r1Op0, s4r1Op1] _ _ from ?_)
  refine l_cw hO 6 #[] (.bool true) (r17 _ hO.low) ?_
  intro w1 _ hO
  refine l_val (.bool true) (by kernel_rfl) ?_
  exact l_fr _ (wpList_nil (H  _ hO))
def s4r4Op0 : Oper := ⟨some 22, .load 22 (.tmp 2), 22, "law.go:81", #[], none⟩
def s4r4Op1 : Oper := ⟨some 23, .call { callee := .value (.func 8), args := #[.tmp 22], argTypes := #[22] }, 22, "law.go:81", #[⟨0, .data⟩], none⟩
def s4r4Op2 : Oper := ⟨some 6, .alloc 22, 0, "law.go:81", #[], none⟩
def s4r4Op3 : Oper := ⟨none, .store 22 (.tmp 6) (.tmp 23), 0, "law.go:81", #[⟨2, .data⟩, ⟨1, .data⟩, ⟨1, .chain⟩, ⟨0, .phase⟩, ⟨1, .phase⟩, ⟨2, .phase⟩], none⟩
def s4r4Ops : Array Oper := #[s4r4Op0, s4r4Op1, s4r4Op2, s4r4Op3]
set_option maxHeartbeats 2000000 in
theorem s4r4_r {Q : Exit → Act → World → Prop} {u w : World} {L : List Row} {z0 z1 z3 z4 z5 z6 z7 z8 z9 z10 z11 z12 z13 z14 z15 z16 z17 z18 z19 z20 z21 z22 z23 : Value} {zz : List Value} {b2 : Nat} {c2 : Array Value} {e23 : Array Value} (hO : Own u w L) (i2 : Nat) (h2 : L[i2]? = some (b2, c2, 22)) (r23 : ∀ (w : World), Below u.heap.size u w → Blk w b2 c2 22 → Ret 8 #[.agg c2] w (.agg e23)) (fe23_22 : Fit 22 e23) (H : ∀ (n6 : Nat) (w' : World), Own u w' ((n6, e23, 22) :: L) → Q .normal { tmps := List.toArray (z0 :: z1 :: (.pointer (some ⟨b2, 0, none⟩)) :: z3 :: z4 :: z5 :: (.pointer (some ⟨n6, 0, none⟩)) :: z7 :: z8 :: z9 :: z10 :: z11 :: z12 :: z13 :: z14 :: z15 :: z16 :: z17 :: z18 :: z19 :: z20 :: z21 :: (.agg c2) :: (.agg e23) :: zz), defers := [] } w') :
    (Code.region 4 s4r4Ops false).wp Tryd.prog Q { tmps := List.toArray (z0 :: z1 :: (.pointer (some ⟨b2, 0, none⟩)) :: z3 :: z4 :: z5 :: z6 :: z7 :: z8 :: z9 :: z10 :: z11 :: z12 :: z13 :: z14 :: z15 :: z16 :: z17 :: z18 :: z19 :: z20 :: z21 :: z22 :: z23 :: zz), defers := [] } w := by
  refine wp_region_list (show wpList _ s4r4Ops _ [s4r4Op0, s4r4Op1, s4r4Op2, s4r4Op3] _ _ from ?_)
  refine l_ld hO 22 i2 h2 Tryd.underlying22 ?_
  refine l_cw hO 8 #[.agg c2] (.agg e23) (r23 _ hO.low (hO.row (i2) h2)) ?_
  intro w1 _ hO
  refine l_new hO (vals .u8 32 (fun _ => 0)) 22 (al22 rfl) (fit_by _) ?_
  intro n6 w2 hO
  refine l_fr (Fr [z0, z1, D b2, z3, z4, z5, D n6, z7, z8, z9, z10, z11, z12, z13, z14, z15, z16, z17, z18, z19, z20, z21, A c2, A e23] zz) ?_
  refine l_st hO 22 0 rfl e23 fe23_22 ?_
  intro w3 hO
  exact l_fr _ (wpList_nil (H n6 _ hO))
def s4r5Op0 : Oper := ⟨some 24, .load 22 (.tmp 2), 22, "law.go:82", #[], none⟩
def s4r5Op1 : Oper := ⟨some 25, .move (.tmp 1), 23, "law.go:82", #[], none⟩
def s4r5Op2 : Oper := ⟨some 26, .buildSlice 26 1 #[(0, .tmp 25)], 26, "law.go:82", #[⟨1, .data⟩], none⟩
def s4r5Op3 : Oper := ⟨some 27, .call { callee := .value (.func 7), args := #[.tmp 24, .tmp 26], argTypes := #[22, 26] }, 28, "law.go:82", #[⟨0, .data⟩, ⟨2, .data⟩], none⟩
def s4r5Op4 : Oper := ⟨some 7, .alloc 28, 0, "law.go:82", #[], none⟩
def s4r5Op5 : Oper := ⟨none, .store 28 (.tmp 7) (.tmp 27), 0, "law.go:82", #[⟨4, .data⟩, ⟨3, .data⟩, ⟨3, .chain⟩, ⟨0, .phase⟩, ⟨1, .phase⟩, ⟨2, .phase⟩, ⟨3, .phase⟩, ⟨4, .phase⟩], none⟩
def s4r5Ops : Array Oper := #[s4r5Op0, s4r5Op1, s4r5Op2, s4r5Op3, s4r5Op4, s4r5Op5]
set_option maxHeartbeats 2000000 in
theorem s4r5_r {Q : Exit → Act → World → Prop} {u w : World} {L : List Row} {z0 z3 z4 z5 z6 z7 z8 z9 z10 z11 z12 z13 z14 z15 z16 z17 z18 z19 z20 z21 z22 z23 z24 z25 z26 z27 : Value} {x1 : Value} {zz : List Value} {b2 : Nat} {c2 : Array Value} {e27 : Array Value} (hO : Own u w L) (i2 : Nat) (h2 : L[i2]? = some (b2, c2, 22)) (u26 : ∀ w : World, (Instr.buildSlice 26 1 #[(0, x1)]).run Tryd.prog w = .ok (.slice (some ⟨w.heap.size, 0, none⟩) 1 1) (w.alloc (.cells #[x1] 23))) (r27 : ∀ (q26 : Nat) (w : World), Below u.heap.size u w → Blk w b2 c2 22 → Blk w q26 #[x1] 23 → Ret 7 #[.agg c2, .slice (some ⟨q26, 0, none⟩) 1 1] w (.agg e27)) (fe27_28 : Fit 28 e27) (H : ∀ (n7 : Nat) (q26 : Nat) (w' : World), Own u w' ((n7, e27, 28) :: L) → Q .normal { tmps := List.toArray (z0 :: x1 :: (.pointer (some ⟨b2, 0, none⟩)) :: z3 :: z4 :: z5 :: z6 :: (.pointer (some ⟨n7, 0, none⟩)) :: z8 :: z9 :: z10 :: z11 :: z12 :: z13 :: z14 :: z15 :: z16 :: z17 :: z18 :: z19 :: z20 :: z21 :: z22 :: z23 :: (.agg c2) :: x1 :: (.slice (some ⟨q26, 0, none⟩) 1 1) :: (.agg e27) :: zz), defers := [] } w') :
    (Code.region 5 s4r5Ops false).wp Tryd.prog Q { tmps := List.toArray (z0 :: x1 :: (.pointer (some ⟨b2, 0, none⟩)) :: z3 :: z4 :: z5 :: z6 :: z7 :: z8 :: z9 :: z10 :: z11 :: z12 :: z13 :: z14 :: z15 :: z16 :: z17 :: z18 :: z19 :: z20 :: z21 :: z22 :: z23 :: z24 :: z25 :: z26 :: z27 :: zz), defers := [] } w := by
  refine wp_region_list (show wpList _ s4r5Ops _ [s4r5Op0, s4r5Op1, s4r5Op2, s4r5Op3, s4r5Op4, s4r5Op5] _ _ from ?_)
  refine l_ld hO 22 i2 h2 Tryd.underlying22 ?_
  refine l_val (x1) (by kernel_rfl) ?_
  refine l_bs hO 1 #[x1] 23 (fun w => run_bsl 26 23 1 _ rfl #[(0, x1)] (by kernel_rfl) (u26 w)) ?_
  intro q26 w1 hb hB26 hO
  clear hb
  refine l_fr (Fr [z0, x1, D b2, z3, z4, z5, z6, z7, z8, z9, z10, z11, z12, z13, z14, z15, z16, z17, z18, z19, z20, z21, z22, z23, A c2, x1, .slice (some ⟨q26, 0, none⟩) 1 1, z27] zz) ?_
  refine l_cw hO 7 #[.agg c2, .slice (some ⟨q26, 0, none⟩) 1 1] (.agg e27) (r27 q26 _ hO.low (hO.row (i2) h2) hB26) ?_
  intro w2 _ hO
  clear hB26
  refine l_new hO (vals .u8 64 (fun _ => 0)) 28 (alb6 rfl) (fit_b6 _) ?_
  intro n7 w3 hO
  refine l_st hO 28 0 rfl e27 fe27_28 ?_
  intro w4 hO
  exact l_fr _ (wpList_nil (H n7 q26 _ hO))
def s4r6Op0 : Oper := ⟨some 28, .call { callee := .value (.func 10), args := #[], argTypes := #[] }, 22, "law.go:83", #[], none⟩
def s4r6Op1 : Oper := ⟨some 8, .alloc 22, 0, "law.go:83", #[], none⟩
def s4r6Op2 : Oper := ⟨none, .store 22 (.tmp 8) (.tmp 28), 0, "law.go:83", #[⟨1, .data⟩, ⟨0, .data⟩, ⟨0, .chain⟩, ⟨0, .phase⟩, ⟨1, .phase⟩], none⟩
def s4r6Ops : Array Oper := #[s4r6Op0, s4r6Op1, s4r6Op2]
set_option maxHeartbeats 2000000 in
theorem s4r6_r {Q : Exit → Act → World → Prop} {u w : World} {L : List Row} {z0 z1 z2 z3 z4 z5 z6 z7 z8 z9 z10 z11 z12 z13 z14 z15 z16 z17 z18 z19 z20 z21 z22 z23 z24 z25 z26 z27 z28 : Value} {zz : List Value} {e28 : Array Value} (hO : Own u w L) (r28 : ∀ (w : World), Below u.heap.size u w → Ret 10 #[] w (.agg e28)) (fe28_22 : Fit 22 e28) (H : ∀ (n8 : Nat) (w' : World), Own u w' ((n8, e28, 22) :: L) → Q .normal { tmps := List.toArray (z0 :: z1 :: z2 :: z3 :: z4 :: z5 :: z6 :: z7 :: (.pointer (some ⟨n8, 0, none⟩)) :: z9 :: z10 :: z11 :: z12 :: z13 :: z14 :: z15 :: z16 :: z17 :: z18 :: z19 :: z20 :: z21 :: z22 :: z23 :: z24 :: z25 :: z26 :: z27 :: (.agg e28) :: zz), defers := [] } w') :
    (Code.region 6 s4r6Ops false).wp Tryd.prog Q { tmps := List.toArray (z0 :: z1 :: z2 :: z3 :: z4 :: z5 :: z6 :: z7 :: z8 :: z9 :: z10 :: z11 :: z12 :: z13 :: z14 :: z15 :: z16 :: z17 :: z18 :: z19 :: z20 :: z21 :: z22 :: z23 :: z24 :: z25 :: z26 :: z27 :: z28 :: zz), defers := [] } w := by
  refine wp_region_list (show wpList _ s4r6Ops _ [s4r6Op0, s4r6Op1, s4r6Op2] _ _ from ?_)
  refine l_cw hO 10 #[] (.agg e28) (r28 _ hO.low) ?_
  intro w1 _ hO
  refine l_new hO (vals .u8 32 (fun _ => 0)) 22 (al22 rfl) (fit_by _) ?_
  intro n8 w2 hO
  refine l_st hO 22 0 rfl e28 fe28_22 ?_
  intro w3 hO
  exact l_fr _ (wpList_nil (H n8 _ hO))
def s4r7Op0 : Oper := ⟨some 29, .load 28 (.tmp 7), 28, "law.go:84", #[], none⟩
def s4r7Op1 : Oper := ⟨some 9, .alloc 28, 0, "law.go:84", #[], none⟩
def s4r7Op2 : Oper := ⟨none, .store 28 (.tmp 9) (.tmp 29), 0, "law.go:84", #[⟨1, .data⟩, ⟨0, .data⟩, ⟨0, .phase⟩, ⟨1, .phase⟩], none⟩
def s4r7Ops : Array Oper := #[s4r7Op0, s4r7Op1, s4r7Op2]
set_option maxHeartbeats 2000000 in
theorem s4r7_r {Q : Exit → Act → World → Prop} {u w : World} {L : List Row} {z0 z1 z2 z3 z4 z5 z6 z8 z9 z10 z11 z12 z13 z14 z15 z16 z17 z18 z19 z20 z21 z22 z23 z24 z25 z26 z27 z28 z29 : Value} {zz : List Value} {b7 : Nat} {c7 : Array Value} (hO : Own u w L) (i7 : Nat) (h7 : L[i7]? = some (b7, c7, 28)) (H : ∀ (n9 : Nat) (w' : World), Own u w' ((n9, c7, 28) :: L) → Q .normal { tmps := List.toArray (z0 :: z1 :: z2 :: z3 :: z4 :: z5 :: z6 :: (.pointer (some ⟨b7, 0, none⟩)) :: z8 :: (.pointer (some ⟨n9, 0, none⟩)) :: z10 :: z11 :: z12 :: z13 :: z14 :: z15 :: z16 :: z17 :: z18 :: z19 :: z20 :: z21 :: z22 :: z23 :: z24 :: z25 :: z26 :: z27 :: z28 :: (.agg c7) :: zz), defers := [] } w') :
    (Code.region 7 s4r7Ops false).wp Tryd.prog Q { tmps := List.toArray (z0 :: z1 :: z2 :: z3 :: z4 :: z5 :: z6 :: (.pointer (some ⟨b7, 0, none⟩)) :: z8 :: z9 :: z10 :: z11 :: z12 :: z13 :: z14 :: z15 :: z16 :: z17 :: z18 :: z19 :: z20 :: z21 :: z22 :: z23 :: z24 :: z25 :: z26 :: z27 :: z28 :: z29 :: zz), defers := [] } w := by
  refine wp_region_list (show wpList _ s4r7Ops _ [s4r7Op0, s4r7Op1, s4r7Op2] _ _ from ?_)
  have fc7_28 := hO.fits i7 h7
  refine l_ld hO 28 i7 h7 Tryd.underlying28 ?_
  refine l_new hO (vals .u8 64 (fun _ => 0)) 28 (alb6 rfl) (fit_b6 _) ?_
  intro n9 w1 hO
  refine l_st hO 28 0 rfl c7 fc7_28 ?_
  intro w2 hO
  exact l_fr _ (wpList_nil (H n9 _ hO))
def s4r12Op0 : Oper := ⟨some 34, .move (.tmp 11), 3, "law.go:87", #[], none⟩
def s4r12Op1 : Oper := ⟨some 35, .binOp .add 3 (.const (.int .i64 32)) (.tmp 34) 3, 3, "law.go:87", #[⟨0, .data⟩], none⟩
def s4r12Op2 : Oper := ⟨some 36, .indexAddr 28 (.tmp 7) (.tmp 35), 0, "law.go:87", #[⟨1, .data⟩], none⟩
def s4r12Op3 : Oper := ⟨some 37, .load 5 (.tmp 36), 5, "law.go:87", #[⟨2, .data⟩], none⟩
def s4r12Op4 : Oper := ⟨some 38, .convert 5 3 (.tmp 37), 3, "law.go:87", #[⟨3, .data⟩], none⟩
def s4r12Op5 : Oper := ⟨some 39, .move (.tmp 11), 3, "law.go:87", #[], none⟩
def s4r12Op6 : Oper := ⟨some 40, .indexAddr 22 (.tmp 8) (.tmp 39), 0, "law.go:87", #[⟨5, .data⟩], none⟩
def s4r12Op7 : Oper := ⟨some 41, .load 5 (.tmp 40), 5, "law.go:87", #[⟨6, .data⟩], none⟩
def s4r12Op8 : Oper := ⟨some 42, .convert 5 3 (.tmp 41), 3, "law.go:87", #[⟨7, .data⟩], none⟩
def s4r12Op9 : Oper := ⟨some 43, .binOp .add 3 (.tmp 38) (.tmp 42) 3, 3, "law.go:87", #[⟨4, .data⟩, ⟨8, .data⟩], none⟩
def s4r12Op10 : Oper := ⟨some 44, .move (.tmp 10), 3, "law.go:87", #[], none⟩
def s4r12Op11 : Oper := ⟨some 45, .binOp .add 3 (.tmp 43) (.tmp 44) 3, 3, "law.go:87", #[⟨9, .data⟩, ⟨10, .data⟩], none⟩
def s4r12Op12 : Oper := ⟨some 12, .assign (.tmp 45), 3, "law.go:87", #[⟨11, .data⟩, ⟨0, .phase⟩, ⟨1, .phase⟩, ⟨2, .phase⟩, ⟨3, .phase⟩, ⟨4, .phase⟩, ⟨5, .phase⟩, ⟨6, .phase⟩, ⟨7, .phase⟩, ⟨8, .phase⟩, ⟨9, .phase⟩, ⟨10, .phase⟩, ⟨11, .phase⟩], none⟩
def s4r12Ops : Array Oper := #[s4r12Op0, s4r12Op1, s4r12Op2, s4r12Op3, s4r12Op4, s4r12Op5, s4r12Op6, s4r12Op7, s4r12Op8, s4r12Op9, s4r12Op10, s4r12Op11, s4r12Op12]
set_option maxHeartbeats 2000000 in
theorem s4r12_r {Q : Exit → Act → World → Prop} {u w : World} {L : List Row} {z0 z1 z2 z3 z4 z5 z6 z9 z12 z13 z14 z15 z16 z17 z18 z19 z20 z21 z22 z23 z24 z25 z26 z27 z28 z29 z30 z31 z32 z33 z34 z35 z36 z37 z38 z39 z40 z41 z42 z43 z44 z45 : Value} {zz : List Value} {b7 b8 : Nat} {c7 c8 : Array Value} {k c g35 j36 g37 g38 j40 g41 g42 g43 g45 : Nat} (hQ : ∀ c a w n v, Q (.panic c) (a.put (some n) v) w → Q (.panic c) a w) (hO : Own u w L) (i7 : Nat) (h7 : L[i7]? = some (b7, c7, 28)) (i8 : Nat) (h8 : L[i8]? = some (b8, c8, 22)) (k35 : ∀ (a : Act) (w : World), a.eval (.tmp 34) = .int .i64 ((k : Nat) : Int) → (execOp a.eval s4r12Op1).run Tryd.prog w = .ok (.value (.int .i64 ((g35 : Nat) : Int))) w) (k36 : ∀ (a : Act) (w : World), a.eval (.tmp 35) = .int .i64 ((g35 : Nat) : Int) → a.eval (.tmp 7) = .pointer (some ⟨b7, 0, none⟩) → (execOp a.eval s4r12Op2).run Tryd.prog w = .ok (.value (.pointer (some ⟨b7, j36, none⟩))) w) (v37 : c7[j36]? = some (.int .u8 ((g37 : Nat) : Int))) (k38 : ∀ (a : Act) (w : World), a.eval (.tmp 37) = .int .u8 ((g37 : Nat) : Int) → (execOp a.eval s4r12Op4).run Tryd.prog w = .ok (.value (.int .i64 ((g38 : Nat) : Int))) w) (k40 : ∀ (a : Act) (w : World), a.eval (.tmp 39) = .int .i64 ((k : Nat) : Int) → a.eval (.tmp 8) = .pointer (some ⟨b8, 0, none⟩) → (execOp a.eval s4r12Op6).run Tryd.prog w = .ok (.value (.pointer (some ⟨b8, j40, none⟩))) w) (v41 : c8[j40]? = some (.int .u8 ((g41 : Nat) : Int))) (k42 : ∀ (a : Act) (w : World), a.eval (.tmp 41) = .int .u8 ((g41 : Nat) : Int) → (execOp a.eval s4r12Op8).run Tryd.prog w = .ok (.value (.int .i64 ((g42 : Nat) : Int))) w) (k43 : ∀ (a : Act) (w : World), a.eval (.tmp 38) = .int .i64 ((g38 : Nat) : Int) → a.eval (.tmp 42) = .int .i64 ((g42 : Nat) : Int) → (execOp a.eval s4r12Op9).run Tryd.prog w = .ok (.value (.int .i64 ((g43 : Nat) : Int))) w) (k45 : ∀ (a : Act) (w : World), a.eval (.tmp 43) = .int .i64 ((g43 : Nat) : Int) → a.eval (.tmp 44) = .int .i64 ((c : Nat) : Int) → (execOp a.eval s4r12Op11).run Tryd.prog w = .ok (.value (.int .i64 ((g45 : Nat) : Int))) w) (H : ∀ (w' : World), Own u w' (L) → Q .normal { tmps := List.toArray (z0 :: z1 :: z2 :: z3 :: z4 :: z5 :: z6 :: (.pointer (some ⟨b7, 0, none⟩)) :: (.pointer (some ⟨b8, 0, none⟩)) :: z9 :: (.int .i64 ((c : Nat) : Int)) :: (.int .i64 ((k : Nat) : Int)) :: (.int .i64 ((g45 : Nat) : Int)) :: z13 :: z14 :: z15 :: z16 :: z17 :: z18 :: z19 :: z20 :: z21 :: z22 :: z23 :: z24 :: z25 :: z26 :: z27 :: z28 :: z29 :: z30 :: z31 :: z32 :: z33 :: (.int .i64 ((k : Nat) : Int)) :: (.int .i64 ((g35 : Nat) : Int)) :: (.pointer (some ⟨b7, j36, none⟩)) :: (.int .u8 ((g37 : Nat) : Int)) :: (.int .i64 ((g38 : Nat) : Int)) :: (.int .i64 ((k : Nat) : Int)) :: (.pointer (some ⟨b8, j40, none⟩)) :: (.int .u8 ((g41 : Nat) : Int)) :: (.int .i64 ((g42 : Nat) : Int)) :: (.int .i64 ((g43 : Nat) : Int)) :: (.int .i64 ((c : Nat) : Int)) :: (.int .i64 ((g45 : Nat) : Int)) :: zz), defers := [] } w') :
    (Code.region 12 s4r12Ops true).wp Tryd.prog Q { tmps := List.toArray (z0 :: z1 :: z2 :: z3 :: z4 :: z5 :: z6 :: (.pointer (some ⟨b7, 0, none⟩)) :: (.pointer (some ⟨b8, 0, none⟩)) :: z9 :: (.int .i64 ((c : Nat) : Int)) :: (.int .i64 ((k : Nat) : Int)) :: z12 :: z13 :: z14 :: z15 :: z16 :: z17 :: z18 :: z19 :: z20 :: z21 :: z22 :: z23 :: z24 :: z25 :: z26 :: z27 :: z28 :: z29 :: z30 :: z31 :: z32 :: z33 :: z34 :: z35 :: z36 :: z37 :: z38 :: z39 :: z40 :: z41 :: z42 :: z43 :: z44 :: z45 :: zz), defers := [] } w := by
  refine wp_region_held_drew (S := Has [(b7, c7, 28), (b8, c8, 22)]) (by kernel_rfl) ⟨hO.drew.row _ h7, hO.drew.row _ h8, trivial⟩ (fun hS => ?_)
  replace hO := hO.drew
  refine d_tk 0 s4r12Op0 (.int .i64 ((k : Nat) : Int)) hQ (y_val (fun _ => by kernel_rfl)) hS ?_
  refine d_tk 1 s4r12Op1 (.int .i64 ((g35 : Nat) : Int)) hQ (y_val (fun _ => k35 _ _ (by kernel_rfl))) hS ?_
  refine d_tk 2 s4r12Op2 (.pointer (some ⟨b7, j36, none⟩)) hQ (y_val (fun _ => k36 _ _ (by kernel_rfl) (by kernel_rfl))) hS ?_
  refine d_fr (ls 13 7) (Fr [z0, z1, z2, z3, z4, z5, z6, D b7, D b8, z9, .int .i64 ((c : Nat) : Int), .int .i64 ((k : Nat) : Int), z12, z13, z14, z15, z16, z17, z18, z19, z20, z21, z22, z23, z24, z25, z26, z27, z28, z29, z30, z31, z32, z33, .int .i64 ((k : Nat) : Int), .int .i64 ((g35 : Nat) : Int), .pointer (some ⟨b7, j36, none⟩), z37, z38, z39, z40, z41, z42, z43, z44, z45] zz) ?_
  refine d_tk 3 s4r12Op3 (.int .u8 ((g37 : Nat) : Int)) hQ (y_c8 (fun _ h => h.1) v37) hS ?_
  refine d_tk 4 s4r12Op4 (.int .i64 ((g38 : Nat) : Int)) hQ (y_val (fun _ => k38 _ _ (by kernel_rfl))) hS ?_
  refine d_tk 5 s4r12Op5 (.int .i64 ((k : Nat) : Int)) hQ (y_val (fun _ => by kernel_rfl)) hS ?_
  refine d_fr (ls 13 63) (Fr [z0, z1, z2, z3, z4, z5, z6, D b7, D b8, z9, .int .i64 ((c : Nat) : Int), .int .i64 ((k : Nat) : Int), z12, z13, z14, z15, z16, z17, z18, z19, z20, z21, z22, z23, z24, z25, z26, z27, z28, z29, z30, z31, z32, z33, .int .i64 ((k : Nat) : Int), .int .i64 ((g35 : Nat) : Int), .pointer (some ⟨b7, j36, none⟩), .int .u8 ((g37 : Nat) : Int), .int .i64 ((g38 : Nat) : Int), .int .i64 ((k : Nat) : Int), z40, z41, z42, z43, z44, z45] zz) ?_
  refine d_tk 6 s4r12Op6 (.pointer (some ⟨b8, j40, none⟩)) hQ (y_val (fun _ => k40 _ _ (by kernel_rfl) (by kernel_rfl))) hS ?_
  refine d_tk 7 s4r12Op7 (.int .u8 ((g41 : Nat) : Int)) hQ (y_c8 (fun _ h => h.2.1) v41) hS ?_
  refine d_tk 8 s4r12Op8 (.int .i64 ((g42 : Nat) : Int)) hQ (y_val (fun _ => k42 _ _ (by kernel_rfl))) hS ?_
  refine d_fr (ls 13 511) (Fr [z0, z1, z2, z3, z4, z5, z6, D b7, D b8, z9, .int .i64 ((c : Nat) : Int), .int .i64 ((k : Nat) : Int), z12, z13, z14, z15, z16, z17, z18, z19, z20, z21, z22, z23, z24, z25, z26, z27, z28, z29, z30, z31, z32, z33, .int .i64 ((k : Nat) : Int), .int .i64 ((g35 : Nat) : Int), .pointer (some ⟨b7, j36, none⟩), .int .u8 ((g37 : Nat) : Int), .int .i64 ((g38 : Nat) : Int), .int .i64 ((k : Nat) : Int), .pointer (some ⟨b8, j40, none⟩), .int .u8 ((g41 : Nat) : Int), .int .i64 ((g42 : Nat) : Int), z43, z44, z45] zz) ?_
  refine d_tk 9 s4r12Op9 (.int .i64 ((g43 : Nat) : Int)) hQ (y_val (fun _ => k43 _ _ (by kernel_rfl) (by kernel_rfl))) hS ?_
  refine d_tk 10 s4r12Op10 (.int .i64 ((c : Nat) : Int)) hQ (y_val (fun _ => by kernel_rfl)) hS ?_
  refine d_tk 11 s4r12Op11 (.int .i64 ((g45 : Nat) : Int)) hQ (y_val (fun _ => k45 _ _ (by kernel_rfl) (by kernel_rfl))) hS ?_
  refine d_fr (ls 13 4095) (Fr [z0, z1, z2, z3, z4, z5, z6, D b7, D b8, z9, .int .i64 ((c : Nat) : Int), .int .i64 ((k : Nat) : Int), z12, z13, z14, z15, z16, z17, z18, z19, z20, z21, z22, z23, z24, z25, z26, z27, z28, z29, z30, z31, z32, z33, .int .i64 ((k : Nat) : Int), .int .i64 ((g35 : Nat) : Int), .pointer (some ⟨b7, j36, none⟩), .int .u8 ((g37 : Nat) : Int), .int .i64 ((g38 : Nat) : Int), .int .i64 ((k : Nat) : Int), .pointer (some ⟨b8, j40, none⟩), .int .u8 ((g41 : Nat) : Int), .int .i64 ((g42 : Nat) : Int), .int .i64 ((g43 : Nat) : Int), .int .i64 ((c : Nat) : Int), .int .i64 ((g45 : Nat) : Int)] zz) ?_
  refine d_tk 12 s4r12Op12 (.int .i64 ((g45 : Nat) : Int)) hQ (y_val (fun _ => by kernel_rfl)) hS ?_
  refine d_fr (ls 13 8191) (Fr [z0, z1, z2, z3, z4, z5, z6, D b7, D b8, z9, .int .i64 ((c : Nat) : Int), .int .i64 ((k : Nat) : Int), .int .i64 ((g45 : Nat) : Int), z13, z14, z15, z16, z17, z18, z19, z20, z21, z22, z23, z24, z25, z26, z27, z28, z29, z30, z31, z32, z33, .int .i64 ((k : Nat) : Int), .int .i64 ((g35 : Nat) : Int), .pointer (some ⟨b7, j36, none⟩), .int .u8 ((g37 : Nat) : Int), .int .i64 ((g38 : Nat) : Int), .int .i64 ((k : Nat) : Int), .pointer (some ⟨b8, j40, none⟩), .int .u8 ((g41 : Nat) : Int), .int .i64 ((g42 : Nat) : Int), .int .i64 ((g43 : Nat) : Int), .int .i64 ((c : Nat) : Int), .int .i64 ((g45 : Nat) : Int)] zz) ?_
  exact wpAnyH_done (by kernel_rfl) (H  _ hO) _
def s4r13Op0 : Oper := ⟨some 46, .move (.tmp 11), 3, "law.go:88", #[], none⟩
def s4r13Op1 : Oper := ⟨some 47, .binOp .add 3 (.const (.int .i64 32)) (.tmp 46) 3, 3, "law.go:88", #[⟨0, .data⟩], none⟩
def s4r13Op2 : Oper := ⟨some 48, .move (.tmp 12), 3, "law.go:88", #[], none⟩
def s4r13Op3 : Oper := ⟨some 49, .binOp .rem 3 (.tmp 48) (.const (.int .i64 256)) 3, 3, "law.go:88", #[⟨2, .data⟩], none⟩
def s4r13Op4 : Oper := ⟨some 50, .convert 3 5 (.tmp 49), 5, "law.go:88", #[⟨3, .data⟩], none⟩
def s4r13Op5 : Oper := ⟨some 51, .indexAddr 28 (.tmp 9) (.tmp 47), 0, "law.go:88", #[⟨1, .data⟩, ⟨0, .phase⟩, ⟨1, .phase⟩, ⟨2, .phase⟩, ⟨3, .phase⟩, ⟨4, .phase⟩], none⟩
def s4r13Op6 : Oper := ⟨none, .store 5 (.tmp 51) (.tmp 50), 0, "law.go:88", #[⟨5, .data⟩, ⟨4, .data⟩, ⟨0, .phase⟩, ⟨1, .phase⟩, ⟨2, .phase⟩, ⟨3, .phase⟩, ⟨4, .phase⟩], none⟩
def s4r13Ops : Array Oper := #[s4r13Op0, s4r13Op1, s4r13Op2, s4r13Op3, s4r13Op4, s4r13Op5, s4r13Op6]
set_option maxHeartbeats 2000000 in
theorem s4r13_r {Q : Exit → Act → World → Prop} {u w : World} {L : List Row} {z0 z1 z2 z3 z4 z5 z6 z7 z8 z10 z13 z14 z15 z16 z17 z18 z19 z20 z21 z22 z23 z24 z25 z26 z27 z28 z29 z30 z31 z32 z33 z34 z35 z36 z37 z38 z39 z40 z41 z42 z43 z44 z45 z46 z47 z48 z49 z50 z51 : Value} {zz : List Value} {b9 : Nat} {c9 : Array Value} {e906 : Array Value} {k n g47 g49 g50 j51 g906 : Nat} (hO : Own u w L) (i9 : Nat) (h9 : L[i9]? = some (b9, c9, 28)) (k47 : ∀ (a : Act) (w : World), a.eval (.tmp 46) = .int .i64 ((k : Nat) : Int) → (execOp a.eval s4r13Op1).run Tryd.prog w = .ok (.value (.int .i64 ((g47 : Nat) : Int))) w) (k49 : ∀ (a : Act) (w : World), a.eval (.tmp 48) = .int .i64 ((n : Nat) : Int) → (execOp a.eval s4r13Op3).run Tryd.prog w = .ok (.value (.int .i64 ((g49 : Nat) : Int))) w) (k50 : ∀ (a : Act) (w : World), a.eval (.tmp 49) = .int .i64 ((g49 : Nat) : Int) → (execOp a.eval s4r13Op4).run Tryd.prog w = .ok (.value (.int .u8 ((g50 : Nat) : Int))) w) (k51 : ∀ (a : Act) (w : World), a.eval (.tmp 47) = .int .i64 ((g47 : Nat) : Int) → a.eval (.tmp 9) = .pointer (some ⟨b9, 0, none⟩) → (execOp a.eval s4r13Op5).run Tryd.prog w = .ok (.value (.pointer (some ⟨b9, j51, none⟩))) w) (v906 : c9[j51]? = some (.int .u8 ((g906 : Nat) : Int))) (s6 : c9.setIfInBounds j51 (.int .u8 ((g50 : Nat) : Int)) = e906) (fe906_28 : Fit 28 e906) (H : ∀ (w' : World), Own u w' ((L.set i9 (b9, e906, 28))) → Q .normal { tmps := List.toArray (z0 :: z1 :: z2 :: z3 :: z4 :: z5 :: z6 :: z7 :: z8 :: (.pointer (some ⟨b9, 0, none⟩)) :: z10 :: (.int .i64 ((k : Nat) : Int)) :: (.int .i64 ((n : Nat) : Int)) :: z13 :: z14 :: z15 :: z16 :: z17 :: z18 :: z19 :: z20 :: z21 :: z22 :: z23 :: z24 :: z25 :: z26 :: z27 :: z28 :: z29 :: z30 :: z31 :: z32 :: z33 :: z34 :: z35 :: z36 :: z37 :: z38 :: z39 :: z40 :: z41 :: z42 :: z43 :: z44 :: z45 :: (.int .i64 ((k : Nat) : Int)) :: (.int .i64 ((g47 : Nat) : Int)) :: (.int .i64 ((n : Nat) : Int)) :: (.int .i64 ((g49 : Nat) : Int)) :: (.int .u8 ((g50 : Nat) : Int)) :: (.pointer (some ⟨b9, j51, none⟩)) :: zz), defers := [] } w') :
    (Code.region 13 s4r13Ops false).wp Tryd.prog Q { tmps := List.toArray (z0 :: z1 :: z2 :: z3 :: z4 :: z5 :: z6 :: z7 :: z8 :: (.pointer (some ⟨b9, 0, none⟩)) :: z10 :: (.int .i64 ((k : Nat) : Int)) :: (.int .i64 ((n : Nat) : Int)) :: z13 :: z14 :: z15 :: z16 :: z17 :: z18 :: z19 :: z20 :: z21 :: z22 :: z23 :: z24 :: z25 :: z26 :: z27 :: z28 :: z29 :: z30 :: z31 :: z32 :: z33 :: z34 :: z35 :: z36 :: z37 :: z38 :: z39 :: z40 :: z41 :: z42 :: z43 :: z44 :: z45 :: z46 :: z47 :: z48 :: z49 :: z50 :: z51 :: zz), defers := [] } w := by
  refine wp_region_list (show wpList _ s4r13Ops _ [s4r13Op0, s4r13Op1, s4r13Op2, s4r13Op3, s4r13Op4, s4r13Op5, s4r13Op6] _ _ from ?_)
  refine l_val (.int .i64 ((k : Nat) : Int)) (by kernel_rfl) ?_
  refine l_val (.int .i64 ((g47 : Nat) : Int)) (k47 _ _ (by kernel_rfl)) ?_
  refine l_val (.int .i64 ((n : Nat) : Int)) (by kernel_rfl) ?_
  refine l_fr (Fr [z0, z1, z2, z3, z4, z5, z6, z7, z8, D b9, z10, .int .i64 ((k : Nat) : Int), .int .i64 ((n : Nat) : Int), z13, z14, z15, z16, z17, z18, z19, z20, z21, z22, z23, z24, z25, z26, z27, z28, z29, z30, z31, z32, z33, z34, z35, z36, z37, z38, z39, z40, z41, z42, z43, z44, z45, .int .i64 ((k : Nat) : Int), .int .i64 ((g47 : Nat) : Int), .int .i64 ((n : Nat) : Int), z49, z50, z51] zz) ?_
  refine l_val (.int .i64 ((g49 : Nat) : Int)) (k49 _ _ (by kernel_rfl)) ?_
  refine l_val (.int .u8 ((g50 : Nat) : Int)) (k50 _ _ (by kernel_rfl)) ?_
  refine l_val (.pointer (some ⟨b9, j51, none⟩)) (k51 _ _ (by kernel_rfl) (by kernel_rfl)) ?_
  refine l_fr (Fr [z0, z1, z2, z3, z4, z5, z6, z7, z8, D b9, z10, .int .i64 ((k : Nat) : Int), .int .i64 ((n : Nat) : Int), z13, z14, z15, z16, z17, z18, z19, z20, z21, z22, z23, z24, z25, z26, z27, z28, z29, z30, z31, z32, z33, z34, z35, z36, z37, z38, z39, z40, z41, z42, z43, z44, z45, .int .i64 ((k : Nat) : Int), .int .i64 ((g47 : Nat) : Int), .int .i64 ((n : Nat) : Int), .int .i64 ((g49 : Nat) : Int), .int .u8 ((g50 : Nat) : Int), .pointer (some ⟨b9, j51, none⟩)] zz) ?_
  refine l_stc hO i9 h9 g50 v906 s6 fe906_28 ?_
  intro w1 hO
  exact l_fr _ (wpList_nil (H  _ hO))
def s4r14Op0 : Oper := ⟨some 52, .move (.tmp 12), 3, "law.go:89", #[], none⟩
def s4r14Op1 : Oper := ⟨some 53, .binOp .quo 3 (.tmp 52) (.const (.int .i64 256)) 3, 3, "law.go:89", #[⟨0, .data⟩], none⟩
def s4r14Op2 : Oper := ⟨some 10, .assign (.tmp 53), 3, "law.go:89", #[⟨1, .data⟩, ⟨0, .phase⟩, ⟨1, .phase⟩], none⟩
def s4r14Ops : Array Oper := #[s4r14Op0, s4r14Op1, s4r14Op2]
set_option maxHeartbeats 2000000 in
theorem s4r14_r {Q : Exit → Act → World → Prop} {u w : World} {L : List Row} {z0 z1 z2 z3 z4 z5 z6 z7 z8 z9 z10 z11 z13 z14 z15 z16 z17 z18 z19 z20 z21 z22 z23 z24 z25 z26 z27 z28 z29 z30 z31 z32 z33 z34 z35 z36 z37 z38 z39 z40 z41 z42 z43 z44 z45 z46 z47 z48 z49 z50 z51 z52 z53 : Value} {zz : List Value} {n g53 : Nat} (hO : Own u w L) (k53 : ∀ (a : Act) (w : World), a.eval (.tmp 52) = .int .i64 ((n : Nat) : Int) → (execOp a.eval s4r14Op1).run Tryd.prog w = .ok (.value (.int .i64 ((g53 : Nat) : Int))) w) (H : ∀ (w' : World), Own u w' (L) → Q .normal { tmps := List.toArray (z0 :: z1 :: z2 :: z3 :: z4 :: z5 :: z6 :: z7 :: z8 :: z9 :: (.int .i64 ((g53 : Nat) : Int)) :: z11 :: (.int .i64 ((n : Nat) : Int)) :: z13 :: z14 :: z15 :: z16 :: z17 :: z18 :: z19 :: z20 :: z21 :: z22 :: z23 :: z24 :: z25 :: z26 :: z27 :: z28 :: z29 :: z30 :: z31 :: z32 :: z33 :: z34 :: z35 :: z36 :: z37 :: z38 :: z39 :: z40 :: z41 :: z42 :: z43 :: z44 :: z45 :: z46 :: z47 :: z48 :: z49 :: z50 :: z51 :: (.int .i64 ((n : Nat) : Int)) :: (.int .i64 ((g53 : Nat) : Int)) :: zz), defers := [] } w') :
    (Code.region 14 s4r14Ops false).wp Tryd.prog Q { tmps := List.toArray (z0 :: z1 :: z2 :: z3 :: z4 :: z5 :: z6 :: z7 :: z8 :: z9 :: z10 :: z11 :: (.int .i64 ((n : Nat) : Int)) :: z13 :: z14 :: z15 :: z16 :: z17 :: z18 :: z19 :: z20 :: z21 :: z22 :: z23 :: z24 :: z25 :: z26 :: z27 :: z28 :: z29 :: z30 :: z31 :: z32 :: z33 :: z34 :: z35 :: z36 :: z37 :: z38 :: z39 :: z40 :: z41 :: z42 :: z43 :: z44 :: z45 :: z46 :: z47 :: z48 :: z49 :: z50 :: z51 :: z52 :: z53 :: zz), defers := [] } w := by
  refine wp_region_list (show wpList _ s4r14Ops _ [s4r14Op0, s4r14Op1, s4r14Op2] _ _ from ?_)
  refine l_val (.int .i64 ((n : Nat) : Int)) (by kernel_rfl) ?_
  refine l_val (.int .i64 ((g53 : Nat) : Int)) (k53 _ _ (by kernel_rfl)) ?_
  refine l_val (.int .i64 ((g53 : Nat) : Int)) (by kernel_rfl) ?_
  exact l_fr _ (wpList_nil (H  _ hO))
def s4r15Op0 : Oper := ⟨some 54, .load 28 (.tmp 7), 28, "law.go:91", #[], none⟩
def s4r15Op1 : Oper := ⟨some 13, .alloc 28, 0, "law.go:91", #[], none⟩
def s4r15Op2 : Oper := ⟨none, .store 28 (.tmp 13) (.tmp 54), 0, "law.go:91", #[⟨1, .data⟩, ⟨0, .data⟩, ⟨0, .phase⟩, ⟨1, .phase⟩], none⟩
def s4r15Ops : Array Oper := #[s4r15Op0, s4r15Op1, s4r15Op2]
set_option maxHeartbeats 2000000 in
theorem s4r15_r {Q : Exit → Act → World → Prop} {u w : World} {L : List Row} {z0 z1 z2 z3 z4 z5 z6 z8 z9 z10 z11 z12 z13 z14 z15 z16 z17 z18 z19 z20 z21 z22 z23 z24 z25 z26 z27 z28 z29 z30 z31 z32 z33 z34 z35 z36 z37 z38 z39 z40 z41 z42 z43 z44 z45 z46 z47 z48 z49 z50 z51 z52 z53 z54 : Value} {zz : List Value} {b7 : Nat} {c7 : Array Value} (hO : Own u w L) (i7 : Nat) (h7 : L[i7]? = some (b7, c7, 28)) (H : ∀ (n13 : Nat) (w' : World), Own u w' ((n13, c7, 28) :: L) → Q .normal { tmps := List.toArray (z0 :: z1 :: z2 :: z3 :: z4 :: z5 :: z6 :: (.pointer (some ⟨b7, 0, none⟩)) :: z8 :: z9 :: z10 :: z11 :: z12 :: (.pointer (some ⟨n13, 0, none⟩)) :: z14 :: z15 :: z16 :: z17 :: z18 :: z19 :: z20 :: z21 :: z22 :: z23 :: z24 :: z25 :: z26 :: z27 :: z28 :: z29 :: z30 :: z31 :: z32 :: z33 :: z34 :: z35 :: z36 :: z37 :: z38 :: z39 :: z40 :: z41 :: z42 :: z43 :: z44 :: z45 :: z46 :: z47 :: z48 :: z49 :: z50 :: z51 :: z52 :: z53 :: (.agg c7) :: zz), defers := [] } w') :
    (Code.region 15 s4r15Ops false).wp Tryd.prog Q { tmps := List.toArray (z0 :: z1 :: z2 :: z3 :: z4 :: z5 :: z6 :: (.pointer (some ⟨b7, 0, none⟩)) :: z8 :: z9 :: z10 :: z11 :: z12 :: z13 :: z14 :: z15 :: z16 :: z17 :: z18 :: z19 :: z20 :: z21 :: z22 :: z23 :: z24 :: z25 :: z26 :: z27 :: z28 :: z29 :: z30 :: z31 :: z32 :: z33 :: z34 :: z35 :: z36 :: z37 :: z38 :: z39 :: z40 :: z41 :: z42 :: z43 :: z44 :: z45 :: z46 :: z47 :: z48 :: z49 :: z50 :: z51 :: z52 :: z53 :: z54 :: zz), defers := [] } w := by
  refine wp_region_list (show wpList _ s4r15Ops _ [s4r15Op0, s4r15Op1, s4r15Op2] _ _ from ?_)
  have fc7_28 := hO.fits i7 h7
  refine l_ld hO 28 i7 h7 Tryd.underlying28 ?_
  refine l_new hO (vals .u8 64 (fun _ => 0)) 28 (alb6 rfl) (fit_b6 _) ?_
  intro n13 w1 hO
  refine l_st hO 28 0 rfl c7 fc7_28 ?_
  intro w2 hO
  exact l_fr _ (wpList_nil (H n13 _ hO))
def s4r19Op0 : Oper := ⟨some 59, .move (.tmp 14), 3, "law.go:93", #[], none⟩
def s4r19Op1 : Oper := ⟨some 60, .indexAddr 28 (.tmp 13) (.tmp 59), 0, "law.go:93", #[⟨0, .data⟩, ⟨0, .phase⟩], none⟩
def s4r19Op2 : Oper := ⟨none, .store 5 (.tmp 60) (.const (.int .u8 0)), 0, "law.go:93", #[⟨1, .data⟩, ⟨0, .phase⟩], none⟩
def s4r19Ops : Array Oper := #[s4r19Op0, s4r19Op1, s4r19Op2]
set_option maxHeartbeats 2000000 in
theorem s4r19_r {Q : Exit → Act → World → Prop} {u w : World} {L : List Row} {z0 z1 z2 z3 z4 z5 z6 z7 z8 z9 z10 z11 z12 z15 z16 z17 z18 z19 z20 z21 z22 z23 z24 z25 z26 z27 z28 z29 z30 z31 z32 z33 z34 z35 z36 z37 z38 z39 z40 z41 z42 z43 z44 z45 z46 z47 z48 z49 z50 z51 z52 z53 z54 z55 z56 z57 z58 z59 z60 : Value} {zz : List Value} {b13 : Nat} {c13 : Array Value} {e902 : Array Value} {k j60 g902 : Nat} (hO : Own u w L) (i13 : Nat) (h13 : L[i13]? = some (b13, c13, 28)) (k60 : ∀ (a : Act) (w : World), a.eval (.tmp 59) = .int .i64 ((k : Nat) : Int) → a.eval (.tmp 13) = .pointer (some ⟨b13, 0, none⟩) → (execOp a.eval s4r19Op1).run Tryd.prog w = .ok (.value (.pointer (some ⟨b13, j60, none⟩))) w) (v902 : c13[j60]? = some (.int .u8 ((g902 : Nat) : Int))) (s2 : c13.setIfInBounds j60 (.int .u8 ((0 : Nat) : Int)) = e902) (fe902_28 : Fit 28 e902) (H : ∀ (w' : World), Own u w' ((L.set i13 (b13, e902, 28))) → Q .normal { tmps := List.toArray (z0 :: z1 :: z2 :: z3 :: z4 :: z5 :: z6 :: z7 :: z8 :: z9 :: z10 :: z11 :: z12 :: (.pointer (some ⟨b13, 0, none⟩)) :: (.int .i64 ((k : Nat) : Int)) :: z15 :: z16 :: z17 :: z18 :: z19 :: z20 :: z21 :: z22 :: z23 :: z24 :: z25 :: z26 :: z27 :: z28 :: z29 :: z30 :: z31 :: z32 :: z33 :: z34 :: z35 :: z36 :: z37 :: z38 :: z39 :: z40 :: z41 :: z42 :: z43 :: z44 :: z45 :: z46 :: z47 :: z48 :: z49 :: z50 :: z51 :: z52 :: z53 :: z54 :: z55 :: z56 :: z57 :: z58 :: (.int .i64 ((k : Nat) : Int)) :: (.pointer (some ⟨b13, j60, none⟩)) :: zz), defers := [] } w') :
    (Code.region 19 s4r19Ops false).wp Tryd.prog Q { tmps := List.toArray (z0 :: z1 :: z2 :: z3 :: z4 :: z5 :: z6 :: z7 :: z8 :: z9 :: z10 :: z11 :: z12 :: (.pointer (some ⟨b13, 0, none⟩)) :: (.int .i64 ((k : Nat) : Int)) :: z15 :: z16 :: z17 :: z18 :: z19 :: z20 :: z21 :: z22 :: z23 :: z24 :: z25 :: z26 :: z27 :: z28 :: z29 :: z30 :: z31 :: z32 :: z33 :: z34 :: z35 :: z36 :: z37 :: z38 :: z39 :: z40 :: z41 :: z42 :: z43 :: z44 :: z45 :: z46 :: z47 :: z48 :: z49 :: z50 :: z51 :: z52 :: z53 :: z54 :: z55 :: z56 :: z57 :: z58 :: z59 :: z60 :: zz), defers := [] } w := by
  refine wp_region_list (show wpList _ s4r19Ops _ [s4r19Op0, s4r19Op1, s4r19Op2] _ _ from ?_)
  refine l_val (.int .i64 ((k : Nat) : Int)) (by kernel_rfl) ?_
  refine l_val (.pointer (some ⟨b13, j60, none⟩)) (k60 _ _ (by kernel_rfl) (by kernel_rfl)) ?_
  refine l_stc hO i13 h13 0 v902 s2 fe902_28 ?_
  intro w1 hO
  exact l_fr _ (wpList_nil (H  _ hO))
def s4r20Op0 : Oper := ⟨some 61, .indexAddr 28 (.tmp 13) (.const (.int .i64 0)), 0, "law.go:95", #[], none⟩
def s4r20Op1 : Oper := ⟨none, .store 5 (.tmp 61) (.const (.int .u8 2)), 0, "law.go:95", #[⟨0, .data⟩], none⟩
def s4r20Ops : Array Oper := #[s4r20Op0, s4r20Op1]
set_option maxHeartbeats 2000000 in
theorem s4r20_r {Q : Exit → Act → World → Prop} {u w : World} {L : List Row} {z0 z1 z2 z3 z4 z5 z6 z7 z8 z9 z10 z11 z12 z14 z15 z16 z17 z18 z19 z20 z21 z22 z23 z24 z25 z26 z27 z28 z29 z30 z31 z32 z33 z34 z35 z36 z37 z38 z39 z40 z41 z42 z43 z44 z45 z46 z47 z48 z49 z50 z51 z52 z53 z54 z55 z56 z57 z58 z59 z60 z61 : Value} {zz : List Value} {b13 : Nat} {c13 : Array Value} {e901 : Array Value} {g901 : Nat} (hO : Own u w L) (i13 : Nat) (h13 : L[i13]? = some (b13, c13, 28)) (v901 : c13[0]? = some (.int .u8 ((g901 : Nat) : Int))) (s1 : c13.setIfInBounds 0 (.int .u8 ((2 : Nat) : Int)) = e901) (fe901_28 : Fit 28 e901) (H : ∀ (w' : World), Own u w' ((L.set i13 (b13, e901, 28))) → Q .normal { tmps := List.toArray (z0 :: z1 :: z2 :: z3 :: z4 :: z5 :: z6 :: z7 :: z8 :: z9 :: z10 :: z11 :: z12 :: (.pointer (some ⟨b13, 0, none⟩)) :: z14 :: z15 :: z16 :: z17 :: z18 :: z19 :: z20 :: z21 :: z22 :: z23 :: z24 :: z25 :: z26 :: z27 :: z28 :: z29 :: z30 :: z31 :: z32 :: z33 :: z34 :: z35 :: z36 :: z37 :: z38 :: z39 :: z40 :: z41 :: z42 :: z43 :: z44 :: z45 :: z46 :: z47 :: z48 :: z49 :: z50 :: z51 :: z52 :: z53 :: z54 :: z55 :: z56 :: z57 :: z58 :: z59 :: z60 :: (.pointer (some ⟨b13, 0, none⟩)) :: zz), defers := [] } w') :
    (Code.region 20 s4r20Ops false).wp Tryd.prog Q { tmps := List.toArray (z0 :: z1 :: z2 :: z3 :: z4 :: z5 :: z6 :: z7 :: z8 :: z9 :: z10 :: z11 :: z12 :: (.pointer (some ⟨b13, 0, none⟩)) :: z14 :: z15 :: z16 :: z17 :: z18 :: z19 :: z20 :: z21 :: z22 :: z23 :: z24 :: z25 :: z26 :: z27 :: z28 :: z29 :: z30 :: z31 :: z32 :: z33 :: z34 :: z35 :: z36 :: z37 :: z38 :: z39 :: z40 :: z41 :: z42 :: z43 :: z44 :: z45 :: z46 :: z47 :: z48 :: z49 :: z50 :: z51 :: z52 :: z53 :: z54 :: z55 :: z56 :: z57 :: z58 :: z59 :: z60 :: z61 :: zz), defers := [] } w := by
  refine wp_region_list (show wpList _ s4r20Ops _ [s4r20Op0, s4r20Op1] _ _ from ?_)
  refine l_val (.pointer (some ⟨b13, 0, none⟩)) (by kernel_rfl) ?_
  refine l_stc hO i13 h13 2 v901 s1 fe901_28 ?_
  intro w1 hO
  exact l_fr _ (wpList_nil (H  _ hO))
def s4r21Op0 : Oper := ⟨some 62, .build 22 #[], 22, "law.go:96", #[], none⟩
def s4r21Op1 : Oper := ⟨some 15, .alloc 22, 0, "law.go:96", #[], none⟩
def s4r21Op2 : Oper := ⟨none, .store 22 (.tmp 15) (.tmp 62), 0, "law.go:96", #[⟨1, .data⟩, ⟨0, .data⟩, ⟨0, .phase⟩, ⟨1, .phase⟩], none⟩
def s4r21Ops : Array Oper := #[s4r21Op0, s4r21Op1, s4r21Op2]
set_option maxHeartbeats 2000000 in
theorem s4r21_r {Q : Exit → Act → World → Prop} {u w : World} {L : List Row} {z0 z1 z2 z3 z4 z5 z6 z7 z8 z9 z10 z11 z12 z13 z14 z15 z16 z17 z18 z19 z20 z21 z22 z23 z24 z25 z26 z27 z28 z29 z30 z31 z32 z33 z34 z35 z36 z37 z38 z39 z40 z41 z42 z43 z44 z45 z46 z47 z48 z49 z50 z51 z52 z53 z54 z55 z56 z57 z58 z59 z60 z61 z62 : Value} {zz : List Value} {e62 : Array Value} (hO : Own u w L) (q62 : Tryd.prog.built 22 [] = some e62) (fe62_22 : Fit 22 e62) (H : ∀ (n15 : Nat) (w' : World), Own u w' ((n15, e62, 22) :: L) → Q .normal { tmps := List.toArray (z0 :: z1 :: z2 :: z3 :: z4 :: z5 :: z6 :: z7 :: z8 :: z9 :: z10 :: z11 :: z12 :: z13 :: z14 :: (.pointer (some ⟨n15, 0, none⟩)) :: z16 :: z17 :: z18 :: z19 :: z20 :: z21 :: z22 :: z23 :: z24 :: z25 :: z26 :: z27 :: z28 :: z29 :: z30 :: z31 :: z32 :: z33 :: z34 :: z35 :: z36 :: z37 :: z38 :: z39 :: z40 :: z41 :: z42 :: z43 :: z44 :: z45 :: z46 :: z47 :: z48 :: z49 :: z50 :: z51 :: z52 :: z53 :: z54 :: z55 :: z56 :: z57 :: z58 :: z59 :: z60 :: z61 :: (.agg e62) :: zz), defers := [] } w') :
    (Code.region 21 s4r21Ops false).wp Tryd.prog Q { tmps := List.toArray (z0 :: z1 :: z2 :: z3 :: z4 :: z5 :: z6 :: z7 :: z8 :: z9 :: z10 :: z11 :: z12 :: z13 :: z14 :: z15 :: z16 :: z17 :: z18 :: z19 :: z20 :: z21 :: z22 :: z23 :: z24 :: z25 :: z26 :: z27 :: z28 :: z29 :: z30 :: z31 :: z32 :: z33 :: z34 :: z35 :: z36 :: z37 :: z38 :: z39 :: z40 :: z41 :: z42 :: z43 :: z44 :: z45 :: z46 :: z47 :: z48 :: z49 :: z50 :: z51 :: z52 :: z53 :: z54 :: z55 :: z56 :: z57 :: z58 :: z59 :: z60 :: z61 :: z62 :: zz), defers := [] } w := by
  refine wp_region_list (show wpList _ s4r21Ops _ [s4r21Op0, s4r21Op1, s4r21Op2] _ _ from ?_)
  refine l_val (.agg e62) (run_bd 22 _ rfl [] (by kernel_rfl) e62 q62 _) ?_
  refine l_new hO (vals .u8 32 (fun _ => 0)) 22 (al22 rfl) (fit_by _) ?_
  intro n15 w1 hO
  refine l_st hO 22 0 rfl e62 fe62_22 ?_
  intro w2 hO
  exact l_fr _ (wpList_nil (H n15 _ hO))
def s4r25Op0 : Oper := ⟨some 67, .move (.tmp 16), 3, "law.go:98", #[], none⟩
def s4r25Op1 : Oper := ⟨some 68, .move (.tmp 16), 3, "law.go:98", #[], none⟩
def s4r25Op2 : Oper := ⟨some 69, .binOp .add 3 (.const (.int .i64 32)) (.tmp 68) 3, 3, "law.go:98", #[⟨1, .data⟩], none⟩
def s4r25Op3 : Oper := ⟨some 70, .indexAddr 28 (.tmp 7) (.tmp 69), 0, "law.go:98", #[⟨2, .data⟩], none⟩
def s4r25Op4 : Oper := ⟨some 71, .load 5 (.tmp 70), 5, "law.go:98", #[⟨3, .data⟩], none⟩
def s4r25Op5 : Oper := ⟨some 72, .indexAddr 22 (.tmp 15) (.tmp 67), 0, "law.go:98", #[⟨0, .data⟩, ⟨0, .phase⟩, ⟨1, .phase⟩, ⟨2, .phase⟩, ⟨3, .phase⟩, ⟨4, .phase⟩], none⟩
def s4r25Op6 : Oper := ⟨none, .store 5 (.tmp 72) (.tmp 71), 0, "law.go:98", #[⟨5, .data⟩, ⟨4, .data⟩, ⟨0, .phase⟩, ⟨1, .phase⟩, ⟨2, .phase⟩, ⟨3, .phase⟩, ⟨4, .phase⟩], none⟩
def s4r25Ops : Array Oper := #[s4r25Op0, s4r25Op1, s4r25Op2, s4r25Op3, s4r25Op4, s4r25Op5, s4r25Op6]
set_option maxHeartbeats 2000000 in
theorem s4r25_r {Q : Exit → Act → World → Prop} {u w : World} {L : List Row} {z0 z1 z2 z3 z4 z5 z6 z8 z9 z10 z11 z12 z13 z14 z17 z18 z19 z20 z21 z22 z23 z24 z25 z26 z27 z28 z29 z30 z31 z32 z33 z34 z35 z36 z37 z38 z39 z40 z41 z42 z43 z44 z45 z46 z47 z48 z49 z50 z51 z52 z53 z54 z55 z56 z57 z58 z59 z60 z61 z62 z63 z64 z65 z66 z67 z68 z69 z70 z71 z72 : Value} {zz : List Value} {b7 b15 : Nat} {c7 c15 : Array Value} {e906 : Array Value} {k g69 j70 g71 j72 g906 : Nat} (hO : Own u w L) (i7 : Nat) (h7 : L[i7]? = some (b7, c7, 28)) (i15 : Nat) (h15 : L[i15]? = some (b15, c15, 22)) (k69 : ∀ (a : Act) (w : World), a.eval (.tmp 68) = .int .i64 ((k : Nat) : Int) → (execOp a.eval s4r25Op2).run Tryd.prog w = .ok (.value (.int .i64 ((g69 : Nat) : Int))) w) (k70 : ∀ (a : Act) (w : World), a.eval (.tmp 69) = .int .i64 ((g69 : Nat) : Int) → a.eval (.tmp 7) = .pointer (some ⟨b7, 0, none⟩) → (execOp a.eval s4r25Op3).run Tryd.prog w = .ok (.value (.pointer (some ⟨b7, j70, none⟩))) w) (v71 : c7[j70]? = some (.int .u8 ((g71 : Nat) : Int))) (k72 : ∀ (a : Act) (w : World), a.eval (.tmp 67) = .int .i64 ((k : Nat) : Int) → a.eval (.tmp 15) = .pointer (some ⟨b15, 0, none⟩) → (execOp a.eval s4r25Op5).run Tryd.prog w = .ok (.value (.pointer (some ⟨b15, j72, none⟩))) w) (v906 : c15[j72]? = some (.int .u8 ((g906 : Nat) : Int))) (s6 : c15.setIfInBounds j72 (.int .u8 ((g71 : Nat) : Int)) = e906) (fe906_22 : Fit 22 e906) (H : ∀ (w' : World), Own u w' ((L.set i15 (b15, e906, 22))) → Q .normal { tmps := List.toArray (z0 :: z1 :: z2 :: z3 :: z4 :: z5 :: z6 :: (.pointer (some ⟨b7, 0, none⟩)) :: z8 :: z9 :: z10 :: z11 :: z12 :: z13 :: z14 :: (.pointer (some ⟨b15, 0, none⟩)) :: (.int .i64 ((k : Nat) : Int)) :: z17 :: z18 :: z19 :: z20 :: z21 :: z22 :: z23 :: z24 :: z25 :: z26 :: z27 :: z28 :: z29 :: z30 :: z31 :: z32 :: z33 :: z34 :: z35 :: z36 :: z37 :: z38 :: z39 :: z40 :: z41 :: z42 :: z43 :: z44 :: z45 :: z46 :: z47 :: z48 :: z49 :: z50 :: z51 :: z52 :: z53 :: z54 :: z55 :: z56 :: z57 :: z58 :: z59 :: z60 :: z61 :: z62 :: z63 :: z64 :: z65 :: z66 :: (.int .i64 ((k : Nat) : Int)) :: (.int .i64 ((k : Nat) : Int)) :: (.int .i64 ((g69 : Nat) : Int)) :: (.pointer (some ⟨b7, j70, none⟩)) :: (.int .u8 ((g71 : Nat) : Int)) :: (.pointer (some ⟨b15, j72, none⟩)) :: zz), defers := [] } w') :
    (Code.region 25 s4r25Ops false).wp Tryd.prog Q { tmps := List.toArray (z0 :: z1 :: z2 :: z3 :: z4 :: z5 :: z6 :: (.pointer (some ⟨b7, 0, none⟩)) :: z8 :: z9 :: z10 :: z11 :: z12 :: z13 :: z14 :: (.pointer (some ⟨b15, 0, none⟩)) :: (.int .i64 ((k : Nat) : Int)) :: z17 :: z18 :: z19 :: z20 :: z21 :: z22 :: z23 :: z24 :: z25 :: z26 :: z27 :: z28 :: z29 :: z30 :: z31 :: z32 :: z33 :: z34 :: z35 :: z36 :: z37 :: z38 :: z39 :: z40 :: z41 :: z42 :: z43 :: z44 :: z45 :: z46 :: z47 :: z48 :: z49 :: z50 :: z51 :: z52 :: z53 :: z54 :: z55 :: z56 :: z57 :: z58 :: z59 :: z60 :: z61 :: z62 :: z63 :: z64 :: z65 :: z66 :: z67 :: z68 :: z69 :: z70 :: z71 :: z72 :: zz), defers := [] } w := by
  refine wp_region_list (show wpList _ s4r25Ops _ [s4r25Op0, s4r25Op1, s4r25Op2, s4r25Op3, s4r25Op4, s4r25Op5, s4r25Op6] _ _ from ?_)
  refine l_val (.int .i64 ((k : Nat) : Int)) (by kernel_rfl) ?_
  refine l_val (.int .i64 ((k : Nat) : Int)) (by kernel_rfl) ?_
  refine l_val (.int .i64 ((g69 : Nat) : Int)) (k69 _ _ (by kernel_rfl)) ?_
  refine l_fr (Fr [z0, z1, z2, z3, z4, z5, z6, D b7, z8, z9, z10, z11, z12, z13, z14, D b15, .int .i64 ((k : Nat) : Int), z17, z18, z19, z20, z21, z22, z23, z24, z25, z26, z27, z28, z29, z30, z31, z32, z33, z34, z35, z36, z37, z38, z39, z40, z41, z42, z43, z44, z45, z46, z47, z48, z49, z50, z51, z52, z53, z54, z55, z56, z57, z58, z59, z60, z61, z62, z63, z64, z65, z66, .int .i64 ((k : Nat) : Int), .int .i64 ((k : Nat) : Int), .int .i64 ((g69 : Nat) : Int), z70, z71, z72] zz) ?_
  refine l_val (.pointer (some ⟨b7, j70, none⟩)) (k70 _ _ (by kernel_rfl) (by kernel_rfl)) ?_
  refine l_c8 hO i7 h7 v71 ?_
  refine l_val (.pointer (some ⟨b15, j72, none⟩)) (k72 _ _ (by kernel_rfl) (by kernel_rfl)) ?_
  refine l_fr (Fr [z0, z1, z2, z3, z4, z5, z6, D b7, z8, z9, z10, z11, z12, z13, z14, D b15, .int .i64 ((k : Nat) : Int), z17, z18, z19, z20, z21, z22, z23, z24, z25, z26, z27, z28, z29, z30, z31, z32, z33, z34, z35, z36, z37, z38, z39, z40, z41, z42, z43, z44, z45, z46, z47, z48, z49, z50, z51, z52, z53, z54, z55, z56, z57, z58, z59, z60, z61, z62, z63, z64, z65, z66, .int .i64 ((k : Nat) : Int), .int .i64 ((k : Nat) : Int), .int .i64 ((g69 : Nat) : Int), .pointer (some ⟨b7, j70, none⟩), .int .u8 ((g71 : Nat) : Int), .pointer (some ⟨b15, j72, none⟩)] zz) ?_
  refine l_stc hO i15 h15 g71 v906 s6 fe906_22 ?_
  intro w1 hO
  exact l_fr _ (wpList_nil (H  _ hO))
def s4r26Op0 : Oper := ⟨some 73, .move (.tmp 5), 4, "law.go:100", #[], none⟩
def s4r26Op1 : Oper := ⟨some 74, .move (.tmp 73), 4, "law.go:100", #[⟨0, .data⟩], none⟩
def s4r26Op2 : Oper := ⟨some 75, .move (.tmp 10), 3, "law.go:100", #[⟨1, .guard⟩], some (1, true)⟩
def s4r26Op3 : Oper := ⟨some 76, .binOp .eql 3 (.tmp 75) (.const (.int .i64 0)) 3, 4, "law.go:100", #[⟨2, .data⟩, ⟨1, .guard⟩], some (1, true)⟩
def s4r26Op4 : Oper := ⟨some 77, .pick (.tmp 74) (.tmp 76) (.const (.bool false)), 4, "law.go:100", #[⟨1, .data⟩, ⟨3, .data⟩], none⟩
def s4r26Op5 : Oper := ⟨some 78, .move (.tmp 77), 4, "law.go:100", #[⟨4, .data⟩, ⟨1, .chain⟩], none⟩
def s4r26Op6 : Oper := ⟨some 79, .load 22 (.tmp 6), 22, "law.go:100", #[⟨5, .guard⟩], some (5, true)⟩
def s4r26Op7 : Oper := ⟨some 80, .load 28 (.tmp 9), 28, "law.go:100", #[⟨5, .guard⟩], some (5, true)⟩
def s4r26Op8 : Oper := ⟨some 81, .move (.tmp 1), 23, "law.go:100", #[⟨5, .guard⟩], some (5, true)⟩
def s4r26Op9 : Oper := ⟨some 82, .buildSlice 26 1 #[(0, .tmp 81)], 26, "law.go:100", #[⟨8, .data⟩, ⟨5, .guard⟩], some (5, true)⟩
def s4r26Op10 : Oper := ⟨some 83, .call { callee := .value (.func 9), args := #[.tmp 79, .tmp 80, .tmp 82], argTypes := #[22, 28, 26] }, 4, "law.go:100", #[⟨6, .data⟩, ⟨7, .data⟩, ⟨9, .data⟩, ⟨5, .chain⟩, ⟨5, .guard⟩], some (5, true)⟩
def s4r26Op11 : Oper := ⟨some 84, .unOp .not 4 (.tmp 83), 4, "law.go:100", #[⟨10, .data⟩, ⟨5, .guard⟩], some (5, true)⟩
def s4r26Op12 : Oper := ⟨some 85, .pick (.tmp 78) (.tmp 84) (.const (.bool false)), 4, "law.go:100", #[⟨5, .data⟩, ⟨11, .data⟩], none⟩
def s4r26Op13 : Oper := ⟨some 86, .move (.tmp 85), 4, "law.go:100", #[⟨12, .data⟩, ⟨10, .chain⟩], none⟩
def s4r26Op14 : Oper := ⟨some 87, .load 22 (.tmp 6), 22, "law.go:100", #[⟨13, .guard⟩], some (13, true)⟩
def s4r26Op15 : Oper := ⟨some 88, .load 28 (.tmp 13), 28, "law.go:100", #[⟨13, .guard⟩], some (13, true)⟩
def s4r26Op16 : Oper := ⟨some 89, .move (.tmp 1), 23, "law.go:100", #[⟨13, .guard⟩], some (13, true)⟩
def s4r26Op17 : Oper := ⟨some 90, .buildSlice 26 1 #[(0, .tmp 89)], 26, "law.go:100", #[⟨16, .data⟩, ⟨13, .guard⟩], some (13, true)⟩
def s4r26Op18 : Oper := ⟨some 91, .call { callee := .value (.func 9), args := #[.tmp 87, .tmp 88, .tmp 90], argTypes := #[22, 28, 26] }, 4, "law.go:100", #[⟨14, .data⟩, ⟨15, .data⟩, ⟨17, .data⟩, ⟨13, .chain⟩, ⟨13, .guard⟩], some (13, true)⟩
def s4r26Op19 : Oper := ⟨some 92, .unOp .not 4 (.tmp 91), 4, "law.go:100", #[⟨18, .data⟩, ⟨13, .guard⟩], some (13, true)⟩
def s4r26Op20 : Oper := ⟨some 93, .pick (.tmp 86) (.tmp 92) (.const (.bool false)), 4, "law.go:100", #[⟨13, .data⟩, ⟨19, .data⟩], none⟩
def s4r26Op21 : Oper := ⟨some 94, .move (.tmp 93), 4, "law.go:100", #[⟨20, .data⟩, ⟨18, .chain⟩], none⟩
def s4r26Op22 : Oper := ⟨some 95, .build 22 #[(0, .const (.int .u8 2))], 22, "law.go:100", #[⟨21, .guard⟩], some (21, true)⟩
def s4r26Op23 : Oper := ⟨some 96, .load 28 (.tmp 7), 28, "law.go:100", #[⟨21, .guard⟩], some (21, true)⟩
def s4r26Op24 : Oper := ⟨some 97, .move (.tmp 1), 23, "law.go:100", #[⟨21, .guard⟩], some (21, true)⟩
def s4r26Op25 : Oper := ⟨some 98, .buildSlice 26 1 #[(0, .tmp 97)], 26, "law.go:100", #[⟨24, .data⟩, ⟨21, .guard⟩], some (21, true)⟩
def s4r26Op26 : Oper := ⟨some 99, .call { callee := .value (.func 9), args := #[.tmp 95, .tmp 96, .tmp 98], argTypes := #[22, 28, 26] }, 4, "law.go:100", #[⟨22, .data⟩, ⟨23, .data⟩, ⟨25, .data⟩, ⟨21, .chain⟩, ⟨21, .guard⟩], some (21, true)⟩
def s4r26Op27 : Oper := ⟨some 100, .unOp .not 4 (.tmp 99), 4, "law.go:100", #[⟨26, .data⟩, ⟨21, .guard⟩], some (21, true)⟩
def s4r26Op28 : Oper := ⟨some 101, .pick (.tmp 94) (.tmp 100) (.const (.bool false)), 4, "law.go:100", #[⟨21, .data⟩, ⟨27, .data⟩], none⟩
def s4r26Op29 : Oper := ⟨some 102, .move (.tmp 101), 4, "law.go:100", #[⟨28, .data⟩, ⟨26, .chain⟩], none⟩
def s4r26Op30 : Oper := ⟨some 103, .load 22 (.tmp 15), 22, "law.go:100", #[⟨29, .guard⟩], some (29, true)⟩
def s4r26Op31 : Oper := ⟨some 104, .call { callee := .value (.func 11), args := #[.tmp 103], argTypes := #[22] }, 4, "law.go:100", #[⟨30, .data⟩, ⟨29, .chain⟩, ⟨29, .guard⟩], some (29, true)⟩
def s4r26Op32 : Oper := ⟨some 105, .pick (.tmp 102) (.tmp 104) (.const (.bool false)), 4, "law.go:100", #[⟨29, .data⟩, ⟨31, .data⟩], none⟩
def s4r26Op33 : Oper := ⟨some 106, .move (.tmp 105), 4, "law.go:100", #[⟨32, .data⟩, ⟨31, .chain⟩], none⟩
def s4r26Op34 : Oper := ⟨some 107, .load 22 (.tmp 15), 22, "law.go:100", #[⟨33, .guard⟩], some (33, true)⟩
def s4r26Op35 : Oper := ⟨some 108, .call { callee := .value (.func 12), args := #[.tmp 107], argTypes := #[22] }, 4, "law.go:100", #[⟨34, .data⟩, ⟨33, .chain⟩, ⟨33, .guard⟩], some (33, true)⟩
def s4r26Op36 : Oper := ⟨some 109, .pick (.tmp 106) (.tmp 108) (.const (.bool false)), 4, "law.go:100", #[⟨33, .data⟩, ⟨35, .data⟩], none⟩
def s4r26Op37 : Oper := ⟨some 4, .assign (.tmp 109), 4, "law.go:100", #[⟨36, .data⟩, ⟨35, .chain⟩, ⟨0, .phase⟩, ⟨1, .phase⟩, ⟨2, .phase⟩, ⟨3, .phase⟩, ⟨4, .phase⟩, ⟨5, .phase⟩, ⟨6, .phase⟩, ⟨7, .phase⟩, ⟨8, .phase⟩, ⟨9, .phase⟩, ⟨10, .phase⟩, ⟨11, .phase⟩, ⟨12, .phase⟩, ⟨13, .phase⟩, ⟨14, .phase⟩, ⟨15, .phase⟩, ⟨16, .phase⟩, ⟨17, .phase⟩, ⟨18, .phase⟩, ⟨19, .phase⟩, ⟨20, .phase⟩, ⟨21, .phase⟩, ⟨22, .phase⟩, ⟨23, .phase⟩, ⟨24, .phase⟩, ⟨25, .phase⟩, ⟨26, .phase⟩, ⟨27, .phase⟩, ⟨28, .phase⟩, ⟨29, .phase⟩, ⟨30, .phase⟩, ⟨31, .phase⟩, ⟨32, .phase⟩, ⟨33, .phase⟩, ⟨34, .phase⟩, ⟨35, .phase⟩, ⟨36, .phase⟩], none⟩
def s4r26Ops : Array Oper := #[s4r26Op0, s4r26Op1, s4r26Op2, s4r26Op3, s4r26Op4, s4r26Op5, s4r26Op6, s4r26Op7, s4r26Op8, s4r26Op9, s4r26Op10, s4r26Op11, s4r26Op12, s4r26Op13, s4r26Op14, s4r26Op15, s4r26Op16, s4r26Op17, s4r26Op18, s4r26Op19, s4r26Op20, s4r26Op21, s4r26Op22, s4r26Op23, s4r26Op24, s4r26Op25, s4r26Op26, s4r26Op27, s4r26Op28, s4r26Op29, s4r26Op30, s4r26Op31, s4r26Op32, s4r26Op33, s4r26Op34, s4r26Op35, s4r26Op36, s4r26Op37]
set_option maxHeartbeats 2000000 in
theorem s4r26_r {Q : Exit → Act → World → Prop} {u w : World} {L : List Row} {z0 z2 z3 z4 z8 z11 z12 z14 z16 z17 z18 z19 z20 z21 z22 z23 z24 z25 z26 z27 z28 z29 z30 z31 z32 z33 z34 z35 z36 z37 z38 z39 z40 z41 z42 z43 z44 z45 z46 z47 z48 z49 z50 z51 z52 z53 z54 z55 z56 z57 z58 z59 z60 z61 z62 z63 z64 z65 z66 z67 z68 z69 z70 z71 z72 z73 z74 z75 z76 z77 z78 z79 z80 z81 z82 z83 z84 z85 z86 z87 z88 z89 z90 z91 z92 z93 z94 z95 z96 z97 z98 z99 z100 z101 z102 z103 z104 z105 z106 z107 z108 z109 : Value} {x1 : Value} {b6 b7 b9 b13 b15 : Nat} {c6 c7 c9 c13 c15 : Array Value} {e95 : Array Value} {c : Nat} (hO : Own u w L) (i6 : Nat) (h6 : L[i6]? = some (b6, c6, 22)) (i7 : Nat) (h7 : L[i7]? = some (b7, c7, 28)) (i9 : Nat) (h9 : L[i9]? = some (b9, c9, 28)) (i13 : Nat) (h13 : L[i13]? = some (b13, c13, 28)) (i15 : Nat) (h15 : L[i15]? = some (b15, c15, 22)) (k76 : ∀ (a : Act) (w : World), a.eval (.tmp 75) = .int .i64 ((c : Nat) : Int) → (execOp a.eval s4r26Op3).run Tryd.prog w = .ok (.value (.bool true)) w) (u82 : ∀ w : World, (Instr.buildSlice 26 1 #[(0, x1)]).run Tryd.prog w = .ok (.slice (some ⟨w.heap.size, 0, none⟩) 1 1) (w.alloc (.cells #[x1] 23))) (r83 : ∀ (q82 : Nat) (w : World), Below u.heap.size u w → Blk w b6 c6 22 → Blk w b7 c7 28 → Blk w b9 c9 28 → Blk w b13 c13 28 → Blk w b15 c15 22 → Blk w q82 #[x1] 23 → Ret 9 #[.agg c6, .agg c9, .slice (some ⟨q82, 0, none⟩) 1 1] w (.bool false)) (u90 : ∀ w : World, (Instr.buildSlice 26 1 #[(0, x1)]).run Tryd.prog w = .ok (.slice (some ⟨w.heap.size, 0, none⟩) 1 1) (w.alloc (.cells #[x1] 23))) (r91 : ∀ (q90 : Nat) (w : World), Below u.heap.size u w → Blk w b6 c6 22 → Blk w b7 c7 28 → Blk w b9 c9 28 → Blk w b13 c13 28 → Blk w b15 c15 22 → Blk w q90 #[x1] 23 → Ret 9 #[.agg c6, .agg c13, .slice (some ⟨q90, 0, none⟩) 1 1] w (.bool false)) (q95 : Tryd.prog.built 22 [(0, .int IntKind.u8 2)] = some e95) (u98 : ∀ w : World, (Instr.buildSlice 26 1 #[(0, x1)]).run Tryd.prog w = .ok (.slice (some ⟨w.heap.size, 0, none⟩) 1 1) (w.alloc (.cells #[x1] 23))) (r99 : ∀ (q98 : Nat) (w : World), Below u.heap.size u w → Blk w b6 c6 22 → Blk w b7 c7 28 → Blk w b9 c9 28 → Blk w b13 c13 28 → Blk w b15 c15 22 → Blk w q98 #[x1] 23 → Ret 9 #[.agg e95, .agg c7, .slice (some ⟨q98, 0, none⟩) 1 1] w (.bool false)) (r104 : ∀ (w : World), Below u.heap.size u w → Blk w b6 c6 22 → Blk w b7 c7 28 → Blk w b9 c9 28 → Blk w b13 c13 28 → Blk w b15 c15 22 → Ret 11 #[.agg c15] w (.bool true)) (r108 : ∀ (w : World), Below u.heap.size u w → Blk w b6 c6 22 → Blk w b7 c7 28 → Blk w b9 c9 28 → Blk w b13 c13 28 → Blk w b15 c15 22 → Ret 12 #[.agg c15] w (.bool true)) (H : ∀ (q82 : Nat) (q90 : Nat) (q98 : Nat) (w' : World), Own u w' (L) → Q .normal { tmps := List.toArray (z0 :: x1 :: z2 :: z3 :: (.bool true) :: (.bool true) :: (.pointer (some ⟨b6, 0, none⟩)) :: (.pointer (some ⟨b7, 0, none⟩)) :: z8 :: (.pointer (some ⟨b9, 0, none⟩)) :: (.int .i64 ((c : Nat) : Int)) :: z11 :: z12 :: (.pointer (some ⟨b13, 0, none⟩)) :: z14 :: (.pointer (some ⟨b15, 0, none⟩)) :: z16 :: z17 :: z18 :: z19 :: z20 :: z21 :: z22 :: z23 :: z24 :: z25 :: z26 :: z27 :: z28 :: z29 :: z30 :: z31 :: z32 :: z33 :: z34 :: z35 :: z36 :: z37 :: z38 :: z39 :: z40 :: z41 :: z42 :: z43 :: z44 :: z45 :: z46 :: z47 :: z48 :: z49 :: z50 :: z51 :: z52 :: z53 :: z54 :: z55 :: z56 :: z57 :: z58 :: z59 :: z60 :: z61 :: z62 :: z63 :: z64 :: z65 :: z66 :: z67 :: z68 :: z69 :: z70 :: z71 :: z72 :: (.bool true) :: (.bool true) :: (.int .i64 ((c : Nat) : Int)) :: (.bool true) :: (.bool true) :: (.bool true) :: (.agg c6) :: (.agg c9) :: x1 :: (.slice (some ⟨q82, 0, none⟩) 1 1) :: (.bool false) :: (.bool true) :: (.bool true) :: (.bool true) :: (.agg c6) :: (.agg c13) :: x1 :: (.slice (some ⟨q90, 0, none⟩) 1 1) :: (.bool false) :: (.bool true) :: (.bool true) :: (.bool true) :: (.agg e95) :: (.agg c7) :: x1 :: (.slice (some ⟨q98, 0, none⟩) 1 1) :: (.bool false) :: (.bool true) :: (.bool true) :: (.bool true) :: (.agg c15) :: (.bool true) :: (.bool true) :: (.bool true) :: (.agg c15) :: (.bool true) :: (.bool true) :: []), defers := [] } w') :
    (Code.region 26 s4r26Ops false).wp Tryd.prog Q { tmps := List.toArray (z0 :: x1 :: z2 :: z3 :: z4 :: (.bool true) :: (.pointer (some ⟨b6, 0, none⟩)) :: (.pointer (some ⟨b7, 0, none⟩)) :: z8 :: (.pointer (some ⟨b9, 0, none⟩)) :: (.int .i64 ((c : Nat) : Int)) :: z11 :: z12 :: (.pointer (some ⟨b13, 0, none⟩)) :: z14 :: (.pointer (some ⟨b15, 0, none⟩)) :: z16 :: z17 :: z18 :: z19 :: z20 :: z21 :: z22 :: z23 :: z24 :: z25 :: z26 :: z27 :: z28 :: z29 :: z30 :: z31 :: z32 :: z33 :: z34 :: z35 :: z36 :: z37 :: z38 :: z39 :: z40 :: z41 :: z42 :: z43 :: z44 :: z45 :: z46 :: z47 :: z48 :: z49 :: z50 :: z51 :: z52 :: z53 :: z54 :: z55 :: z56 :: z57 :: z58 :: z59 :: z60 :: z61 :: z62 :: z63 :: z64 :: z65 :: z66 :: z67 :: z68 :: z69 :: z70 :: z71 :: z72 :: z73 :: z74 :: z75 :: z76 :: z77 :: z78 :: z79 :: z80 :: z81 :: z82 :: z83 :: z84 :: z85 :: z86 :: z87 :: z88 :: z89 :: z90 :: z91 :: z92 :: z93 :: z94 :: z95 :: z96 :: z97 :: z98 :: z99 :: z100 :: z101 :: z102 :: z103 :: z104 :: z105 :: z106 :: z107 :: z108 :: z109 :: []), defers := [] } w := by
  refine wp_region_list (show wpList _ s4r26Ops _ [s4r26Op0, s4r26Op1, s4r26Op2, s4r26Op3, s4r26Op4, s4r26Op5, s4r26Op6, s4r26Op7, s4r26Op8, s4r26Op9, s4r26Op10, s4r26Op11, s4r26Op12, s4r26Op13, s4r26Op14, s4r26Op15, s4r26Op16, s4r26Op17, s4r26Op18, s4r26Op19, s4r26Op20, s4r26Op21, s4r26Op22, s4r26Op23, s4r26Op24, s4r26Op25, s4r26Op26, s4r26Op27, s4r26Op28, s4r26Op29, s4r26Op30, s4r26Op31, s4r26Op32, s4r26Op33, s4r26Op34, s4r26Op35, s4r26Op36, s4r26Op37] _ _ from WL.out ?_)
  refine g_val (.bool true) (by kernel_rfl) ?_
  refine g_fr (Fr [z0, x1, z2, z3, z4, .bool true, D b6, D b7, z8, D b9, .int .i64 ((c : Nat) : Int), z11, z12, D b13, z14, D b15, z16, z17, z18, z19, z20, z21, z22, z23, z24, z25, z26, z27, z28, z29, z30, z31, z32, z33, z34, z35, z36, z37, z38, z39, z40, z41, z42, z43, z44, z45, z46, z47, z48, z49, z50, z51, z52, z53, z54, z55, z56, z57, z58, z59, z60, z61, z62, z63, z64, z65, z66, z67, z68, z69, z70, z71, z72, .bool true, z74, z75, z76, z77, z78, z79, z80, z81, z82, z83, z84, z85, z86, z87, z88, z89, z90, z91, z92, z93, z94, z95, z96, z97, z98, z99, z100, z101, z102, z103, z104, z105, z106, z107, z108, z109] []) ?_
  refine g_val (.bool true) (by kernel_rfl) ?_
  refine g_fr (Fr [z0, x1, z2, z3, z4, .bool true, D b6, D b7, z8, D b9, .int .i64 ((c : Nat) : Int), z11, z12, D b13, z14, D b15, z16, z17, z18, z19, z20, z21, z22, z23, z24, z25, z26, z27, z28, z29, z30, z31, z32, z33, z34, z35, z36, z37, z38, z39, z40, z41, z42, z43, z44, z45, z46, z47, z48, z49, z50, z51, z52, z53, z54, z55, z56, z57, z58, z59, z60, z61, z62, z63, z64, z65, z66, z67, z68, z69, z70, z71, z72, .bool true, .bool true, z75, z76, z77, z78, z79, z80, z81, z82, z83, z84, z85, z86, z87, z88, z89, z90, z91, z92, z93, z94, z95, z96, z97, z98, z99, z100, z101, z102, z103, z104, z105, z106, z107, z108, z109] []) ?_
  refine g_val (.int .i64 ((c : Nat) : Int)) (by kernel_rfl) ?_
  refine g_fr (Fr [z0, x1, z2, z3, z4, .bool true, D b6, D b7, z8, D b9, .int .i64 ((c : Nat) : Int), z11, z12, D b13, z14, D b15, z16, z17, z18, z19, z20, z21, z22, z23, z24, z25, z26, z27, z28, z29, z30, z31, z32, z33, z34, z35, z36, z37, z38, z39, z40, z41, z42, z43, z44, z45, z46, z47, z48, z49, z50, z51, z52, z53, z54, z55, z56, z57, z58, z59, z60, z61, z62, z63, z64, z65, z66, z67, z68, z69, z70, z71, z72, .bool true, .bool true, .int .i64 ((c : Nat) : Int), z76, z77, z78, z79, z80, z81, z82, z83, z84, z85, z86, z87, z88, z89, z90, z91, z92, z93, z94, z95, z96, z97, z98, z99, z100, z101, z102, z103, z104, z105, z106, z107, z108, z109] []) ?_
  refine g_val (.bool true) (k76 _ _ (by kernel_rfl)) ?_
  refine g_fr (Fr [z0, x1, z2, z3, z4, .bool true, D b6, D b7, z8, D b9, .int .i64 ((c : Nat) : Int), z11, z12, D b13, z14, D b15, z16, z17, z18, z19, z20, z21, z22, z23, z24, z25, z26, z27, z28, z29, z30, z31, z32, z33, z34, z35, z36, z37, z38, z39, z40, z41, z42, z43, z44, z45, z46, z47, z48, z49, z50, z51, z52, z53, z54, z55, z56, z57, z58, z59, z60, z61, z62, z63, z64, z65, z66, z67, z68, z69, z70, z71, z72, .bool true, .bool true, .int .i64 ((c : Nat) : Int), .bool true, z77, z78, z79, z80, z81, z82, z83, z84, z85, z86, z87, z88, z89, z90, z91, z92, z93, z94, z95, z96, z97, z98, z99, z100, z101, z102, z103, z104, z105, z106, z107, z108, z109] []) ?_
  refine g_val (.bool true) (by kernel_rfl) ?_
  refine g_fr (Fr [z0, x1, z2, z3, z4, .bool true, D b6, D b7, z8, D b9, .int .i64 ((c : Nat) : Int), z11, z12, D b13, z14, D b15, z16, z17, z18, z19, z20, z21, z22, z23, z24, z25, z26, z27, z28, z29, z30, z31, z32, z33, z34, z35, z36, z37, z38, z39, z40, z41, z42, z43, z44, z45, z46, z47, z48, z49, z50, z51, z52, z53, z54, z55, z56, z57, z58, z59, z60, z61, z62, z63, z64, z65, z66, z67, z68, z69, z70, z71, z72, .bool true, .bool true, .int .i64 ((c : Nat) : Int), .bool true, .bool true, z78, z79, z80, z81, z82, z83, z84, z85, z86, z87, z88, z89, z90, z91, z92, z93, z94, z95, z96, z97, z98, z99, z100, z101, z102, z103, z104, z105, z106, z107, z108, z109] []) ?_
  refine g_val (.bool true) (by kernel_rfl) ?_
  refine g_fr (Fr [z0, x1, z2, z3, z4, .bool true, D b6, D b7, z8, D b9, .int .i64 ((c : Nat) : Int), z11, z12, D b13, z14, D b15, z16, z17, z18, z19, z20, z21, z22, z23, z24, z25, z26, z27, z28, z29, z30, z31, z32, z33, z34, z35, z36, z37, z38, z39, z40, z41, z42, z43, z44, z45, z46, z47, z48, z49, z50, z51, z52, z53, z54, z55, z56, z57, z58, z59, z60, z61, z62, z63, z64, z65, z66, z67, z68, z69, z70, z71, z72, .bool true, .bool true, .int .i64 ((c : Nat) : Int), .bool true, .bool true, .bool true, z79, z80, z81, z82, z83, z84, z85, z86, z87, z88, z89, z90, z91, z92, z93, z94, z95, z96, z97, z98, z99, z100, z101, z102, z103, z104, z105, z106, z107, z108, z109] []) ?_
  refine g_ld hO 22 i6 h6 Tryd.underlying22 ?_
  refine g_fr (Fr [z0, x1, z2, z3, z4, .bool true, D b6, D b7, z8, D b9, .int .i64 ((c : Nat) : Int), z11, z12, D b13, z14, D b15, z16, z17, z18, z19, z20, z21, z22, z23, z24, z25, z26, z27, z28, z29, z30, z31, z32, z33, z34, z35, z36, z37, z38, z39, z40, z41, z42, z43, z44, z45, z46, z47, z48, z49, z50, z51, z52, z53, z54, z55, z56, z57, z58, z59, z60, z61, z62, z63, z64, z65, z66, z67, z68, z69, z70, z71, z72, .bool true, .bool true, .int .i64 ((c : Nat) : Int), .bool true, .bool true, .bool true, A c6, z80, z81, z82, z83, z84, z85, z86, z87, z88, z89, z90, z91, z92, z93, z94, z95, z96, z97, z98, z99, z100, z101, z102, z103, z104, z105, z106, z107, z108, z109] []) ?_
  refine g_ld hO 28 i9 h9 Tryd.underlying28 ?_
  refine g_fr (Fr [z0, x1, z2, z3, z4, .bool true, D b6, D b7, z8, D b9, .int .i64 ((c : Nat) : Int), z11, z12, D b13, z14, D b15, z16, z17, z18, z19, z20, z21, z22, z23, z24, z25, z26, z27, z28, z29, z30, z31, z32, z33, z34, z35, z36, z37, z38, z39, z40, z41, z42, z43, z44, z45, z46, z47, z48, z49, z50, z51, z52, z53, z54, z55, z56, z57, z58, z59, z60, z61, z62, z63, z64, z65, z66, z67, z68, z69, z70, z71, z72, .bool true, .bool true, .int .i64 ((c : Nat) : Int), .bool true, .bool true, .bool true, A c6, A c9, z81, z82, z83, z84, z85, z86, z87, z88, z89, z90, z91, z92, z93, z94, z95, z96, z97, z98, z99, z100, z101, z102, z103, z104, z105, z106, z107, z108, z109] []) ?_
  refine g_val (x1) (by kernel_rfl) ?_
  refine g_fr (Fr [z0, x1, z2, z3, z4, .bool true, D b6, D b7, z8, D b9, .int .i64 ((c : Nat) : Int), z11, z12, D b13, z14, D b15, z16, z17, z18, z19, z20, z21, z22, z23, z24, z25, z26, z27, z28, z29, z30, z31, z32, z33, z34, z35, z36, z37, z38, z39, z40, z41, z42, z43, z44, z45, z46, z47, z48, z49, z50, z51, z52, z53, z54, z55, z56, z57, z58, z59, z60, z61, z62, z63, z64, z65, z66, z67, z68, z69, z70, z71, z72, .bool true, .bool true, .int .i64 ((c : Nat) : Int), .bool true, .bool true, .bool true, A c6, A c9, x1, z82, z83, z84, z85, z86, z87, z88, z89, z90, z91, z92, z93, z94, z95, z96, z97, z98, z99, z100, z101, z102, z103, z104, z105, z106, z107, z108, z109] []) ?_
  refine g_bs hO 1 #[x1] 23 (fun w => run_bsl 26 23 1 _ rfl #[(0, x1)] (by kernel_rfl) (u82 w)) ?_
  intro q82 w1 hb hB82 hO
  clear hb
  refine g_fr (Fr [z0, x1, z2, z3, z4, .bool true, D b6, D b7, z8, D b9, .int .i64 ((c : Nat) : Int), z11, z12, D b13, z14, D b15, z16, z17, z18, z19, z20, z21, z22, z23, z24, z25, z26, z27, z28, z29, z30, z31, z32, z33, z34, z35, z36, z37, z38, z39, z40, z41, z42, z43, z44, z45, z46, z47, z48, z49, z50, z51, z52, z53, z54, z55, z56, z57, z58, z59, z60, z61, z62, z63, z64, z65, z66, z67, z68, z69, z70, z71, z72, .bool true, .bool true, .int .i64 ((c : Nat) : Int), .bool true, .bool true, .bool true, A c6, A c9, x1, .slice (some ⟨q82, 0, none⟩) 1 1, z83, z84, z85, z86, z87, z88, z89, z90, z91, z92, z93, z94, z95, z96, z97, z98, z99, z100, z101, z102, z103, z104, z105, z106, z107, z108, z109] []) ?_
  refine g_cw hO 9 #[.agg c6, .agg c9, .slice (some ⟨q82, 0, none⟩) 1 1] (.bool false) (r83 q82 _ hO.low (hO.row (i6) h6) (hO.row (i7) h7) (hO.row (i9) h9) (hO.row (i13) h13) (hO.row (i15) h15) hB82) ?_
  intro w2 _ hO
  clear hB82
  refine g_fr (Fr [z0, x1, z2, z3, z4, .bool true, D b6, D b7, z8, D b9, .int .i64 ((c : Nat) : Int), z11, z12, D b13, z14, D b15, z16, z17, z18, z19, z20, z21, z22, z23, z24, z25, z26, z27, z28, z29, z30, z31, z32, z33, z34, z35, z36, z37, z38, z39, z40, z41, z42, z43, z44, z45, z46, z47, z48, z49, z50, z51, z52, z53, z54, z55, z56, z57, z58, z59, z60, z61, z62, z63, z64, z65, z66, z67, z68, z69, z70, z71, z72, .bool true, .bool true, .int .i64 ((c : Nat) : Int), .bool true, .bool true, .bool true, A c6, A c9, x1, .slice (some ⟨q82, 0, none⟩) 1 1, .bool false, z84, z85, z86, z87, z88, z89, z90, z91, z92, z93, z94, z95, z96, z97, z98, z99, z100, z101, z102, z103, z104, z105, z106, z107, z108, z109] []) ?_
  refine g_val (.bool true) (by kernel_rfl) ?_
  refine g_fr (Fr [z0, x1, z2, z3, z4, .bool true, D b6, D b7, z8, D b9, .int .i64 ((c : Nat) : Int), z11, z12, D b13, z14, D b15, z16, z17, z18, z19, z20, z21, z22, z23, z24, z25, z26, z27, z28, z29, z30, z31, z32, z33, z34, z35, z36, z37, z38, z39, z40, z41, z42, z43, z44, z45, z46, z47, z48, z49, z50, z51, z52, z53, z54, z55, z56, z57, z58, z59, z60, z61, z62, z63, z64, z65, z66, z67, z68, z69, z70, z71, z72, .bool true, .bool true, .int .i64 ((c : Nat) : Int), .bool true, .bool true, .bool true, A c6, A c9, x1, .slice (some ⟨q82, 0, none⟩) 1 1, .bool false, .bool true, z85, z86, z87, z88, z89, z90, z91, z92, z93, z94, z95, z96, z97, z98, z99, z100, z101, z102, z103, z104, z105, z106, z107, z108, z109] []) ?_
  refine g_val (.bool true) (by kernel_rfl) ?_
  refine g_fr (Fr [z0, x1, z2, z3, z4, .bool true, D b6, D b7, z8, D b9, .int .i64 ((c : Nat) : Int), z11, z12, D b13, z14, D b15, z16, z17, z18, z19, z20, z21, z22, z23, z24, z25, z26, z27, z28, z29, z30, z31, z32, z33, z34, z35, z36, z37, z38, z39, z40, z41, z42, z43, z44, z45, z46, z47, z48, z49, z50, z51, z52, z53, z54, z55, z56, z57, z58, z59, z60, z61, z62, z63, z64, z65, z66, z67, z68, z69, z70, z71, z72, .bool true, .bool true, .int .i64 ((c : Nat) : Int), .bool true, .bool true, .bool true, A c6, A c9, x1, .slice (some ⟨q82, 0, none⟩) 1 1, .bool false, .bool true, .bool true, z86, z87, z88, z89, z90, z91, z92, z93, z94, z95, z96, z97, z98, z99, z100, z101, z102, z103, z104, z105, z106, z107, z108, z109] []) ?_
  refine g_val (.bool true) (by kernel_rfl) ?_
  refine g_fr (Fr [z0, x1, z2, z3, z4, .bool true, D b6, D b7, z8, D b9, .int .i64 ((c : Nat) : Int), z11, z12, D b13, z14, D b15, z16, z17, z18, z19, z20, z21, z22, z23, z24, z25, z26, z27, z28, z29, z30, z31, z32, z33, z34, z35, z36, z37, z38, z39, z40, z41, z42, z43, z44, z45, z46, z47, z48, z49, z50, z51, z52, z53, z54, z55, z56, z57, z58, z59, z60, z61, z62, z63, z64, z65, z66, z67, z68, z69, z70, z71, z72, .bool true, .bool true, .int .i64 ((c : Nat) : Int), .bool true, .bool true, .bool true, A c6, A c9, x1, .slice (some ⟨q82, 0, none⟩) 1 1, .bool false, .bool true, .bool true, .bool true, z87, z88, z89, z90, z91, z92, z93, z94, z95, z96, z97, z98, z99, z100, z101, z102, z103, z104, z105, z106, z107, z108, z109] []) ?_
  refine g_ld hO 22 i6 h6 Tryd.underlying22 ?_
  refine g_fr (Fr [z0, x1, z2, z3, z4, .bool true, D b6, D b7, z8, D b9, .int .i64 ((c : Nat) : Int), z11, z12, D b13, z14, D b15, z16, z17, z18, z19, z20, z21, z22, z23, z24, z25, z26, z27, z28, z29, z30, z31, z32, z33, z34, z35, z36, z37, z38, z39, z40, z41, z42, z43, z44, z45, z46, z47, z48, z49, z50, z51, z52, z53, z54, z55, z56, z57, z58, z59, z60, z61, z62, z63, z64, z65, z66, z67, z68, z69, z70, z71, z72, .bool true, .bool true, .int .i64 ((c : Nat) : Int), .bool true, .bool true, .bool true, A c6, A c9, x1, .slice (some ⟨q82, 0, none⟩) 1 1, .bool false, .bool true, .bool true, .bool true, A c6, z88, z89, z90, z91, z92, z93, z94, z95, z96, z97, z98, z99, z100, z101, z102, z103, z104, z105, z106, z107, z108, z109] []) ?_
  refine g_ld hO 28 i13 h13 Tryd.underlying28 ?_
  refine g_fr (Fr [z0, x1, z2, z3, z4, .bool true, D b6, D b7, z8, D b9, .int .i64 ((c : Nat) : Int), z11, z12, D b13, z14, D b15, z16, z17, z18, z19, z20, z21, z22, z23, z24, z25, z26, z27, z28, z29, z30, z31, z32, z33, z34, z35, z36, z37, z38, z39, z40, z41, z42, z43, z44, z45, z46, z47, z48, z49, z50, z51, z52, z53, z54, z55, z56, z57, z58, z59, z60, z61, z62, z63, z64, z65, z66, z67, z68, z69, z70, z71, z72, .bool true, .bool true, .int .i64 ((c : Nat) : Int), .bool true, .bool true, .bool true, A c6, A c9, x1, .slice (some ⟨q82, 0, none⟩) 1 1, .bool false, .bool true, .bool true, .bool true, A c6, A c13, z89, z90, z91, z92, z93, z94, z95, z96, z97, z98, z99, z100, z101, z102, z103, z104, z105, z106, z107, z108, z109] []) ?_
  refine g_val (x1) (by kernel_rfl) ?_
  refine g_fr (Fr [z0, x1, z2, z3, z4, .bool true, D b6, D b7, z8, D b9, .int .i64 ((c : Nat) : Int), z11, z12, D b13, z14, D b15, z16, z17, z18, z19, z20, z21, z22, z23, z24, z25, z26, z27, z28, z29, z30, z31, z32, z33, z34, z35, z36, z37, z38, z39, z40, z41, z42, z43, z44, z45, z46, z47, z48, z49, z50, z51, z52, z53, z54, z55, z56, z57, z58, z59, z60, z61, z62, z63, z64, z65, z66, z67, z68, z69, z70, z71, z72, .bool true, .bool true, .int .i64 ((c : Nat) : Int), .bool true, .bool true, .bool true, A c6, A c9, x1, .slice (some ⟨q82, 0, none⟩) 1 1, .bool false, .bool true, .bool true, .bool true, A c6, A c13, x1, z90, z91, z92, z93, z94, z95, z96, z97, z98, z99, z100, z101, z102, z103, z104, z105, z106, z107, z108, z109] []) ?_
  refine g_bs hO 1 #[x1] 23 (fun w => run_bsl 26 23 1 _ rfl #[(0, x1)] (by kernel_rfl) (u90 w)) ?_
  intro q90 w3 hb hB90 hO
  clear hb
  refine g_fr (Fr [z0, x1, z2, z3, z4, .bool true, D b6, D b7, z8, D b9, .int .i64 ((c : Nat) : Int), z11, z12, D b13, z14, D b15, z16, z17, z18, z19, z20, z21, z22, z23, z24, z25, z26, z27, z28, z29, z30, z31, z32, z33, z34, z35, z36, z37, z38, z39, z40, z41, z42, z43, z44, z45, z46, z47, z48, z49, z50, z51, z52, z53, z54, z55, z56, z57, z58, z59, z60, z61, z62, z63, z64, z65, z66, z67, z68, z69, z70, z71, z72, .bool true, .bool true, .int .i64 ((c : Nat) : Int), .bool true, .bool true, .bool true, A c6, A c9, x1, .slice (some ⟨q82, 0, none⟩) 1 1, .bool false, .bool true, .bool true, .bool true, A c6, A c13, x1, .slice (some ⟨q90, 0, none⟩) 1 1, z91, z92, z93, z94, z95, z96, z97, z98, z99, z100, z101, z102, z103, z104, z105, z106, z107, z108, z109] []) ?_
  refine g_cw hO 9 #[.agg c6, .agg c13, .slice (some ⟨q90, 0, none⟩) 1 1] (.bool false) (r91 q90 _ hO.low (hO.row (i6) h6) (hO.row (i7) h7) (hO.row (i9) h9) (hO.row (i13) h13) (hO.row (i15) h15) hB90) ?_
  intro w4 _ hO
  clear hB90
  refine g_fr (Fr [z0, x1, z2, z3, z4, .bool true, D b6, D b7, z8, D b9, .int .i64 ((c : Nat) : Int), z11, z12, D b13, z14, D b15, z16, z17, z18, z19, z20, z21, z22, z23, z24, z25, z26, z27, z28, z29, z30, z31, z32, z33, z34, z35, z36, z37, z38, z39, z40, z41, z42, z43, z44, z45, z46, z47, z48, z49, z50, z51, z52, z53, z54, z55, z56, z57, z58, z59, z60, z61, z62, z63, z64, z65, z66, z67, z68, z69, z70, z71, z72, .bool true, .bool true, .int .i64 ((c : Nat) : Int), .bool true, .bool true, .bool true, A c6, A c9, x1, .slice (some ⟨q82, 0, none⟩) 1 1, .bool false, .bool true, .bool true, .bool true, A c6, A c13, x1, .slice (some ⟨q90, 0, none⟩) 1 1, .bool false, z92, z93, z94, z95, z96, z97, z98, z99, z100, z101, z102, z103, z104, z105, z106, z107, z108, z109] []) ?_
  refine g_val (.bool true) (by kernel_rfl) ?_
  refine g_fr (Fr [z0, x1, z2, z3, z4, .bool true, D b6, D b7, z8, D b9, .int .i64 ((c : Nat) : Int), z11, z12, D b13, z14, D b15, z16, z17, z18, z19, z20, z21, z22, z23, z24, z25, z26, z27, z28, z29, z30, z31, z32, z33, z34, z35, z36, z37, z38, z39, z40, z41, z42, z43, z44, z45, z46, z47, z48, z49, z50, z51, z52, z53, z54, z55, z56, z57, z58, z59, z60, z61, z62, z63, z64, z65, z66, z67, z68, z69, z70, z71, z72, .bool true, .bool true, .int .i64 ((c : Nat) : Int), .bool true, .bool true, .bool true, A c6, A c9, x1, .slice (some ⟨q82, 0, none⟩) 1 1, .bool false, .bool true, .bool true, .bool true, A c6, A c13, x1, .slice (some ⟨q90, 0, none⟩) 1 1, .bool false, .bool true, z93, z94, z95, z96, z97, z98, z99, z100, z101, z102, z103, z104, z105, z106, z107, z108, z109] []) ?_
  refine g_val (.bool true) (by kernel_rfl) ?_
  refine g_fr (Fr [z0, x1, z2, z3, z4, .bool true, D b6, D b7, z8, D b9, .int .i64 ((c : Nat) : Int), z11, z12, D b13, z14, D b15, z16, z17, z18, z19, z20, z21, z22, z23, z24, z25, z26, z27, z28, z29, z30, z31, z32, z33, z34, z35, z36, z37, z38, z39, z40, z41, z42, z43, z44, z45, z46, z47, z48, z49, z50, z51, z52, z53, z54, z55, z56, z57, z58, z59, z60, z61, z62, z63, z64, z65, z66, z67, z68, z69, z70, z71, z72, .bool true, .bool true, .int .i64 ((c : Nat) : Int), .bool true, .bool true, .bool true, A c6, A c9, x1, .slice (some ⟨q82, 0, none⟩) 1 1, .bool false, .bool true, .bool true, .bool true, A c6, A c13, x1, .slice (some ⟨q90, 0, none⟩) 1 1, .bool false, .bool true, .bool true, z94, z95, z96, z97, z98, z99, z100, z101, z102, z103, z104, z105, z106, z107, z108, z109] []) ?_
  refine g_val (.bool true) (by kernel_rfl) ?_
  refine g_fr (Fr [z0, x1, z2, z3, z4, .bool true, D b6, D b7, z8, D b9, .int .i64 ((c : Nat) : Int), z11, z12, D b13, z14, D b15, z16, z17, z18, z19, z20, z21, z22, z23, z24, z25, z26, z27, z28, z29, z30, z31, z32, z33, z34, z35, z36, z37, z38, z39, z40, z41, z42, z43, z44, z45, z46, z47, z48, z49, z50, z51, z52, z53, z54, z55, z56, z57, z58, z59, z60, z61, z62, z63, z64, z65, z66, z67, z68, z69, z70, z71, z72, .bool true, .bool true, .int .i64 ((c : Nat) : Int), .bool true, .bool true, .bool true, A c6, A c9, x1, .slice (some ⟨q82, 0, none⟩) 1 1, .bool false, .bool true, .bool true, .bool true, A c6, A c13, x1, .slice (some ⟨q90, 0, none⟩) 1 1, .bool false, .bool true, .bool true, .bool true, z95, z96, z97, z98, z99, z100, z101, z102, z103, z104, z105, z106, z107, z108, z109] []) ?_
  refine g_val (.agg e95) (run_bd 22 _ rfl [(0, .int IntKind.u8 2)] (by kernel_rfl) e95 q95 _) ?_
  refine g_fr (Fr [z0, x1, z2, z3, z4, .bool true, D b6, D b7, z8, D b9, .int .i64 ((c : Nat) : Int), z11, z12, D b13, z14, D b15, z16, z17, z18, z19, z20, z21, z22, z23, z24, z25, z26, z27, z28, z29, z30, z31, z32, z33, z34, z35, z36, z37, z38, z39, z40, z41, z42, z43, z44, z45, z46, z47, z48, z49, z50, z51, z52, z53, z54, z55, z56, z57, z58, z59, z60, z61, z62, z63, z64, z65, z66, z67, z68, z69, z70, z71, z72, .bool true, .bool true, .int .i64 ((c : Nat) : Int), .bool true, .bool true, .bool true, A c6, A c9, x1, .slice (some ⟨q82, 0, none⟩) 1 1, .bool false, .bool true, .bool true, .bool true, A c6, A c13, x1, .slice (some ⟨q90, 0, none⟩) 1 1, .bool false, .bool true, .bool true, .bool true, A e95, z96, z97, z98, z99, z100, z101, z102, z103, z104, z105, z106, z107, z108, z109] []) ?_
  refine g_ld hO 28 i7 h7 Tryd.underlying28 ?_
  refine g_fr (Fr [z0, x1, z2, z3, z4, .bool true, D b6, D b7, z8, D b9, .int .i64 ((c : Nat) : Int), z11, z12, D b13, z14, D b15, z16, z17, z18, z19, z20, z21, z22, z23, z24, z25, z26, z27, z28, z29, z30, z31, z32, z33, z34, z35, z36, z37, z38, z39, z40, z41, z42, z43, z44, z45, z46, z47, z48, z49, z50, z51, z52, z53, z54, z55, z56, z57, z58, z59, z60, z61, z62, z63, z64, z65, z66, z67, z68, z69, z70, z71, z72, .bool true, .bool true, .int .i64 ((c : Nat) : Int), .bool true, .bool true, .bool true, A c6, A c9, x1, .slice (some ⟨q82, 0, none⟩) 1 1, .bool false, .bool true, .bool true, .bool true, A c6, A c13, x1, .slice (some ⟨q90, 0, none⟩) 1 1, .bool false, .bool true, .bool true, .bool true, A e95, A c7, z97, z98, z99, z100, z101, z102, z103, z104, z105, z106, z107, z108, z109] []) ?_
  refine g_val (x1) (by kernel_rfl) ?_
  refine g_fr (Fr [z0, x1, z2, z3, z4, .bool true, D b6, D b7, z8, D b9, .int .i64 ((c : Nat) : Int), z11, z12, D b13, z14, D b15, z16, z17, z18, z19, z20, z21, z22, z23, z24, z25, z26, z27, z28, z29, z30, z31, z32, z33, z34, z35, z36, z37, z38, z39, z40, z41, z42, z43, z44, z45, z46, z47, z48, z49, z50, z51, z52, z53, z54, z55, z56, z57, z58, z59, z60, z61, z62, z63, z64, z65, z66, z67, z68, z69, z70, z71, z72, .bool true, .bool true, .int .i64 ((c : Nat) : Int), .bool true, .bool true, .bool true, A c6, A c9, x1, .slice (some ⟨q82, 0, none⟩) 1 1, .bool false, .bool true, .bool true, .bool true, A c6, A c13, x1, .slice (some ⟨q90, 0, none⟩) 1 1, .bool false, .bool true, .bool true, .bool true, A e95, A c7, x1, z98, z99, z100, z101, z102, z103, z104, z105, z106, z107, z108, z109] []) ?_
  refine g_bs hO 1 #[x1] 23 (fun w => run_bsl 26 23 1 _ rfl #[(0, x1)] (by kernel_rfl) (u98 w)) ?_
  intro q98 w5 hb hB98 hO
  clear hb
  refine g_fr (Fr [z0, x1, z2, z3, z4, .bool true, D b6, D b7, z8, D b9, .int .i64 ((c : Nat) : Int), z11, z12, D b13, z14, D b15, z16, z17, z18, z19, z20, z21, z22, z23, z24, z25, z26, z27, z28, z29, z30, z31, z32, z33, z34, z35, z36, z37, z38, z39, z40, z41, z42, z43, z44, z45, z46, z47, z48, z49, z50, z51, z52, z53, z54, z55, z56, z57, z58, z59, z60, z61, z62, z63, z64, z65, z66, z67, z68, z69, z70, z71, z72, .bool true, .bool true, .int .i64 ((c : Nat) : Int), .bool true, .bool true, .bool true, A c6, A c9, x1, .slice (some ⟨q82, 0, none⟩) 1 1, .bool false, .bool true, .bool true, .bool true, A c6, A c13, x1, .slice (some ⟨q90, 0, none⟩) 1 1, .bool false, .bool true, .bool true, .bool true, A e95, A c7, x1, .slice (some ⟨q98, 0, none⟩) 1 1, z99, z100, z101, z102, z103, z104, z105, z106, z107, z108, z109] []) ?_
  refine g_cw hO 9 #[.agg e95, .agg c7, .slice (some ⟨q98, 0, none⟩) 1 1] (.bool false) (r99 q98 _ hO.low (hO.row (i6) h6) (hO.row (i7) h7) (hO.row (i9) h9) (hO.row (i13) h13) (hO.row (i15) h15) hB98) ?_
  intro w6 _ hO
  clear hB98
  refine g_fr (Fr [z0, x1, z2, z3, z4, .bool true, D b6, D b7, z8, D b9, .int .i64 ((c : Nat) : Int), z11, z12, D b13, z14, D b15, z16, z17, z18, z19, z20, z21, z22, z23, z24, z25, z26, z27, z28, z29, z30, z31, z32, z33, z34, z35, z36, z37, z38, z39, z40, z41, z42, z43, z44, z45, z46, z47, z48, z49, z50, z51, z52, z53, z54, z55, z56, z57, z58, z59, z60, z61, z62, z63, z64, z65, z66, z67, z68, z69, z70, z71, z72, .bool true, .bool true, .int .i64 ((c : Nat) : Int), .bool true, .bool true, .bool true, A c6, A c9, x1, .slice (some ⟨q82, 0, none⟩) 1 1, .bool false, .bool true, .bool true, .bool true, A c6, A c13, x1, .slice (some ⟨q90, 0, none⟩) 1 1, .bool false, .bool true, .bool true, .bool true, A e95, A c7, x1, .slice (some ⟨q98, 0, none⟩) 1 1, .bool false, z100, z101, z102, z103, z104, z105, z106, z107, z108, z109] []) ?_
  refine g_val (.bool true) (by kernel_rfl) ?_
  refine g_fr (Fr [z0, x1, z2, z3, z4, .bool true, D b6, D b7, z8, D b9, .int .i64 ((c : Nat) : Int), z11, z12, D b13, z14, D b15, z16, z17, z18, z19, z20, z21, z22, z23, z24, z25, z26, z27, z28, z29, z30, z31, z32, z33, z34, z35, z36, z37, z38, z39, z40, z41, z42, z43, z44, z45, z46, z47, z48, z49, z50, z51, z52, z53, z54, z55, z56, z57, z58, z59, z60, z61, z62, z63, z64, z65, z66, z67, z68, z69, z70, z71, z72, .bool true, .bool true, .int .i64 ((c : Nat) : Int), .bool true, .bool true, .bool true, A c6, A c9, x1, .slice (some ⟨q82, 0, none⟩) 1 1, .bool false, .bool true, .bool true, .bool true, A c6, A c13, x1, .slice (some ⟨q90, 0, none⟩) 1 1, .bool false, .bool true, .bool true, .bool true, A e95, A c7, x1, .slice (some ⟨q98, 0, none⟩) 1 1, .bool false, .bool true, z101, z102, z103, z104, z105, z106, z107, z108, z109] []) ?_
  refine g_val (.bool true) (by kernel_rfl) ?_
  refine g_fr (Fr [z0, x1, z2, z3, z4, .bool true, D b6, D b7, z8, D b9, .int .i64 ((c : Nat) : Int), z11, z12, D b13, z14, D b15, z16, z17, z18, z19, z20, z21, z22, z23, z24, z25, z26, z27, z28, z29, z30, z31, z32, z33, z34, z35, z36, z37, z38, z39, z40, z41, z42, z43, z44, z45, z46, z47, z48, z49, z50, z51, z52, z53, z54, z55, z56, z57, z58, z59, z60, z61, z62, z63, z64, z65, z66, z67, z68, z69, z70, z71, z72, .bool true, .bool true, .int .i64 ((c : Nat) : Int), .bool true, .bool true, .bool true, A c6, A c9, x1, .slice (some ⟨q82, 0, none⟩) 1 1, .bool false, .bool true, .bool true, .bool true, A c6, A c13, x1, .slice (some ⟨q90, 0, none⟩) 1 1, .bool false, .bool true, .bool true, .bool true, A e95, A c7, x1, .slice (some ⟨q98, 0, none⟩) 1 1, .bool false, .bool true, .bool true, z102, z103, z104, z105, z106, z107, z108, z109] []) ?_
  refine g_val (.bool true) (by kernel_rfl) ?_
  refine g_fr (Fr [z0, x1, z2, z3, z4, .bool true, D b6, D b7, z8, D b9, .int .i64 ((c : Nat) : Int), z11, z12, D b13, z14, D b15, z16, z17, z18, z19, z20, z21, z22, z23, z24, z25, z26, z27, z28, z29, z30, z31, z32, z33, z34, z35, z36, z37, z38, z39, z40, z41, z42, z43, z44, z45, z46, z47, z48, z49, z50, z51, z52, z53, z54, z55, z56, z57, z58, z59, z60, z61, z62, z63, z64, z65, z66, z67, z68, z69, z70, z71, z72, .bool true, .bool true, .int .i64 ((c : Nat) : Int), .bool true, .bool true, .bool true, A c6, A c9, x1, .slice (some ⟨q82, 0, none⟩) 1 1, .bool false, .bool true, .bool true, .bool true, A c6, A c13, x1, .slice (some ⟨q90, 0, none⟩) 1 1, .bool false, .bool true, .bool true, .bool true, A e95, A c7, x1, .slice (some ⟨q98, 0, none⟩) 1 1, .bool false, .bool true, .bool true, .bool true, z103, z104, z105, z106, z107, z108, z109] []) ?_
  refine g_ld hO 22 i15 h15 Tryd.underlying22 ?_
  refine g_fr (Fr [z0, x1, z2, z3, z4, .bool true, D b6, D b7, z8, D b9, .int .i64 ((c : Nat) : Int), z11, z12, D b13, z14, D b15, z16, z17, z18, z19, z20, z21, z22, z23, z24, z25, z26, z27, z28, z29, z30, z31, z32, z33, z34, z35, z36, z37, z38, z39, z40, z41, z42, z43, z44, z45, z46, z47, z48, z49, z50, z51, z52, z53, z54, z55, z56, z57, z58, z59, z60, z61, z62, z63, z64, z65, z66, z67, z68, z69, z70, z71, z72, .bool true, .bool true, .int .i64 ((c : Nat) : Int), .bool true, .bool true, .bool true, A c6, A c9, x1, .slice (some ⟨q82, 0, none⟩) 1 1, .bool false, .bool true, .bool true, .bool true, A c6, A c13, x1, .slice (some ⟨q90, 0, none⟩) 1 1, .bool false, .bool true, .bool true, .bool true, A e95, A c7, x1, .slice (some ⟨q98, 0, none⟩) 1 1, .bool false, .bool true, .bool true, .bool true, A c15, z104, z105, z106, z107, z108, z109] []) ?_
  refine g_cw hO 11 #[.agg c15] (.bool true) (r104 _ hO.low (hO.row (i6) h6) (hO.row (i7) h7) (hO.row (i9) h9) (hO.row (i13) h13) (hO.row (i15) h15)) ?_
  intro w7 _ hO
  refine g_fr (Fr [z0, x1, z2, z3, z4, .bool true, D b6, D b7, z8, D b9, .int .i64 ((c : Nat) : Int), z11, z12, D b13, z14, D b15, z16, z17, z18, z19, z20, z21, z22, z23, z24, z25, z26, z27, z28, z29, z30, z31, z32, z33, z34, z35, z36, z37, z38, z39, z40, z41, z42, z43, z44, z45, z46, z47, z48, z49, z50, z51, z52, z53, z54, z55, z56, z57, z58, z59, z60, z61, z62, z63, z64, z65, z66, z67, z68, z69, z70, z71, z72, .bool true, .bool true, .int .i64 ((c : Nat) : Int), .bool true, .bool true, .bool true, A c6, A c9, x1, .slice (some ⟨q82, 0, none⟩) 1 1, .bool false, .bool true, .bool true, .bool true, A c6, A c13, x1, .slice (some ⟨q90, 0, none⟩) 1 1, .bool false, .bool true, .bool true, .bool true, A e95, A c7, x1, .slice (some ⟨q98, 0, none⟩) 1 1, .bool false, .bool true, .bool true, .bool true, A c15, .bool true, z105, z106, z107, z108, z109] []) ?_
  refine g_val (.bool true) (by kernel_rfl) ?_
  refine g_fr (Fr [z0, x1, z2, z3, z4, .bool true, D b6, D b7, z8, D b9, .int .i64 ((c : Nat) : Int), z11, z12, D b13, z14, D b15, z16, z17, z18, z19, z20, z21, z22, z23, z24, z25, z26, z27, z28, z29, z30, z31, z32, z33, z34, z35, z36, z37, z38, z39, z40, z41, z42, z43, z44, z45, z46, z47, z48, z49, z50, z51, z52, z53, z54, z55, z56, z57, z58, z59, z60, z61, z62, z63, z64, z65, z66, z67, z68, z69, z70, z71, z72, .bool true, .bool true, .int .i64 ((c : Nat) : Int), .bool true, .bool true, .bool true, A c6, A c9, x1, .slice (some ⟨q82, 0, none⟩) 1 1, .bool false, .bool true, .bool true, .bool true, A c6, A c13, x1, .slice (some ⟨q90, 0, none⟩) 1 1, .bool false, .bool true, .bool true, .bool true, A e95, A c7, x1, .slice (some ⟨q98, 0, none⟩) 1 1, .bool false, .bool true, .bool true, .bool true, A c15, .bool true, .bool true, z106, z107, z108, z109] []) ?_
  refine g_val (.bool true) (by kernel_rfl) ?_
  refine g_fr (Fr [z0, x1, z2, z3, z4, .bool true, D b6, D b7, z8, D b9, .int .i64 ((c : Nat) : Int), z11, z12, D b13, z14, D b15, z16, z17, z18, z19, z20, z21, z22, z23, z24, z25, z26, z27, z28, z29, z30, z31, z32, z33, z34, z35, z36, z37, z38, z39, z40, z41, z42, z43, z44, z45, z46, z47, z48, z49, z50, z51, z52, z53, z54, z55, z56, z57, z58, z59, z60, z61, z62, z63, z64, z65, z66, z67, z68, z69, z70, z71, z72, .bool true, .bool true, .int .i64 ((c : Nat) : Int), .bool true, .bool true, .bool true, A c6, A c9, x1, .slice (some ⟨q82, 0, none⟩) 1 1, .bool false, .bool true, .bool true, .bool true, A c6, A c13, x1, .slice (some ⟨q90, 0, none⟩) 1 1, .bool false, .bool true, .bool true, .bool true, A e95, A c7, x1, .slice (some ⟨q98, 0, none⟩) 1 1, .bool false, .bool true, .bool true, .bool true, A c15, .bool true, .bool true, .bool true, z107, z108, z109] []) ?_
  refine g_ld hO 22 i15 h15 Tryd.underlying22 ?_
  refine g_fr (Fr [z0, x1, z2, z3, z4, .bool true, D b6, D b7, z8, D b9, .int .i64 ((c : Nat) : Int), z11, z12, D b13, z14, D b15, z16, z17, z18, z19, z20, z21, z22, z23, z24, z25, z26, z27, z28, z29, z30, z31, z32, z33, z34, z35, z36, z37, z38, z39, z40, z41, z42, z43, z44, z45, z46, z47, z48, z49, z50, z51, z52, z53, z54, z55, z56, z57, z58, z59, z60, z61, z62, z63, z64, z65, z66, z67, z68, z69, z70, z71, z72, .bool true, .bool true, .int .i64 ((c : Nat) : Int), .bool true, .bool true, .bool true, A c6, A c9, x1, .slice (some ⟨q82, 0, none⟩) 1 1, .bool false, .bool true, .bool true, .bool true, A c6, A c13, x1, .slice (some ⟨q90, 0, none⟩) 1 1, .bool false, .bool true, .bool true, .bool true, A e95, A c7, x1, .slice (some ⟨q98, 0, none⟩) 1 1, .bool false, .bool true, .bool true, .bool true, A c15, .bool true, .bool true, .bool true, A c15, z108, z109] []) ?_
  refine g_cw hO 12 #[.agg c15] (.bool true) (r108 _ hO.low (hO.row (i6) h6) (hO.row (i7) h7) (hO.row (i9) h9) (hO.row (i13) h13) (hO.row (i15) h15)) ?_
  intro w8 _ hO
  refine g_fr (Fr [z0, x1, z2, z3, z4, .bool true, D b6, D b7, z8, D b9, .int .i64 ((c : Nat) : Int), z11, z12, D b13, z14, D b15, z16, z17, z18, z19, z20, z21, z22, z23, z24, z25, z26, z27, z28, z29, z30, z31, z32, z33, z34, z35, z36, z37, z38, z39, z40, z41, z42, z43, z44, z45, z46, z47, z48, z49, z50, z51, z52, z53, z54, z55, z56, z57, z58, z59, z60, z61, z62, z63, z64, z65, z66, z67, z68, z69, z70, z71, z72, .bool true, .bool true, .int .i64 ((c : Nat) : Int), .bool true, .bool true, .bool true, A c6, A c9, x1, .slice (some ⟨q82, 0, none⟩) 1 1, .bool false, .bool true, .bool true, .bool true, A c6, A c13, x1, .slice (some ⟨q90, 0, none⟩) 1 1, .bool false, .bool true, .bool true, .bool true, A e95, A c7, x1, .slice (some ⟨q98, 0, none⟩) 1 1, .bool false, .bool true, .bool true, .bool true, A c15, .bool true, .bool true, .bool true, A c15, .bool true, z109] []) ?_
  refine g_val (.bool true) (by kernel_rfl) ?_
  refine g_fr (Fr [z0, x1, z2, z3, z4, .bool true, D b6, D b7, z8, D b9, .int .i64 ((c : Nat) : Int), z11, z12, D b13, z14, D b15, z16, z17, z18, z19, z20, z21, z22, z23, z24, z25, z26, z27, z28, z29, z30, z31, z32, z33, z34, z35, z36, z37, z38, z39, z40, z41, z42, z43, z44, z45, z46, z47, z48, z49, z50, z51, z52, z53, z54, z55, z56, z57, z58, z59, z60, z61, z62, z63, z64, z65, z66, z67, z68, z69, z70, z71, z72, .bool true, .bool true, .int .i64 ((c : Nat) : Int), .bool true, .bool true, .bool true, A c6, A c9, x1, .slice (some ⟨q82, 0, none⟩) 1 1, .bool false, .bool true, .bool true, .bool true, A c6, A c13, x1, .slice (some ⟨q90, 0, none⟩) 1 1, .bool false, .bool true, .bool true, .bool true, A e95, A c7, x1, .slice (some ⟨q98, 0, none⟩) 1 1, .bool false, .bool true, .bool true, .bool true, A c15, .bool true, .bool true, .bool true, A c15, .bool true, .bool true] []) ?_
  refine g_val (.bool true) (by kernel_rfl) ?_
  exact g_fr _ ⟨wpList_nil (H q82 q90 q98 _ hO)⟩
set_option maxHeartbeats 4000000 in
theorem strict_g (f s p : Nat → Nat) (y z S0 : Nat) (A : Option Addr) (l : List Nat) (c : Nat) (hf : ∀ i, f i < 256) (_ : ∀ i, s i < 256) (hS0 : S0 < S.qL) (hs : ∀ j, s (32 + j) = byt S0 j) (hy : Hid (S.qL = y)) (hz : Hid (S0 + y = z)) (w : World) (hG : Glb w) (HS : l.length ≤ 500 → SgnAt f A l.length c s w) (HP : ∀ w', Glb w' → Ret 8 #[.agg (vals .u8 32 f)] w' (.agg (vals .u8 32 p))) (HO : ∀ w', Glb w' → Ret 10 #[] w' (.agg (vals .u8 32 (byt y)))) (HV1 : l.length ≤ 500 → VerAt p (hiB s z 32) A l.length c false w) (HV2 : l.length ≤ 500 → VerAt p (off2 s) A l.length c false w) (HV3 : l.length ≤ 500 → VerAt two0 s A l.length c false w) (HF : ∀ w', Glb w' → Ret 11 #[.agg (vals .u8 32 (fun j => s (32 + j)))] w' (.bool true)) (HR : ∀ w', Ret 12 #[.agg (vals .u8 32 (fun j => s (32 + j)))] w' (.bool true)) : Ret 4 #[.agg (vals .u8 32 f), .slice A l.length c] w (.bool true) := by
  go_enter Tryd.func4, Tryd.ntmps4
  have _ := hf
  have hO := Own.start w
  have HG := hide hG
  clear hG
  have hyL : y ≤ S.qL := hy.out ▸ Nat.le_refl _
  have hy256 : y < 2 ^ 256 := hy.out ▸ S.qL_lt256
  have hS256 : S0 < 2 ^ 256 := Nat.lt_trans hS0 S.qL_lt256
  have Hc := hide (cw_all S0 y hS0 hyL)
  have Hlow := hide (fun k hk => cw_low S0 y k hS256 hy256 hk)
  clear hyL hy256 hS256 hS0
  go_upto_region 0 with (fail)
  refine s4r0_r hO (fit_by _) ?_
  intro n2 w1 hO
  replace hO : Own w w1 [(n2, vals .u8 32 f, 22)] := hO
  go_upto_region 1 with (fail)
  refine s4r1_r hO (fun w hL => awake_s w (HG.out.low hL)) ?_
  intro w2 hO
  replace hO : Own w w2 [(n2, vals .u8 32 f, 22)] := hO
  by_cases hlen : 500 < l.length
  · have hi : (500 : Int) < (l.length : Int) := by omega
    have HL := hide hO.low
    clear hO
    go_wp2_with fail
    exact bodyPost_ret (v := .bool true) (results_tmp Tryd.results4 _ _ _) rfl ⟨rfl, HL.out⟩
  have hi : ¬ (500 : Int) < (l.length : Int) := by omega
  have Hlen := hide (hl500 hlen)
  clear hlen
  replace HS := HS Hlen.out
  replace HV1 := HV1 Hlen.out
  replace HV2 := HV2 Hlen.out
  replace HV3 := HV3 Hlen.out
  go_upto_region 4 with (fail)
  refine s4r4_r hO 0 rfl (fun w hL _ => HP w (HG.out.low hL)) (fit_by _) ?_
  intro n6 w3 hO
  replace hO : Own w w3 [(n6, vals .u8 32 p, 22), (n2, vals .u8 32 f, 22)] := hO
  go_upto_region 5 with (fail)
  refine s4r5_r hO 1 rfl (fun _ => by kernel_rfl) (fun q w hL _ hq => HS q w hL hq) (fit_b6 _) ?_
  intro n7 q26 w4 hO
  replace hO : Own w w4 [(n7, vals .u8 64 s, 28), (n6, vals .u8 32 p, 22), (n2, vals .u8 32 f, 22)] := hO
  go_upto_region 6 with (fail)
  refine s4r6_r hO (fun w hL => HO w (HG.out.low hL)) (fit_by _) ?_
  intro n8 w5 hO
  replace hO : Own w w5 [(n8, vals .u8 32 (byt y), 22), (n7, vals .u8 64 s, 28), (n6, vals .u8 32 p, 22), (n2, vals .u8 32 f, 22)] := hO
  go_upto_region 7 with (fail)
  refine s4r7_r hO 1 rfl ?_
  intro n9 w6 hO
  replace hO : Own w w6 [(n9, vals .u8 64 s, 28), (n8, vals .u8 32 (byt y), 22), (n7, vals .u8 64 s, 28), (n6, vals .u8 32 p, 22), (n2, vals .u8 32 f, 22)] := hO
  have hO2 : Own w w6 [(n9, vals .u8 64 (hiB s z 0), 28), (n8, vals .u8 32 (byt y), 22), (n7, vals .u8 64 s, 28), (n6, vals .u8 32 p, 22), (n2, vals .u8 32 f, 22)] := by rw [← hiB_zero]; exact hO
  clear hO
  go_wp2_with fail
  go_loopw [10, 11] (fun cv i wr => ∃ k : Nat, k ≤ 32 ∧ i = .int .i64 k ∧ cv = .int .i64 (cw S0 y k : Nat) ∧ Own w wr [(n9, vals .u8 64 (hiB s z k), 28), (n8, vals .u8 32 (byt y), 22), (n7, vals .u8 64 s, 28), (n6, vals .u8 32 p, 22), (n2, vals .u8 32 f, 22)]) (fun _ i _ => (32 - intOf i).toNat)
  case atStart => exact ⟨0, by omega, rfl, by rw [cw_zero]; rfl, hO2⟩
  case round =>
    clear hO2
    obtain ⟨k, hk, rfl, rfl, hO⟩ := hrel
    by_cases hlt : k < 32
    · have hlt' : (k : Int) < 32 := by omega
      have hkm : IntKind.i64.wrap ((k : Int) + 1) = (k : Int) + 1 := T.wrap_big _ (by omega) (by omega)
      have hcl := cw_lt S0 y k
      have hnx := hide (cw_next S0 y k)
      have hlo := Hlow.out k hlt
      rw [hz.out] at hlo
      have b1 := byt_lt S0 k
      have b2 := byt_lt y k
      have hsk := hs k
      obtain ⟨cc, hcc⟩ : ∃ cc, cc = cw S0 y k := ⟨_, rfl⟩
      obtain ⟨n, hn⟩ : ∃ n, n = byt S0 k + byt y k + cc := ⟨_, rfl⟩
      rw [← hcc] at hcl hlo ⊢
      have hlo2 : n % 256 = byt z k := by rw [hn]; exact hlo
      have Hnn := hide (show n / 256 = cw S0 y (k + 1) by rw [hnx.out, hn, hcc])
      clear hlo hcc hnx Hlen
      go_upto_region 12 with (fail)
      refine s4r12_r (fun _ _ _ _ _ h => h) hO 2 rfl 1 rfl (fun a w h => add32 rfl hlt rfl h w) (fun a w h1 h2 => idx28 rfl (by omega) h1 h2 w) ((get_b6 s (32 + k) (by omega)).trans (by rw [hsk])) (fun a w h => toInt rfl b1 h w) (fun a w h1 h2 => idx22 rfl hlt h1 h2 w) (get_by _ k hlt) (fun a w h => toInt rfl b2 h w) (fun a w h1 h2 => addN rfl (by omega) h1 h2 w) (fun a w h1 h2 => hn ▸ addN rfl (by omega) h1 h2 w) ?_
      intro w7 hO
      replace hO : Own w w7 [(n9, vals .u8 64 (hiB s z k), 28), (n8, vals .u8 32 (byt y), 22), (n7, vals .u8 64 s, 28), (n6, vals .u8 32 p, 22), (n2, vals .u8 32 f, 22)] := hO
      go_upto_region 13 with (fail)
      refine s4r13_r hO 0 rfl (fun a w h => add32 rfl hlt rfl h w) (fun a w h => rem256 rfl (by omega) rfl h w) (fun a w h => toByte rfl (Nat.mod_lt _ (by omega)) h w) (fun a w h1 h2 => idx28 rfl (by omega) h1 h2 w) (get_b6 _ (32 + k) (by omega)) (set_b6 _ _ _) (fit_b6 _) ?_
      intro w8 hO
      replace hO : Own w w8 [(n9, vals .u8 64 (fun j => if j = (32 + k) then n % 256 else (hiB s z k) j), 28), (n8, vals .u8 32 (byt y), 22), (n7, vals .u8 64 s, 28), (n6, vals .u8 32 p, 22), (n2, vals .u8 32 f, 22)] := hO
      rw [hiB_next s z k _ hlo2] at hO
      go_upto_region 14 with (fail)
      refine s4r14_r hO (fun a w h => quo256 rfl (by omega) rfl h w) ?_
      intro w9 hO
      replace hO : Own w w9 [(n9, vals .u8 64 (hiB s z (k + 1)), 28), (n8, vals .u8 32 (byt y), 22), (n7, vals .u8 64 s, 28), (n6, vals .u8 32 p, 22), (n2, vals .u8 32 f, 22)] := hO
      have HO9 := hide hO
      clear hO hlo2 hn b1 b2 hsk hcl
      rw [Hnn.out]
      go_wp2_with fail
      go_roundw
      case rel => exact ⟨k + 1, by omega, by go_num, rfl, HO9.out⟩
      case measure => simp [intOf]; omega
    · have hk6 : k = 32 := by omega
      subst hk6
      rw [Hc.out]
      clear Hc Hlow
      go_upto_region 15 with (fail)
      refine s4r15_r hO 2 rfl ?_
      intro n13 w10 hO
      replace hO : Own w w10 [(n13, vals .u8 64 s, 28), (n9, vals .u8 64 (hiB s z 32), 28), (n8, vals .u8 32 (byt y), 22), (n7, vals .u8 64 s, 28), (n6, vals .u8 32 p, 22), (n2, vals .u8 32 f, 22)] := hO
      have hO2 : Own w w10 [(n13, vals .u8 64 (offB s 0), 28), (n9, vals .u8 64 (hiB s z 32), 28), (n8, vals .u8 32 (byt y), 22), (n7, vals .u8 64 s, 28), (n6, vals .u8 32 p, 22), (n2, vals .u8 32 f, 22)] := by rw [← offB_zero]; exact hO
      clear hO
      go_wp2_with fail
      go_loopw [14] (fun i wr => ∃ k : Nat, k ≤ 32 ∧ i = .int .i64 k ∧ Own w wr [(n13, vals .u8 64 (offB s k), 28), (n9, vals .u8 64 (hiB s z 32), 28), (n8, vals .u8 32 (byt y), 22), (n7, vals .u8 64 s, 28), (n6, vals .u8 32 p, 22), (n2, vals .u8 32 f, 22)]) (fun i _ => (32 - intOf i).toNat)
      case atStart => exact ⟨0, by omega, rfl, hO2⟩
      case round =>
        clear hO2
        obtain ⟨k, hk, rfl, hO⟩ := hrel
        by_cases hlt : k < 32
        · have hlt' : (k : Int) < 32 := by omega
          have hkm : IntKind.i64.wrap ((k : Int) + 1) = (k : Int) + 1 := T.wrap_big _ (by omega) (by omega)
          clear Hlen
          go_upto_region 19 with (fail)
          refine s4r19_r hO 0 rfl (fun a w h1 h2 => idx28 rfl (by omega) h1 h2 w) (get_b6 _ k (by omega)) (set_b6 _ _ _) (fit_b6 _) ?_
          intro w11 hO
          replace hO : Own w w11 [(n13, vals .u8 64 (fun j => if j = k then 0 else (offB s k) j), 28), (n9, vals .u8 64 (hiB s z 32), 28), (n8, vals .u8 32 (byt y), 22), (n7, vals .u8 64 s, 28), (n6, vals .u8 32 p, 22), (n2, vals .u8 32 f, 22)] := hO
          rw [offB_next s k] at hO
          have HO9 := hide hO
          clear hO
          go_wp2_with fail
          go_roundw
          case rel => exact ⟨k + 1, by omega, by go_num, HO9.out⟩
          case measure => simp [intOf]; omega
        · have hk6 : k = 32 := by omega
          subst hk6
          go_upto_region 20 with (fail)
          refine s4r20_r hO 0 rfl (get_b6 _ 0 (by omega)) (set_b6 _ _ _) (fit_b6 _) ?_
          intro w12 hO
          replace hO : Own w w12 [(n13, vals .u8 64 (fun j => if j = 0 then 2 else (offB s 32) j), 28), (n9, vals .u8 64 (hiB s z 32), 28), (n8, vals .u8 32 (byt y), 22), (n7, vals .u8 64 s, 28), (n6, vals .u8 32 p, 22), (n2, vals .u8 32 f, 22)] := hO
          have hO1 : Own w w12 [(n13, vals .u8 64 (off2 s), 28), (n9, vals .u8 64 (hiB s z 32), 28), (n8, vals .u8 32 (byt y), 22), (n7, vals .u8 64 s, 28), (n6, vals .u8 32 p, 22), (n2, vals .u8 32 f, 22)] := hO
          clear hO
          have hO := hO1
          clear hO1
          go_upto_region 21 with (fail)
          refine s4r21_r hO bd_by0 (fit_by _) ?_
          intro n15 w13 hO
          replace hO : Own w w13 [(n15, vals .u8 32 (fun _ => 0), 22), (n13, vals .u8 64 (off2 s), 28), (n9, vals .u8 64 (hiB s z 32), 28), (n8, vals .u8 32 (byt y), 22), (n7, vals .u8 64 s, 28), (n6, vals .u8 32 p, 22), (n2, vals .u8 32 f, 22)] := hO
          have hO2 : Own w w13 [(n15, vals .u8 32 (cutb (fun j => s (32 + j)) 0), 22), (n13, vals .u8 64 (off2 s), 28), (n9, vals .u8 64 (hiB s z 32), 28), (n8, vals .u8 32 (byt y), 22), (n7, vals .u8 64 s, 28), (n6, vals .u8 32 p, 22), (n2, vals .u8 32 f, 22)] := by rw [← cutb_zero]; exact hO
          clear hO
          go_wp2_with fail
          go_loopw [16] (fun i wr => ∃ k : Nat, k ≤ 32 ∧ i = .int .i64 k ∧ Own w wr [(n15, vals .u8 32 (cutb (fun j => s (32 + j)) k), 22), (n13, vals .u8 64 (off2 s), 28), (n9, vals .u8 64 (hiB s z 32), 28), (n8, vals .u8 32 (byt y), 22), (n7, vals .u8 64 s, 28), (n6, vals .u8 32 p, 22), (n2, vals .u8 32 f, 22)]) (fun i _ => (32 - intOf i).toNat)
          case atStart => exact ⟨0, by omega, rfl, hO2⟩
          case round =>
            clear hO2
            obtain ⟨k, hk, rfl, hO⟩ := hrel
            by_cases hlt : k < 32
            · have hlt' : (k : Int) < 32 := by omega
              have hkm : IntKind.i64.wrap ((k : Int) + 1) = (k : Int) + 1 := T.wrap_big _ (by omega) (by omega)
              clear Hlen
              go_upto_region 25 with (fail)
              refine s4r25_r hO 4 rfl 0 rfl (fun a w h => add32 rfl hlt rfl h w) (fun a w h1 h2 => idx28 rfl (by omega) h1 h2 w) (get_b6' s k hlt) (fun a w h1 h2 => idx22 rfl hlt h1 h2 w) (get_by _ k (by omega)) (set_by _ _ _) (fit_by _) ?_
              intro w14 hO
              replace hO : Own w w14 [(n15, vals .u8 32 (fun j => if j = k then (fun j => s (32 + j)) k else (cutb (fun j => s (32 + j)) k) j), 22), (n13, vals .u8 64 (off2 s), 28), (n9, vals .u8 64 (hiB s z 32), 28), (n8, vals .u8 32 (byt y), 22), (n7, vals .u8 64 s, 28), (n6, vals .u8 32 p, 22), (n2, vals .u8 32 f, 22)] := hO
              rw [cutb_next 32 (fun j => s (32 + j)) k] at hO
              have HO9 := hide hO
              clear hO
              go_wp2_with fail
              go_roundw
              case rel => exact ⟨k + 1, by omega, by go_num, HO9.out⟩
              case measure => simp [intOf]; omega
            · have hk6 : k = 32 := by omega
              subst hk6
              rw [cutb_all] at hO
              go_upto_region 26 with (fail)
              refine s4r26_r hO 5 rfl 4 rfl 2 rfl 1 rfl 0 rfl (fun a w h => eqlZ rfl rfl rfl h w) (fun _ => by kernel_rfl) (fun q w hL _ _ _ _ _ hq => HV1 q w hL hq) (fun _ => by kernel_rfl) (fun q w hL _ _ _ _ _ hq => HV2 q w hL hq) (e95 := vals .u8 32 two0) built_two (fun _ => by kernel_rfl) (fun q w hL _ _ _ _ _ hq => HV3 q w hL hq) (fun w hL _ _ _ _ _ => HF w (HG.out.low hL)) (fun w _ _ _ _ _ _ => HR w) ?_
              intro q82 q90 q98 w15 hO
              replace hO : Own w w15 [(n15, vals .u8 32 (fun j => s (32 + j)), 22), (n13, vals .u8 64 (off2 s), 28), (n9, vals .u8 64 (hiB s z 32), 28), (n8, vals .u8 32 (byt y), 22), (n7, vals .u8 64 s, 28), (n6, vals .u8 32 p, 22), (n2, vals .u8 32 f, 22)] := hO
              go_wp2_with fail
              exact bodyPost_ret (v := .bool true) (results_tmp Tryd.results4 _ _ _) rfl ⟨rfl, hO.low⟩
theorem order_c {w : World} (hG : Glb w) : Ret 10 #[] w (.agg (vals .u8 32 (byt S.qL))) := S.order_at _ w rfl hG.1
theorem strict_walk (f : Nat → Nat) (A : Option Addr) (l : List Nat) (c : Nat) (w : World) (hG : Glb w) (hf : ∀ i, f i < 256) (hA : T.Rds w A l) (hc : l.length ≤ c) (hl : ∀ x ∈ l, x < 256) : Ret 4 #[.agg (vals .u8 32 f), .slice A l.length c] w (.bool true) := by
  have hz : sN f l + S.qL < 2 ^ 256 := by
    have h1 := sN_lt f l
    have h2 := S.qL_lt
    have h3 : (2 : Nat) ^ 256 = 8 * 2 ^ 253 := by decide +kernel
    omega
  exact strict_g f (sgn f l) (pub f) S.qL (sN f l + S.qL) (sN f l) A l c hf (sgn_lt f l) (sN_lt f l) (sgn_high f l) (hide rfl) (hide rfl) w hG (sgnAt f hf hG hA hc hl) (public_c f hf) (fun _ hG => order_c hG)
    (fun hn => verAt _ _ (pub_lt f) (hiB_lt (sgn_lt f l) _ _) hG hA hc hl hn false (hide (ver_high _ _ _ _ (Nat.le_add_left _ _) hz)))
    (fun hn => verAt _ _ (pub_lt f) (off2_lt (sgn_lt f l)) hG hA hc hl hn false (hide (ver_off _ _ _)))
    (fun hn => verAt _ _ two0_lt (sgn_lt f l) hG hA hc hl hn false (hide (ver_two _ _)))
    (fun _ hG => fine_b _ (fun _ => sgn_lt f l _) true (hide (end_fine f l)) hG) (rfine_b _ (fun _ => sgn_lt f l _) true (hide (end_fine f l)))
end Go.Proofs.YtbpmakegimgbpaaDoor

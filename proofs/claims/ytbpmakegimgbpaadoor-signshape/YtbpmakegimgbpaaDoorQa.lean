/- SignShape: the walk. A text of any length; the package's variables lie as they were laid. -/
import Derived.Test.YtbpmakegimgbpaaDoorQ0
namespace Go.Proofs.YtbpmakegimgbpaaDoor
set_option maxRecDepth 100000
open F Go.RowKit

def s5r0Op0 : Oper := ⟨some 2, .box 22 (.tmp 0), 0, "law.go:104", #[], none⟩
def s5r0Op1 : Oper := ⟨some 4, .assign (.const (.bool false)), 4, "law.go:104", #[], none⟩
def s5r0Ops : Array Oper := #[s5r0Op0, s5r0Op1]
set_option maxHeartbeats 2000000 in
theorem s5r0_r {Q : Exit → Act → World → Prop} {u w : World} {L : List Row} {z1 z2 z3 z4 : Value} {zz : List Value} {e0 : Array Value} (hO : Own u w L) (fe0_22 : Fit 22 e0) (H : ∀ (n2 : Nat) (w' : World), Own u w' ((n2, e0, 22) :: L) → Q .normal { tmps := List.toArray ((.agg e0) :: z1 :: (.pointer (some ⟨n2, 0, none⟩)) :: z3 :: (.bool false) :: zz), defers := [] } w') :
    (Code.region 0 s5r0Ops false).wp Tryd.prog Q { tmps := List.toArray ((.agg e0) :: z1 :: z2 :: z3 :: z4 :: zz), defers := [] } w := by
  refine wp_region_list (show wpList _ s5r0Ops _ [s5r0Op0, s5r0Op1] _ _ from ?_)
  refine l_new hO (e0) 22 (run_box 22 _ rfl _ (by kernel_rfl)) fe0_22 ?_
  intro n2 w1 hO
  refine l_val (.bool false) (by kernel_rfl) ?_
  exact l_fr _ (wpList_nil (H n2 _ hO))
def s5r1Op0 : Oper := ⟨some 14, .call { callee := .value (.func 6), args := #[], argTypes := #[] }, 4, "law.go:105", #[], none⟩
def s5r1Op1 : Oper := ⟨some 5, .assign (.tmp 14), 4, "law.go:105", #[⟨0, .data⟩, ⟨0, .chain⟩, ⟨0, .phase⟩], none⟩
def s5r1Ops : Array Oper := #[s5r1Op0, s5r1Op1]
set_option maxHeartbeats 2000000 in
theorem s5r1_r {Q : Exit → Act → World → Prop} {u w : World} {L : List Row} {z0 z1 z2 z3 z4 z5 z6 z7 z8 z9 z10 z11 z12 z13 z14 : Value} {zz : List Value} (hO : Own u w L) (r14 : ∀ (w : World), Below u.heap.size u w → Ret 6 #[] w (.bool true)) (H : ∀ (w' : World), Own u w' (L) → Q .normal { tmps := List.toArray (z0 :: z1 :: z2 :: z3 :: z4 :: (.bool true) :: z6 :: z7 :: z8 :: z9 :: z10 :: z11 :: z12 :: z13 :: (.bool true) :: zz), defers := [] } w') :
    (Code.region 1 s5r1Ops false).wp Tryd.prog Q { tmps := List.toArray (z0 :: z1 :: z2 :: z3 :: z4 :: z5 :: z6 :: z7 :: z8 :: z9 :: z10 :: z11 :: z12 :: z13 :: z14 :: zz), defers := [] } w := by
  refine wp_region_list (show wpList _ s5r1Ops _ [s5r1Op0, s5r1Op1] _ _ from ?_)
  refine l_cw hO 6 #[] (.bool true) (r14 _ hO.low) ?_
  intro w1 _ hO
  refine l_val (.bool true) (by kernel_rfl) ?_
  exact l_fr _ (wpList_nil (H  _ hO))
def s5r4Op0 : Oper := ⟨some 19, .load 22 (.tmp 2), 22, "law.go:109", #[], none⟩
def s5r4Op1 : Oper := ⟨some 20, .move (.tmp 1), 23, "law.go:109", #[], none⟩
def s5r4Op2 : Oper := ⟨some 21, .buildSlice 26 1 #[(0, .tmp 20)], 26, "law.go:109", #[⟨1, .data⟩], none⟩
def s5r4Op3 : Oper := ⟨some 22, .call { callee := .value (.func 7), args := #[.tmp 19, .tmp 21], argTypes := #[22, 26] }, 28, "law.go:109", #[⟨0, .data⟩, ⟨2, .data⟩], none⟩
def s5r4Op4 : Oper := ⟨some 6, .alloc 28, 0, "law.go:109", #[], none⟩
def s5r4Op5 : Oper := ⟨none, .store 28 (.tmp 6) (.tmp 22), 0, "law.go:109", #[⟨4, .data⟩, ⟨3, .data⟩, ⟨3, .chain⟩, ⟨0, .phase⟩, ⟨1, .phase⟩, ⟨2, .phase⟩, ⟨3, .phase⟩, ⟨4, .phase⟩], none⟩
def s5r4Ops : Array Oper := #[s5r4Op0, s5r4Op1, s5r4Op2, s5r4Op3, s5r4Op4, s5r4Op5]
set_option maxHeartbeats 2000000 in
theorem s5r4_r {Q : Exit → Act → World → Prop} {u w : World} {L : List Row} {z0 z3 z4 z5 z6 z7 z8 z9 z10 z11 z12 z13 z14 z15 z16 z17 z18 z19 z20 z21 z22 : Value} {x1 : Value} {zz : List Value} {b2 : Nat} {c2 : Array Value} {e22 : Array Value} (hO : Own u w L) (i2 : Nat) (h2 : L[i2]? = some (b2, c2, 22)) (u21 : ∀ w : World, (Instr.buildSlice 26 1 #[(0, x1)]).run Tryd.prog w = .ok (.slice (some ⟨w.heap.size, 0, none⟩) 1 1) (w.alloc (.cells #[x1] 23))) (r22 : ∀ (q21 : Nat) (w : World), Below u.heap.size u w → Blk w b2 c2 22 → Blk w q21 #[x1] 23 → Ret 7 #[.agg c2, .slice (some ⟨q21, 0, none⟩) 1 1] w (.agg e22)) (fe22_28 : Fit 28 e22) (H : ∀ (n6 : Nat) (q21 : Nat) (w' : World), Own u w' ((n6, e22, 28) :: L) → Q .normal { tmps := List.toArray (z0 :: x1 :: (.pointer (some ⟨b2, 0, none⟩)) :: z3 :: z4 :: z5 :: (.pointer (some ⟨n6, 0, none⟩)) :: z7 :: z8 :: z9 :: z10 :: z11 :: z12 :: z13 :: z14 :: z15 :: z16 :: z17 :: z18 :: (.agg c2) :: x1 :: (.slice (some ⟨q21, 0, none⟩) 1 1) :: (.agg e22) :: zz), defers := [] } w') :
    (Code.region 4 s5r4Ops false).wp Tryd.prog Q { tmps := List.toArray (z0 :: x1 :: (.pointer (some ⟨b2, 0, none⟩)) :: z3 :: z4 :: z5 :: z6 :: z7 :: z8 :: z9 :: z10 :: z11 :: z12 :: z13 :: z14 :: z15 :: z16 :: z17 :: z18 :: z19 :: z20 :: z21 :: z22 :: zz), defers := [] } w := by
  refine wp_region_list (show wpList _ s5r4Ops _ [s5r4Op0, s5r4Op1, s5r4Op2, s5r4Op3, s5r4Op4, s5r4Op5] _ _ from ?_)
  refine l_ld hO 22 i2 h2 Tryd.underlying22 ?_
  refine l_val (x1) (by kernel_rfl) ?_
  refine l_bs hO 1 #[x1] 23 (fun w => run_bsl 26 23 1 _ rfl #[(0, x1)] (by kernel_rfl) (u21 w)) ?_
  intro q21 w1 hb hB21 hO
  clear hb
  refine l_fr (Fr [z0, x1, D b2, z3, z4, z5, z6, z7, z8, z9, z10, z11, z12, z13, z14, z15, z16, z17, z18, A c2, x1, .slice (some ⟨q21, 0, none⟩) 1 1, z22] zz) ?_
  refine l_cw hO 7 #[.agg c2, .slice (some ⟨q21, 0, none⟩) 1 1] (.agg e22) (r22 q21 _ hO.low (hO.row (i2) h2) hB21) ?_
  intro w2 _ hO
  clear hB21
  refine l_new hO (vals .u8 64 (fun _ => 0)) 28 (alb6 rfl) (fit_b6 _) ?_
  intro n6 w3 hO
  refine l_st hO 28 0 rfl e22 fe22_28 ?_
  intro w4 hO
  exact l_fr _ (wpList_nil (H n6 q21 _ hO))
def s5r5Op0 : Oper := ⟨some 23, .build 22 #[], 22, "law.go:110", #[], none⟩
def s5r5Op1 : Oper := ⟨some 7, .alloc 22, 0, "law.go:110", #[], none⟩
def s5r5Op2 : Oper := ⟨none, .store 22 (.tmp 7) (.tmp 23), 0, "law.go:110", #[⟨1, .data⟩, ⟨0, .data⟩, ⟨0, .phase⟩, ⟨1, .phase⟩], none⟩
def s5r5Ops : Array Oper := #[s5r5Op0, s5r5Op1, s5r5Op2]
set_option maxHeartbeats 2000000 in
theorem s5r5_r {Q : Exit → Act → World → Prop} {u w : World} {L : List Row} {z0 z1 z2 z3 z4 z5 z6 z7 z8 z9 z10 z11 z12 z13 z14 z15 z16 z17 z18 z19 z20 z21 z22 z23 : Value} {zz : List Value} {e23 : Array Value} (hO : Own u w L) (q23 : Tryd.prog.built 22 [] = some e23) (fe23_22 : Fit 22 e23) (H : ∀ (n7 : Nat) (w' : World), Own u w' ((n7, e23, 22) :: L) → Q .normal { tmps := List.toArray (z0 :: z1 :: z2 :: z3 :: z4 :: z5 :: z6 :: (.pointer (some ⟨n7, 0, none⟩)) :: z8 :: z9 :: z10 :: z11 :: z12 :: z13 :: z14 :: z15 :: z16 :: z17 :: z18 :: z19 :: z20 :: z21 :: z22 :: (.agg e23) :: zz), defers := [] } w') :
    (Code.region 5 s5r5Ops false).wp Tryd.prog Q { tmps := List.toArray (z0 :: z1 :: z2 :: z3 :: z4 :: z5 :: z6 :: z7 :: z8 :: z9 :: z10 :: z11 :: z12 :: z13 :: z14 :: z15 :: z16 :: z17 :: z18 :: z19 :: z20 :: z21 :: z22 :: z23 :: zz), defers := [] } w := by
  refine wp_region_list (show wpList _ s5r5Ops _ [s5r5Op0, s5r5Op1, s5r5Op2] _ _ from ?_)
  refine l_val (.agg e23) (run_bd 22 _ rfl [] (by kernel_rfl) e23 q23 _) ?_
  refine l_new hO (vals .u8 32 (fun _ => 0)) 22 (al22 rfl) (fit_by _) ?_
  intro n7 w1 hO
  refine l_st hO 22 0 rfl e23 fe23_22 ?_
  intro w2 hO
  exact l_fr _ (wpList_nil (H n7 _ hO))
def s5r6Op0 : Oper := ⟨some 24, .build 22 #[], 22, "law.go:111", #[], none⟩
def s5r6Op1 : Oper := ⟨some 8, .alloc 22, 0, "law.go:111", #[], none⟩
def s5r6Op2 : Oper := ⟨none, .store 22 (.tmp 8) (.tmp 24), 0, "law.go:111", #[⟨1, .data⟩, ⟨0, .data⟩, ⟨0, .phase⟩, ⟨1, .phase⟩], none⟩
def s5r6Ops : Array Oper := #[s5r6Op0, s5r6Op1, s5r6Op2]
set_option maxHeartbeats 2000000 in
theorem s5r6_r {Q : Exit → Act → World → Prop} {u w : World} {L : List Row} {z0 z1 z2 z3 z4 z5 z6 z7 z8 z9 z10 z11 z12 z13 z14 z15 z16 z17 z18 z19 z20 z21 z22 z23 z24 : Value} {zz : List Value} {e24 : Array Value} (hO : Own u w L) (q24 : Tryd.prog.built 22 [] = some e24) (fe24_22 : Fit 22 e24) (H : ∀ (n8 : Nat) (w' : World), Own u w' ((n8, e24, 22) :: L) → Q .normal { tmps := List.toArray (z0 :: z1 :: z2 :: z3 :: z4 :: z5 :: z6 :: z7 :: (.pointer (some ⟨n8, 0, none⟩)) :: z9 :: z10 :: z11 :: z12 :: z13 :: z14 :: z15 :: z16 :: z17 :: z18 :: z19 :: z20 :: z21 :: z22 :: z23 :: (.agg e24) :: zz), defers := [] } w') :
    (Code.region 6 s5r6Ops false).wp Tryd.prog Q { tmps := List.toArray (z0 :: z1 :: z2 :: z3 :: z4 :: z5 :: z6 :: z7 :: z8 :: z9 :: z10 :: z11 :: z12 :: z13 :: z14 :: z15 :: z16 :: z17 :: z18 :: z19 :: z20 :: z21 :: z22 :: z23 :: z24 :: zz), defers := [] } w := by
  refine wp_region_list (show wpList _ s5r6Ops _ [s5r6Op0, s5r6Op1, s5r6Op2] _ _ from ?_)
  refine l_val (.agg e24) (run_bd 22 _ rfl [] (by kernel_rfl) e24 q24 _) ?_
  refine l_new hO (vals .u8 32 (fun _ => 0)) 22 (al22 rfl) (fit_by _) ?_
  intro n8 w1 hO
  refine l_st hO 22 0 rfl e24 fe24_22 ?_
  intro w2 hO
  exact l_fr _ (wpList_nil (H n8 _ hO))
def s5r10Op0 : Oper := ⟨some 29, .move (.tmp 9), 3, "law.go:113", #[], none⟩
def s5r10Op1 : Oper := ⟨some 30, .move (.tmp 9), 3, "law.go:113", #[], none⟩
def s5r10Op2 : Oper := ⟨some 31, .indexAddr 28 (.tmp 6) (.tmp 30), 0, "law.go:113", #[⟨1, .data⟩], none⟩
def s5r10Op3 : Oper := ⟨some 32, .load 5 (.tmp 31), 5, "law.go:113", #[⟨2, .data⟩], none⟩
def s5r10Op4 : Oper := ⟨some 33, .indexAddr 22 (.tmp 7) (.tmp 29), 0, "law.go:113", #[⟨0, .data⟩, ⟨0, .phase⟩, ⟨1, .phase⟩, ⟨2, .phase⟩, ⟨3, .phase⟩], none⟩
def s5r10Op5 : Oper := ⟨none, .store 5 (.tmp 33) (.tmp 32), 0, "law.go:113", #[⟨4, .data⟩, ⟨3, .data⟩, ⟨0, .phase⟩, ⟨1, .phase⟩, ⟨2, .phase⟩, ⟨3, .phase⟩], none⟩
def s5r10Ops : Array Oper := #[s5r10Op0, s5r10Op1, s5r10Op2, s5r10Op3, s5r10Op4, s5r10Op5]
set_option maxHeartbeats 2000000 in
theorem s5r10_r {Q : Exit → Act → World → Prop} {u w : World} {L : List Row} {z0 z1 z2 z3 z4 z5 z8 z10 z11 z12 z13 z14 z15 z16 z17 z18 z19 z20 z21 z22 z23 z24 z25 z26 z27 z28 z29 z30 z31 z32 z33 : Value} {zz : List Value} {b6 b7 : Nat} {c6 c7 : Array Value} {e905 : Array Value} {k j31 g32 j33 g905 : Nat} (hO : Own u w L) (i6 : Nat) (h6 : L[i6]? = some (b6, c6, 28)) (i7 : Nat) (h7 : L[i7]? = some (b7, c7, 22)) (k31 : ∀ (a : Act) (w : World), a.eval (.tmp 30) = .int .i64 ((k : Nat) : Int) → a.eval (.tmp 6) = .pointer (some ⟨b6, 0, none⟩) → (execOp a.eval s5r10Op2).run Tryd.prog w = .ok (.value (.pointer (some ⟨b6, j31, none⟩))) w) (v32 : c6[j31]? = some (.int .u8 ((g32 : Nat) : Int))) (k33 : ∀ (a : Act) (w : World), a.eval (.tmp 29) = .int .i64 ((k : Nat) : Int) → a.eval (.tmp 7) = .pointer (some ⟨b7, 0, none⟩) → (execOp a.eval s5r10Op4).run Tryd.prog w = .ok (.value (.pointer (some ⟨b7, j33, none⟩))) w) (v905 : c7[j33]? = some (.int .u8 ((g905 : Nat) : Int))) (s5 : c7.setIfInBounds j33 (.int .u8 ((g32 : Nat) : Int)) = e905) (fe905_22 : Fit 22 e905) (H : ∀ (w' : World), Own u w' ((L.set i7 (b7, e905, 22))) → Q .normal { tmps := List.toArray (z0 :: z1 :: z2 :: z3 :: z4 :: z5 :: (.pointer (some ⟨b6, 0, none⟩)) :: (.pointer (some ⟨b7, 0, none⟩)) :: z8 :: (.int .i64 ((k : Nat) : Int)) :: z10 :: z11 :: z12 :: z13 :: z14 :: z15 :: z16 :: z17 :: z18 :: z19 :: z20 :: z21 :: z22 :: z23 :: z24 :: z25 :: z26 :: z27 :: z28 :: (.int .i64 ((k : Nat) : Int)) :: (.int .i64 ((k : Nat) : Int)) :: (.pointer (some ⟨b6, j31, none⟩)) :: (.int .u8 ((g32 : Nat) : Int)) :: (.pointer (some ⟨b7, j33, none⟩)) :: zz), defers := [] } w') :
    (Code.region 10 s5r10Ops false).wp Tryd.prog Q { tmps := List.toArray (z0 :: z1 :: z2 :: z3 :: z4 :: z5 :: (.pointer (some ⟨b6, 0, none⟩)) :: (.pointer (some ⟨b7, 0, none⟩)) :: z8 :: (.int .i64 ((k : Nat) : Int)) :: z10 :: z11 :: z12 :: z13 :: z14 :: z15 :: z16 :: z17 :: z18 :: z19 :: z20 :: z21 :: z22 :: z23 :: z24 :: z25 :: z26 :: z27 :: z28 :: z29 :: z30 :: z31 :: z32 :: z33 :: zz), defers := [] } w := by
  refine wp_region_list (show wpList _ s5r10Ops _ [s5r10Op0, s5r10Op1, s5r10Op2, s5r10Op3, s5r10Op4, s5r10Op5] _ _ from ?_)
  refine l_val (.int .i64 ((k : Nat) : Int)) (by kernel_rfl) ?_
  refine l_val (.int .i64 ((k : Nat) : Int)) (by kernel_rfl) ?_
  refine l_val (.pointer (some ⟨b6, j31, none⟩)) (k31 _ _ (by kernel_rfl) (by kernel_rfl)) ?_
  refine l_fr (Fr [z0, z1, z2, z3, z4, z5, D b6, D b7, z8, .int .i64 ((k : Nat) : Int), z10, z11, z12, z13, z14, z15, z16, z17, z18, z19, z20, z21, z22, z23, z24, z25, z26, z27, z28, .int .i64 ((k : Nat) : Int), .int .i64 ((k : Nat) : Int), .pointer (some ⟨b6, j31, none⟩), z32, z33] zz) ?_
  refine l_c8 hO i6 h6 v32 ?_
  refine l_val (.pointer (some ⟨b7, j33, none⟩)) (k33 _ _ (by kernel_rfl) (by kernel_rfl)) ?_
  refine l_stc hO i7 h7 g32 v905 s5 fe905_22 ?_
  intro w1 hO
  exact l_fr _ (wpList_nil (H  _ hO))
def s5r11Op0 : Oper := ⟨some 34, .move (.tmp 9), 3, "law.go:114", #[], none⟩
def s5r11Op1 : Oper := ⟨some 35, .move (.tmp 9), 3, "law.go:114", #[], none⟩
def s5r11Op2 : Oper := ⟨some 36, .binOp .add 3 (.const (.int .i64 32)) (.tmp 35) 3, 3, "law.go:114", #[⟨1, .data⟩], none⟩
def s5r11Op3 : Oper := ⟨some 37, .indexAddr 28 (.tmp 6) (.tmp 36), 0, "law.go:114", #[⟨2, .data⟩], none⟩
def s5r11Op4 : Oper := ⟨some 38, .load 5 (.tmp 37), 5, "law.go:114", #[⟨3, .data⟩], none⟩
def s5r11Op5 : Oper := ⟨some 39, .indexAddr 22 (.tmp 8) (.tmp 34), 0, "law.go:114", #[⟨0, .data⟩, ⟨0, .phase⟩, ⟨1, .phase⟩, ⟨2, .phase⟩, ⟨3, .phase⟩, ⟨4, .phase⟩], none⟩
def s5r11Op6 : Oper := ⟨none, .store 5 (.tmp 39) (.tmp 38), 0, "law.go:114", #[⟨5, .data⟩, ⟨4, .data⟩, ⟨0, .phase⟩, ⟨1, .phase⟩, ⟨2, .phase⟩, ⟨3, .phase⟩, ⟨4, .phase⟩], none⟩
def s5r11Ops : Array Oper := #[s5r11Op0, s5r11Op1, s5r11Op2, s5r11Op3, s5r11Op4, s5r11Op5, s5r11Op6]
set_option maxHeartbeats 2000000 in
theorem s5r11_r {Q : Exit → Act → World → Prop} {u w : World} {L : List Row} {z0 z1 z2 z3 z4 z5 z7 z10 z11 z12 z13 z14 z15 z16 z17 z18 z19 z20 z21 z22 z23 z24 z25 z26 z27 z28 z29 z30 z31 z32 z33 z34 z35 z36 z37 z38 z39 : Value} {zz : List Value} {b6 b8 : Nat} {c6 c8 : Array Value} {e906 : Array Value} {k g36 j37 g38 j39 g906 : Nat} (hO : Own u w L) (i6 : Nat) (h6 : L[i6]? = some (b6, c6, 28)) (i8 : Nat) (h8 : L[i8]? = some (b8, c8, 22)) (k36 : ∀ (a : Act) (w : World), a.eval (.tmp 35) = .int .i64 ((k : Nat) : Int) → (execOp a.eval s5r11Op2).run Tryd.prog w = .ok (.value (.int .i64 ((g36 : Nat) : Int))) w) (k37 : ∀ (a : Act) (w : World), a.eval (.tmp 36) = .int .i64 ((g36 : Nat) : Int) → a.eval (.tmp 6) = .pointer (some ⟨b6, 0, none⟩) → (execOp a.eval s5r11Op3).run Tryd.prog w = .ok (.value (.pointer (some ⟨b6, j37, none⟩))) w) (v38 : c6[j37]? = some (.int .u8 ((g38 : Nat) : Int))) (k39 : ∀ (a : Act) (w : World), a.eval (.tmp 34) = .int .i64 ((k : Nat) : Int) → a.eval (.tmp 8) = .pointer (some ⟨b8, 0, none⟩) → (execOp a.eval s5r11Op5).run Tryd.prog w = .ok (.value (.pointer (some ⟨b8, j39, none⟩))) w) (v906 : c8[j39]? = some (.int .u8 ((g906 : Nat) : Int))) (s6 : c8.setIfInBounds j39 (.int .u8 ((g38 : Nat) : Int)) = e906) (fe906_22 : Fit 22 e906) (H : ∀ (w' : World), Own u w' ((L.set i8 (b8, e906, 22))) → Q .normal { tmps := List.toArray (z0 :: z1 :: z2 :: z3 :: z4 :: z5 :: (.pointer (some ⟨b6, 0, none⟩)) :: z7 :: (.pointer (some ⟨b8, 0, none⟩)) :: (.int .i64 ((k : Nat) : Int)) :: z10 :: z11 :: z12 :: z13 :: z14 :: z15 :: z16 :: z17 :: z18 :: z19 :: z20 :: z21 :: z22 :: z23 :: z24 :: z25 :: z26 :: z27 :: z28 :: z29 :: z30 :: z31 :: z32 :: z33 :: (.int .i64 ((k : Nat) : Int)) :: (.int .i64 ((k : Nat) : Int)) :: (.int .i64 ((g36 : Nat) : Int)) :: (.pointer (some ⟨b6, j37, none⟩)) :: (.int .u8 ((g38 : Nat) : Int)) :: (.pointer (some ⟨b8, j39, none⟩)) :: zz), defers := [] } w') :
    (Code.region 11 s5r11Ops false).wp Tryd.prog Q { tmps := List.toArray (z0 :: z1 :: z2 :: z3 :: z4 :: z5 :: (.pointer (some ⟨b6, 0, none⟩)) :: z7 :: (.pointer (some ⟨b8, 0, none⟩)) :: (.int .i64 ((k : Nat) : Int)) :: z10 :: z11 :: z12 :: z13 :: z14 :: z15 :: z16 :: z17 :: z18 :: z19 :: z20 :: z21 :: z22 :: z23 :: z24 :: z25 :: z26 :: z27 :: z28 :: z29 :: z30 :: z31 :: z32 :: z33 :: z34 :: z35 :: z36 :: z37 :: z38 :: z39 :: zz), defers := [] } w := by
  refine wp_region_list (show wpList _ s5r11Ops _ [s5r11Op0, s5r11Op1, s5r11Op2, s5r11Op3, s5r11Op4, s5r11Op5, s5r11Op6] _ _ from ?_)
  refine l_val (.int .i64 ((k : Nat) : Int)) (by kernel_rfl) ?_
  refine l_val (.int .i64 ((k : Nat) : Int)) (by kernel_rfl) ?_
  refine l_val (.int .i64 ((g36 : Nat) : Int)) (k36 _ _ (by kernel_rfl)) ?_
  refine l_fr (Fr [z0, z1, z2, z3, z4, z5, D b6, z7, D b8, .int .i64 ((k : Nat) : Int), z10, z11, z12, z13, z14, z15, z16, z17, z18, z19, z20, z21, z22, z23, z24, z25, z26, z27, z28, z29, z30, z31, z32, z33, .int .i64 ((k : Nat) : Int), .int .i64 ((k : Nat) : Int), .int .i64 ((g36 : Nat) : Int), z37, z38, z39] zz) ?_
  refine l_val (.pointer (some ⟨b6, j37, none⟩)) (k37 _ _ (by kernel_rfl) (by kernel_rfl)) ?_
  refine l_c8 hO i6 h6 v38 ?_
  refine l_val (.pointer (some ⟨b8, j39, none⟩)) (k39 _ _ (by kernel_rfl) (by kernel_rfl)) ?_
  refine l_fr (Fr [z0, z1, z2, z3, z4, z5, D b6, z7, D b8, .int .i64 ((k : Nat) : Int), z10, z11, z12, z13, z14, z15, z16, z17, z18, z19, z20, z21, z22, z23, z24, z25, z26, z27, z28, z29, z30, z31, z32, z33, .int .i64 ((k : Nat) : Int), .int .i64 ((k : Nat) : Int), .int .i64 ((g36 : Nat) : Int), .pointer (some ⟨b6, j37, none⟩), .int .u8 ((g38 : Nat) : Int), .pointer (some ⟨b8, j39, none⟩)] zz) ?_
  refine l_stc hO i8 h8 g38 v906 s6 fe906_22 ?_
  intro w1 hO
  exact l_fr _ (wpList_nil (H  _ hO))
def s5r12Op0 : Oper := ⟨some 41, .load 22 (.tmp 7), 22, "law.go:116", #[], none⟩
def s5r12Op1 : Oper := ⟨some 42, .call { callee := .value (.func 13), args := #[.tmp 41], argTypes := #[22] }, 42, "law.go:116", #[⟨0, .data⟩], none⟩
def s5r12Op2 : Oper := ⟨some 40, .move (.tmp 42), 42, "law.go:116", #[⟨1, .data⟩], none⟩
def s5r12Op3 : Oper := ⟨some 43, .extract (.tmp 40) 0, 41, "law.go:116", #[⟨2, .data⟩], none⟩
def s5r12Op4 : Oper := ⟨some 44, .extract (.tmp 40) 1, 4, "law.go:116", #[⟨2, .data⟩, ⟨6, .gcOnly .lateStores⟩], none⟩
def s5r12Op5 : Oper := ⟨some 10, .alloc 41, 0, "law.go:116", #[], none⟩
def s5r12Op6 : Oper := ⟨none, .store 41 (.tmp 10) (.tmp 43), 0, "law.go:116", #[⟨5, .data⟩, ⟨3, .data⟩, ⟨1, .chain⟩, ⟨0, .phase⟩, ⟨1, .phase⟩, ⟨2, .phase⟩, ⟨3, .phase⟩, ⟨4, .textOnly .lateStores⟩, ⟨5, .phase⟩], none⟩
def s5r12Op7 : Oper := ⟨some 11, .assign (.tmp 44), 4, "law.go:116", #[⟨4, .data⟩, ⟨6, .chain⟩, ⟨0, .phase⟩, ⟨1, .phase⟩, ⟨2, .phase⟩, ⟨3, .phase⟩, ⟨4, .phase⟩, ⟨5, .phase⟩, ⟨6, .phase⟩], none⟩
def s5r12Ops : Array Oper := #[s5r12Op0, s5r12Op1, s5r12Op2, s5r12Op3, s5r12Op4, s5r12Op5, s5r12Op6, s5r12Op7]
set_option maxHeartbeats 2000000 in
theorem s5r12_r {Q : Exit → Act → World → Prop} {u w : World} {L : List Row} {z0 z1 z2 z3 z4 z5 z6 z8 z9 z10 z11 z12 z13 z14 z15 z16 z17 z18 z19 z20 z21 z22 z23 z24 z25 z26 z27 z28 z29 z30 z31 z32 z33 z34 z35 z36 z37 z38 z39 z40 z41 z42 z43 z44 : Value} {zz : List Value} {b7 : Nat} {c7 : Array Value} {e42a : Array Value} {p42b : Bool} (hO : Own u w L) (i7 : Nat) (h7 : L[i7]? = some (b7, c7, 22)) (r42 : ∀ w, Ret 13 #[.agg c7] w (.tuple #[.agg e42a, .bool p42b])) (fe42a_41 : Fit 41 e42a) (H : ∀ (n10 : Nat) (w' : World), Own u w' ((n10, e42a, 41) :: L) → Q .normal { tmps := List.toArray (z0 :: z1 :: z2 :: z3 :: z4 :: z5 :: z6 :: (.pointer (some ⟨b7, 0, none⟩)) :: z8 :: z9 :: (.pointer (some ⟨n10, 0, none⟩)) :: (.bool p42b) :: z12 :: z13 :: z14 :: z15 :: z16 :: z17 :: z18 :: z19 :: z20 :: z21 :: z22 :: z23 :: z24 :: z25 :: z26 :: z27 :: z28 :: z29 :: z30 :: z31 :: z32 :: z33 :: z34 :: z35 :: z36 :: z37 :: z38 :: z39 :: (.tuple #[.agg e42a, .bool p42b]) :: (.agg c7) :: (.tuple #[.agg e42a, .bool p42b]) :: (.agg e42a) :: (.bool p42b) :: zz), defers := [] } w') :
    (Code.region 12 s5r12Ops false).wp Tryd.prog Q { tmps := List.toArray (z0 :: z1 :: z2 :: z3 :: z4 :: z5 :: z6 :: (.pointer (some ⟨b7, 0, none⟩)) :: z8 :: z9 :: z10 :: z11 :: z12 :: z13 :: z14 :: z15 :: z16 :: z17 :: z18 :: z19 :: z20 :: z21 :: z22 :: z23 :: z24 :: z25 :: z26 :: z27 :: z28 :: z29 :: z30 :: z31 :: z32 :: z33 :: z34 :: z35 :: z36 :: z37 :: z38 :: z39 :: z40 :: z41 :: z42 :: z43 :: z44 :: zz), defers := [] } w := by
  refine wp_region_list (show wpList _ s5r12Ops _ [s5r12Op0, s5r12Op1, s5r12Op2, s5r12Op3, s5r12Op4, s5r12Op5, s5r12Op6, s5r12Op7] _ _ from ?_)
  refine l_ld hO 22 i7 h7 Tryd.underlying22 ?_
  refine l_call hO 13 #[.agg c7] (.tuple #[.agg e42a, .bool p42b]) r42 ?_
  intro w1 hO
  refine l_val (.tuple #[.agg e42a, .bool p42b]) (by kernel_rfl) ?_
  refine l_fr (Fr [z0, z1, z2, z3, z4, z5, z6, D b7, z8, z9, z10, z11, z12, z13, z14, z15, z16, z17, z18, z19, z20, z21, z22, z23, z24, z25, z26, z27, z28, z29, z30, z31, z32, z33, z34, z35, z36, z37, z38, z39, .tuple #[.agg e42a, .bool p42b], A c7, .tuple #[.agg e42a, .bool p42b], z43, z44] zz) ?_
  refine l_val (.agg e42a) (by kernel_rfl) ?_
  refine l_val (.bool p42b) (by kernel_rfl) ?_
  refine l_new hO (ps [0, 0]) 41 (al29 rfl) (fit_pt _ _) ?_
  intro n10 w2 hO
  refine l_fr (Fr [z0, z1, z2, z3, z4, z5, z6, D b7, z8, z9, D n10, z11, z12, z13, z14, z15, z16, z17, z18, z19, z20, z21, z22, z23, z24, z25, z26, z27, z28, z29, z30, z31, z32, z33, z34, z35, z36, z37, z38, z39, .tuple #[.agg e42a, .bool p42b], A c7, .tuple #[.agg e42a, .bool p42b], A e42a, .bool p42b] zz) ?_
  refine l_st hO 41 0 rfl e42a fe42a_41 ?_
  intro w3 hO
  refine l_val (.bool p42b) (by kernel_rfl) ?_
  exact l_fr _ (wpList_nil (H n10 _ hO))
def s5r13Op0 : Oper := ⟨some 46, .load 22 (.tmp 2), 22, "law.go:117", #[], none⟩
def s5r13Op1 : Oper := ⟨some 47, .call { callee := .value (.func 8), args := #[.tmp 46], argTypes := #[22] }, 22, "law.go:117", #[⟨0, .data⟩], none⟩
def s5r13Op2 : Oper := ⟨some 48, .call { callee := .value (.func 13), args := #[.tmp 47], argTypes := #[22] }, 42, "law.go:117", #[⟨1, .data⟩, ⟨1, .chain⟩], none⟩
def s5r13Op3 : Oper := ⟨some 45, .move (.tmp 48), 42, "law.go:117", #[⟨2, .data⟩], none⟩
def s5r13Op4 : Oper := ⟨some 49, .extract (.tmp 45) 0, 41, "law.go:117", #[⟨3, .data⟩], none⟩
def s5r13Op5 : Oper := ⟨some 50, .extract (.tmp 45) 1, 4, "law.go:117", #[⟨3, .data⟩, ⟨7, .gcOnly .lateStores⟩], none⟩
def s5r13Op6 : Oper := ⟨some 12, .alloc 41, 0, "law.go:117", #[], none⟩
def s5r13Op7 : Oper := ⟨none, .store 41 (.tmp 12) (.tmp 49), 0, "law.go:117", #[⟨6, .data⟩, ⟨4, .data⟩, ⟨2, .chain⟩, ⟨0, .phase⟩, ⟨1, .phase⟩, ⟨2, .phase⟩, ⟨3, .phase⟩, ⟨4, .phase⟩, ⟨5, .textOnly .lateStores⟩, ⟨6, .phase⟩], none⟩
def s5r13Op8 : Oper := ⟨some 13, .assign (.tmp 50), 4, "law.go:117", #[⟨5, .data⟩, ⟨7, .chain⟩, ⟨0, .phase⟩, ⟨1, .phase⟩, ⟨2, .phase⟩, ⟨3, .phase⟩, ⟨4, .phase⟩, ⟨5, .phase⟩, ⟨6, .phase⟩, ⟨7, .phase⟩], none⟩
def s5r13Ops : Array Oper := #[s5r13Op0, s5r13Op1, s5r13Op2, s5r13Op3, s5r13Op4, s5r13Op5, s5r13Op6, s5r13Op7, s5r13Op8]
set_option maxHeartbeats 2000000 in
theorem s5r13_r {Q : Exit → Act → World → Prop} {u w : World} {L : List Row} {z0 z1 z3 z4 z5 z6 z7 z8 z9 z10 z11 z12 z13 z14 z15 z16 z17 z18 z19 z20 z21 z22 z23 z24 z25 z26 z27 z28 z29 z30 z31 z32 z33 z34 z35 z36 z37 z38 z39 z40 z41 z42 z43 z44 z45 z46 z47 z48 z49 z50 : Value} {zz : List Value} {b2 : Nat} {c2 : Array Value} {e47 e48a : Array Value} {p48b : Bool} (hO : Own u w L) (i2 : Nat) (h2 : L[i2]? = some (b2, c2, 22)) (r47 : ∀ (w : World), Below u.heap.size u w → Blk w b2 c2 22 → Ret 8 #[.agg c2] w (.agg e47)) (r48 : ∀ w, Ret 13 #[.agg e47] w (.tuple #[.agg e48a, .bool p48b])) (fe48a_41 : Fit 41 e48a) (H : ∀ (n12 : Nat) (w' : World), Own u w' ((n12, e48a, 41) :: L) → Q .normal { tmps := List.toArray (z0 :: z1 :: (.pointer (some ⟨b2, 0, none⟩)) :: z3 :: z4 :: z5 :: z6 :: z7 :: z8 :: z9 :: z10 :: z11 :: (.pointer (some ⟨n12, 0, none⟩)) :: (.bool p48b) :: z14 :: z15 :: z16 :: z17 :: z18 :: z19 :: z20 :: z21 :: z22 :: z23 :: z24 :: z25 :: z26 :: z27 :: z28 :: z29 :: z30 :: z31 :: z32 :: z33 :: z34 :: z35 :: z36 :: z37 :: z38 :: z39 :: z40 :: z41 :: z42 :: z43 :: z44 :: (.tuple #[.agg e48a, .bool p48b]) :: (.agg c2) :: (.agg e47) :: (.tuple #[.agg e48a, .bool p48b]) :: (.agg e48a) :: (.bool p48b) :: zz), defers := [] } w') :
    (Code.region 13 s5r13Ops false).wp Tryd.prog Q { tmps := List.toArray (z0 :: z1 :: (.pointer (some ⟨b2, 0, none⟩)) :: z3 :: z4 :: z5 :: z6 :: z7 :: z8 :: z9 :: z10 :: z11 :: z12 :: z13 :: z14 :: z15 :: z16 :: z17 :: z18 :: z19 :: z20 :: z21 :: z22 :: z23 :: z24 :: z25 :: z26 :: z27 :: z28 :: z29 :: z30 :: z31 :: z32 :: z33 :: z34 :: z35 :: z36 :: z37 :: z38 :: z39 :: z40 :: z41 :: z42 :: z43 :: z44 :: z45 :: z46 :: z47 :: z48 :: z49 :: z50 :: zz), defers := [] } w := by
  refine wp_region_list (show wpList _ s5r13Ops _ [s5r13Op0, s5r13Op1, s5r13Op2, s5r13Op3, s5r13Op4, s5r13Op5, s5r13Op6, s5r13Op7, s5r13Op8] _ _ from ?_)
  refine l_ld hO 22 i2 h2 Tryd.underlying22 ?_
  refine l_cw hO 8 #[.agg c2] (.agg e47) (r47 _ hO.low (hO.row (i2) h2)) ?_
  intro w1 _ hO
  refine l_call hO 13 #[.agg e47] (.tuple #[.agg e48a, .bool p48b]) r48 ?_
  intro w2 hO
  refine l_fr (Fr [z0, z1, D b2, z3, z4, z5, z6, z7, z8, z9, z10, z11, z12, z13, z14, z15, z16, z17, z18, z19, z20, z21, z22, z23, z24, z25, z26, z27, z28, z29, z30, z31, z32, z33, z34, z35, z36, z37, z38, z39, z40, z41, z42, z43, z44, z45, A c2, A e47, .tuple #[.agg e48a, .bool p48b], z49, z50] zz) ?_
  refine l_val (.tuple #[.agg e48a, .bool p48b]) (by kernel_rfl) ?_
  refine l_val (.agg e48a) (by kernel_rfl) ?_
  refine l_val (.bool p48b) (by kernel_rfl) ?_
  refine l_fr (Fr [z0, z1, D b2, z3, z4, z5, z6, z7, z8, z9, z10, z11, z12, z13, z14, z15, z16, z17, z18, z19, z20, z21, z22, z23, z24, z25, z26, z27, z28, z29, z30, z31, z32, z33, z34, z35, z36, z37, z38, z39, z40, z41, z42, z43, z44, .tuple #[.agg e48a, .bool p48b], A c2, A e47, .tuple #[.agg e48a, .bool p48b], A e48a, .bool p48b] zz) ?_
  refine l_new hO (ps [0, 0]) 41 (al29 rfl) (fit_pt _ _) ?_
  intro n12 w3 hO
  refine l_st hO 41 0 rfl e48a fe48a_41 ?_
  intro w4 hO
  refine l_val (.bool p48b) (by kernel_rfl) ?_
  exact l_fr _ (wpList_nil (H n12 _ hO))
def s5r14Op0 : Oper := ⟨some 51, .move (.tmp 5), 4, "law.go:118", #[], none⟩
def s5r14Op1 : Oper := ⟨some 52, .move (.tmp 51), 4, "law.go:118", #[⟨0, .data⟩], none⟩
def s5r14Op2 : Oper := ⟨some 53, .move (.tmp 11), 4, "law.go:118", #[⟨1, .guard⟩], some (1, true)⟩
def s5r14Op3 : Oper := ⟨some 54, .pick (.tmp 52) (.tmp 53) (.const (.bool false)), 4, "law.go:118", #[⟨1, .data⟩, ⟨2, .data⟩], none⟩
def s5r14Op4 : Oper := ⟨some 55, .move (.tmp 54), 4, "law.go:118", #[⟨3, .data⟩, ⟨1, .chain⟩], none⟩
def s5r14Op5 : Oper := ⟨some 56, .move (.tmp 13), 4, "law.go:118", #[⟨4, .guard⟩], some (4, true)⟩
def s5r14Op6 : Oper := ⟨some 57, .pick (.tmp 55) (.tmp 56) (.const (.bool false)), 4, "law.go:118", #[⟨4, .data⟩, ⟨5, .data⟩], none⟩
def s5r14Op7 : Oper := ⟨some 58, .move (.tmp 57), 4, "law.go:118", #[⟨6, .data⟩, ⟨4, .chain⟩], none⟩
def s5r14Op8 : Oper := ⟨some 59, .load 22 (.tmp 8), 22, "law.go:118", #[⟨7, .guard⟩], some (7, true)⟩
def s5r14Op9 : Oper := ⟨some 60, .call { callee := .value (.func 11), args := #[.tmp 59], argTypes := #[22] }, 4, "law.go:118", #[⟨8, .data⟩, ⟨7, .chain⟩, ⟨7, .guard⟩], some (7, true)⟩
def s5r14Op10 : Oper := ⟨some 61, .pick (.tmp 58) (.tmp 60) (.const (.bool false)), 4, "law.go:118", #[⟨7, .data⟩, ⟨9, .data⟩], none⟩
def s5r14Op11 : Oper := ⟨some 4, .assign (.tmp 61), 4, "law.go:118", #[⟨10, .data⟩, ⟨9, .chain⟩, ⟨0, .phase⟩, ⟨1, .phase⟩, ⟨2, .phase⟩, ⟨3, .phase⟩, ⟨4, .phase⟩, ⟨5, .phase⟩, ⟨6, .phase⟩, ⟨7, .phase⟩, ⟨8, .phase⟩, ⟨9, .phase⟩, ⟨10, .phase⟩], none⟩
def s5r14Ops : Array Oper := #[s5r14Op0, s5r14Op1, s5r14Op2, s5r14Op3, s5r14Op4, s5r14Op5, s5r14Op6, s5r14Op7, s5r14Op8, s5r14Op9, s5r14Op10, s5r14Op11]
set_option maxHeartbeats 2000000 in
theorem s5r14_r {Q : Exit → Act → World → Prop} {u w : World} {L : List Row} {z0 z1 z2 z3 z4 z6 z7 z9 z10 z12 z14 z15 z16 z17 z18 z19 z20 z21 z22 z23 z24 z25 z26 z27 z28 z29 z30 z31 z32 z33 z34 z35 z36 z37 z38 z39 z40 z41 z42 z43 z44 z45 z46 z47 z48 z49 z50 z51 z52 z53 z54 z55 z56 z57 z58 z59 z60 z61 : Value} {b8 : Nat} {c8 : Array Value} (hO : Own u w L) (i8 : Nat) (h8 : L[i8]? = some (b8, c8, 22)) (r60 : ∀ (w : World), Below u.heap.size u w → Blk w b8 c8 22 → Ret 11 #[.agg c8] w (.bool true)) (H : ∀ (w' : World), Own u w' (L) → Q .normal { tmps := List.toArray (z0 :: z1 :: z2 :: z3 :: (.bool true) :: (.bool true) :: z6 :: z7 :: (.pointer (some ⟨b8, 0, none⟩)) :: z9 :: z10 :: (.bool true) :: z12 :: (.bool true) :: z14 :: z15 :: z16 :: z17 :: z18 :: z19 :: z20 :: z21 :: z22 :: z23 :: z24 :: z25 :: z26 :: z27 :: z28 :: z29 :: z30 :: z31 :: z32 :: z33 :: z34 :: z35 :: z36 :: z37 :: z38 :: z39 :: z40 :: z41 :: z42 :: z43 :: z44 :: z45 :: z46 :: z47 :: z48 :: z49 :: z50 :: (.bool true) :: (.bool true) :: (.bool true) :: (.bool true) :: (.bool true) :: (.bool true) :: (.bool true) :: (.bool true) :: (.agg c8) :: (.bool true) :: (.bool true) :: []), defers := [] } w') :
    (Code.region 14 s5r14Ops false).wp Tryd.prog Q { tmps := List.toArray (z0 :: z1 :: z2 :: z3 :: z4 :: (.bool true) :: z6 :: z7 :: (.pointer (some ⟨b8, 0, none⟩)) :: z9 :: z10 :: (.bool true) :: z12 :: (.bool true) :: z14 :: z15 :: z16 :: z17 :: z18 :: z19 :: z20 :: z21 :: z22 :: z23 :: z24 :: z25 :: z26 :: z27 :: z28 :: z29 :: z30 :: z31 :: z32 :: z33 :: z34 :: z35 :: z36 :: z37 :: z38 :: z39 :: z40 :: z41 :: z42 :: z43 :: z44 :: z45 :: z46 :: z47 :: z48 :: z49 :: z50 :: z51 :: z52 :: z53 :: z54 :: z55 :: z56 :: z57 :: z58 :: z59 :: z60 :: z61 :: []), defers := [] } w := by
  refine wp_region_list (show wpList _ s5r14Ops _ [s5r14Op0, s5r14Op1, s5r14Op2, s5r14Op3, s5r14Op4, s5r14Op5, s5r14Op6, s5r14Op7, s5r14Op8, s5r14Op9, s5r14Op10, s5r14Op11] _ _ from WL.out ?_)
  refine g_val (.bool true) (by kernel_rfl) ?_
  refine g_fr (Fr [z0, z1, z2, z3, z4, .bool true, z6, z7, D b8, z9, z10, .bool true, z12, .bool true, z14, z15, z16, z17, z18, z19, z20, z21, z22, z23, z24, z25, z26, z27, z28, z29, z30, z31, z32, z33, z34, z35, z36, z37, z38, z39, z40, z41, z42, z43, z44, z45, z46, z47, z48, z49, z50, .bool true, z52, z53, z54, z55, z56, z57, z58, z59, z60, z61] []) ?_
  refine g_val (.bool true) (by kernel_rfl) ?_
  refine g_fr (Fr [z0, z1, z2, z3, z4, .bool true, z6, z7, D b8, z9, z10, .bool true, z12, .bool true, z14, z15, z16, z17, z18, z19, z20, z21, z22, z23, z24, z25, z26, z27, z28, z29, z30, z31, z32, z33, z34, z35, z36, z37, z38, z39, z40, z41, z42, z43, z44, z45, z46, z47, z48, z49, z50, .bool true, .bool true, z53, z54, z55, z56, z57, z58, z59, z60, z61] []) ?_
  refine g_val (.bool true) (by kernel_rfl) ?_
  refine g_fr (Fr [z0, z1, z2, z3, z4, .bool true, z6, z7, D b8, z9, z10, .bool true, z12, .bool true, z14, z15, z16, z17, z18, z19, z20, z21, z22, z23, z24, z25, z26, z27, z28, z29, z30, z31, z32, z33, z34, z35, z36, z37, z38, z39, z40, z41, z42, z43, z44, z45, z46, z47, z48, z49, z50, .bool true, .bool true, .bool true, z54, z55, z56, z57, z58, z59, z60, z61] []) ?_
  refine g_val (.bool true) (by kernel_rfl) ?_
  refine g_fr (Fr [z0, z1, z2, z3, z4, .bool true, z6, z7, D b8, z9, z10, .bool true, z12, .bool true, z14, z15, z16, z17, z18, z19, z20, z21, z22, z23, z24, z25, z26, z27, z28, z29, z30, z31, z32, z33, z34, z35, z36, z37, z38, z39, z40, z41, z42, z43, z44, z45, z46, z47, z48, z49, z50, .bool true, .bool true, .bool true, .bool true, z55, z56, z57, z58, z59, z60, z61] []) ?_
  refine g_val (.bool true) (by kernel_rfl) ?_
  refine g_fr (Fr [z0, z1, z2, z3, z4, .bool true, z6, z7, D b8, z9, z10, .bool true, z12, .bool true, z14, z15, z16, z17, z18, z19, z20, z21, z22, z23, z24, z25, z26, z27, z28, z29, z30, z31, z32, z33, z34, z35, z36, z37, z38, z39, z40, z41, z42, z43, z44, z45, z46, z47, z48, z49, z50, .bool true, .bool true, .bool true, .bool true, .bool true, z56, z57, z58, z59, z60, z61] []) ?_
  refine g_val (.bool true) (by kernel_rfl) ?_
  refine g_fr (Fr [z0, z1, z2, z3, z4, .bool true, z6, z7, D b8, z9, z10, .bool true, z12, .bool true, z14, z15, z16, z17, z18, z19, z20, z21, z22, z23, z24, z25, z26, z27, z28, z29, z30, z31, z32, z33, z34, z35, z36, z37, z38, z39, z40, z41, z42, z43, z44, z45, z46, z47, z48, z49, z50, .bool true, .bool true, .bool true, .bool true, .bool true, .bool true, z57, z58, z59, z60, z61] []) ?_
  refine g_val (.bool true) (by kernel_rfl) ?_
  refine g_fr (Fr [z0, z1, z2, z3, z4, .bool true, z6, z7, D b8, z9, z10, .bool true, z12, .bool true, z14, z15, z16, z17, z18, z19, z20, z21, z22, z23, z24, z25, z26, z27, z28, z29, z30, z31, z32, z33, z34, z35, z36, z37, z38, z39, z40, z41, z42, z43, z44, z45, z46, z47, z48, z49, z50, .bool true, .bool true, .bool true, .bool true, .bool true, .bool true, .bool true, z58, z59, z60, z61] []) ?_
  refine g_val (.bool true) (by kernel_rfl) ?_
  refine g_fr (Fr [z0, z1, z2, z3, z4, .bool true, z6, z7, D b8, z9, z10, .bool true, z12, .bool true, z14, z15, z16, z17, z18, z19, z20, z21, z22, z23, z24, z25, z26, z27, z28, z29, z30, z31, z32, z33, z34, z35, z36, z37, z38, z39, z40, z41, z42, z43, z44, z45, z46, z47, z48, z49, z50, .bool true, .bool true, .bool true, .bool true, .bool true, .bool true, .bool true, .bool true, z59, z60, z61] []) ?_
  refine g_ld hO 22 i8 h8 Tryd.underlying22 ?_
  refine g_fr (Fr [z0, z1, z2, z3, z4, .bool true, z6, z7, D b8, z9, z10, .bool true, z12, .bool true, z14, z15, z16, z17, z18, z19, z20, z21, z22, z23, z24, z25, z26, z27, z28, z29, z30, z31, z32, z33, z34, z35, z36, z37, z38, z39, z40, z41, z42, z43, z44, z45, z46, z47, z48, z49, z50, .bool true, .bool true, .bool true, .bool true, .bool true, .bool true, .bool true, .bool true, A c8, z60, z61] []) ?_
  refine g_cw hO 11 #[.agg c8] (.bool true) (r60 _ hO.low (hO.row (i8) h8)) ?_
  intro w1 _ hO
  refine g_fr (Fr [z0, z1, z2, z3, z4, .bool true, z6, z7, D b8, z9, z10, .bool true, z12, .bool true, z14, z15, z16, z17, z18, z19, z20, z21, z22, z23, z24, z25, z26, z27, z28, z29, z30, z31, z32, z33, z34, z35, z36, z37, z38, z39, z40, z41, z42, z43, z44, z45, z46, z47, z48, z49, z50, .bool true, .bool true, .bool true, .bool true, .bool true, .bool true, .bool true, .bool true, A c8, .bool true, z61] []) ?_
  refine g_val (.bool true) (by kernel_rfl) ?_
  refine g_fr (Fr [z0, z1, z2, z3, z4, .bool true, z6, z7, D b8, z9, z10, .bool true, z12, .bool true, z14, z15, z16, z17, z18, z19, z20, z21, z22, z23, z24, z25, z26, z27, z28, z29, z30, z31, z32, z33, z34, z35, z36, z37, z38, z39, z40, z41, z42, z43, z44, z45, z46, z47, z48, z49, z50, .bool true, .bool true, .bool true, .bool true, .bool true, .bool true, .bool true, .bool true, A c8, .bool true, .bool true] []) ?_
  refine g_val (.bool true) (by kernel_rfl) ?_
  exact g_fr _ ⟨wpList_nil (H  _ hO)⟩
set_option maxHeartbeats 4000000 in
theorem shape_g (f s p : Nat → Nat) (P R : Nat × Nat) (A : Option Addr) (l : List Nat) (c : Nat) (hf : ∀ i, f i < 256) (w : World) (hG : Glb w) (HS : l.length ≤ 500 → SgnAt f A l.length c s w) (HP : ∀ w', Glb w' → Ret 8 #[.agg (vals .u8 32 f)] w' (.agg (vals .u8 32 p))) (HD : ∀ w', Ret 13 #[.agg (vals .u8 32 s)] w' (.tuple #[.agg (pt R), .bool true])) (HE : ∀ w', Ret 13 #[.agg (vals .u8 32 p)] w' (.tuple #[.agg (pt P), .bool true])) (HF : ∀ w', Glb w' → Ret 11 #[.agg (vals .u8 32 (fun j => s (32 + j)))] w' (.bool true)) : Ret 5 #[.agg (vals .u8 32 f), .slice A l.length c] w (.bool true) := by
  go_enter Tryd.func5, Tryd.ntmps5
  have _ := hf
  have hO := Own.start w
  have HG := hide hG
  clear hG
  go_upto_region 0 with (fail)
  refine s5r0_r hO (fit_by _) ?_
  intro n2 w1 hO
  replace hO : Own w w1 [(n2, vals .u8 32 f, 22)] := hO
  go_upto_region 1 with (fail)
  refine s5r1_r hO (fun w hL => awake_s w (HG.out.low hL)) ?_
  intro w2 hO
  replace hO : Own w w2 [(n2, vals .u8 32 f, 22)] := hO
  by_cases hlen : 500 < l.length
  · have hi : (500 : Int) < (l.length : Int) := by omega
    have HL := hide hO.low
    clear hO
    go_wp2_with fail
    exact bodyPost_ret (v := .bool true) (results_tmp Tryd.results5 _ _ _) rfl ⟨rfl, HL.out⟩
  have hi : ¬ (500 : Int) < (l.length : Int) := by omega
  have Hlen := hide (hl500 hlen)
  clear hlen
  replace HS := HS Hlen.out
  go_upto_region 4 with (fail)
  refine s5r4_r hO 0 rfl (fun _ => by kernel_rfl) (fun q w hL _ hq => HS q w hL hq) (fit_b6 _) ?_
  intro n6 q21 w3 hO
  replace hO : Own w w3 [(n6, vals .u8 64 s, 28), (n2, vals .u8 32 f, 22)] := hO
  go_upto_region 5 with (fail)
  refine s5r5_r hO bd_by0 (fit_by _) ?_
  intro n7 w4 hO
  replace hO : Own w w4 [(n7, vals .u8 32 (fun _ => 0), 22), (n6, vals .u8 64 s, 28), (n2, vals .u8 32 f, 22)] := hO
  go_upto_region 6 with (fail)
  refine s5r6_r hO bd_by0 (fit_by _) ?_
  intro n8 w5 hO
  replace hO : Own w w5 [(n8, vals .u8 32 (fun _ => 0), 22), (n7, vals .u8 32 (fun _ => 0), 22), (n6, vals .u8 64 s, 28), (n2, vals .u8 32 f, 22)] := hO
  have hO2 : Own w w5 [(n8, vals .u8 32 (cutb (fun j => s (32 + j)) 0), 22), (n7, vals .u8 32 (cutb s 0), 22), (n6, vals .u8 64 s, 28), (n2, vals .u8 32 f, 22)] := by rw [← cutb_zero, ← cutb_zero]; exact hO
  clear hO
  go_wp2_with fail
  go_loopw [9] (fun i wr => ∃ k : Nat, k ≤ 32 ∧ i = .int .i64 k ∧ Own w wr [(n8, vals .u8 32 (cutb (fun j => s (32 + j)) k), 22), (n7, vals .u8 32 (cutb s k), 22), (n6, vals .u8 64 s, 28), (n2, vals .u8 32 f, 22)]) (fun i _ => (32 - intOf i).toNat)
  case atStart => exact ⟨0, by omega, rfl, hO2⟩
  case round =>
    clear hO2
    obtain ⟨k, hk, rfl, hO⟩ := hrel
    by_cases hlt : k < 32
    · have hlt' : (k : Int) < 32 := by omega
      have hkm : IntKind.i64.wrap ((k : Int) + 1) = (k : Int) + 1 := T.wrap_big _ (by omega) (by omega)
      clear Hlen
      go_upto_region 10 with (fail)
      refine s5r10_r hO 2 rfl 1 rfl (fun a w h1 h2 => idx28 rfl (by omega) h1 h2 w) (get_b6 _ k (by omega)) (fun a w h1 h2 => idx22 rfl hlt h1 h2 w) (get_by _ k (by omega)) (set_by _ _ _) (fit_by _) ?_
      intro w6 hO
      replace hO : Own w w6 [(n8, vals .u8 32 (cutb (fun j => s (32 + j)) k), 22), (n7, vals .u8 32 (fun j => if j = k then s k else (cutb s k) j), 22), (n6, vals .u8 64 s, 28), (n2, vals .u8 32 f, 22)] := hO
      rw [cutb_next 32 s k] at hO
      go_upto_region 11 with (fail)
      refine s5r11_r hO 2 rfl 0 rfl (fun a w h => add32 rfl hlt rfl h w) (fun a w h1 h2 => idx28 rfl (by omega) h1 h2 w) (get_b6' s k hlt) (fun a w h1 h2 => idx22 rfl hlt h1 h2 w) (get_by _ k (by omega)) (set_by _ _ _) (fit_by _) ?_
      intro w7 hO
      replace hO : Own w w7 [(n8, vals .u8 32 (fun j => if j = k then (fun j => s (32 + j)) k else (cutb (fun j => s (32 + j)) k) j), 22), (n7, vals .u8 32 (cutb s (k + 1)), 22), (n6, vals .u8 64 s, 28), (n2, vals .u8 32 f, 22)] := hO
      rw [cutb_next 32 (fun j => s (32 + j)) k] at hO
      have HO := hide hO
      clear hO
      go_wp2_with fail
      go_roundw
      case rel => exact ⟨k + 1, by omega, by go_num, HO.out⟩
      case measure => simp [intOf]; omega
    · have hk6 : k = 32 := by omega
      subst hk6
      rw [cutb_all, cutb_all] at hO
      go_upto_region 12 with (fail)
      refine s5r12_r hO 1 rfl HD (fit_pt _ _) ?_
      intro n10 w8 hO
      replace hO : Own w w8 [(n10, pt R, 41), (n8, vals .u8 32 (fun j => s (32 + j)), 22), (n7, vals .u8 32 s, 22), (n6, vals .u8 64 s, 28), (n2, vals .u8 32 f, 22)] := hO
      go_upto_region 13 with (fail)
      refine s5r13_r hO 4 rfl (fun w hL _ => HP w (HG.out.low hL)) HE (fit_pt _ _) ?_
      intro n12 w9 hO
      replace hO : Own w w9 [(n12, pt P, 41), (n10, pt R, 41), (n8, vals .u8 32 (fun j => s (32 + j)), 22), (n7, vals .u8 32 s, 22), (n6, vals .u8 64 s, 28), (n2, vals .u8 32 f, 22)] := hO
      go_upto_region 14 with (fail)
      refine s5r14_r hO 2 rfl (fun w hL _ => HF w (HG.out.low hL)) ?_
      intro w10 hO
      replace hO : Own w w10 [(n12, pt P, 41), (n10, pt R, 41), (n8, vals .u8 32 (fun j => s (32 + j)), 22), (n7, vals .u8 32 s, 22), (n6, vals .u8 64 s, 28), (n2, vals .u8 32 f, 22)] := hO
      go_wp2_with fail
      exact bodyPost_ret (v := .bool true) (results_tmp Tryd.results5 _ _ _) rfl ⟨rfl, hO.low⟩
theorem shape_walk (f : Nat → Nat) (A : Option Addr) (l : List Nat) (c : Nat) (w : World) (hG : Glb w) (hf : ∀ i, f i < 256) (hA : T.Rds w A l) (hc : l.length ≤ c) (hl : ∀ x ∈ l, x < 256) : Ret 5 #[.agg (vals .u8 32 f), .slice A l.length c] w (.bool true) :=
  shape_g f (sgn f l) (pub f) _ _ A l c hf w hG (sgnAt f hf hG hA hc hl) (public_c f hf) (decode_sgn f l) (decode_pub f) (fun _ hG => fine_b _ (fun _ => sgn_lt f l _) true (hide (end_fine f l)) hG)
end Go.Proofs.YtbpmakegimgbpaaDoor

/- Walks: Verify; what is signed, and what is verified. Bytes below 256, texts of less than 2^30 bytes in less than 2^30 parts; the package's variables lie as they were laid. -/
import Derived.Test.YtbpmakegimgbpaaDoorPu
namespace Go.Proofs.YtbpmakegimgbpaaDoor
set_option maxRecDepth 100000
open F Go.RowKit

theorem fine_c (f : Nat → Nat) (hf : ∀ i, f i < 256) {w : World} (hG : Glb w) : Ret 11 #[.agg (vals .u8 32 f)] w (.bool (decide (nb f 32 < S.qL))) := S.fine_at f _ w rfl hG.1 hf
def s9r0Op0 : Oper := ⟨some 3, .box 22 (.tmp 0), 0, "sign.go:30", #[], none⟩
def s9r0Op1 : Oper := ⟨some 4, .box 28 (.tmp 1), 0, "sign.go:30", #[], none⟩
def s9r0Op2 : Oper := ⟨some 6, .assign (.const (.bool false)), 4, "sign.go:30", #[], none⟩
def s9r0Ops : Array Oper := #[s9r0Op0, s9r0Op1, s9r0Op2]
set_option maxHeartbeats 2000000 in
theorem s9r0_r {Q : Exit → Act → World → Prop} {u w : World} {L : List Row} {z2 z3 z4 z5 z6 : Value} {zz : List Value} {e0 e1 : Array Value} (hO : Own u w L) (fe0_22 : Fit 22 e0) (fe1_28 : Fit 28 e1) (H : ∀ (n3 : Nat) (n4 : Nat) (w' : World), Own u w' ((n4, e1, 28) :: (n3, e0, 22) :: L) → Q .normal { tmps := List.toArray ((.agg e0) :: (.agg e1) :: z2 :: (.pointer (some ⟨n3, 0, none⟩)) :: (.pointer (some ⟨n4, 0, none⟩)) :: z5 :: (.bool false) :: zz), defers := [] } w') :
    (Code.region 0 s9r0Ops false).wp Tryd.prog Q { tmps := List.toArray ((.agg e0) :: (.agg e1) :: z2 :: z3 :: z4 :: z5 :: z6 :: zz), defers := [] } w := by
  refine wp_region_list (show wpList _ s9r0Ops _ [s9r0Op0, s9r0Op1, s9r0Op2] _ _ from ?_)
  refine l_new hO (e0) 22 (run_box 22 _ rfl _ (by kernel_rfl)) fe0_22 ?_
  intro n3 w1 hO
  refine l_new hO (e1) 28 (run_box 28 _ rfl _ (by kernel_rfl)) fe1_28 ?_
  intro n4 w2 hO
  refine l_val (.bool false) (by kernel_rfl) ?_
  exact l_fr _ (wpList_nil (H n3 n4 _ hO))
def s9r1Op0 : Oper := ⟨some 15, .load 28 (.tmp 4), 28, "sign.go:31", #[], none⟩
def s9r1Op1 : Oper := ⟨some 16, .call { callee := .value (.func 19), args := #[.tmp 15], argTypes := #[28] }, 44, "sign.go:31", #[⟨0, .data⟩], none⟩
def s9r1Op2 : Oper := ⟨some 14, .move (.tmp 16), 44, "sign.go:31", #[⟨1, .data⟩], none⟩
def s9r1Op3 : Oper := ⟨some 17, .extract (.tmp 14) 0, 22, "sign.go:31", #[⟨2, .data⟩], none⟩
def s9r1Op4 : Oper := ⟨some 18, .extract (.tmp 14) 1, 22, "sign.go:31", #[⟨2, .data⟩, ⟨7, .gcOnly .lateStores⟩], none⟩
def s9r1Op5 : Oper := ⟨some 7, .alloc 22, 0, "sign.go:31", #[], none⟩
def s9r1Op6 : Oper := ⟨some 8, .alloc 22, 0, "sign.go:31", #[], none⟩
def s9r1Op7 : Oper := ⟨none, .store 22 (.tmp 7) (.tmp 17), 0, "sign.go:31", #[⟨5, .data⟩, ⟨3, .data⟩, ⟨1, .chain⟩, ⟨0, .phase⟩, ⟨1, .phase⟩, ⟨2, .phase⟩, ⟨3, .phase⟩, ⟨4, .textOnly .lateStores⟩, ⟨5, .phase⟩, ⟨6, .phase⟩], none⟩
def s9r1Op8 : Oper := ⟨none, .store 22 (.tmp 8) (.tmp 18), 0, "sign.go:31", #[⟨6, .data⟩, ⟨4, .data⟩, ⟨7, .chain⟩, ⟨0, .phase⟩, ⟨1, .phase⟩, ⟨2, .phase⟩, ⟨3, .phase⟩, ⟨4, .phase⟩, ⟨5, .phase⟩, ⟨6, .phase⟩, ⟨7, .phase⟩], none⟩
def s9r1Ops : Array Oper := #[s9r1Op0, s9r1Op1, s9r1Op2, s9r1Op3, s9r1Op4, s9r1Op5, s9r1Op6, s9r1Op7, s9r1Op8]
set_option maxHeartbeats 2000000 in
theorem s9r1_r {Q : Exit → Act → World → Prop} {u w : World} {L : List Row} {z0 z1 z2 z3 z5 z6 z7 z8 z9 z10 z11 z12 z13 z14 z15 z16 z17 z18 : Value} {zz : List Value} {b4 : Nat} {c4 : Array Value} {e16a e16b : Array Value} (hO : Own u w L) (i4 : Nat) (h4 : L[i4]? = some (b4, c4, 28)) (r16 : ∀ w, Ret 19 #[.agg c4] w (.tuple #[.agg e16a, .agg e16b])) (fe16a_22 : Fit 22 e16a) (fe16b_22 : Fit 22 e16b) (H : ∀ (n7 : Nat) (n8 : Nat) (w' : World), Own u w' ((n8, e16b, 22) :: (n7, e16a, 22) :: L) → Q .normal { tmps := List.toArray (z0 :: z1 :: z2 :: z3 :: (.pointer (some ⟨b4, 0, none⟩)) :: z5 :: z6 :: (.pointer (some ⟨n7, 0, none⟩)) :: (.pointer (some ⟨n8, 0, none⟩)) :: z9 :: z10 :: z11 :: z12 :: z13 :: (.tuple #[.agg e16a, .agg e16b]) :: (.agg c4) :: (.tuple #[.agg e16a, .agg e16b]) :: (.agg e16a) :: (.agg e16b) :: zz), defers := [] } w') :
    (Code.region 1 s9r1Ops false).wp Tryd.prog Q { tmps := List.toArray (z0 :: z1 :: z2 :: z3 :: (.pointer (some ⟨b4, 0, none⟩)) :: z5 :: z6 :: z7 :: z8 :: z9 :: z10 :: z11 :: z12 :: z13 :: z14 :: z15 :: z16 :: z17 :: z18 :: zz), defers := [] } w := by
  refine wp_region_list (show wpList _ s9r1Ops _ [s9r1Op0, s9r1Op1, s9r1Op2, s9r1Op3, s9r1Op4, s9r1Op5, s9r1Op6, s9r1Op7, s9r1Op8] _ _ from ?_)
  refine l_ld hO 28 i4 h4 Tryd.underlying28 ?_
  refine l_call hO 19 #[.agg c4] (.tuple #[.agg e16a, .agg e16b]) r16 ?_
  intro w1 hO
  refine l_val (.tuple #[.agg e16a, .agg e16b]) (by kernel_rfl) ?_
  refine l_fr (Fr [z0, z1, z2, z3, D b4, z5, z6, z7, z8, z9, z10, z11, z12, z13, .tuple #[.agg e16a, .agg e16b], A c4, .tuple #[.agg e16a, .agg e16b], z17, z18] zz) ?_
  refine l_val (.agg e16a) (by kernel_rfl) ?_
  refine l_val (.agg e16b) (by kernel_rfl) ?_
  refine l_new hO (vals .u8 32 (fun _ => 0)) 22 (al22 rfl) (fit_by _) ?_
  intro n7 w2 hO
  refine l_fr (Fr [z0, z1, z2, z3, D b4, z5, z6, D n7, z8, z9, z10, z11, z12, z13, .tuple #[.agg e16a, .agg e16b], A c4, .tuple #[.agg e16a, .agg e16b], A e16a, A e16b] zz) ?_
  refine l_new hO (vals .u8 32 (fun _ => 0)) 22 (al22 rfl) (fit_by _) ?_
  intro n8 w3 hO
  refine l_st hO 22 1 rfl e16a fe16a_22 ?_
  intro w4 hO
  replace hO : Own u w4 ((n8, vals .u8 32 (fun _ => 0), 22) :: (n7, e16a, 22) :: L) := hO
  refine l_st hO 22 0 rfl e16b fe16b_22 ?_
  intro w5 hO
  exact l_fr _ (wpList_nil (H n7 n8 _ hO))
def s9r2Op0 : Oper := ⟨some 20, .load 22 (.tmp 7), 22, "sign.go:32", #[], none⟩
def s9r2Op1 : Oper := ⟨some 21, .call { callee := .value (.func 13), args := #[.tmp 20], argTypes := #[22] }, 42, "sign.go:32", #[⟨0, .data⟩], none⟩
def s9r2Op2 : Oper := ⟨some 19, .move (.tmp 21), 42, "sign.go:32", #[⟨1, .data⟩], none⟩
def s9r2Op3 : Oper := ⟨some 22, .extract (.tmp 19) 0, 41, "sign.go:32", #[⟨2, .data⟩], none⟩
def s9r2Op4 : Oper := ⟨some 23, .extract (.tmp 19) 1, 4, "sign.go:32", #[⟨2, .data⟩, ⟨6, .gcOnly .lateStores⟩], none⟩
def s9r2Op5 : Oper := ⟨some 9, .alloc 41, 0, "sign.go:32", #[], none⟩
def s9r2Op6 : Oper := ⟨none, .store 41 (.tmp 9) (.tmp 22), 0, "sign.go:32", #[⟨5, .data⟩, ⟨3, .data⟩, ⟨1, .chain⟩, ⟨0, .phase⟩, ⟨1, .phase⟩, ⟨2, .phase⟩, ⟨3, .phase⟩, ⟨4, .textOnly .lateStores⟩, ⟨5, .phase⟩], none⟩
def s9r2Op7 : Oper := ⟨some 10, .assign (.tmp 23), 4, "sign.go:32", #[⟨4, .data⟩, ⟨6, .chain⟩, ⟨0, .phase⟩, ⟨1, .phase⟩, ⟨2, .phase⟩, ⟨3, .phase⟩, ⟨4, .phase⟩, ⟨5, .phase⟩, ⟨6, .phase⟩], none⟩
def s9r2Ops : Array Oper := #[s9r2Op0, s9r2Op1, s9r2Op2, s9r2Op3, s9r2Op4, s9r2Op5, s9r2Op6, s9r2Op7]
set_option maxHeartbeats 2000000 in
theorem s9r2_r {Q : Exit → Act → World → Prop} {u w : World} {L : List Row} {z0 z1 z2 z3 z4 z5 z6 z8 z9 z10 z11 z12 z13 z14 z15 z16 z17 z18 z19 z20 z21 z22 z23 : Value} {zz : List Value} {b7 : Nat} {c7 : Array Value} {e21a : Array Value} {p21b : Bool} (hO : Own u w L) (i7 : Nat) (h7 : L[i7]? = some (b7, c7, 22)) (r21 : ∀ w, Ret 13 #[.agg c7] w (.tuple #[.agg e21a, .bool p21b])) (fe21a_41 : Fit 41 e21a) (H : ∀ (n9 : Nat) (w' : World), Own u w' ((n9, e21a, 41) :: L) → Q .normal { tmps := List.toArray (z0 :: z1 :: z2 :: z3 :: z4 :: z5 :: z6 :: (.pointer (some ⟨b7, 0, none⟩)) :: z8 :: (.pointer (some ⟨n9, 0, none⟩)) :: (.bool p21b) :: z11 :: z12 :: z13 :: z14 :: z15 :: z16 :: z17 :: z18 :: (.tuple #[.agg e21a, .bool p21b]) :: (.agg c7) :: (.tuple #[.agg e21a, .bool p21b]) :: (.agg e21a) :: (.bool p21b) :: zz), defers := [] } w') :
    (Code.region 2 s9r2Ops false).wp Tryd.prog Q { tmps := List.toArray (z0 :: z1 :: z2 :: z3 :: z4 :: z5 :: z6 :: (.pointer (some ⟨b7, 0, none⟩)) :: z8 :: z9 :: z10 :: z11 :: z12 :: z13 :: z14 :: z15 :: z16 :: z17 :: z18 :: z19 :: z20 :: z21 :: z22 :: z23 :: zz), defers := [] } w := by
  refine wp_region_list (show wpList _ s9r2Ops _ [s9r2Op0, s9r2Op1, s9r2Op2, s9r2Op3, s9r2Op4, s9r2Op5, s9r2Op6, s9r2Op7] _ _ from ?_)
  refine l_ld hO 22 i7 h7 Tryd.underlying22 ?_
  refine l_call hO 13 #[.agg c7] (.tuple #[.agg e21a, .bool p21b]) r21 ?_
  intro w1 hO
  refine l_val (.tuple #[.agg e21a, .bool p21b]) (by kernel_rfl) ?_
  refine l_fr (Fr [z0, z1, z2, z3, z4, z5, z6, D b7, z8, z9, z10, z11, z12, z13, z14, z15, z16, z17, z18, .tuple #[.agg e21a, .bool p21b], A c7, .tuple #[.agg e21a, .bool p21b], z22, z23] zz) ?_
  refine l_val (.agg e21a) (by kernel_rfl) ?_
  refine l_val (.bool p21b) (by kernel_rfl) ?_
  refine l_new hO (ps [0, 0]) 41 (al29 rfl) (fit_pt _ _) ?_
  intro n9 w2 hO
  refine l_fr (Fr [z0, z1, z2, z3, z4, z5, z6, D b7, z8, D n9, z10, z11, z12, z13, z14, z15, z16, z17, z18, .tuple #[.agg e21a, .bool p21b], A c7, .tuple #[.agg e21a, .bool p21b], A e21a, .bool p21b] zz) ?_
  refine l_st hO 41 0 rfl e21a fe21a_41 ?_
  intro w3 hO
  refine l_val (.bool p21b) (by kernel_rfl) ?_
  exact l_fr _ (wpList_nil (H n9 _ hO))
def s9r3Op0 : Oper := ⟨some 25, .load 22 (.tmp 3), 22, "sign.go:33", #[], none⟩
def s9r3Op1 : Oper := ⟨some 26, .call { callee := .value (.func 13), args := #[.tmp 25], argTypes := #[22] }, 42, "sign.go:33", #[⟨0, .data⟩], none⟩
def s9r3Op2 : Oper := ⟨some 24, .move (.tmp 26), 42, "sign.go:33", #[⟨1, .data⟩], none⟩
def s9r3Op3 : Oper := ⟨some 27, .extract (.tmp 24) 0, 41, "sign.go:33", #[⟨2, .data⟩], none⟩
def s9r3Op4 : Oper := ⟨some 28, .extract (.tmp 24) 1, 4, "sign.go:33", #[⟨2, .data⟩, ⟨6, .gcOnly .lateStores⟩], none⟩
def s9r3Op5 : Oper := ⟨some 11, .alloc 41, 0, "sign.go:33", #[], none⟩
def s9r3Op6 : Oper := ⟨none, .store 41 (.tmp 11) (.tmp 27), 0, "sign.go:33", #[⟨5, .data⟩, ⟨3, .data⟩, ⟨1, .chain⟩, ⟨0, .phase⟩, ⟨1, .phase⟩, ⟨2, .phase⟩, ⟨3, .phase⟩, ⟨4, .textOnly .lateStores⟩, ⟨5, .phase⟩], none⟩
def s9r3Op7 : Oper := ⟨some 12, .assign (.tmp 28), 4, "sign.go:33", #[⟨4, .data⟩, ⟨6, .chain⟩, ⟨0, .phase⟩, ⟨1, .phase⟩, ⟨2, .phase⟩, ⟨3, .phase⟩, ⟨4, .phase⟩, ⟨5, .phase⟩, ⟨6, .phase⟩], none⟩
def s9r3Ops : Array Oper := #[s9r3Op0, s9r3Op1, s9r3Op2, s9r3Op3, s9r3Op4, s9r3Op5, s9r3Op6, s9r3Op7]
set_option maxHeartbeats 2000000 in
theorem s9r3_r {Q : Exit → Act → World → Prop} {u w : World} {L : List Row} {z0 z1 z2 z4 z5 z6 z7 z8 z9 z10 z11 z12 z13 z14 z15 z16 z17 z18 z19 z20 z21 z22 z23 z24 z25 z26 z27 z28 : Value} {zz : List Value} {b3 : Nat} {c3 : Array Value} {e26a : Array Value} {p26b : Bool} (hO : Own u w L) (i3 : Nat) (h3 : L[i3]? = some (b3, c3, 22)) (r26 : ∀ w, Ret 13 #[.agg c3] w (.tuple #[.agg e26a, .bool p26b])) (fe26a_41 : Fit 41 e26a) (H : ∀ (n11 : Nat) (w' : World), Own u w' ((n11, e26a, 41) :: L) → Q .normal { tmps := List.toArray (z0 :: z1 :: z2 :: (.pointer (some ⟨b3, 0, none⟩)) :: z4 :: z5 :: z6 :: z7 :: z8 :: z9 :: z10 :: (.pointer (some ⟨n11, 0, none⟩)) :: (.bool p26b) :: z13 :: z14 :: z15 :: z16 :: z17 :: z18 :: z19 :: z20 :: z21 :: z22 :: z23 :: (.tuple #[.agg e26a, .bool p26b]) :: (.agg c3) :: (.tuple #[.agg e26a, .bool p26b]) :: (.agg e26a) :: (.bool p26b) :: zz), defers := [] } w') :
    (Code.region 3 s9r3Ops false).wp Tryd.prog Q { tmps := List.toArray (z0 :: z1 :: z2 :: (.pointer (some ⟨b3, 0, none⟩)) :: z4 :: z5 :: z6 :: z7 :: z8 :: z9 :: z10 :: z11 :: z12 :: z13 :: z14 :: z15 :: z16 :: z17 :: z18 :: z19 :: z20 :: z21 :: z22 :: z23 :: z24 :: z25 :: z26 :: z27 :: z28 :: zz), defers := [] } w := by
  refine wp_region_list (show wpList _ s9r3Ops _ [s9r3Op0, s9r3Op1, s9r3Op2, s9r3Op3, s9r3Op4, s9r3Op5, s9r3Op6, s9r3Op7] _ _ from ?_)
  refine l_ld hO 22 i3 h3 Tryd.underlying22 ?_
  refine l_call hO 13 #[.agg c3] (.tuple #[.agg e26a, .bool p26b]) r26 ?_
  intro w1 hO
  refine l_val (.tuple #[.agg e26a, .bool p26b]) (by kernel_rfl) ?_
  refine l_fr (Fr [z0, z1, z2, D b3, z4, z5, z6, z7, z8, z9, z10, z11, z12, z13, z14, z15, z16, z17, z18, z19, z20, z21, z22, z23, .tuple #[.agg e26a, .bool p26b], A c3, .tuple #[.agg e26a, .bool p26b], z27, z28] zz) ?_
  refine l_val (.agg e26a) (by kernel_rfl) ?_
  refine l_val (.bool p26b) (by kernel_rfl) ?_
  refine l_new hO (ps [0, 0]) 41 (al29 rfl) (fit_pt _ _) ?_
  intro n11 w2 hO
  refine l_fr (Fr [z0, z1, z2, D b3, z4, z5, z6, z7, z8, z9, z10, D n11, z12, z13, z14, z15, z16, z17, z18, z19, z20, z21, z22, z23, .tuple #[.agg e26a, .bool p26b], A c3, .tuple #[.agg e26a, .bool p26b], A e26a, .bool p26b] zz) ?_
  refine l_st hO 41 0 rfl e26a fe26a_41 ?_
  intro w3 hO
  refine l_val (.bool p26b) (by kernel_rfl) ?_
  exact l_fr _ (wpList_nil (H n11 _ hO))
def s9r4aOp0 : Oper := ⟨some 29, .move (.tmp 10), 4, "sign.go:35", #[], none⟩
def s9r4aOp1 : Oper := ⟨some 30, .unOp .not 4 (.tmp 29), 4, "sign.go:35", #[⟨0, .data⟩], none⟩
def s9r4aOp2 : Oper := ⟨some 31, .move (.tmp 30), 4, "sign.go:35", #[⟨1, .data⟩], none⟩
def s9r4aOp3 : Oper := ⟨some 32, .move (.tmp 12), 4, "sign.go:35", #[⟨2, .guard⟩], some (2, false)⟩
def s9r4aOp4 : Oper := ⟨some 33, .unOp .not 4 (.tmp 32), 4, "sign.go:35", #[⟨3, .data⟩, ⟨2, .guard⟩], some (2, false)⟩
def s9r4aOp5 : Oper := ⟨some 34, .pick (.tmp 31) (.const (.bool true)) (.tmp 33), 4, "sign.go:35", #[⟨2, .data⟩, ⟨4, .data⟩], none⟩
def s9r4aOp6 : Oper := ⟨some 35, .move (.tmp 34), 4, "sign.go:35", #[⟨5, .data⟩, ⟨2, .chain⟩], none⟩
def s9r4aOp7 : Oper := ⟨some 36, .load 22 (.tmp 8), 22, "sign.go:35", #[⟨6, .guard⟩], some (6, false)⟩
def s9r4aOp8 : Oper := ⟨some 37, .call { callee := .value (.func 11), args := #[.tmp 36], argTypes := #[22] }, 4, "sign.go:35", #[⟨7, .data⟩, ⟨6, .chain⟩, ⟨6, .guard⟩], some (6, false)⟩
def s9r4aOp9 : Oper := ⟨some 38, .unOp .not 4 (.tmp 37), 4, "sign.go:35", #[⟨8, .data⟩, ⟨6, .guard⟩], some (6, false)⟩
def s9r4aOp10 : Oper := ⟨some 39, .pick (.tmp 35) (.const (.bool true)) (.tmp 38), 4, "sign.go:35", #[⟨6, .data⟩, ⟨9, .data⟩], none⟩
def s9r4aOps : Array Oper := #[s9r4aOp0, s9r4aOp1, s9r4aOp2, s9r4aOp3, s9r4aOp4, s9r4aOp5, s9r4aOp6, s9r4aOp7, s9r4aOp8, s9r4aOp9, s9r4aOp10]
set_option maxHeartbeats 2000000 in
theorem s9r4a_r {Q : Exit → Act → World → Prop} {u w : World} {L : List Row} {z0 z1 z2 z3 z4 z5 z6 z7 z9 z11 z13 z14 z15 z16 z17 z18 z19 z20 z21 z22 z23 z24 z25 z26 z27 z28 z29 z30 z31 z32 z33 z34 z35 z36 z37 z38 z39 : Value} {zz : List Value} {b8 : Nat} (hO : Own u w L) (H : ∀ (w' : World), Own u w' (L) → Q .normal { tmps := List.toArray (z0 :: z1 :: z2 :: z3 :: z4 :: z5 :: z6 :: z7 :: (.pointer (some ⟨b8, 0, none⟩)) :: z9 :: (.bool false) :: z11 :: (.bool true) :: z13 :: z14 :: z15 :: z16 :: z17 :: z18 :: z19 :: z20 :: z21 :: z22 :: z23 :: z24 :: z25 :: z26 :: z27 :: z28 :: (.bool false) :: (.bool true) :: (.bool true) :: undef :: undef :: (.bool true) :: (.bool true) :: undef :: undef :: undef :: (.bool true) :: zz), defers := [] } w') :
    (Code.region 4 s9r4aOps false).wp Tryd.prog Q { tmps := List.toArray (z0 :: z1 :: z2 :: z3 :: z4 :: z5 :: z6 :: z7 :: (.pointer (some ⟨b8, 0, none⟩)) :: z9 :: (.bool false) :: z11 :: (.bool true) :: z13 :: z14 :: z15 :: z16 :: z17 :: z18 :: z19 :: z20 :: z21 :: z22 :: z23 :: z24 :: z25 :: z26 :: z27 :: z28 :: z29 :: z30 :: z31 :: z32 :: z33 :: z34 :: z35 :: z36 :: z37 :: z38 :: z39 :: zz), defers := [] } w := by
  refine wp_region_list (show wpList _ s9r4aOps _ [s9r4aOp0, s9r4aOp1, s9r4aOp2, s9r4aOp3, s9r4aOp4, s9r4aOp5, s9r4aOp6, s9r4aOp7, s9r4aOp8, s9r4aOp9, s9r4aOp10] _ _ from WL.out ?_)
  refine g_val (.bool false) (by kernel_rfl) ?_
  refine g_fr (Fr [z0, z1, z2, z3, z4, z5, z6, z7, D b8, z9, .bool false, z11, .bool true, z13, z14, z15, z16, z17, z18, z19, z20, z21, z22, z23, z24, z25, z26, z27, z28, .bool false, z30, z31, z32, z33, z34, z35, z36, z37, z38, z39] zz) ?_
  refine g_val (.bool true) (by kernel_rfl) ?_
  refine g_fr (Fr [z0, z1, z2, z3, z4, z5, z6, z7, D b8, z9, .bool false, z11, .bool true, z13, z14, z15, z16, z17, z18, z19, z20, z21, z22, z23, z24, z25, z26, z27, z28, .bool false, .bool true, z31, z32, z33, z34, z35, z36, z37, z38, z39] zz) ?_
  refine g_val (.bool true) (by kernel_rfl) ?_
  refine g_fr (Fr [z0, z1, z2, z3, z4, z5, z6, z7, D b8, z9, .bool false, z11, .bool true, z13, z14, z15, z16, z17, z18, z19, z20, z21, z22, z23, z24, z25, z26, z27, z28, .bool false, .bool true, .bool true, z32, z33, z34, z35, z36, z37, z38, z39] zz) ?_
  refine g_skip ?_
  refine g_fr (Fr [z0, z1, z2, z3, z4, z5, z6, z7, D b8, z9, .bool false, z11, .bool true, z13, z14, z15, z16, z17, z18, z19, z20, z21, z22, z23, z24, z25, z26, z27, z28, .bool false, .bool true, .bool true, undef, z33, z34, z35, z36, z37, z38, z39] zz) ?_
  refine g_skip ?_
  refine g_fr (Fr [z0, z1, z2, z3, z4, z5, z6, z7, D b8, z9, .bool false, z11, .bool true, z13, z14, z15, z16, z17, z18, z19, z20, z21, z22, z23, z24, z25, z26, z27, z28, .bool false, .bool true, .bool true, undef, undef, z34, z35, z36, z37, z38, z39] zz) ?_
  refine g_val (.bool true) (by kernel_rfl) ?_
  refine g_fr (Fr [z0, z1, z2, z3, z4, z5, z6, z7, D b8, z9, .bool false, z11, .bool true, z13, z14, z15, z16, z17, z18, z19, z20, z21, z22, z23, z24, z25, z26, z27, z28, .bool false, .bool true, .bool true, undef, undef, .bool true, z35, z36, z37, z38, z39] zz) ?_
  refine g_val (.bool true) (by kernel_rfl) ?_
  refine g_fr (Fr [z0, z1, z2, z3, z4, z5, z6, z7, D b8, z9, .bool false, z11, .bool true, z13, z14, z15, z16, z17, z18, z19, z20, z21, z22, z23, z24, z25, z26, z27, z28, .bool false, .bool true, .bool true, undef, undef, .bool true, .bool true, z36, z37, z38, z39] zz) ?_
  refine g_skip ?_
  refine g_fr (Fr [z0, z1, z2, z3, z4, z5, z6, z7, D b8, z9, .bool false, z11, .bool true, z13, z14, z15, z16, z17, z18, z19, z20, z21, z22, z23, z24, z25, z26, z27, z28, .bool false, .bool true, .bool true, undef, undef, .bool true, .bool true, undef, z37, z38, z39] zz) ?_
  refine g_skip ?_
  refine g_fr (Fr [z0, z1, z2, z3, z4, z5, z6, z7, D b8, z9, .bool false, z11, .bool true, z13, z14, z15, z16, z17, z18, z19, z20, z21, z22, z23, z24, z25, z26, z27, z28, .bool false, .bool true, .bool true, undef, undef, .bool true, .bool true, undef, undef, z38, z39] zz) ?_
  refine g_skip ?_
  refine g_fr (Fr [z0, z1, z2, z3, z4, z5, z6, z7, D b8, z9, .bool false, z11, .bool true, z13, z14, z15, z16, z17, z18, z19, z20, z21, z22, z23, z24, z25, z26, z27, z28, .bool false, .bool true, .bool true, undef, undef, .bool true, .bool true, undef, undef, undef, z39] zz) ?_
  refine g_val (.bool true) (by kernel_rfl) ?_
  exact g_fr _ ⟨wpList_nil (H  _ hO)⟩
def s9r4bOp0 : Oper := ⟨some 29, .move (.tmp 10), 4, "sign.go:35", #[], none⟩
def s9r4bOp1 : Oper := ⟨some 30, .unOp .not 4 (.tmp 29), 4, "sign.go:35", #[⟨0, .data⟩], none⟩
def s9r4bOp2 : Oper := ⟨some 31, .move (.tmp 30), 4, "sign.go:35", #[⟨1, .data⟩], none⟩
def s9r4bOp3 : Oper := ⟨some 32, .move (.tmp 12), 4, "sign.go:35", #[⟨2, .guard⟩], some (2, false)⟩
def s9r4bOp4 : Oper := ⟨some 33, .unOp .not 4 (.tmp 32), 4, "sign.go:35", #[⟨3, .data⟩, ⟨2, .guard⟩], some (2, false)⟩
def s9r4bOp5 : Oper := ⟨some 34, .pick (.tmp 31) (.const (.bool true)) (.tmp 33), 4, "sign.go:35", #[⟨2, .data⟩, ⟨4, .data⟩], none⟩
def s9r4bOp6 : Oper := ⟨some 35, .move (.tmp 34), 4, "sign.go:35", #[⟨5, .data⟩, ⟨2, .chain⟩], none⟩
def s9r4bOp7 : Oper := ⟨some 36, .load 22 (.tmp 8), 22, "sign.go:35", #[⟨6, .guard⟩], some (6, false)⟩
def s9r4bOp8 : Oper := ⟨some 37, .call { callee := .value (.func 11), args := #[.tmp 36], argTypes := #[22] }, 4, "sign.go:35", #[⟨7, .data⟩, ⟨6, .chain⟩, ⟨6, .guard⟩], some (6, false)⟩
def s9r4bOp9 : Oper := ⟨some 38, .unOp .not 4 (.tmp 37), 4, "sign.go:35", #[⟨8, .data⟩, ⟨6, .guard⟩], some (6, false)⟩
def s9r4bOp10 : Oper := ⟨some 39, .pick (.tmp 35) (.const (.bool true)) (.tmp 38), 4, "sign.go:35", #[⟨6, .data⟩, ⟨9, .data⟩], none⟩
def s9r4bOps : Array Oper := #[s9r4bOp0, s9r4bOp1, s9r4bOp2, s9r4bOp3, s9r4bOp4, s9r4bOp5, s9r4bOp6, s9r4bOp7, s9r4bOp8, s9r4bOp9, s9r4bOp10]
set_option maxHeartbeats 2000000 in
theorem s9r4b_r {Q : Exit → Act → World → Prop} {u w : World} {L : List Row} {z0 z1 z2 z3 z4 z5 z6 z7 z9 z11 z13 z14 z15 z16 z17 z18 z19 z20 z21 z22 z23 z24 z25 z26 z27 z28 z29 z30 z31 z32 z33 z34 z35 z36 z37 z38 z39 : Value} {zz : List Value} {b8 : Nat} (hO : Own u w L) (H : ∀ (w' : World), Own u w' (L) → Q .normal { tmps := List.toArray (z0 :: z1 :: z2 :: z3 :: z4 :: z5 :: z6 :: z7 :: (.pointer (some ⟨b8, 0, none⟩)) :: z9 :: (.bool false) :: z11 :: (.bool false) :: z13 :: z14 :: z15 :: z16 :: z17 :: z18 :: z19 :: z20 :: z21 :: z22 :: z23 :: z24 :: z25 :: z26 :: z27 :: z28 :: (.bool false) :: (.bool true) :: (.bool true) :: undef :: undef :: (.bool true) :: (.bool true) :: undef :: undef :: undef :: (.bool true) :: zz), defers := [] } w') :
    (Code.region 4 s9r4bOps false).wp Tryd.prog Q { tmps := List.toArray (z0 :: z1 :: z2 :: z3 :: z4 :: z5 :: z6 :: z7 :: (.pointer (some ⟨b8, 0, none⟩)) :: z9 :: (.bool false) :: z11 :: (.bool false) :: z13 :: z14 :: z15 :: z16 :: z17 :: z18 :: z19 :: z20 :: z21 :: z22 :: z23 :: z24 :: z25 :: z26 :: z27 :: z28 :: z29 :: z30 :: z31 :: z32 :: z33 :: z34 :: z35 :: z36 :: z37 :: z38 :: z39 :: zz), defers := [] } w := by
  refine wp_region_list (show wpList _ s9r4bOps _ [s9r4bOp0, s9r4bOp1, s9r4bOp2, s9r4bOp3, s9r4bOp4, s9r4bOp5, s9r4bOp6, s9r4bOp7, s9r4bOp8, s9r4bOp9, s9r4bOp10] _ _ from WL.out ?_)
  refine g_val (.bool false) (by kernel_rfl) ?_
  refine g_fr (Fr [z0, z1, z2, z3, z4, z5, z6, z7, D b8, z9, .bool false, z11, .bool false, z13, z14, z15, z16, z17, z18, z19, z20, z21, z22, z23, z24, z25, z26, z27, z28, .bool false, z30, z31, z32, z33, z34, z35, z36, z37, z38, z39] zz) ?_
  refine g_val (.bool true) (by kernel_rfl) ?_
  refine g_fr (Fr [z0, z1, z2, z3, z4, z5, z6, z7, D b8, z9, .bool false, z11, .bool false, z13, z14, z15, z16, z17, z18, z19, z20, z21, z22, z23, z24, z25, z26, z27, z28, .bool false, .bool true, z31, z32, z33, z34, z35, z36, z37, z38, z39] zz) ?_
  refine g_val (.bool true) (by kernel_rfl) ?_
  refine g_fr (Fr [z0, z1, z2, z3, z4, z5, z6, z7, D b8, z9, .bool false, z11, .bool false, z13, z14, z15, z16, z17, z18, z19, z20, z21, z22, z23, z24, z25, z26, z27, z28, .bool false, .bool true, .bool true, z32, z33, z34, z35, z36, z37, z38, z39] zz) ?_
  refine g_skip ?_
  refine g_fr (Fr [z0, z1, z2, z3, z4, z5, z6, z7, D b8, z9, .bool false, z11, .bool false, z13, z14, z15, z16, z17, z18, z19, z20, z21, z22, z23, z24, z25, z26, z27, z28, .bool false, .bool true, .bool true, undef, z33, z34, z35, z36, z37, z38, z39] zz) ?_
  refine g_skip ?_
  refine g_fr (Fr [z0, z1, z2, z3, z4, z5, z6, z7, D b8, z9, .bool false, z11, .bool false, z13, z14, z15, z16, z17, z18, z19, z20, z21, z22, z23, z24, z25, z26, z27, z28, .bool false, .bool true, .bool true, undef, undef, z34, z35, z36, z37, z38, z39] zz) ?_
  refine g_val (.bool true) (by kernel_rfl) ?_
  refine g_fr (Fr [z0, z1, z2, z3, z4, z5, z6, z7, D b8, z9, .bool false, z11, .bool false, z13, z14, z15, z16, z17, z18, z19, z20, z21, z22, z23, z24, z25, z26, z27, z28, .bool false, .bool true, .bool true, undef, undef, .bool true, z35, z36, z37, z38, z39] zz) ?_
  refine g_val (.bool true) (by kernel_rfl) ?_
  refine g_fr (Fr [z0, z1, z2, z3, z4, z5, z6, z7, D b8, z9, .bool false, z11, .bool false, z13, z14, z15, z16, z17, z18, z19, z20, z21, z22, z23, z24, z25, z26, z27, z28, .bool false, .bool true, .bool true, undef, undef, .bool true, .bool true, z36, z37, z38, z39] zz) ?_
  refine g_skip ?_
  refine g_fr (Fr [z0, z1, z2, z3, z4, z5, z6, z7, D b8, z9, .bool false, z11, .bool false, z13, z14, z15, z16, z17, z18, z19, z20, z21, z22, z23, z24, z25, z26, z27, z28, .bool false, .bool true, .bool true, undef, undef, .bool true, .bool true, undef, z37, z38, z39] zz) ?_
  refine g_skip ?_
  refine g_fr (Fr [z0, z1, z2, z3, z4, z5, z6, z7, D b8, z9, .bool false, z11, .bool false, z13, z14, z15, z16, z17, z18, z19, z20, z21, z22, z23, z24, z25, z26, z27, z28, .bool false, .bool true, .bool true, undef, undef, .bool true, .bool true, undef, undef, z38, z39] zz) ?_
  refine g_skip ?_
  refine g_fr (Fr [z0, z1, z2, z3, z4, z5, z6, z7, D b8, z9, .bool false, z11, .bool false, z13, z14, z15, z16, z17, z18, z19, z20, z21, z22, z23, z24, z25, z26, z27, z28, .bool false, .bool true, .bool true, undef, undef, .bool true, .bool true, undef, undef, undef, z39] zz) ?_
  refine g_val (.bool true) (by kernel_rfl) ?_
  exact g_fr _ ⟨wpList_nil (H  _ hO)⟩
def s9r4cOp0 : Oper := ⟨some 29, .move (.tmp 10), 4, "sign.go:35", #[], none⟩
def s9r4cOp1 : Oper := ⟨some 30, .unOp .not 4 (.tmp 29), 4, "sign.go:35", #[⟨0, .data⟩], none⟩
def s9r4cOp2 : Oper := ⟨some 31, .move (.tmp 30), 4, "sign.go:35", #[⟨1, .data⟩], none⟩
def s9r4cOp3 : Oper := ⟨some 32, .move (.tmp 12), 4, "sign.go:35", #[⟨2, .guard⟩], some (2, false)⟩
def s9r4cOp4 : Oper := ⟨some 33, .unOp .not 4 (.tmp 32), 4, "sign.go:35", #[⟨3, .data⟩, ⟨2, .guard⟩], some (2, false)⟩
def s9r4cOp5 : Oper := ⟨some 34, .pick (.tmp 31) (.const (.bool true)) (.tmp 33), 4, "sign.go:35", #[⟨2, .data⟩, ⟨4, .data⟩], none⟩
def s9r4cOp6 : Oper := ⟨some 35, .move (.tmp 34), 4, "sign.go:35", #[⟨5, .data⟩, ⟨2, .chain⟩], none⟩
def s9r4cOp7 : Oper := ⟨some 36, .load 22 (.tmp 8), 22, "sign.go:35", #[⟨6, .guard⟩], some (6, false)⟩
def s9r4cOp8 : Oper := ⟨some 37, .call { callee := .value (.func 11), args := #[.tmp 36], argTypes := #[22] }, 4, "sign.go:35", #[⟨7, .data⟩, ⟨6, .chain⟩, ⟨6, .guard⟩], some (6, false)⟩
def s9r4cOp9 : Oper := ⟨some 38, .unOp .not 4 (.tmp 37), 4, "sign.go:35", #[⟨8, .data⟩, ⟨6, .guard⟩], some (6, false)⟩
def s9r4cOp10 : Oper := ⟨some 39, .pick (.tmp 35) (.const (.bool true)) (.tmp 38), 4, "sign.go:35", #[⟨6, .data⟩, ⟨9, .data⟩], none⟩
def s9r4cOps : Array Oper := #[s9r4cOp0, s9r4cOp1, s9r4cOp2, s9r4cOp3, s9r4cOp4, s9r4cOp5, s9r4cOp6, s9r4cOp7, s9r4cOp8, s9r4cOp9, s9r4cOp10]
set_option maxHeartbeats 2000000 in
theorem s9r4c_r {Q : Exit → Act → World → Prop} {u w : World} {L : List Row} {z0 z1 z2 z3 z4 z5 z6 z7 z9 z11 z13 z14 z15 z16 z17 z18 z19 z20 z21 z22 z23 z24 z25 z26 z27 z28 z29 z30 z31 z32 z33 z34 z35 z36 z37 z38 z39 : Value} {zz : List Value} {b8 : Nat} (hO : Own u w L) (H : ∀ (w' : World), Own u w' (L) → Q .normal { tmps := List.toArray (z0 :: z1 :: z2 :: z3 :: z4 :: z5 :: z6 :: z7 :: (.pointer (some ⟨b8, 0, none⟩)) :: z9 :: (.bool true) :: z11 :: (.bool false) :: z13 :: z14 :: z15 :: z16 :: z17 :: z18 :: z19 :: z20 :: z21 :: z22 :: z23 :: z24 :: z25 :: z26 :: z27 :: z28 :: (.bool true) :: (.bool false) :: (.bool false) :: (.bool false) :: (.bool true) :: (.bool true) :: (.bool true) :: undef :: undef :: undef :: (.bool true) :: zz), defers := [] } w') :
    (Code.region 4 s9r4cOps false).wp Tryd.prog Q { tmps := List.toArray (z0 :: z1 :: z2 :: z3 :: z4 :: z5 :: z6 :: z7 :: (.pointer (some ⟨b8, 0, none⟩)) :: z9 :: (.bool true) :: z11 :: (.bool false) :: z13 :: z14 :: z15 :: z16 :: z17 :: z18 :: z19 :: z20 :: z21 :: z22 :: z23 :: z24 :: z25 :: z26 :: z27 :: z28 :: z29 :: z30 :: z31 :: z32 :: z33 :: z34 :: z35 :: z36 :: z37 :: z38 :: z39 :: zz), defers := [] } w := by
  refine wp_region_list (show wpList _ s9r4cOps _ [s9r4cOp0, s9r4cOp1, s9r4cOp2, s9r4cOp3, s9r4cOp4, s9r4cOp5, s9r4cOp6, s9r4cOp7, s9r4cOp8, s9r4cOp9, s9r4cOp10] _ _ from WL.out ?_)
  refine g_val (.bool true) (by kernel_rfl) ?_
  refine g_fr (Fr [z0, z1, z2, z3, z4, z5, z6, z7, D b8, z9, .bool true, z11, .bool false, z13, z14, z15, z16, z17, z18, z19, z20, z21, z22, z23, z24, z25, z26, z27, z28, .bool true, z30, z31, z32, z33, z34, z35, z36, z37, z38, z39] zz) ?_
  refine g_val (.bool false) (by kernel_rfl) ?_
  refine g_fr (Fr [z0, z1, z2, z3, z4, z5, z6, z7, D b8, z9, .bool true, z11, .bool false, z13, z14, z15, z16, z17, z18, z19, z20, z21, z22, z23, z24, z25, z26, z27, z28, .bool true, .bool false, z31, z32, z33, z34, z35, z36, z37, z38, z39] zz) ?_
  refine g_val (.bool false) (by kernel_rfl) ?_
  refine g_fr (Fr [z0, z1, z2, z3, z4, z5, z6, z7, D b8, z9, .bool true, z11, .bool false, z13, z14, z15, z16, z17, z18, z19, z20, z21, z22, z23, z24, z25, z26, z27, z28, .bool true, .bool false, .bool false, z32, z33, z34, z35, z36, z37, z38, z39] zz) ?_
  refine g_val (.bool false) (by kernel_rfl) ?_
  refine g_fr (Fr [z0, z1, z2, z3, z4, z5, z6, z7, D b8, z9, .bool true, z11, .bool false, z13, z14, z15, z16, z17, z18, z19, z20, z21, z22, z23, z24, z25, z26, z27, z28, .bool true, .bool false, .bool false, .bool false, z33, z34, z35, z36, z37, z38, z39] zz) ?_
  refine g_val (.bool true) (by kernel_rfl) ?_
  refine g_fr (Fr [z0, z1, z2, z3, z4, z5, z6, z7, D b8, z9, .bool true, z11, .bool false, z13, z14, z15, z16, z17, z18, z19, z20, z21, z22, z23, z24, z25, z26, z27, z28, .bool true, .bool false, .bool false, .bool false, .bool true, z34, z35, z36, z37, z38, z39] zz) ?_
  refine g_val (.bool true) (by kernel_rfl) ?_
  refine g_fr (Fr [z0, z1, z2, z3, z4, z5, z6, z7, D b8, z9, .bool true, z11, .bool false, z13, z14, z15, z16, z17, z18, z19, z20, z21, z22, z23, z24, z25, z26, z27, z28, .bool true, .bool false, .bool false, .bool false, .bool true, .bool true, z35, z36, z37, z38, z39] zz) ?_
  refine g_val (.bool true) (by kernel_rfl) ?_
  refine g_fr (Fr [z0, z1, z2, z3, z4, z5, z6, z7, D b8, z9, .bool true, z11, .bool false, z13, z14, z15, z16, z17, z18, z19, z20, z21, z22, z23, z24, z25, z26, z27, z28, .bool true, .bool false, .bool false, .bool false, .bool true, .bool true, .bool true, z36, z37, z38, z39] zz) ?_
  refine g_skip ?_
  refine g_fr (Fr [z0, z1, z2, z3, z4, z5, z6, z7, D b8, z9, .bool true, z11, .bool false, z13, z14, z15, z16, z17, z18, z19, z20, z21, z22, z23, z24, z25, z26, z27, z28, .bool true, .bool false, .bool false, .bool false, .bool true, .bool true, .bool true, undef, z37, z38, z39] zz) ?_
  refine g_skip ?_
  refine g_fr (Fr [z0, z1, z2, z3, z4, z5, z6, z7, D b8, z9, .bool true, z11, .bool false, z13, z14, z15, z16, z17, z18, z19, z20, z21, z22, z23, z24, z25, z26, z27, z28, .bool true, .bool false, .bool false, .bool false, .bool true, .bool true, .bool true, undef, undef, z38, z39] zz) ?_
  refine g_skip ?_
  refine g_fr (Fr [z0, z1, z2, z3, z4, z5, z6, z7, D b8, z9, .bool true, z11, .bool false, z13, z14, z15, z16, z17, z18, z19, z20, z21, z22, z23, z24, z25, z26, z27, z28, .bool true, .bool false, .bool false, .bool false, .bool true, .bool true, .bool true, undef, undef, undef, z39] zz) ?_
  refine g_val (.bool true) (by kernel_rfl) ?_
  exact g_fr _ ⟨wpList_nil (H  _ hO)⟩
def s9r4dOp0 : Oper := ⟨some 29, .move (.tmp 10), 4, "sign.go:35", #[], none⟩
def s9r4dOp1 : Oper := ⟨some 30, .unOp .not 4 (.tmp 29), 4, "sign.go:35", #[⟨0, .data⟩], none⟩
def s9r4dOp2 : Oper := ⟨some 31, .move (.tmp 30), 4, "sign.go:35", #[⟨1, .data⟩], none⟩
def s9r4dOp3 : Oper := ⟨some 32, .move (.tmp 12), 4, "sign.go:35", #[⟨2, .guard⟩], some (2, false)⟩
def s9r4dOp4 : Oper := ⟨some 33, .unOp .not 4 (.tmp 32), 4, "sign.go:35", #[⟨3, .data⟩, ⟨2, .guard⟩], some (2, false)⟩
def s9r4dOp5 : Oper := ⟨some 34, .pick (.tmp 31) (.const (.bool true)) (.tmp 33), 4, "sign.go:35", #[⟨2, .data⟩, ⟨4, .data⟩], none⟩
def s9r4dOp6 : Oper := ⟨some 35, .move (.tmp 34), 4, "sign.go:35", #[⟨5, .data⟩, ⟨2, .chain⟩], none⟩
def s9r4dOp7 : Oper := ⟨some 36, .load 22 (.tmp 8), 22, "sign.go:35", #[⟨6, .guard⟩], some (6, false)⟩
def s9r4dOp8 : Oper := ⟨some 37, .call { callee := .value (.func 11), args := #[.tmp 36], argTypes := #[22] }, 4, "sign.go:35", #[⟨7, .data⟩, ⟨6, .chain⟩, ⟨6, .guard⟩], some (6, false)⟩
def s9r4dOp9 : Oper := ⟨some 38, .unOp .not 4 (.tmp 37), 4, "sign.go:35", #[⟨8, .data⟩, ⟨6, .guard⟩], some (6, false)⟩
def s9r4dOp10 : Oper := ⟨some 39, .pick (.tmp 35) (.const (.bool true)) (.tmp 38), 4, "sign.go:35", #[⟨6, .data⟩, ⟨9, .data⟩], none⟩
def s9r4dOps : Array Oper := #[s9r4dOp0, s9r4dOp1, s9r4dOp2, s9r4dOp3, s9r4dOp4, s9r4dOp5, s9r4dOp6, s9r4dOp7, s9r4dOp8, s9r4dOp9, s9r4dOp10]
set_option maxHeartbeats 2000000 in
theorem s9r4d_r {Q : Exit → Act → World → Prop} {u w : World} {L : List Row} {z0 z1 z2 z3 z4 z5 z6 z7 z9 z11 z13 z14 z15 z16 z17 z18 z19 z20 z21 z22 z23 z24 z25 z26 z27 z28 z29 z30 z31 z32 z33 z34 z35 z36 z37 z38 z39 : Value} {zz : List Value} {b8 : Nat} {c8 : Array Value} (hO : Own u w L) (i8 : Nat) (h8 : L[i8]? = some (b8, c8, 22)) (r37 : ∀ (w : World), Below u.heap.size u w → Blk w b8 c8 22 → Ret 11 #[.agg c8] w (.bool false)) (H : ∀ (w' : World), Own u w' (L) → Q .normal { tmps := List.toArray (z0 :: z1 :: z2 :: z3 :: z4 :: z5 :: z6 :: z7 :: (.pointer (some ⟨b8, 0, none⟩)) :: z9 :: (.bool true) :: z11 :: (.bool true) :: z13 :: z14 :: z15 :: z16 :: z17 :: z18 :: z19 :: z20 :: z21 :: z22 :: z23 :: z24 :: z25 :: z26 :: z27 :: z28 :: (.bool true) :: (.bool false) :: (.bool false) :: (.bool true) :: (.bool false) :: (.bool false) :: (.bool false) :: (.agg c8) :: (.bool false) :: (.bool true) :: (.bool true) :: zz), defers := [] } w') :
    (Code.region 4 s9r4dOps false).wp Tryd.prog Q { tmps := List.toArray (z0 :: z1 :: z2 :: z3 :: z4 :: z5 :: z6 :: z7 :: (.pointer (some ⟨b8, 0, none⟩)) :: z9 :: (.bool true) :: z11 :: (.bool true) :: z13 :: z14 :: z15 :: z16 :: z17 :: z18 :: z19 :: z20 :: z21 :: z22 :: z23 :: z24 :: z25 :: z26 :: z27 :: z28 :: z29 :: z30 :: z31 :: z32 :: z33 :: z34 :: z35 :: z36 :: z37 :: z38 :: z39 :: zz), defers := [] } w := by
  refine wp_region_list (show wpList _ s9r4dOps _ [s9r4dOp0, s9r4dOp1, s9r4dOp2, s9r4dOp3, s9r4dOp4, s9r4dOp5, s9r4dOp6, s9r4dOp7, s9r4dOp8, s9r4dOp9, s9r4dOp10] _ _ from WL.out ?_)
  refine g_val (.bool true) (by kernel_rfl) ?_
  refine g_fr (Fr [z0, z1, z2, z3, z4, z5, z6, z7, D b8, z9, .bool true, z11, .bool true, z13, z14, z15, z16, z17, z18, z19, z20, z21, z22, z23, z24, z25, z26, z27, z28, .bool true, z30, z31, z32, z33, z34, z35, z36, z37, z38, z39] zz) ?_
  refine g_val (.bool false) (by kernel_rfl) ?_
  refine g_fr (Fr [z0, z1, z2, z3, z4, z5, z6, z7, D b8, z9, .bool true, z11, .bool true, z13, z14, z15, z16, z17, z18, z19, z20, z21, z22, z23, z24, z25, z26, z27, z28, .bool true, .bool false, z31, z32, z33, z34, z35, z36, z37, z38, z39] zz) ?_
  refine g_val (.bool false) (by kernel_rfl) ?_
  refine g_fr (Fr [z0, z1, z2, z3, z4, z5, z6, z7, D b8, z9, .bool true, z11, .bool true, z13, z14, z15, z16, z17, z18, z19, z20, z21, z22, z23, z24, z25, z26, z27, z28, .bool true, .bool false, .bool false, z32, z33, z34, z35, z36, z37, z38, z39] zz) ?_
  refine g_val (.bool true) (by kernel_rfl) ?_
  refine g_fr (Fr [z0, z1, z2, z3, z4, z5, z6, z7, D b8, z9, .bool true, z11, .bool true, z13, z14, z15, z16, z17, z18, z19, z20, z21, z22, z23, z24, z25, z26, z27, z28, .bool true, .bool false, .bool false, .bool true, z33, z34, z35, z36, z37, z38, z39] zz) ?_
  refine g_val (.bool false) (by kernel_rfl) ?_
  refine g_fr (Fr [z0, z1, z2, z3, z4, z5, z6, z7, D b8, z9, .bool true, z11, .bool true, z13, z14, z15, z16, z17, z18, z19, z20, z21, z22, z23, z24, z25, z26, z27, z28, .bool true, .bool false, .bool false, .bool true, .bool false, z34, z35, z36, z37, z38, z39] zz) ?_
  refine g_val (.bool false) (by kernel_rfl) ?_
  refine g_fr (Fr [z0, z1, z2, z3, z4, z5, z6, z7, D b8, z9, .bool true, z11, .bool true, z13, z14, z15, z16, z17, z18, z19, z20, z21, z22, z23, z24, z25, z26, z27, z28, .bool true, .bool false, .bool false, .bool true, .bool false, .bool false, z35, z36, z37, z38, z39] zz) ?_
  refine g_val (.bool false) (by kernel_rfl) ?_
  refine g_fr (Fr [z0, z1, z2, z3, z4, z5, z6, z7, D b8, z9, .bool true, z11, .bool true, z13, z14, z15, z16, z17, z18, z19, z20, z21, z22, z23, z24, z25, z26, z27, z28, .bool true, .bool false, .bool false, .bool true, .bool false, .bool false, .bool false, z36, z37, z38, z39] zz) ?_
  refine g_ld hO 22 i8 h8 Tryd.underlying22 ?_
  refine g_fr (Fr [z0, z1, z2, z3, z4, z5, z6, z7, D b8, z9, .bool true, z11, .bool true, z13, z14, z15, z16, z17, z18, z19, z20, z21, z22, z23, z24, z25, z26, z27, z28, .bool true, .bool false, .bool false, .bool true, .bool false, .bool false, .bool false, A c8, z37, z38, z39] zz) ?_
  refine g_cw hO 11 #[.agg c8] (.bool false) (r37 _ hO.low (hO.row (i8) h8)) ?_
  intro w1 _ hO
  refine g_fr (Fr [z0, z1, z2, z3, z4, z5, z6, z7, D b8, z9, .bool true, z11, .bool true, z13, z14, z15, z16, z17, z18, z19, z20, z21, z22, z23, z24, z25, z26, z27, z28, .bool true, .bool false, .bool false, .bool true, .bool false, .bool false, .bool false, A c8, .bool false, z38, z39] zz) ?_
  refine g_val (.bool true) (by kernel_rfl) ?_
  refine g_fr (Fr [z0, z1, z2, z3, z4, z5, z6, z7, D b8, z9, .bool true, z11, .bool true, z13, z14, z15, z16, z17, z18, z19, z20, z21, z22, z23, z24, z25, z26, z27, z28, .bool true, .bool false, .bool false, .bool true, .bool false, .bool false, .bool false, A c8, .bool false, .bool true, z39] zz) ?_
  refine g_val (.bool true) (by kernel_rfl) ?_
  exact g_fr _ ⟨wpList_nil (H  _ hO)⟩
def s9r4eOp0 : Oper := ⟨some 29, .move (.tmp 10), 4, "sign.go:35", #[], none⟩
def s9r4eOp1 : Oper := ⟨some 30, .unOp .not 4 (.tmp 29), 4, "sign.go:35", #[⟨0, .data⟩], none⟩
def s9r4eOp2 : Oper := ⟨some 31, .move (.tmp 30), 4, "sign.go:35", #[⟨1, .data⟩], none⟩
def s9r4eOp3 : Oper := ⟨some 32, .move (.tmp 12), 4, "sign.go:35", #[⟨2, .guard⟩], some (2, false)⟩
def s9r4eOp4 : Oper := ⟨some 33, .unOp .not 4 (.tmp 32), 4, "sign.go:35", #[⟨3, .data⟩, ⟨2, .guard⟩], some (2, false)⟩
def s9r4eOp5 : Oper := ⟨some 34, .pick (.tmp 31) (.const (.bool true)) (.tmp 33), 4, "sign.go:35", #[⟨2, .data⟩, ⟨4, .data⟩], none⟩
def s9r4eOp6 : Oper := ⟨some 35, .move (.tmp 34), 4, "sign.go:35", #[⟨5, .data⟩, ⟨2, .chain⟩], none⟩
def s9r4eOp7 : Oper := ⟨some 36, .load 22 (.tmp 8), 22, "sign.go:35", #[⟨6, .guard⟩], some (6, false)⟩
def s9r4eOp8 : Oper := ⟨some 37, .call { callee := .value (.func 11), args := #[.tmp 36], argTypes := #[22] }, 4, "sign.go:35", #[⟨7, .data⟩, ⟨6, .chain⟩, ⟨6, .guard⟩], some (6, false)⟩
def s9r4eOp9 : Oper := ⟨some 38, .unOp .not 4 (.tmp 37), 4, "sign.go:35", #[⟨8, .data⟩, ⟨6, .guard⟩], some (6, false)⟩
def s9r4eOp10 : Oper := ⟨some 39, .pick (.tmp 35) (.const (.bool true)) (.tmp 38), 4, "sign.go:35", #[⟨6, .data⟩, ⟨9, .data⟩], none⟩
def s9r4eOps : Array Oper := #[s9r4eOp0, s9r4eOp1, s9r4eOp2, s9r4eOp3, s9r4eOp4, s9r4eOp5, s9r4eOp6, s9r4eOp7, s9r4eOp8, s9r4eOp9, s9r4eOp10]
set_option maxHeartbeats 2000000 in
theorem s9r4e_r {Q : Exit → Act → World → Prop} {u w : World} {L : List Row} {z0 z1 z2 z3 z4 z5 z6 z7 z9 z11 z13 z14 z15 z16 z17 z18 z19 z20 z21 z22 z23 z24 z25 z26 z27 z28 z29 z30 z31 z32 z33 z34 z35 z36 z37 z38 z39 : Value} {zz : List Value} {b8 : Nat} {c8 : Array Value} (hO : Own u w L) (i8 : Nat) (h8 : L[i8]? = some (b8, c8, 22)) (r37 : ∀ (w : World), Below u.heap.size u w → Blk w b8 c8 22 → Ret 11 #[.agg c8] w (.bool true)) (H : ∀ (w' : World), Own u w' (L) → Q .normal { tmps := List.toArray (z0 :: z1 :: z2 :: z3 :: z4 :: z5 :: z6 :: z7 :: (.pointer (some ⟨b8, 0, none⟩)) :: z9 :: (.bool true) :: z11 :: (.bool true) :: z13 :: z14 :: z15 :: z16 :: z17 :: z18 :: z19 :: z20 :: z21 :: z22 :: z23 :: z24 :: z25 :: z26 :: z27 :: z28 :: (.bool true) :: (.bool false) :: (.bool false) :: (.bool true) :: (.bool false) :: (.bool false) :: (.bool false) :: (.agg c8) :: (.bool true) :: (.bool false) :: (.bool false) :: zz), defers := [] } w') :
    (Code.region 4 s9r4eOps false).wp Tryd.prog Q { tmps := List.toArray (z0 :: z1 :: z2 :: z3 :: z4 :: z5 :: z6 :: z7 :: (.pointer (some ⟨b8, 0, none⟩)) :: z9 :: (.bool true) :: z11 :: (.bool true) :: z13 :: z14 :: z15 :: z16 :: z17 :: z18 :: z19 :: z20 :: z21 :: z22 :: z23 :: z24 :: z25 :: z26 :: z27 :: z28 :: z29 :: z30 :: z31 :: z32 :: z33 :: z34 :: z35 :: z36 :: z37 :: z38 :: z39 :: zz), defers := [] } w := by
  refine wp_region_list (show wpList _ s9r4eOps _ [s9r4eOp0, s9r4eOp1, s9r4eOp2, s9r4eOp3, s9r4eOp4, s9r4eOp5, s9r4eOp6, s9r4eOp7, s9r4eOp8, s9r4eOp9, s9r4eOp10] _ _ from WL.out ?_)
  refine g_val (.bool true) (by kernel_rfl) ?_
  refine g_fr (Fr [z0, z1, z2, z3, z4, z5, z6, z7, D b8, z9, .bool true, z11, .bool true, z13, z14, z15, z16, z17, z18, z19, z20, z21, z22, z23, z24, z25, z26, z27, z28, .bool true, z30, z31, z32, z33, z34, z35, z36, z37, z38, z39] zz) ?_
  refine g_val (.bool false) (by kernel_rfl) ?_
  refine g_fr (Fr [z0, z1, z2, z3, z4, z5, z6, z7, D b8, z9, .bool true, z11, .bool true, z13, z14, z15, z16, z17, z18, z19, z20, z21, z22, z23, z24, z25, z26, z27, z28, .bool true, .bool false, z31, z32, z33, z34, z35, z36, z37, z38, z39] zz) ?_
  refine g_val (.bool false) (by kernel_rfl) ?_
  refine g_fr (Fr [z0, z1, z2, z3, z4, z5, z6, z7, D b8, z9, .bool true, z11, .bool true, z13, z14, z15, z16, z17, z18, z19, z20, z21, z22, z23, z24, z25, z26, z27, z28, .bool true, .bool false, .bool false, z32, z33, z34, z35, z36, z37, z38, z39] zz) ?_
  refine g_val (.bool true) (by kernel_rfl) ?_
  refine g_fr (Fr [z0, z1, z2, z3, z4, z5, z6, z7, D b8, z9, .bool true, z11, .bool true, z13, z14, z15, z16, z17, z18, z19, z20, z21, z22, z23, z24, z25, z26, z27, z28, .bool true, .bool false, .bool false, .bool true, z33, z34, z35, z36, z37, z38, z39] zz) ?_
  refine g_val (.bool false) (by kernel_rfl) ?_
  refine g_fr (Fr [z0, z1, z2, z3, z4, z5, z6, z7, D b8, z9, .bool true, z11, .bool true, z13, z14, z15, z16, z17, z18, z19, z20, z21, z22, z23, z24, z25, z26, z27, z28, .bool true, .bool false, .bool false, .bool true, .bool false, z34, z35, z36, z37, z38, z39] zz) ?_
  refine g_val (.bool false) (by kernel_rfl) ?_
  refine g_fr (Fr [z0, z1, z2, z3, z4, z5, z6, z7, D b8, z9, .bool true, z11, .bool true, z13, z14, z15, z16, z17, z18, z19, z20, z21, z22, z23, z24, z25, z26, z27, z28, .bool true, .bool false, .bool false, .bool true, .bool false, .bool false, z35, z36, z37, z38, z39] zz) ?_
  refine g_val (.bool false) (by kernel_rfl) ?_
  refine g_fr (Fr [z0, z1, z2, z3, z4, z5, z6, z7, D b8, z9, .bool true, z11, .bool true, z13, z14, z15, z16, z17, z18, z19, z20, z21, z22, z23, z24, z25, z26, z27, z28, .bool true, .bool false, .bool false, .bool true, .bool false, .bool false, .bool false, z36, z37, z38, z39] zz) ?_
  refine g_ld hO 22 i8 h8 Tryd.underlying22 ?_
  refine g_fr (Fr [z0, z1, z2, z3, z4, z5, z6, z7, D b8, z9, .bool true, z11, .bool true, z13, z14, z15, z16, z17, z18, z19, z20, z21, z22, z23, z24, z25, z26, z27, z28, .bool true, .bool false, .bool false, .bool true, .bool false, .bool false, .bool false, A c8, z37, z38, z39] zz) ?_
  refine g_cw hO 11 #[.agg c8] (.bool true) (r37 _ hO.low (hO.row (i8) h8)) ?_
  intro w1 _ hO
  refine g_fr (Fr [z0, z1, z2, z3, z4, z5, z6, z7, D b8, z9, .bool true, z11, .bool true, z13, z14, z15, z16, z17, z18, z19, z20, z21, z22, z23, z24, z25, z26, z27, z28, .bool true, .bool false, .bool false, .bool true, .bool false, .bool false, .bool false, A c8, .bool true, z38, z39] zz) ?_
  refine g_val (.bool false) (by kernel_rfl) ?_
  refine g_fr (Fr [z0, z1, z2, z3, z4, z5, z6, z7, D b8, z9, .bool true, z11, .bool true, z13, z14, z15, z16, z17, z18, z19, z20, z21, z22, z23, z24, z25, z26, z27, z28, .bool true, .bool false, .bool false, .bool true, .bool false, .bool false, .bool false, A c8, .bool true, .bool false, z39] zz) ?_
  refine g_val (.bool false) (by kernel_rfl) ?_
  exact g_fr _ ⟨wpList_nil (H  _ hO)⟩
def s9r5Op0 : Oper := ⟨some 6, .assign (.const (.bool false)), 4, "sign.go:36", #[], none⟩
def s9r5Ops : Array Oper := #[s9r5Op0]
set_option maxHeartbeats 2000000 in
theorem s9r5_r {Q : Exit → Act → World → Prop} {u w : World} {L : List Row} {z0 z1 z2 z3 z4 z5 z6 : Value} {zz : List Value} (hO : Own u w L) (H : ∀ (w' : World), Own u w' (L) → Q .normal { tmps := List.toArray (z0 :: z1 :: z2 :: z3 :: z4 :: z5 :: (.bool false) :: zz), defers := [] } w') :
    (Code.region 5 s9r5Ops false).wp Tryd.prog Q { tmps := List.toArray (z0 :: z1 :: z2 :: z3 :: z4 :: z5 :: z6 :: zz), defers := [] } w := by
  refine wp_region_list (show wpList _ s9r5Ops _ [s9r5Op0] _ _ from ?_)
  refine l_val (.bool false) (by kernel_rfl) ?_
  exact l_fr _ (wpList_nil (H  _ hO))
def s9r6Op0 : Oper := ⟨some 40, .move (.tmp 2), 26, "sign.go:38", #[], none⟩
def s9r6Op1 : Oper := ⟨some 41, .call { callee := .value (.func 16), args := #[.tmp 40], argTypes := #[26] }, 46, "sign.go:38", #[⟨0, .data⟩], none⟩
def s9r6Op2 : Oper := ⟨some 42, .slice 22 (.tmp 7) none none none, 23, "sign.go:38", #[], none⟩
def s9r6Op3 : Oper := ⟨some 43, .slice 22 (.tmp 3) none none none, 23, "sign.go:38", #[], none⟩
def s9r6Op4 : Oper := ⟨some 44, .buildSlice 26 2 #[(0, .tmp 42), (1, .tmp 43)], 26, "sign.go:38", #[⟨2, .data⟩, ⟨3, .data⟩], none⟩
def s9r6Op5 : Oper := ⟨some 45, .call { callee := .value (.tmp 41), args := #[.tmp 44], argTypes := #[26] }, 22, "sign.go:38", #[⟨1, .data⟩, ⟨4, .data⟩, ⟨1, .chain⟩], none⟩
def s9r6Op6 : Oper := ⟨some 13, .alloc 22, 0, "sign.go:38", #[], none⟩
def s9r6Op7 : Oper := ⟨none, .store 22 (.tmp 13) (.tmp 45), 0, "sign.go:38", #[⟨6, .data⟩, ⟨5, .data⟩, ⟨5, .chain⟩, ⟨0, .phase⟩, ⟨1, .phase⟩, ⟨2, .phase⟩, ⟨3, .phase⟩, ⟨4, .phase⟩, ⟨5, .phase⟩, ⟨6, .phase⟩], none⟩
def s9r6Ops : Array Oper := #[s9r6Op0, s9r6Op1, s9r6Op2, s9r6Op3, s9r6Op4, s9r6Op5, s9r6Op6, s9r6Op7]
set_option maxHeartbeats 2000000 in
theorem s9r6_r {Q : Exit → Act → World → Prop} {u w : World} {L : List Row} {z0 z1 z4 z5 z6 z8 z9 z10 z11 z12 z13 z14 z15 z16 z17 z18 z19 z20 z21 z22 z23 z24 z25 z26 z27 z28 z29 z30 z31 z32 z33 z34 z35 z36 z37 z38 z39 z40 z41 z42 z43 z44 z45 : Value} {x2 : Value} {zz : List Value} {b3 b7 : Nat} {c3 c7 : Array Value} {e45 : Array Value} (hQ : ∀ c a w n v, Q (.panic c) (a.put (some n) v) w → Q (.panic c) a w) (hO : Own u w L) (i3 : Nat) (h3 : L[i3]? = some (b3, c3, 22)) (i7 : Nat) (h7 : L[i7]? = some (b7, c7, 22)) (r41 : ∀ w, CallsNew 16 #[x2] 46 w #[x2] 26) (fc41 : Fit 26 #[x2]) (r45 : ∀ (n41 : Nat) (q44 : Nat) (w : World), Below u.heap.size u w → Blk w b3 c3 22 → Blk w b7 c7 22 → Blk w n41 #[x2] 26 → Blk w q44 #[.slice (some ⟨b7, 0, none⟩) 32 32, .slice (some ⟨b3, 0, none⟩) 32 32] 23 → Ret 46 #[.slice (some ⟨q44, 0, none⟩) 2 2, .pointer (some ⟨n41, 0, none⟩)] w (.agg e45)) (fe45_22 : Fit 22 e45) (H : ∀ (n41 : Nat) (n13 : Nat) (q44 : Nat) (w' : World), Own u w' ((n13, e45, 22) :: (n41, #[x2], 26) :: L) → Q .normal { tmps := List.toArray (z0 :: z1 :: x2 :: (.pointer (some ⟨b3, 0, none⟩)) :: z4 :: z5 :: z6 :: (.pointer (some ⟨b7, 0, none⟩)) :: z8 :: z9 :: z10 :: z11 :: z12 :: (.pointer (some ⟨n13, 0, none⟩)) :: z14 :: z15 :: z16 :: z17 :: z18 :: z19 :: z20 :: z21 :: z22 :: z23 :: z24 :: z25 :: z26 :: z27 :: z28 :: z29 :: z30 :: z31 :: z32 :: z33 :: z34 :: z35 :: z36 :: z37 :: z38 :: z39 :: x2 :: (.func (.func 46) #[] #[.pointer (some ⟨n41, 0, none⟩)]) :: (.slice (some ⟨b7, 0, none⟩) 32 32) :: (.slice (some ⟨b3, 0, none⟩) 32 32) :: (.slice (some ⟨q44, 0, none⟩) 2 2) :: (.agg e45) :: zz), defers := [] } w') :
    (Code.region 6 s9r6Ops true).wp Tryd.prog Q { tmps := List.toArray (z0 :: z1 :: x2 :: (.pointer (some ⟨b3, 0, none⟩)) :: z4 :: z5 :: z6 :: (.pointer (some ⟨b7, 0, none⟩)) :: z8 :: z9 :: z10 :: z11 :: z12 :: z13 :: z14 :: z15 :: z16 :: z17 :: z18 :: z19 :: z20 :: z21 :: z22 :: z23 :: z24 :: z25 :: z26 :: z27 :: z28 :: z29 :: z30 :: z31 :: z32 :: z33 :: z34 :: z35 :: z36 :: z37 :: z38 :: z39 :: z40 :: z41 :: z42 :: z43 :: z44 :: z45 :: zz), defers := [] } w := by
  have s0 : ∀ (n41 : Nat) (n13 : Nat) (q44 : Nat) (w : World), Own u w ((n13, vals .u8 32 (fun _ => 0), 22) :: (n41, #[x2], 26) :: L) → wpAnyH Tryd.prog .any s9r6Ops Q (Has [(b3, c3, 22), (b7, c7, 22)]) 1 (ls 8 127) (Fr [z0, z1, x2, D b3, z4, z5, z6, D b7, z8, z9, z10, z11, z12, D n13, z14, z15, z16, z17, z18, z19, z20, z21, z22, z23, z24, z25, z26, z27, z28, z29, z30, z31, z32, z33, z34, z35, z36, z37, z38, z39, x2, .func (.func 46) #[] #[.pointer (some ⟨n41, 0, none⟩)], .slice (some ⟨b7, 0, none⟩) 32 32, .slice (some ⟨b3, 0, none⟩) 32 32, .slice (some ⟨q44, 0, none⟩) 2 2, A e45] zz) w := by
    intro n41 n13 q44 w hO
    refine d_one 7 s9r6Op7 (ls 8 255) (fun K hK => ?_)
    refine k_st hK hO 22 0 rfl e45 fe45_22 (fun _ hO => ⟨hO.row _ (gs (gs h3)), hO.row _ (gs (gs h7)), trivial⟩) ?_
    intro w1 hO
    exact wpAnyH_done (by kernel_rfl) (H n41 n13 q44 _ hO) _
  have s1 : ∀ (n41 : Nat) (n13 : Nat) (q44 : Nat) (w : World), Blk w q44 #[.slice (some ⟨b7, 0, none⟩) 32 32, .slice (some ⟨b3, 0, none⟩) 32 32] 23 → Own u w ((n13, vals .u8 32 (fun _ => 0), 22) :: (n41, #[x2], 26) :: L) → wpAnyH Tryd.prog .any s9r6Ops Q (Has [(b3, c3, 22), (b7, c7, 22)]) 2 (ls 8 95) (Fr [z0, z1, x2, D b3, z4, z5, z6, D b7, z8, z9, z10, z11, z12, D n13, z14, z15, z16, z17, z18, z19, z20, z21, z22, z23, z24, z25, z26, z27, z28, z29, z30, z31, z32, z33, z34, z35, z36, z37, z38, z39, x2, .func (.func 46) #[] #[.pointer (some ⟨n41, 0, none⟩)], .slice (some ⟨b7, 0, none⟩) 32 32, .slice (some ⟨b3, 0, none⟩) 32 32, .slice (some ⟨q44, 0, none⟩) 2 2, z45] zz) w := by
    intro n41 n13 q44 w hB44 hO
    refine d_one 5 s9r6Op5 (ls 8 127) (fun K hK => ?_)
    refine kb_cw hK hO (fun _ hO => ⟨hO.row _ (gs (gs h3)), hO.row _ (gs (gs h7)), trivial⟩) 46 #[.slice (some ⟨q44, 0, none⟩) 2 2, .pointer (some ⟨n41, 0, none⟩)] (.agg e45) (r45 n41 q44 _ hO.low (hO.row ((i3 + 2)) (gs (gs h3))) (hO.row ((i7 + 2)) (gs (gs h7))) (hO.row (1) rfl) hB44) ?_
    intro w2 hb hO
    clear hb
    exact d_fr _ _ (s0 n41 n13 q44 _ hO)
  have s2 : ∀ (n41 : Nat) (q44 : Nat) (w : World), Blk w q44 #[.slice (some ⟨b7, 0, none⟩) 32 32, .slice (some ⟨b3, 0, none⟩) 32 32] 23 → Own u w ((n41, #[x2], 26) :: L) → wpAnyH Tryd.prog .any s9r6Ops Q (Has [(b3, c3, 22), (b7, c7, 22)]) 3 (ls 8 31) (Fr [z0, z1, x2, D b3, z4, z5, z6, D b7, z8, z9, z10, z11, z12, z13, z14, z15, z16, z17, z18, z19, z20, z21, z22, z23, z24, z25, z26, z27, z28, z29, z30, z31, z32, z33, z34, z35, z36, z37, z38, z39, x2, .func (.func 46) #[] #[.pointer (some ⟨n41, 0, none⟩)], .slice (some ⟨b7, 0, none⟩) 32 32, .slice (some ⟨b3, 0, none⟩) 32 32, .slice (some ⟨q44, 0, none⟩) 2 2, z45] zz) w := by
    intro n41 q44 w hB44 hO
    refine wpAnyH_ready (rs := [5, 6]) (by kernel_rfl) (by simp) ?_
    refine d_cons 5 s9r6Op5 (ls 8 63) (fun K hK => ?_) ?_
    · skip
      refine kb_cw hK hO (fun _ hO => ⟨hO.row _ (gs h3), hO.row _ (gs h7), trivial⟩) 46 #[.slice (some ⟨q44, 0, none⟩) 2 2, .pointer (some ⟨n41, 0, none⟩)] (.agg e45) (r45 n41 q44 _ hO.low (hO.row ((i3 + 1)) (gs h3)) (hO.row ((i7 + 1)) (gs h7)) (hO.row (0) rfl) hB44) ?_
      intro w3 hb hO
      clear hb
      refine d_one 6 s9r6Op6 (ls 8 127) (fun K hK => ?_)
      refine k_new hK hO (vals .u8 32 (fun _ => 0)) 22 (al22 rfl) (fit_by _) (fun _ _ hO => ⟨hO.row _ (gs (gs h3)), hO.row _ (gs (gs h7)), trivial⟩) ?_
      intro n13 w4 hO
      exact d_fr _ _ (s0 n41 n13 q44 _ hO)
    refine d_cons 6 s9r6Op6 (ls 8 95) (fun K hK => ?_) ?_
    · skip
      refine kb_new hK hO (vals .u8 32 (fun _ => 0)) 22 (al22 rfl) (fit_by _) (fun _ _ hO => ⟨hO.row _ (gs (gs h3)), hO.row _ (gs (gs h7)), trivial⟩) ?_
      intro n13 w5 hb hO
      replace hB44 := hB44.call hb
      clear hb
      exact d_fr _ _ (s1 n41 n13 q44 _ hB44 hO)
    exact AllReadyH.nil
  have s3 : ∀ (n13 : Nat) (q44 : Nat) (w : World), Blk w q44 #[.slice (some ⟨b7, 0, none⟩) 32 32, .slice (some ⟨b3, 0, none⟩) 32 32] 23 → Own u w ((n13, vals .u8 32 (fun _ => 0), 22) :: L) → wpAnyH Tryd.prog .any s9r6Ops Q (Has [(b3, c3, 22), (b7, c7, 22)]) 3 (ls 8 93) (Fr [z0, z1, x2, D b3, z4, z5, z6, D b7, z8, z9, z10, z11, z12, D n13, z14, z15, z16, z17, z18, z19, z20, z21, z22, z23, z24, z25, z26, z27, z28, z29, z30, z31, z32, z33, z34, z35, z36, z37, z38, z39, x2, z41, .slice (some ⟨b7, 0, none⟩) 32 32, .slice (some ⟨b3, 0, none⟩) 32 32, .slice (some ⟨q44, 0, none⟩) 2 2, z45] zz) w := by
    intro n13 q44 w hB44 hO
    refine d_one 1 s9r6Op1 (ls 8 95) (fun K hK => ?_)
    refine kb_cn hK hO 16 #[x2] 46 #[x2] 26 r41 fc41 (fun _ _ hO => ⟨hO.row _ (gs (gs h3)), hO.row _ (gs (gs h7)), trivial⟩) ?_
    intro n41 w6 hb hO
    replace hB44 := hB44.call hb
    clear hb
    replace hO := hO.perm swap1
    exact d_fr _ _ (s1 n41 n13 q44 _ hB44 hO)
  have s4 : ∀ (n41 : Nat) (n13 : Nat) (w : World), Own u w ((n13, vals .u8 32 (fun _ => 0), 22) :: (n41, #[x2], 26) :: L) → wpAnyH Tryd.prog .any s9r6Ops Q (Has [(b3, c3, 22), (b7, c7, 22)]) 3 (ls 8 79) (Fr [z0, z1, x2, D b3, z4, z5, z6, D b7, z8, z9, z10, z11, z12, D n13, z14, z15, z16, z17, z18, z19, z20, z21, z22, z23, z24, z25, z26, z27, z28, z29, z30, z31, z32, z33, z34, z35, z36, z37, z38, z39, x2, .func (.func 46) #[] #[.pointer (some ⟨n41, 0, none⟩)], .slice (some ⟨b7, 0, none⟩) 32 32, .slice (some ⟨b3, 0, none⟩) 32 32, z44, z45] zz) w := by
    intro n41 n13 w hO
    refine d_one 4 s9r6Op4 (ls 8 95) (fun K hK => ?_)
    refine kb_bs hK hO (fun _ hO => ⟨hO.row _ (gs (gs h3)), hO.row _ (gs (gs h7)), trivial⟩) 2 #[.slice (some ⟨b7, 0, none⟩) 32 32, .slice (some ⟨b3, 0, none⟩) 32 32] 23 (fun w => run_bsl 26 23 2 _ rfl #[(0, .slice (some ⟨b7, 0, none⟩) 32 32), (1, .slice (some ⟨b3, 0, none⟩) 32 32)] (by kernel_rfl) (by kernel_rfl)) ?_
    intro q44 w7 hb hB44 hO
    clear hb
    exact d_fr _ _ (s1 n41 n13 q44 _ hB44 hO)
  refine wp_region_held_drew (S := Has [(b3, c3, 22), (b7, c7, 22)]) (by kernel_rfl) ⟨hO.drew.row _ h3, hO.drew.row _ h7, trivial⟩ (fun hS => ?_)
  replace hO := hO.drew
  refine d_tk 0 s9r6Op0 (x2) hQ (y_val (fun _ => by kernel_rfl)) hS ?_
  refine d_tk 2 s9r6Op2 (.slice (some ⟨b7, 0, none⟩) 32 32) hQ (y_val (fun _ => by kernel_rfl)) hS ?_
  refine d_tk 3 s9r6Op3 (.slice (some ⟨b3, 0, none⟩) 32 32) hQ (y_val (fun _ => by kernel_rfl)) hS ?_
  refine d_fr (ls 8 13) (Fr [z0, z1, x2, D b3, z4, z5, z6, D b7, z8, z9, z10, z11, z12, z13, z14, z15, z16, z17, z18, z19, z20, z21, z22, z23, z24, z25, z26, z27, z28, z29, z30, z31, z32, z33, z34, z35, z36, z37, z38, z39, x2, z41, .slice (some ⟨b7, 0, none⟩) 32 32, .slice (some ⟨b3, 0, none⟩) 32 32, z44, z45] zz) ?_
  refine wpAnyH_ready (rs := [1, 4, 6]) (by kernel_rfl) (by simp) ?_
  refine d_cons 1 s9r6Op1 (ls 8 15) (fun K hK => ?_) ?_
  · skip
    refine kb_cn hK hO 16 #[x2] 46 #[x2] 26 r41 fc41 (fun _ _ hO => ⟨hO.row _ (gs h3), hO.row _ (gs h7), trivial⟩) ?_
    intro n41 w8 hb hO
    clear hb
    refine wpAnyH_ready (rs := [4, 6]) (by kernel_rfl) (by simp) ?_
    refine d_cons 4 s9r6Op4 (ls 8 31) (fun K hK => ?_) ?_
    · skip
      refine kb_bs hK hO (fun _ hO => ⟨hO.row _ (gs h3), hO.row _ (gs h7), trivial⟩) 2 #[.slice (some ⟨b7, 0, none⟩) 32 32, .slice (some ⟨b3, 0, none⟩) 32 32] 23 (fun w => run_bsl 26 23 2 _ rfl #[(0, .slice (some ⟨b7, 0, none⟩) 32 32), (1, .slice (some ⟨b3, 0, none⟩) 32 32)] (by kernel_rfl) (by kernel_rfl)) ?_
      intro q44 w9 hb hB44 hO
      clear hb
      exact d_fr _ _ (s2 n41 q44 _ hB44 hO)
    refine d_cons 6 s9r6Op6 (ls 8 79) (fun K hK => ?_) ?_
    · skip
      refine k_new hK hO (vals .u8 32 (fun _ => 0)) 22 (al22 rfl) (fit_by _) (fun _ _ hO => ⟨hO.row _ (gs (gs h3)), hO.row _ (gs (gs h7)), trivial⟩) ?_
      intro n13 w10 hO
      exact d_fr _ _ (s4 n41 n13 _ hO)
    exact AllReadyH.nil
  refine d_cons 4 s9r6Op4 (ls 8 29) (fun K hK => ?_) ?_
  · skip
    refine kb_bs hK hO (fun _ hO => ⟨hO.row _ h3, hO.row _ h7, trivial⟩) 2 #[.slice (some ⟨b7, 0, none⟩) 32 32, .slice (some ⟨b3, 0, none⟩) 32 32] 23 (fun w => run_bsl 26 23 2 _ rfl #[(0, .slice (some ⟨b7, 0, none⟩) 32 32), (1, .slice (some ⟨b3, 0, none⟩) 32 32)] (by kernel_rfl) (by kernel_rfl)) ?_
    intro q44 w11 hb hB44 hO
    clear hb
    refine wpAnyH_ready (rs := [1, 6]) (by kernel_rfl) (by simp) ?_
    refine d_cons 1 s9r6Op1 (ls 8 31) (fun K hK => ?_) ?_
    · skip
      refine kb_cn hK hO 16 #[x2] 46 #[x2] 26 r41 fc41 (fun _ _ hO => ⟨hO.row _ (gs h3), hO.row _ (gs h7), trivial⟩) ?_
      intro n41 w12 hb hO
      replace hB44 := hB44.call hb
      clear hb
      exact d_fr _ _ (s2 n41 q44 _ hB44 hO)
    refine d_cons 6 s9r6Op6 (ls 8 93) (fun K hK => ?_) ?_
    · skip
      refine kb_new hK hO (vals .u8 32 (fun _ => 0)) 22 (al22 rfl) (fit_by _) (fun _ _ hO => ⟨hO.row _ (gs h3), hO.row _ (gs h7), trivial⟩) ?_
      intro n13 w13 hb hO
      replace hB44 := hB44.call hb
      clear hb
      exact d_fr _ _ (s3 n13 q44 _ hB44 hO)
    exact AllReadyH.nil
  refine d_cons 6 s9r6Op6 (ls 8 77) (fun K hK => ?_) ?_
  · skip
    refine k_new hK hO (vals .u8 32 (fun _ => 0)) 22 (al22 rfl) (fit_by _) (fun _ _ hO => ⟨hO.row _ (gs h3), hO.row _ (gs h7), trivial⟩) ?_
    intro n13 w14 hO
    refine wpAnyH_ready (rs := [1, 4]) (by kernel_rfl) (by simp) ?_
    refine d_cons 1 s9r6Op1 (ls 8 79) (fun K hK => ?_) ?_
    · skip
      refine kb_cn hK hO 16 #[x2] 46 #[x2] 26 r41 fc41 (fun _ _ hO => ⟨hO.row _ (gs (gs h3)), hO.row _ (gs (gs h7)), trivial⟩) ?_
      intro n41 w15 hb hO
      clear hb
      replace hO := hO.perm swap1
      exact d_fr _ _ (s4 n41 n13 _ hO)
    refine d_cons 4 s9r6Op4 (ls 8 93) (fun K hK => ?_) ?_
    · skip
      refine kb_bs hK hO (fun _ hO => ⟨hO.row _ (gs h3), hO.row _ (gs h7), trivial⟩) 2 #[.slice (some ⟨b7, 0, none⟩) 32 32, .slice (some ⟨b3, 0, none⟩) 32 32] 23 (fun w => run_bsl 26 23 2 _ rfl #[(0, .slice (some ⟨b7, 0, none⟩) 32 32), (1, .slice (some ⟨b3, 0, none⟩) 32 32)] (by kernel_rfl) (by kernel_rfl)) ?_
      intro q44 w16 hb hB44 hO
      clear hb
      exact d_fr _ _ (s3 n13 q44 _ hB44 hO)
    exact AllReadyH.nil
  exact AllReadyH.nil
def s9r7Op0 : Oper := ⟨some 46, .load 41 (.tmp 9), 41, "sign.go:40", #[], none⟩
def s9r7Op1 : Oper := ⟨some 47, .load 22 (.tmp 8), 22, "sign.go:40", #[], none⟩
def s9r7Op2 : Oper := ⟨some 48, .call { callee := .value (.func 22), args := #[], argTypes := #[] }, 41, "sign.go:40", #[], none⟩
def s9r7Op3 : Oper := ⟨some 49, .load 22 (.tmp 13), 22, "sign.go:40", #[], none⟩
def s9r7Op4 : Oper := ⟨some 50, .load 41 (.tmp 11), 41, "sign.go:40", #[], none⟩
def s9r7Op5 : Oper := ⟨some 51, .call { callee := .value (.func 23), args := #[.tmp 50], argTypes := #[41] }, 41, "sign.go:40", #[⟨4, .data⟩, ⟨2, .chain⟩], none⟩
def s9r7Op6 : Oper := ⟨some 52, .call { callee := .value (.func 21), args := #[.tmp 47, .tmp 48, .tmp 49, .tmp 51], argTypes := #[22, 41, 22, 41] }, 41, "sign.go:40", #[⟨1, .data⟩, ⟨2, .data⟩, ⟨3, .data⟩, ⟨5, .data⟩, ⟨5, .chain⟩], none⟩
def s9r7Op7 : Oper := ⟨some 53, .call { callee := .value (.func 20), args := #[.tmp 46, .tmp 52], argTypes := #[41, 41] }, 4, "sign.go:40", #[⟨0, .data⟩, ⟨6, .data⟩, ⟨6, .chain⟩], none⟩
def s9r7Op8 : Oper := ⟨some 6, .assign (.tmp 53), 4, "sign.go:40", #[⟨7, .data⟩, ⟨7, .chain⟩, ⟨0, .phase⟩, ⟨1, .phase⟩, ⟨2, .phase⟩, ⟨3, .phase⟩, ⟨4, .phase⟩, ⟨5, .phase⟩, ⟨6, .phase⟩, ⟨7, .phase⟩], none⟩
def s9r7Ops : Array Oper := #[s9r7Op0, s9r7Op1, s9r7Op2, s9r7Op3, s9r7Op4, s9r7Op5, s9r7Op6, s9r7Op7, s9r7Op8]
set_option maxHeartbeats 2000000 in
theorem s9r7_r {Q : Exit → Act → World → Prop} {u w : World} {L : List Row} {z0 z1 z2 z3 z4 z5 z6 z7 z10 z12 z14 z15 z16 z17 z18 z19 z20 z21 z22 z23 z24 z25 z26 z27 z28 z29 z30 z31 z32 z33 z34 z35 z36 z37 z38 z39 z40 z41 z42 z43 z44 z45 z46 z47 z48 z49 z50 z51 z52 z53 : Value} {b8 b9 b11 b13 : Nat} {c8 c9 c11 c13 : Array Value} {e48 e51 e52 : Array Value} {p53 : Bool} (hQ : ∀ c a w n v, Q (.panic c) (a.put (some n) v) w → Q (.panic c) a w) (hO : Own u w L) (i8 : Nat) (h8 : L[i8]? = some (b8, c8, 22)) (i9 : Nat) (h9 : L[i9]? = some (b9, c9, 41)) (i11 : Nat) (h11 : L[i11]? = some (b11, c11, 41)) (i13 : Nat) (h13 : L[i13]? = some (b13, c13, 22)) (r48 : ∀ w, Ret 22 #[] w (.agg e48)) (r51 : ∀ w, Ret 23 #[.agg c11] w (.agg e51)) (r52 : ∀ w, Ret 21 #[.agg c8, .agg e48, .agg c13, .agg e51] w (.agg e52)) (r53 : ∀ w, Ret 20 #[.agg c9, .agg e52] w (.bool p53)) (H : ∀ (w' : World), Own u w' (L) → Q .normal { tmps := List.toArray (z0 :: z1 :: z2 :: z3 :: z4 :: z5 :: (.bool p53) :: z7 :: (.pointer (some ⟨b8, 0, none⟩)) :: (.pointer (some ⟨b9, 0, none⟩)) :: z10 :: (.pointer (some ⟨b11, 0, none⟩)) :: z12 :: (.pointer (some ⟨b13, 0, none⟩)) :: z14 :: z15 :: z16 :: z17 :: z18 :: z19 :: z20 :: z21 :: z22 :: z23 :: z24 :: z25 :: z26 :: z27 :: z28 :: z29 :: z30 :: z31 :: z32 :: z33 :: z34 :: z35 :: z36 :: z37 :: z38 :: z39 :: z40 :: z41 :: z42 :: z43 :: z44 :: z45 :: (.agg c9) :: (.agg c8) :: (.agg e48) :: (.agg c13) :: (.agg c11) :: (.agg e51) :: (.agg e52) :: (.bool p53) :: []), defers := [] } w') :
    (Code.region 7 s9r7Ops true).wp Tryd.prog Q { tmps := List.toArray (z0 :: z1 :: z2 :: z3 :: z4 :: z5 :: z6 :: z7 :: (.pointer (some ⟨b8, 0, none⟩)) :: (.pointer (some ⟨b9, 0, none⟩)) :: z10 :: (.pointer (some ⟨b11, 0, none⟩)) :: z12 :: (.pointer (some ⟨b13, 0, none⟩)) :: z14 :: z15 :: z16 :: z17 :: z18 :: z19 :: z20 :: z21 :: z22 :: z23 :: z24 :: z25 :: z26 :: z27 :: z28 :: z29 :: z30 :: z31 :: z32 :: z33 :: z34 :: z35 :: z36 :: z37 :: z38 :: z39 :: z40 :: z41 :: z42 :: z43 :: z44 :: z45 :: z46 :: z47 :: z48 :: z49 :: z50 :: z51 :: z52 :: z53 :: []), defers := [] } w := by
  have fc8_22 := hO.fits i8 h8
  have fc9_41 := hO.fits i9 h9
  have fc11_41 := hO.fits i11 h11
  have fc13_22 := hO.fits i13 h13
  refine wp_region_held_drew (S := Has [(b8, c8, 22), (b9, c9, 41), (b11, c11, 41), (b13, c13, 22)]) (by kernel_rfl) ⟨hO.drew.row _ h8, hO.drew.row _ h9, hO.drew.row _ h11, hO.drew.row _ h13, trivial⟩ (fun hS => ?_)
  replace hO := hO.drew
  refine d_tk 0 s9r7Op0 (.agg c9) hQ (y_l 41 (fun _ h => h.2.1) fc9_41 Tryd.underlying41) hS ?_
  refine d_tk 1 s9r7Op1 (.agg c8) hQ (y_l 22 (fun _ h => h.1) fc8_22 Tryd.underlying22) hS ?_
  refine d_tk 3 s9r7Op3 (.agg c13) hQ (y_l 22 (fun _ h => h.2.2.2.1) fc13_22 Tryd.underlying22) hS ?_
  refine d_fr (ls 9 11) (Fr [z0, z1, z2, z3, z4, z5, z6, z7, D b8, D b9, z10, D b11, z12, D b13, z14, z15, z16, z17, z18, z19, z20, z21, z22, z23, z24, z25, z26, z27, z28, z29, z30, z31, z32, z33, z34, z35, z36, z37, z38, z39, z40, z41, z42, z43, z44, z45, A c9, A c8, z48, A c13, z50, z51, z52, z53] []) ?_
  refine d_tk 4 s9r7Op4 (.agg c11) hQ (y_l 41 (fun _ h => h.2.2.1) fc11_41 Tryd.underlying41) hS ?_
  refine d_fr (ls 9 27) (Fr [z0, z1, z2, z3, z4, z5, z6, z7, D b8, D b9, z10, D b11, z12, D b13, z14, z15, z16, z17, z18, z19, z20, z21, z22, z23, z24, z25, z26, z27, z28, z29, z30, z31, z32, z33, z34, z35, z36, z37, z38, z39, z40, z41, z42, z43, z44, z45, A c9, A c8, z48, A c13, A c11, z51, z52, z53] []) ?_
  refine d_one 2 s9r7Op2 (ls 9 31) (fun K hK => ?_)
  refine k_call hK hO (fun _ hO => ⟨hO.row _ h8, hO.row _ h9, hO.row _ h11, hO.row _ h13, trivial⟩) 22 #[] (.agg e48) r48 ?_
  intro w1 hO
  refine d_one 5 s9r7Op5 (ls 9 63) (fun K hK => ?_)
  refine k_call hK hO (fun _ hO => ⟨hO.row _ h8, hO.row _ h9, hO.row _ h11, hO.row _ h13, trivial⟩) 23 #[.agg c11] (.agg e51) r51 ?_
  intro w2 hO
  refine d_one 6 s9r7Op6 (ls 9 127) (fun K hK => ?_)
  refine k_call hK hO (fun _ hO => ⟨hO.row _ h8, hO.row _ h9, hO.row _ h11, hO.row _ h13, trivial⟩) 21 #[.agg c8, .agg e48, .agg c13, .agg e51] (.agg e52) r52 ?_
  intro w3 hO
  refine d_fr (ls 9 127) (Fr [z0, z1, z2, z3, z4, z5, z6, z7, D b8, D b9, z10, D b11, z12, D b13, z14, z15, z16, z17, z18, z19, z20, z21, z22, z23, z24, z25, z26, z27, z28, z29, z30, z31, z32, z33, z34, z35, z36, z37, z38, z39, z40, z41, z42, z43, z44, z45, A c9, A c8, A e48, A c13, A c11, A e51, A e52, z53] []) ?_
  refine d_one 7 s9r7Op7 (ls 9 255) (fun K hK => ?_)
  refine k_call hK hO (fun _ hO => ⟨hO.row _ h8, hO.row _ h9, hO.row _ h11, hO.row _ h13, trivial⟩) 20 #[.agg c9, .agg e52] (.bool p53) r53 ?_
  intro w4 hO
  have hS : Has [(b8, c8, 22), (b9, c9, 41), (b11, c11, 41), (b13, c13, 22)] w4 := ⟨hO.row _ h8, hO.row _ h9, hO.row _ h11, hO.row _ h13, trivial⟩
  refine d_tk 8 s9r7Op8 (.bool p53) hQ (y_val (fun _ => by kernel_rfl)) hS ?_
  exact d_fr (ls 9 511) _ (wpAnyH_done (by kernel_rfl) (H  _ hO) _)
set_option maxHeartbeats 4000000 in
theorem verify_g (g s s2 : Nat → Nat) (R A : Nat × Nat) (br ba bf : Bool) (k : Nat) (P : Option Addr) (ps : List T.Pt) (pc : Nat) (m : List Nat) (hg : ∀ i, g i < 256) (hs : ∀ i, s i < 256) (hs2 : Hid (s2 = fun j => s (32 + j))) (hs2l : ∀ i, s2 i < 256) (hR : ∀ w, Ret 13 #[.agg (vals .u8 32 s)] w (.tuple #[.agg (pt R), .bool br])) (hA : ∀ w, Ret 13 #[.agg (vals .u8 32 g)] w (.tuple #[.agg (pt A), .bool ba])) (hF : ∀ w, Glb w → Ret 11 #[.agg (vals .u8 32 s2)] w (.bool bf)) (hok : Ok7 R) (hoa : Ok7 A)
    (w : World) (hG : Glb w) (hP : T.Prt w P ps) (hO : T.PtOk w ps) (hm : T.cat ps = m) (hms : m.length < 2 ^ 30) (hp : ps.length < 2 ^ 30) (hk : dgn (bl s ++ bl g ++ m) = k) : Ret 9 #[.agg (vals .u8 32 g), .agg (vals .u8 64 s), .slice P ps.length pc] w (.bool (br && ba && bf && decide (R = add7 (mul7 base7 (nb s2 32)) (mul7 (neg7 A) k)))) := by
  go_enter Tryd.func9, Tryd.ntmps9
  have HhG := hide hG
  have HhP := hide hP
  have HhO := hide hO
  have Hhm := hide hm
  have Hhms := hide hms
  have Hhp := hide hp
  have Hhk := hide hk
  have Hkl : k < 2 ^ 256 := hk ▸ dgn_lt _
  have Hh := halves_c s
  rw [← hs2.out] at Hh
  clear hG hP hO hm hms hp hk
  have hO := Own.start w
  go_upto_region 0 with (fail)
  refine s9r0_r hO (fit_by _) (fit_b6 s) ?_
  intro n3 n4 w1 hO
  replace hO : Own w w1 [(n4, vals .u8 64 s, 28), (n3, vals .u8 32 g, 22)] := hO
  go_upto_region 1 with (fail)
  refine s9r1_r hO 0 rfl Hh (fit_by _) (fit_by _) ?_
  intro n7 n8 w2 hO
  replace hO : Own w w2 [(n8, vals .u8 32 s2, 22), (n7, vals .u8 32 s, 22), (n4, vals .u8 64 s, 28), (n3, vals .u8 32 g, 22)] := hO
  go_upto_region 2 with (fail)
  refine s9r2_r hO 1 rfl hR (fit_pt _ _) ?_
  intro n9 w3 hO
  replace hO : Own w w3 [(n9, pt R, 41), (n8, vals .u8 32 s2, 22), (n7, vals .u8 32 s, 22), (n4, vals .u8 64 s, 28), (n3, vals .u8 32 g, 22)] := hO
  go_upto_region 3 with (fail)
  refine s9r3_r hO 4 rfl hA (fit_pt _ _) ?_
  intro n11 w4 hO
  replace hO : Own w w4 [(n11, pt A, 41), (n9, pt R, 41), (n8, vals .u8 32 s2, 22), (n7, vals .u8 32 s, 22), (n4, vals .u8 64 s, 28), (n3, vals .u8 32 g, 22)] := hO
  cases br
  · cases ba
    · skip
      go_upto_region 4 with (fail)
      refine s9r4b_r hO ?_
      intro w5 hO
      replace hO : Own w w5 [(n11, pt A, 41), (n9, pt R, 41), (n8, vals .u8 32 s2, 22), (n7, vals .u8 32 s, 22), (n4, vals .u8 64 s, 28), (n3, vals .u8 32 g, 22)] := hO
      go_upto_region 5 with (fail)
      refine s9r5_r hO ?_
      intro w6 hO
      replace hO : Own w w6 [(n11, pt A, 41), (n9, pt R, 41), (n8, vals .u8 32 s2, 22), (n7, vals .u8 32 s, 22), (n4, vals .u8 64 s, 28), (n3, vals .u8 32 g, 22)] := hO
      go_wp2_with fail
      exact bodyPost_ret (v := .bool false) (results_tmp Tryd.results9 _ _ _) rfl ⟨rfl, hO.low⟩
    · skip
      go_upto_region 4 with (fail)
      refine s9r4a_r hO ?_
      intro w5 hO
      replace hO : Own w w5 [(n11, pt A, 41), (n9, pt R, 41), (n8, vals .u8 32 s2, 22), (n7, vals .u8 32 s, 22), (n4, vals .u8 64 s, 28), (n3, vals .u8 32 g, 22)] := hO
      go_upto_region 5 with (fail)
      refine s9r5_r hO ?_
      intro w6 hO
      replace hO : Own w w6 [(n11, pt A, 41), (n9, pt R, 41), (n8, vals .u8 32 s2, 22), (n7, vals .u8 32 s, 22), (n4, vals .u8 64 s, 28), (n3, vals .u8 32 g, 22)] := hO
      go_wp2_with fail
      exact bodyPost_ret (v := .bool false) (results_tmp Tryd.results9 _ _ _) rfl ⟨rfl, hO.low⟩
  · cases ba
    · skip
      go_upto_region 4 with (fail)
      refine s9r4c_r hO ?_
      intro w5 hO
      replace hO : Own w w5 [(n11, pt A, 41), (n9, pt R, 41), (n8, vals .u8 32 s2, 22), (n7, vals .u8 32 s, 22), (n4, vals .u8 64 s, 28), (n3, vals .u8 32 g, 22)] := hO
      go_upto_region 5 with (fail)
      refine s9r5_r hO ?_
      intro w6 hO
      replace hO : Own w w6 [(n11, pt A, 41), (n9, pt R, 41), (n8, vals .u8 32 s2, 22), (n7, vals .u8 32 s, 22), (n4, vals .u8 64 s, 28), (n3, vals .u8 32 g, 22)] := hO
      go_wp2_with fail
      exact bodyPost_ret (v := .bool false) (results_tmp Tryd.results9 _ _ _) rfl ⟨rfl, hO.low⟩
    · cases bf
      · skip
        go_upto_region 4 with (fail)
        refine s9r4d_r hO 2 rfl (fun w hL _ => hF w (HhG.out.low hL)) ?_
        intro w5 hO
        replace hO : Own w w5 [(n11, pt A, 41), (n9, pt R, 41), (n8, vals .u8 32 s2, 22), (n7, vals .u8 32 s, 22), (n4, vals .u8 64 s, 28), (n3, vals .u8 32 g, 22)] := hO
        go_upto_region 5 with (fail)
        refine s9r5_r hO ?_
        intro w6 hO
        replace hO : Own w w6 [(n11, pt A, 41), (n9, pt R, 41), (n8, vals .u8 32 s2, 22), (n7, vals .u8 32 s, 22), (n4, vals .u8 64 s, 28), (n3, vals .u8 32 g, 22)] := hO
        go_wp2_with fail
        exact bodyPost_ret (v := .bool false) (results_tmp Tryd.results9 _ _ _) rfl ⟨rfl, hO.low⟩
      · skip
        go_upto_region 4 with (fail)
        refine s9r4e_r hO 2 rfl (fun w hL _ => hF w (HhG.out.low hL)) ?_
        intro w5 hO
        replace hO : Own w w5 [(n11, pt A, 41), (n9, pt R, 41), (n8, vals .u8 32 s2, 22), (n7, vals .u8 32 s, 22), (n4, vals .u8 64 s, 28), (n3, vals .u8 32 g, 22)] := hO
        go_upto_region 6 with (fail)
        refine s9r6_r (fun _ _ _ _ _ h => h) hO 5 rfl 3 rfl (behind_c P ps.length pc) (fit_sl _ _ _) (fun n q w hL h3 h7 ht hq => clos2 hs hg (HhG.out.low hL) h7 h3 ht hq (HhP.out.low hL) (HhO.out.low hL) Hhm.out Hhms.out Hhp.out Hhk.out) (fit_by _) ?_
        intro n41 n13 q44 w6 hO
        replace hO : Own w w6 [(n13, vals .u8 32 (byt k), 22), (n41, #[.slice P ps.length pc], 26), (n11, pt A, 41), (n9, pt R, 41), (n8, vals .u8 32 s2, 22), (n7, vals .u8 32 s, 22), (n4, vals .u8 64 s, 28), (n3, vals .u8 32 g, 22)] := hO
        go_upto_region 7 with (fail)
        refine s9r7_r (fun _ _ _ _ _ h => h) hO 4 rfl 3 rfl 2 rfl 0 rfl base_p (neg_p hoa) (fun w => byt_n Hkl ▸ both7_c s2 (byt k) hs2l ok_base (byt_lt k) (ok_neg hoa) w) (same_p hok (ok_add (ok_mul ok_base _) (ok_mul (ok_neg hoa) _))) ?_
        intro w7 hO
        replace hO : Own w w7 [(n13, vals .u8 32 (byt k), 22), (n41, #[.slice P ps.length pc], 26), (n11, pt A, 41), (n9, pt R, 41), (n8, vals .u8 32 s2, 22), (n7, vals .u8 32 s, 22), (n4, vals .u8 64 s, 28), (n3, vals .u8 32 g, 22)] := hO
        go_wp2_with fail
        exact bodyPost_ret (v := .bool (decide (R = add7 (mul7 base7 (nb s2 32)) (mul7 (neg7 A) k)))) (results_tmp Tryd.results9 _ _ _) rfl ⟨rfl, hO.low⟩
/-- A text's numbers. -/
def rN (f : Nat → Nat) (m : List Nat) : Nat := dgn (bl (pre f) ++ m)
def kN (f : Nat → Nat) (m : List Nat) : Nat := dgn (bl (ptb (rN f m)) ++ bl (pub f) ++ m)
/-- A text's signature. -/
def sgn (f : Nat → Nat) (m : List Nat) : Nat → Nat := sigv ptb (rN f m) (kN f m) (sec f)
def sN (f : Nat → Nat) (m : List Nat) : Nat := (kN f m * nb (sec f) 32 + rN f m) % S.qL
theorem ptb_lt (n i : Nat) : ptb n i < 256 := byt_lt _ _
theorem sgn_lt (f : Nat → Nat) (m : List Nat) (i : Nat) : sgn f m i < 256 := jn_lt (ptb_lt _) (byt_lt _) i
theorem pub_lt (f : Nat → Nat) (i : Nat) : pub f i < 256 := byt_lt _ _
theorem sign_c (f : Nat → Nat) (P : Option Addr) (ps : List T.Pt) (pc : Nat) (m : List Nat) (hf : ∀ i, f i < 256) (w : World) (hG : Glb w) (hP : T.Prt w P ps) (hO : T.PtOk w ps) (hm : T.cat ps = m) (hms : m.length < 2 ^ 30) (hp : ps.length < 2 ^ 30) : Ret 7 #[.agg (vals .u8 32 f), .slice P ps.length pc] w (.agg (vals .u8 64 (sgn f m))) :=
  sign_g f (sec f) (pre f) ptb (rN f m) (kN f m) P ps pc m hf (secret_c f hf) (sec_lt f) (pre_lt f) ptb_lt (times_c _ (sec_lt f)) times_n w hG hP hO hm hms hp rfl rfl
/-- Whether a signature is verified. -/
def verB (g s : Nat → Nat) (m : List Nat) : Bool := (decR (nb s 32)).2 && (decR (nb g 32)).2 && decide (nb (fun j => s (32 + j)) 32 < S.qL) && decide ((decR (nb s 32)).1 = add7 (mul7 base7 (nb (fun j => s (32 + j)) 32)) (mul7 (neg7 (decR (nb g 32)).1) (dgn (bl s ++ bl g ++ m))))
theorem verify_c (g s : Nat → Nat) (P : Option Addr) (ps : List T.Pt) (pc : Nat) (m : List Nat) (hg : ∀ i, g i < 256) (hs : ∀ i, s i < 256) (w : World) (hG : Glb w) (hP : T.Prt w P ps) (hO : T.PtOk w ps) (hm : T.cat ps = m) (hms : m.length < 2 ^ 30) (hp : ps.length < 2 ^ 30) : Ret 9 #[.agg (vals .u8 32 g), .agg (vals .u8 64 s), .slice P ps.length pc] w (.bool (verB g s m)) :=
  verify_g g s (fun j => s (32 + j)) _ _ _ _ _ _ P ps pc m hg hs (hide rfl) (fun _ => hs _) (decode_p s hs) (decode_p g hg) (fun _ hG => fine_c _ (fun _ => hs _) hG) (decR_ok _ (nb_lt32 s hs)) (decR_ok _ (nb_lt32 g hg)) w hG hP hO hm hms hp rfl
end Go.Proofs.YtbpmakegimgbpaaDoor

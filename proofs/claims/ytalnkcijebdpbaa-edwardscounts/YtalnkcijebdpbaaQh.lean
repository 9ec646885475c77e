/- EdwardsCounts: the walk. Thirty-two bytes each; no other condition. -/
import Derived.Test.YtalnkcijebdpbaaQ0
namespace Go.Proofs.Ytalnkcijebdpbaa
open F Go.RowKit

def ca (g : Nat → Nat) (k j : Nat) : Nat := if j < k then 0 else g j
def nx (g : Nat → Nat) (k j : Nat) : Nat := if j = k then g k + 1 else ca g k j
theorem ca_lt {g : Nat → Nat} (hg : ∀ i, g i < 256) (k j : Nat) : ca g k j < 256 := by unfold ca; split; omega; exact hg j
theorem nx_lt {g : Nat → Nat} (hg : ∀ i, g i < 256) {k : Nat} (hk : ¬ g k = 255) (j : Nat) : nx g k j < 256 := by unfold nx; have := hg k; split; omega; exact ca_lt hg k j
theorem nb_nil (f : Nat → Nat) : ∀ k, (∀ j, j < k → f j = 0) → nb f k = 0
  | 0, _ => rfl
  | k + 1, h => by
    show nb f k + f k * 2 ^ (8 * k) = 0
    rw [nb_nil f k fun j hj => h j (by omega), h k (by omega)]; simp
theorem nb_full (f : Nat → Nat) : ∀ k, (∀ j, j < k → f j = 255) → nb f k + 1 = 2 ^ (8 * k)
  | 0, _ => rfl
  | k + 1, h => by
    show nb f k + f k * 2 ^ (8 * k) + 1 = 2 ^ (8 * (k + 1))
    have h1 := nb_full f k fun j hj => h j (by omega)
    rw [h k (by omega), show 8 * (k + 1) = 8 * k + 8 by omega, Nat.pow_add]
    omega
theorem nb_next {g : Nat → Nat} {k : Nat} (h : ∀ j, j < k → g j = 255) : ∀ d, nb (nx g k) (k + 1 + d) = nb g (k + 1 + d) + 1
  | 0 => by
    show nb (nx g k) k + nx g k k * 2 ^ (8 * k) = nb g k + g k * 2 ^ (8 * k) + 1
    have h1 := nb_full g k h
    have h2 : nb (nx g k) k = 0 := nb_nil _ k fun j hj => by unfold nx ca; rw [if_neg (by omega), if_pos hj]
    have h3 : nx g k k = g k + 1 := by unfold nx; rw [if_pos rfl]
    rw [h2, h3, Nat.add_mul]
    omega
  | d + 1 => by
    show nb (nx g k) (k + 1 + d) + nx g k (k + 1 + d) * 2 ^ (8 * (k + 1 + d)) = nb g (k + 1 + d) + g (k + 1 + d) * 2 ^ (8 * (k + 1 + d)) + 1
    have h3 : nx g k (k + 1 + d) = g (k + 1 + d) := by unfold nx ca; rw [if_neg (by omega), if_neg (by omega)]
    rw [nb_next h d, h3]
    omega
theorem nx_same {g : Nat → Nat} (hg : ∀ i, g i < 256) {k : Nat} (hk : ¬ g k = 255) (hlt : k < 32) (h : ∀ j, j < k → g j = 255) : nb (nx g k) 32 = nb g 32 + 1 ∧ sameB (nx g k) (fun _ => 0) = false := by
  have h1 := nb_next h (31 - k)
  rw [show k + 1 + (31 - k) = 32 by omega] at h1
  refine ⟨h1, ?_⟩
  rw [same_num (nx_lt hg hk) (fun _ => by omega), h1]
  exact decide_eq_false (by rw [nb_nil _ 32 fun _ _ => rfl]; omega)
theorem ca_same (g : Nat → Nat) : sameB (ca g 32) (fun _ => 0) = true := (sameB_iff _ _).2 fun i hi => by unfold ca; rw [if_pos hi]
theorem wrap_u8s (n : Nat) (h : n < 256) : IntKind.u8.wrap ((n : Nat) : Int) = ((n : Nat) : Int) := by simp [IntKind.wrap, IntKind.bits, IntKind.signed]; omega
theorem wrap_u8i (n : Nat) : IntKind.u8.wrap (((n : Nat) : Int) + 1) = (((n + 1) % 256 : Nat) : Int) := by simp [IntKind.wrap, IntKind.bits, IntKind.signed]
def f10r7Op0 : Oper := ⟨some 23, .move (.tmp 9), 3, "law.go:150", #[], none⟩
def f10r7Op1 : Oper := ⟨some 24, .move (.tmp 9), 3, "law.go:150", #[], none⟩
def f10r7Op2 : Oper := ⟨some 25, .indexAddr 22 (.tmp 8) (.tmp 24), 0, "law.go:150", #[⟨1, .data⟩], none⟩
def f10r7Op3 : Oper := ⟨some 26, .load 5 (.tmp 25), 5, "law.go:150", #[⟨2, .data⟩], none⟩
def f10r7Op4 : Oper := ⟨some 27, .binOp .add 5 (.tmp 26) (.const (.int .u8 1)) 5, 5, "law.go:150", #[⟨3, .data⟩], none⟩
def f10r7Op5 : Oper := ⟨some 28, .indexAddr 22 (.tmp 8) (.tmp 23), 0, "law.go:150", #[⟨0, .data⟩, ⟨0, .phase⟩, ⟨1, .phase⟩, ⟨2, .phase⟩, ⟨3, .phase⟩, ⟨4, .phase⟩], none⟩
def f10r7Op6 : Oper := ⟨none, .store 5 (.tmp 28) (.tmp 27), 0, "law.go:150", #[⟨5, .data⟩, ⟨4, .data⟩, ⟨0, .phase⟩, ⟨1, .phase⟩, ⟨2, .phase⟩, ⟨3, .phase⟩, ⟨4, .phase⟩], none⟩
def f10r7Ops : Array Oper := #[f10r7Op0, f10r7Op1, f10r7Op2, f10r7Op3, f10r7Op4, f10r7Op5, f10r7Op6]
theorem ixa_run2 (a : Act) (b k : Nat) (hk : k < 32) (w : World) (h1 : a.eval (.tmp 8) = .pointer (some ⟨b, 0, none⟩)) (h2 : a.eval (.tmp 24) = .int .i64 ((k : Nat) : Int)) : (execOp a.eval f10r7Op2).run Try.prog w = .ok (.value (.pointer (some ⟨b, k, none⟩))) w := by
  unfold execOp f10r7Op2
  simp only [h1, h2]
  have hj0 : (0 : Int) ≤ (k : Int) := by omega
  have hj1 : (k : Int) < 32 := by omega
  have hk1 := hk
  go_simp
theorem ixa_run5 (a : Act) (b k : Nat) (hk : k < 32) (w : World) (h1 : a.eval (.tmp 8) = .pointer (some ⟨b, 0, none⟩)) (h2 : a.eval (.tmp 23) = .int .i64 ((k : Nat) : Int)) : (execOp a.eval f10r7Op5).run Try.prog w = .ok (.value (.pointer (some ⟨b, k, none⟩))) w := by
  unfold execOp f10r7Op5
  simp only [h1, h2]
  have hj0 : (0 : Int) ≤ (k : Int) := by omega
  have hj1 : (k : Int) < 32 := by omega
  have hk1 := hk
  go_simp
theorem add_run10 (a : Act) (w : World) (g : Nat) (h0 : a.eval (.tmp 26) = .int .u8 ((g : Nat) : Int)) : (execOp a.eval f10r7Op4).run Try.prog w = .ok (.value (.int .u8 (((g + 1) % 256 : Nat) : Int))) w := by
  unfold execOp f10r7Op4
  simp only [h0]
  have e0 : a.eval (.const (.int .u8 1)) = .int .u8 1 := rfl
  have e := wrap_u8i g
  go_simp
set_option maxRecDepth 100000 in
set_option maxHeartbeats 2000000 in
theorem f10r7_r {Q : Exit → Act → World → Prop} {u w : World} {L : List Row} {z0 z1 z2 z3 z4 z5 z6 z7 z10 z11 z12 z13 z14 z15 z16 z17 z18 z19 z20 z21 z22 z23 z24 z25 z26 z27 z28 : Value} {zz : List Value} {b8 : Nat} {f : Nat → Nat} (hO : Own u w L) (i8 : Nat) (h8 : L[i8]? = some (b8, vals .u8 32 f, 22)) (k : Nat) (hk : k < 32) (H : ∀ (w' : World), Own u w' (L.set i8 (b8, vals .u8 32 (fun j => if j = k then (f k + 1) % 256 else f j), 22)) → Q .normal { tmps := List.toArray (z0 :: z1 :: z2 :: z3 :: z4 :: z5 :: z6 :: z7 :: (.pointer (some ⟨b8, 0, none⟩)) :: (.int .i64 ((k : Nat) : Int)) :: z10 :: z11 :: z12 :: z13 :: z14 :: z15 :: z16 :: z17 :: z18 :: z19 :: z20 :: z21 :: z22 :: (.int .i64 ((k : Nat) : Int)) :: (.int .i64 ((k : Nat) : Int)) :: (.pointer (some ⟨b8, k, none⟩)) :: (.int .u8 ((f k : Nat) : Int)) :: (.int .u8 (((f k + 1) % 256 : Nat) : Int)) :: (.pointer (some ⟨b8, k, none⟩)) :: zz), defers := [] } w') :
    (Code.region 7 f10r7Ops false).wp Try.prog Q { tmps := List.toArray (z0 :: z1 :: z2 :: z3 :: z4 :: z5 :: z6 :: z7 :: (.pointer (some ⟨b8, 0, none⟩)) :: (.int .i64 ((k : Nat) : Int)) :: z10 :: z11 :: z12 :: z13 :: z14 :: z15 :: z16 :: z17 :: z18 :: z19 :: z20 :: z21 :: z22 :: z23 :: z24 :: z25 :: z26 :: z27 :: z28 :: zz), defers := [] } w := by
  refine wp_region_list (show wpList _ f10r7Ops _ [f10r7Op0, f10r7Op1, f10r7Op2, f10r7Op3, f10r7Op4, f10r7Op5, f10r7Op6] _ _ from ?_)
  refine l_val (.int .i64 ((k : Nat) : Int)) (by kernel_rfl) ?_
  refine l_val (.int .i64 ((k : Nat) : Int)) (by kernel_rfl) ?_
  refine l_fr (Fr [z0, z1, z2, z3, z4, z5, z6, z7, .pointer (some ⟨b8, 0, none⟩), .int .i64 ((k : Nat) : Int), z10, z11, z12, z13, z14, z15, z16, z17, z18, z19, z20, z21, z22, .int .i64 ((k : Nat) : Int), .int .i64 ((k : Nat) : Int), z25, z26, z27, z28] zz) ?_
  refine l_val (.pointer (some ⟨b8, k, none⟩)) (ixa_run2 _ b8 k hk _ (by kernel_rfl) (by kernel_rfl)) ?_
  refine l_c8 hO i8 h8 (get_by f k hk) ?_
  refine l_fr (Fr [z0, z1, z2, z3, z4, z5, z6, z7, .pointer (some ⟨b8, 0, none⟩), .int .i64 ((k : Nat) : Int), z10, z11, z12, z13, z14, z15, z16, z17, z18, z19, z20, z21, z22, .int .i64 ((k : Nat) : Int), .int .i64 ((k : Nat) : Int), .pointer (some ⟨b8, k, none⟩), .int .u8 ((f k : Nat) : Int), z27, z28] zz) ?_
  refine l_val (.int .u8 (((f k + 1) % 256 : Nat) : Int)) (add_run10 _ _ _ (by kernel_rfl)) ?_
  refine l_val (.pointer (some ⟨b8, k, none⟩)) (ixa_run5 _ b8 k hk _ (by kernel_rfl) (by kernel_rfl)) ?_
  refine l_fr (Fr [z0, z1, z2, z3, z4, z5, z6, z7, .pointer (some ⟨b8, 0, none⟩), .int .i64 ((k : Nat) : Int), z10, z11, z12, z13, z14, z15, z16, z17, z18, z19, z20, z21, z22, .int .i64 ((k : Nat) : Int), .int .i64 ((k : Nat) : Int), .pointer (some ⟨b8, k, none⟩), .int .u8 ((f k : Nat) : Int), .int .u8 (((f k + 1) % 256 : Nat) : Int), .pointer (some ⟨b8, k, none⟩)] zz) ?_
  refine l_stc hO i8 h8 ((f k + 1) % 256) (get_by f k hk) (set_by _ _ _) (fit_by _) ?_
  intro w1 hO
  exact l_fr _ (wpList_nil (H _ hO))
def f10r0Op0 : Oper := ⟨some 2, .box 22 (.tmp 0), 0, "law.go:145", #[], none⟩
def f10r0Op1 : Oper := ⟨some 3, .box 22 (.tmp 1), 0, "law.go:145", #[], none⟩
def f10r0Op2 : Oper := ⟨some 4, .assign (.const (.bool false)), 4, "law.go:145", #[], none⟩
def f10r0Ops : Array Oper := #[f10r0Op0, f10r0Op1, f10r0Op2]
set_option maxRecDepth 100000 in
set_option maxHeartbeats 2000000 in
theorem f10r0_r {Q : Exit → Act → World → Prop} {u w : World} {L : List Row} {z2 z3 z4 : Value} {zz : List Value} {e0 e1 : Array Value} (hO : Own u w L) (fe0_22 : Fit 22 e0) (fe1_22 : Fit 22 e1) (H : ∀ (n2 : Nat) (n3 : Nat) (w' : World), Own u w' ((n3, e1, 22) :: (n2, e0, 22) :: L) → Q .normal { tmps := List.toArray ((.agg e0) :: (.agg e1) :: (.pointer (some ⟨n2, 0, none⟩)) :: (.pointer (some ⟨n3, 0, none⟩)) :: (.bool false) :: zz), defers := [] } w') :
    (Code.region 0 f10r0Ops false).wp Try.prog Q { tmps := List.toArray ((.agg e0) :: (.agg e1) :: z2 :: z3 :: z4 :: zz), defers := [] } w := by
  refine wp_region_list (show wpList _ f10r0Ops _ [f10r0Op0, f10r0Op1, f10r0Op2] _ _ from ?_)
  refine l_new hO (e0) 22 (run_box 22 _ rfl _ (by kernel_rfl)) fe0_22 ?_
  intro n2 w1 hO
  refine l_new hO (e1) 22 (run_box 22 _ rfl _ (by kernel_rfl)) fe1_22 ?_
  intro n3 w2 hO
  refine l_val (.bool false) (by kernel_rfl) ?_
  exact l_fr _ (wpList_nil (H n2 n3 _ hO))
def f10r1Op0 : Oper := ⟨some 12, .call { callee := .value (.func 11), args := #[], argTypes := #[] }, 4, "law.go:146", #[], none⟩
def f10r1Op1 : Oper := ⟨some 5, .assign (.tmp 12), 4, "law.go:146", #[⟨0, .data⟩, ⟨0, .chain⟩, ⟨0, .phase⟩], none⟩
def f10r1Ops : Array Oper := #[f10r1Op0, f10r1Op1]
set_option maxRecDepth 100000 in
set_option maxHeartbeats 2000000 in
theorem f10r1_r {Q : Exit → Act → World → Prop} {u w : World} {L : List Row} {z0 z1 z2 z3 z4 z5 z6 z7 z8 z9 z10 z11 z12 : Value} {zz : List Value} {p12 : Bool} (hO : Own u w L) (r12 : ∀ w, Ret 11 #[] w (.bool p12)) (H : ∀ (w' : World), Own u w' (L) → Q .normal { tmps := List.toArray (z0 :: z1 :: z2 :: z3 :: z4 :: (.bool p12) :: z6 :: z7 :: z8 :: z9 :: z10 :: z11 :: (.bool p12) :: zz), defers := [] } w') :
    (Code.region 1 f10r1Ops false).wp Try.prog Q { tmps := List.toArray (z0 :: z1 :: z2 :: z3 :: z4 :: z5 :: z6 :: z7 :: z8 :: z9 :: z10 :: z11 :: z12 :: zz), defers := [] } w := by
  refine wp_region_list (show wpList _ f10r1Ops _ [f10r1Op0, f10r1Op1] _ _ from ?_)
  refine l_call hO 11 #[] (.bool p12) r12 ?_
  intro w1 hO
  refine l_val (.bool p12) (by kernel_rfl) ?_
  exact l_fr _ (wpList_nil (H  _ hO))
def f10r2Op0 : Oper := ⟨some 14, .load 22 (.tmp 2), 22, "law.go:147", #[], none⟩
def f10r2Op1 : Oper := ⟨some 15, .call { callee := .value (.func 20), args := #[.tmp 14], argTypes := #[22] }, 45, "law.go:147", #[⟨0, .data⟩], none⟩
def f10r2Op2 : Oper := ⟨some 13, .move (.tmp 15), 45, "law.go:147", #[⟨1, .data⟩], none⟩
def f10r2Op3 : Oper := ⟨some 16, .extract (.tmp 13) 0, 29, "law.go:147", #[⟨2, .data⟩], none⟩
def f10r2Op4 : Oper := ⟨some 17, .extract (.tmp 13) 1, 35, "law.go:147", #[⟨2, .data⟩, ⟨7, .gcOnly .lateStores⟩], none⟩
def f10r2Op5 : Oper := ⟨some 6, .alloc 29, 0, "law.go:147", #[], none⟩
def f10r2Op6 : Oper := ⟨some 7, .alloc 35, 0, "law.go:147", #[], none⟩
def f10r2Op7 : Oper := ⟨none, .store 29 (.tmp 6) (.tmp 16), 0, "law.go:147", #[⟨5, .data⟩, ⟨3, .data⟩, ⟨1, .chain⟩, ⟨0, .phase⟩, ⟨1, .phase⟩, ⟨2, .phase⟩, ⟨3, .phase⟩, ⟨4, .textOnly .lateStores⟩, ⟨5, .phase⟩, ⟨6, .phase⟩], none⟩
def f10r2Op8 : Oper := ⟨none, .store 35 (.tmp 7) (.tmp 17), 0, "law.go:147", #[⟨6, .data⟩, ⟨4, .data⟩, ⟨7, .chain⟩, ⟨0, .phase⟩, ⟨1, .phase⟩, ⟨2, .phase⟩, ⟨3, .phase⟩, ⟨4, .phase⟩, ⟨5, .phase⟩, ⟨6, .phase⟩, ⟨7, .phase⟩], none⟩
def f10r2Ops : Array Oper := #[f10r2Op0, f10r2Op1, f10r2Op2, f10r2Op3, f10r2Op4, f10r2Op5, f10r2Op6, f10r2Op7, f10r2Op8]
set_option maxRecDepth 100000 in
set_option maxHeartbeats 2000000 in
theorem f10r2_r {Q : Exit → Act → World → Prop} {u w : World} {L : List Row} {z0 z1 z3 z4 z5 z6 z7 z8 z9 z10 z11 z12 z13 z14 z15 z16 z17 : Value} {zz : List Value} {b2 : Nat} {c2 : Array Value} {e15a e15b : Array Value} (hO : Own u w L) (i2 : Nat) (h2 : L[i2]? = some (b2, c2, 22)) (r15 : ∀ w, Ret 20 #[.agg c2] w (.tuple #[.agg e15a, .agg e15b])) (fe15a_29 : Fit 29 e15a) (fe15b_35 : Fit 35 e15b) (H : ∀ (n6 : Nat) (n7 : Nat) (w' : World), Own u w' ((n7, e15b, 35) :: (n6, e15a, 29) :: L) → Q .normal { tmps := List.toArray (z0 :: z1 :: (.pointer (some ⟨b2, 0, none⟩)) :: z3 :: z4 :: z5 :: (.pointer (some ⟨n6, 0, none⟩)) :: (.pointer (some ⟨n7, 0, none⟩)) :: z8 :: z9 :: z10 :: z11 :: z12 :: (.tuple #[.agg e15a, .agg e15b]) :: (.agg c2) :: (.tuple #[.agg e15a, .agg e15b]) :: (.agg e15a) :: (.agg e15b) :: zz), defers := [] } w') :
    (Code.region 2 f10r2Ops false).wp Try.prog Q { tmps := List.toArray (z0 :: z1 :: (.pointer (some ⟨b2, 0, none⟩)) :: z3 :: z4 :: z5 :: z6 :: z7 :: z8 :: z9 :: z10 :: z11 :: z12 :: z13 :: z14 :: z15 :: z16 :: z17 :: zz), defers := [] } w := by
  refine wp_region_list (show wpList _ f10r2Ops _ [f10r2Op0, f10r2Op1, f10r2Op2, f10r2Op3, f10r2Op4, f10r2Op5, f10r2Op6, f10r2Op7, f10r2Op8] _ _ from ?_)
  refine l_ld hO 22 i2 h2 Try.underlying22 ?_
  refine l_call hO 20 #[.agg c2] (.tuple #[.agg e15a, .agg e15b]) r15 ?_
  intro w1 hO
  refine l_val (.tuple #[.agg e15a, .agg e15b]) (by kernel_rfl) ?_
  refine l_fr (Fr [z0, z1, D b2, z3, z4, z5, z6, z7, z8, z9, z10, z11, z12, .tuple #[.agg e15a, .agg e15b], A c2, .tuple #[.agg e15a, .agg e15b], z16, z17] zz) ?_
  refine l_val (.agg e15a) (by kernel_rfl) ?_
  refine l_val (.agg e15b) (by kernel_rfl) ?_
  refine l_new hO (ps [0, 0]) 29 (al29 rfl) (fit_pt _ _) ?_
  intro n6 w2 hO
  refine l_fr (Fr [z0, z1, D b2, z3, z4, z5, D n6, z7, z8, z9, z10, z11, z12, .tuple #[.agg e15a, .agg e15b], A c2, .tuple #[.agg e15a, .agg e15b], A e15a, A e15b] zz) ?_
  refine l_new hO (qn [0, 0]) 35 (al35 rfl) (fit_rp _ _) ?_
  intro n7 w3 hO
  refine l_st hO 29 1 rfl e15a fe15a_29 ?_
  intro w4 hO
  replace hO : Own u w4 ((n7, qn [0, 0], 35) :: (n6, e15a, 29) :: L) := hO
  refine l_st hO 35 0 rfl e15b fe15b_35 ?_
  intro w5 hO
  exact l_fr _ (wpList_nil (H n6 n7 _ hO))
def f10r3Op0 : Oper := ⟨some 18, .load 22 (.tmp 3), 22, "law.go:148", #[], none⟩
def f10r3Op1 : Oper := ⟨some 8, .alloc 22, 0, "law.go:148", #[], none⟩
def f10r3Op2 : Oper := ⟨none, .store 22 (.tmp 8) (.tmp 18), 0, "law.go:148", #[⟨1, .data⟩, ⟨0, .data⟩, ⟨0, .phase⟩, ⟨1, .phase⟩], none⟩
def f10r3Ops : Array Oper := #[f10r3Op0, f10r3Op1, f10r3Op2]
set_option maxRecDepth 100000 in
set_option maxHeartbeats 2000000 in
theorem f10r3_r {Q : Exit → Act → World → Prop} {u w : World} {L : List Row} {z0 z1 z2 z4 z5 z6 z7 z8 z9 z10 z11 z12 z13 z14 z15 z16 z17 z18 : Value} {zz : List Value} {b3 : Nat} {c3 : Array Value} (hO : Own u w L) (i3 : Nat) (h3 : L[i3]? = some (b3, c3, 22)) (H : ∀ (n8 : Nat) (w' : World), Own u w' ((n8, c3, 22) :: L) → Q .normal { tmps := List.toArray (z0 :: z1 :: z2 :: (.pointer (some ⟨b3, 0, none⟩)) :: z4 :: z5 :: z6 :: z7 :: (.pointer (some ⟨n8, 0, none⟩)) :: z9 :: z10 :: z11 :: z12 :: z13 :: z14 :: z15 :: z16 :: z17 :: (.agg c3) :: zz), defers := [] } w') :
    (Code.region 3 f10r3Ops false).wp Try.prog Q { tmps := List.toArray (z0 :: z1 :: z2 :: (.pointer (some ⟨b3, 0, none⟩)) :: z4 :: z5 :: z6 :: z7 :: z8 :: z9 :: z10 :: z11 :: z12 :: z13 :: z14 :: z15 :: z16 :: z17 :: z18 :: zz), defers := [] } w := by
  refine wp_region_list (show wpList _ f10r3Ops _ [f10r3Op0, f10r3Op1, f10r3Op2] _ _ from ?_)
  have fc3_22 := hO.fits i3 h3
  refine l_ld hO 22 i3 h3 Try.underlying22 ?_
  refine l_new hO (vals .u8 32 (fun _ => 0)) 22 (al22 rfl) (fit_by _) ?_
  intro n8 w1 hO
  refine l_st hO 22 0 rfl c3 fc3_22 ?_
  intro w2 hO
  exact l_fr _ (wpList_nil (H n8 _ hO))
def f10r11Op0 : Oper := ⟨some 37, .load 22 (.tmp 3), 22, "law.go:158", #[], none⟩
def f10r11Op1 : Oper := ⟨some 38, .load 29 (.tmp 6), 29, "law.go:158", #[], none⟩
def f10r11Op2 : Oper := ⟨some 39, .call { callee := .value (.func 30), args := #[.tmp 37, .tmp 38], argTypes := #[22, 29] }, 29, "law.go:158", #[⟨0, .data⟩, ⟨1, .data⟩], none⟩
def f10r11Op3 : Oper := ⟨some 10, .alloc 29, 0, "law.go:158", #[], none⟩
def f10r11Op4 : Oper := ⟨none, .store 29 (.tmp 10) (.tmp 39), 0, "law.go:158", #[⟨3, .data⟩, ⟨2, .data⟩, ⟨2, .chain⟩, ⟨0, .phase⟩, ⟨1, .phase⟩, ⟨2, .phase⟩, ⟨3, .phase⟩], none⟩
def f10r11Ops : Array Oper := #[f10r11Op0, f10r11Op1, f10r11Op2, f10r11Op3, f10r11Op4]
set_option maxRecDepth 100000 in
set_option maxHeartbeats 2000000 in
theorem f10r11_r {Q : Exit → Act → World → Prop} {u w : World} {L : List Row} {z0 z1 z2 z4 z5 z7 z8 z9 z10 z11 z12 z13 z14 z15 z16 z17 z18 z19 z20 z21 z22 z23 z24 z25 z26 z27 z28 z29 z30 z31 z32 z33 z34 z35 z36 z37 z38 z39 : Value} {zz : List Value} {b3 b6 : Nat} {c3 c6 : Array Value} {e39 : Array Value} (hO : Own u w L) (i3 : Nat) (h3 : L[i3]? = some (b3, c3, 22)) (i6 : Nat) (h6 : L[i6]? = some (b6, c6, 29)) (r39 : ∀ w, Ret 30 #[.agg c3, .agg c6] w (.agg e39)) (fe39_29 : Fit 29 e39) (H : ∀ (n10 : Nat) (w' : World), Own u w' ((n10, e39, 29) :: L) → Q .normal { tmps := List.toArray (z0 :: z1 :: z2 :: (.pointer (some ⟨b3, 0, none⟩)) :: z4 :: z5 :: (.pointer (some ⟨b6, 0, none⟩)) :: z7 :: z8 :: z9 :: (.pointer (some ⟨n10, 0, none⟩)) :: z11 :: z12 :: z13 :: z14 :: z15 :: z16 :: z17 :: z18 :: z19 :: z20 :: z21 :: z22 :: z23 :: z24 :: z25 :: z26 :: z27 :: z28 :: z29 :: z30 :: z31 :: z32 :: z33 :: z34 :: z35 :: z36 :: (.agg c3) :: (.agg c6) :: (.agg e39) :: zz), defers := [] } w') :
    (Code.region 11 f10r11Ops false).wp Try.prog Q { tmps := List.toArray (z0 :: z1 :: z2 :: (.pointer (some ⟨b3, 0, none⟩)) :: z4 :: z5 :: (.pointer (some ⟨b6, 0, none⟩)) :: z7 :: z8 :: z9 :: z10 :: z11 :: z12 :: z13 :: z14 :: z15 :: z16 :: z17 :: z18 :: z19 :: z20 :: z21 :: z22 :: z23 :: z24 :: z25 :: z26 :: z27 :: z28 :: z29 :: z30 :: z31 :: z32 :: z33 :: z34 :: z35 :: z36 :: z37 :: z38 :: z39 :: zz), defers := [] } w := by
  refine wp_region_list (show wpList _ f10r11Ops _ [f10r11Op0, f10r11Op1, f10r11Op2, f10r11Op3, f10r11Op4] _ _ from ?_)
  refine l_ld hO 22 i3 h3 Try.underlying22 ?_
  refine l_ld hO 29 i6 h6 Try.underlying29 ?_
  refine l_call hO 30 #[.agg c3, .agg c6] (.agg e39) r39 ?_
  intro w1 hO
  refine l_fr (Fr [z0, z1, z2, D b3, z4, z5, D b6, z7, z8, z9, z10, z11, z12, z13, z14, z15, z16, z17, z18, z19, z20, z21, z22, z23, z24, z25, z26, z27, z28, z29, z30, z31, z32, z33, z34, z35, z36, A c3, A c6, A e39] zz) ?_
  refine l_new hO (ps [0, 0]) 29 (al29 rfl) (fit_pt _ _) ?_
  intro n10 w2 hO
  refine l_st hO 29 0 rfl e39 fe39_29 ?_
  intro w3 hO
  exact l_fr _ (wpList_nil (H n10 _ hO))
def f10r12Op0 : Oper := ⟨some 40, .load 22 (.tmp 3), 22, "law.go:159", #[], none⟩
def f10r12Op1 : Oper := ⟨some 41, .load 29 (.tmp 6), 29, "law.go:159", #[], none⟩
def f10r12Op2 : Oper := ⟨some 42, .load 29 (.tmp 6), 29, "law.go:159", #[], none⟩
def f10r12Op3 : Oper := ⟨some 43, .call { callee := .value (.func 21), args := #[.tmp 41, .tmp 42], argTypes := #[29, 29] }, 29, "law.go:159", #[⟨1, .data⟩, ⟨2, .data⟩], none⟩
def f10r12Op4 : Oper := ⟨some 44, .call { callee := .value (.func 30), args := #[.tmp 40, .tmp 43], argTypes := #[22, 29] }, 29, "law.go:159", #[⟨0, .data⟩, ⟨3, .data⟩, ⟨3, .chain⟩], none⟩
def f10r12Op5 : Oper := ⟨some 11, .alloc 29, 0, "law.go:159", #[], none⟩
def f10r12Op6 : Oper := ⟨none, .store 29 (.tmp 11) (.tmp 44), 0, "law.go:159", #[⟨5, .data⟩, ⟨4, .data⟩, ⟨4, .chain⟩, ⟨0, .phase⟩, ⟨1, .phase⟩, ⟨2, .phase⟩, ⟨3, .phase⟩, ⟨4, .phase⟩, ⟨5, .phase⟩], none⟩
def f10r12Ops : Array Oper := #[f10r12Op0, f10r12Op1, f10r12Op2, f10r12Op3, f10r12Op4, f10r12Op5, f10r12Op6]
set_option maxRecDepth 100000 in
set_option maxHeartbeats 2000000 in
theorem f10r12_r {Q : Exit → Act → World → Prop} {u w : World} {L : List Row} {z0 z1 z2 z4 z5 z7 z8 z9 z10 z11 z12 z13 z14 z15 z16 z17 z18 z19 z20 z21 z22 z23 z24 z25 z26 z27 z28 z29 z30 z31 z32 z33 z34 z35 z36 z37 z38 z39 z40 z41 z42 z43 z44 : Value} {zz : List Value} {b3 b6 : Nat} {c3 c6 : Array Value} {e43 e44 : Array Value} (hQ : ∀ c a w n v, Q (.panic c) (a.put (some n) v) w → Q (.panic c) a w) (hO : Own u w L) (i3 : Nat) (h3 : L[i3]? = some (b3, c3, 22)) (i6 : Nat) (h6 : L[i6]? = some (b6, c6, 29)) (r43 : ∀ w, Ret 21 #[.agg c6, .agg c6] w (.agg e43)) (r44 : ∀ w, Ret 30 #[.agg c3, .agg e43] w (.agg e44)) (fe44_29 : Fit 29 e44) (H : ∀ (n11 : Nat) (w' : World), Own u w' ((n11, e44, 29) :: L) → Q .normal { tmps := List.toArray (z0 :: z1 :: z2 :: (.pointer (some ⟨b3, 0, none⟩)) :: z4 :: z5 :: (.pointer (some ⟨b6, 0, none⟩)) :: z7 :: z8 :: z9 :: z10 :: (.pointer (some ⟨n11, 0, none⟩)) :: z12 :: z13 :: z14 :: z15 :: z16 :: z17 :: z18 :: z19 :: z20 :: z21 :: z22 :: z23 :: z24 :: z25 :: z26 :: z27 :: z28 :: z29 :: z30 :: z31 :: z32 :: z33 :: z34 :: z35 :: z36 :: z37 :: z38 :: z39 :: (.agg c3) :: (.agg c6) :: (.agg c6) :: (.agg e43) :: (.agg e44) :: zz), defers := [] } w') :
    (Code.region 12 f10r12Ops true).wp Try.prog Q { tmps := List.toArray (z0 :: z1 :: z2 :: (.pointer (some ⟨b3, 0, none⟩)) :: z4 :: z5 :: (.pointer (some ⟨b6, 0, none⟩)) :: z7 :: z8 :: z9 :: z10 :: z11 :: z12 :: z13 :: z14 :: z15 :: z16 :: z17 :: z18 :: z19 :: z20 :: z21 :: z22 :: z23 :: z24 :: z25 :: z26 :: z27 :: z28 :: z29 :: z30 :: z31 :: z32 :: z33 :: z34 :: z35 :: z36 :: z37 :: z38 :: z39 :: z40 :: z41 :: z42 :: z43 :: z44 :: zz), defers := [] } w := by
  have fc3_22 := hO.fits i3 h3
  have fc6_29 := hO.fits i6 h6
  have s0 : ∀ (n11 : Nat) (w : World), Own u w ((n11, ps [0, 0], 29) :: L) → wpAnyH Try.prog .any f10r12Ops Q (Has [(b3, c3, 22), (b6, c6, 29)]) 1 (ls 7 63) (Fr [z0, z1, z2, D b3, z4, z5, D b6, z7, z8, z9, z10, D n11, z12, z13, z14, z15, z16, z17, z18, z19, z20, z21, z22, z23, z24, z25, z26, z27, z28, z29, z30, z31, z32, z33, z34, z35, z36, z37, z38, z39, A c3, A c6, A c6, A e43, A e44] zz) w := by
    intro n11 w hO
    refine d_one 6 f10r12Op6 (ls 7 127) (fun K hK => ?_)
    refine k_st hK hO 29 0 rfl e44 fe44_29 (fun _ hO => ⟨hO.row _ (gs h3), hO.row _ (gs h6), trivial⟩) ?_
    intro w1 hO
    exact wpAnyH_done (by kernel_rfl) (H n11 _ hO) _
  have s1 : ∀ (n11 : Nat) (w : World), Own u w ((n11, ps [0, 0], 29) :: L) → wpAnyH Try.prog .any f10r12Ops Q (Has [(b3, c3, 22), (b6, c6, 29)]) 2 (ls 7 47) (Fr [z0, z1, z2, D b3, z4, z5, D b6, z7, z8, z9, z10, D n11, z12, z13, z14, z15, z16, z17, z18, z19, z20, z21, z22, z23, z24, z25, z26, z27, z28, z29, z30, z31, z32, z33, z34, z35, z36, z37, z38, z39, A c3, A c6, A c6, A e43, z44] zz) w := by
    intro n11 w hO
    refine d_one 4 f10r12Op4 (ls 7 63) (fun K hK => ?_)
    refine k_call hK hO (fun _ hO => ⟨hO.row _ (gs h3), hO.row _ (gs h6), trivial⟩) 30 #[.agg c3, .agg e43] (.agg e44) r44 ?_
    intro w2 hO
    exact d_fr _ _ (s0 n11 _ hO)
  refine wp_region_held_drew (S := Has [(b3, c3, 22), (b6, c6, 29)]) (by kernel_rfl) ⟨hO.drew.row _ h3, hO.drew.row _ h6, trivial⟩ (fun hS => ?_)
  replace hO := hO.drew
  refine d_tk 0 f10r12Op0 (.agg c3) hQ (y_l 22 (fun _ h => h.1) fc3_22 Try.underlying22) hS ?_
  refine d_tk 1 f10r12Op1 (.agg c6) hQ (y_l 29 (fun _ h => h.2.1) fc6_29 Try.underlying29) hS ?_
  refine d_tk 2 f10r12Op2 (.agg c6) hQ (y_l 29 (fun _ h => h.2.1) fc6_29 Try.underlying29) hS ?_
  refine d_fr (ls 7 7) (Fr [z0, z1, z2, D b3, z4, z5, D b6, z7, z8, z9, z10, z11, z12, z13, z14, z15, z16, z17, z18, z19, z20, z21, z22, z23, z24, z25, z26, z27, z28, z29, z30, z31, z32, z33, z34, z35, z36, z37, z38, z39, A c3, A c6, A c6, z43, z44] zz) ?_
  refine wpAnyH_ready (rs := [3, 5]) (by kernel_rfl) (by simp) ?_
  refine d_cons 3 f10r12Op3 (ls 7 15) (fun K hK => ?_) ?_
  · skip
    refine k_call hK hO (fun _ hO => ⟨hO.row _ h3, hO.row _ h6, trivial⟩) 21 #[.agg c6, .agg c6] (.agg e43) r43 ?_
    intro w3 hO
    refine wpAnyH_ready (rs := [4, 5]) (by kernel_rfl) (by simp) ?_
    refine d_cons 4 f10r12Op4 (ls 7 31) (fun K hK => ?_) ?_
    · skip
      refine k_call hK hO (fun _ hO => ⟨hO.row _ h3, hO.row _ h6, trivial⟩) 30 #[.agg c3, .agg e43] (.agg e44) r44 ?_
      intro w4 hO
      refine d_one 5 f10r12Op5 (ls 7 63) (fun K hK => ?_)
      refine k_new hK hO (ps [0, 0]) 29 (al29 rfl) (fit_pt _ _) (fun _ _ hO => ⟨hO.row _ (gs h3), hO.row _ (gs h6), trivial⟩) ?_
      intro n11 w5 hO
      exact d_fr _ _ (s0 n11 _ hO)
    refine d_cons 5 f10r12Op5 (ls 7 47) (fun K hK => ?_) ?_
    · skip
      refine k_new hK hO (ps [0, 0]) 29 (al29 rfl) (fit_pt _ _) (fun _ _ hO => ⟨hO.row _ (gs h3), hO.row _ (gs h6), trivial⟩) ?_
      intro n11 w6 hO
      exact d_fr _ _ (s1 n11 _ hO)
    exact AllReadyH.nil
  refine d_cons 5 f10r12Op5 (ls 7 39) (fun K hK => ?_) ?_
  · skip
    refine k_new hK hO (ps [0, 0]) 29 (al29 rfl) (fit_pt _ _) (fun _ _ hO => ⟨hO.row _ (gs h3), hO.row _ (gs h6), trivial⟩) ?_
    intro n11 w7 hO
    refine d_one 3 f10r12Op3 (ls 7 47) (fun K hK => ?_)
    refine k_call hK hO (fun _ hO => ⟨hO.row _ (gs h3), hO.row _ (gs h6), trivial⟩) 21 #[.agg c6, .agg c6] (.agg e43) r43 ?_
    intro w8 hO
    exact d_fr _ _ (s1 n11 _ hO)
  exact AllReadyH.nil
def f10r9tOp0 : Oper := ⟨some 33, .load 22 (.tmp 8), 22, "law.go:155", #[], none⟩
def f10r9tOp1 : Oper := ⟨some 34, .build 22 #[], 22, "law.go:155", #[], none⟩
def f10r9tOp2 : Oper := ⟨some 35, .binOp .eql 22 (.tmp 33) (.tmp 34) 22, 4, "law.go:155", #[⟨0, .data⟩, ⟨1, .data⟩], none⟩
def f10r9tOps : Array Oper := #[f10r9tOp0, f10r9tOp1, f10r9tOp2]
set_option maxRecDepth 100000 in
set_option maxHeartbeats 2000000 in
theorem f10r9t_r {Q : Exit → Act → World → Prop} {u w : World} {L : List Row} {z0 z1 z2 z3 z4 z5 z6 z7 z9 z10 z11 z12 z13 z14 z15 z16 z17 z18 z19 z20 z21 z22 z23 z24 z25 z26 z27 z28 z29 z30 z31 z32 z33 z34 z35 : Value} {zz : List Value} {b8 : Nat} {c8 : Array Value} {e34 : Array Value} (hO : Own u w L) (i8 : Nat) (h8 : L[i8]? = some (b8, c8, 22)) (q34 : Try.prog.built 22 [] = some e34) (k35 : ∀ (a : Act) (w : World), a.eval (.tmp 33) = .agg c8 → a.eval (.tmp 34) = .agg e34 → (execOp a.eval f10r9tOp2).run Try.prog w = .ok (.value (.bool true)) w) (H : ∀ (w' : World), Own u w' (L) → Q .normal { tmps := List.toArray (z0 :: z1 :: z2 :: z3 :: z4 :: z5 :: z6 :: z7 :: (.pointer (some ⟨b8, 0, none⟩)) :: z9 :: z10 :: z11 :: z12 :: z13 :: z14 :: z15 :: z16 :: z17 :: z18 :: z19 :: z20 :: z21 :: z22 :: z23 :: z24 :: z25 :: z26 :: z27 :: z28 :: z29 :: z30 :: z31 :: z32 :: (.agg c8) :: (.agg e34) :: (.bool true) :: zz), defers := [] } w') :
    (Code.region 9 f10r9tOps false).wp Try.prog Q { tmps := List.toArray (z0 :: z1 :: z2 :: z3 :: z4 :: z5 :: z6 :: z7 :: (.pointer (some ⟨b8, 0, none⟩)) :: z9 :: z10 :: z11 :: z12 :: z13 :: z14 :: z15 :: z16 :: z17 :: z18 :: z19 :: z20 :: z21 :: z22 :: z23 :: z24 :: z25 :: z26 :: z27 :: z28 :: z29 :: z30 :: z31 :: z32 :: z33 :: z34 :: z35 :: zz), defers := [] } w := by
  refine wp_region_list (show wpList _ f10r9tOps _ [f10r9tOp0, f10r9tOp1, f10r9tOp2] _ _ from ?_)
  refine l_ld hO 22 i8 h8 Try.underlying22 ?_
  refine l_val (.agg e34) (run_bd 22 _ rfl [] (by kernel_rfl) e34 q34 _) ?_
  refine l_val (.bool true) (k35 _ _ (by kernel_rfl) (by kernel_rfl)) ?_
  exact l_fr _ (wpList_nil (H  _ hO))
def f10r9fOp0 : Oper := ⟨some 33, .load 22 (.tmp 8), 22, "law.go:155", #[], none⟩
def f10r9fOp1 : Oper := ⟨some 34, .build 22 #[], 22, "law.go:155", #[], none⟩
def f10r9fOp2 : Oper := ⟨some 35, .binOp .eql 22 (.tmp 33) (.tmp 34) 22, 4, "law.go:155", #[⟨0, .data⟩, ⟨1, .data⟩], none⟩
def f10r9fOps : Array Oper := #[f10r9fOp0, f10r9fOp1, f10r9fOp2]
set_option maxRecDepth 100000 in
set_option maxHeartbeats 2000000 in
theorem f10r9f_r {Q : Exit → Act → World → Prop} {u w : World} {L : List Row} {z0 z1 z2 z3 z4 z5 z6 z7 z9 z10 z11 z12 z13 z14 z15 z16 z17 z18 z19 z20 z21 z22 z23 z24 z25 z26 z27 z28 z29 z30 z31 z32 z33 z34 z35 : Value} {zz : List Value} {b8 : Nat} {c8 : Array Value} {e34 : Array Value} (hO : Own u w L) (i8 : Nat) (h8 : L[i8]? = some (b8, c8, 22)) (q34 : Try.prog.built 22 [] = some e34) (k35 : ∀ (a : Act) (w : World), a.eval (.tmp 33) = .agg c8 → a.eval (.tmp 34) = .agg e34 → (execOp a.eval f10r9fOp2).run Try.prog w = .ok (.value (.bool false)) w) (H : ∀ (w' : World), Own u w' (L) → Q .normal { tmps := List.toArray (z0 :: z1 :: z2 :: z3 :: z4 :: z5 :: z6 :: z7 :: (.pointer (some ⟨b8, 0, none⟩)) :: z9 :: z10 :: z11 :: z12 :: z13 :: z14 :: z15 :: z16 :: z17 :: z18 :: z19 :: z20 :: z21 :: z22 :: z23 :: z24 :: z25 :: z26 :: z27 :: z28 :: z29 :: z30 :: z31 :: z32 :: (.agg c8) :: (.agg e34) :: (.bool false) :: zz), defers := [] } w') :
    (Code.region 9 f10r9fOps false).wp Try.prog Q { tmps := List.toArray (z0 :: z1 :: z2 :: z3 :: z4 :: z5 :: z6 :: z7 :: (.pointer (some ⟨b8, 0, none⟩)) :: z9 :: z10 :: z11 :: z12 :: z13 :: z14 :: z15 :: z16 :: z17 :: z18 :: z19 :: z20 :: z21 :: z22 :: z23 :: z24 :: z25 :: z26 :: z27 :: z28 :: z29 :: z30 :: z31 :: z32 :: z33 :: z34 :: z35 :: zz), defers := [] } w := by
  refine wp_region_list (show wpList _ f10r9fOps _ [f10r9fOp0, f10r9fOp1, f10r9fOp2] _ _ from ?_)
  refine l_ld hO 22 i8 h8 Try.underlying22 ?_
  refine l_val (.agg e34) (run_bd 22 _ rfl [] (by kernel_rfl) e34 q34 _) ?_
  refine l_val (.bool false) (k35 _ _ (by kernel_rfl) (by kernel_rfl)) ?_
  exact l_fr _ (wpList_nil (H  _ hO))
def f10r13Op0 : Oper := ⟨some 45, .move (.tmp 5), 4, "law.go:160", #[], none⟩
def f10r13Op1 : Oper := ⟨some 46, .move (.tmp 45), 4, "law.go:160", #[⟨0, .data⟩], none⟩
def f10r13Op2 : Oper := ⟨some 47, .load 22 (.tmp 8), 22, "law.go:160", #[⟨1, .guard⟩], some (1, true)⟩
def f10r13Op3 : Oper := ⟨some 48, .load 29 (.tmp 6), 29, "law.go:160", #[⟨1, .guard⟩], some (1, true)⟩
def f10r13Op4 : Oper := ⟨some 49, .call { callee := .value (.func 30), args := #[.tmp 47, .tmp 48], argTypes := #[22, 29] }, 29, "law.go:160", #[⟨2, .data⟩, ⟨3, .data⟩, ⟨1, .chain⟩, ⟨1, .guard⟩], some (1, true)⟩
def f10r13Op5 : Oper := ⟨some 50, .load 29 (.tmp 10), 29, "law.go:160", #[⟨1, .guard⟩], some (1, true)⟩
def f10r13Op6 : Oper := ⟨some 51, .load 29 (.tmp 6), 29, "law.go:160", #[⟨1, .guard⟩], some (1, true)⟩
def f10r13Op7 : Oper := ⟨some 52, .call { callee := .value (.func 21), args := #[.tmp 50, .tmp 51], argTypes := #[29, 29] }, 29, "law.go:160", #[⟨5, .data⟩, ⟨6, .data⟩, ⟨4, .chain⟩, ⟨1, .guard⟩], some (1, true)⟩
def f10r13Op8 : Oper := ⟨some 53, .call { callee := .value (.func 18), args := #[.tmp 49, .tmp 52], argTypes := #[29, 29] }, 4, "law.go:160", #[⟨4, .data⟩, ⟨7, .data⟩, ⟨7, .chain⟩, ⟨1, .guard⟩], some (1, true)⟩
def f10r13Op9 : Oper := ⟨some 54, .pick (.tmp 46) (.tmp 53) (.const (.bool false)), 4, "law.go:160", #[⟨1, .data⟩, ⟨8, .data⟩], none⟩
def f10r13Op10 : Oper := ⟨some 55, .move (.tmp 54), 4, "law.go:160", #[⟨9, .data⟩, ⟨8, .chain⟩], none⟩
def f10r13Op11 : Oper := ⟨some 56, .load 29 (.tmp 11), 29, "law.go:160", #[⟨10, .guard⟩], some (10, true)⟩
def f10r13Op12 : Oper := ⟨some 57, .load 29 (.tmp 10), 29, "law.go:160", #[⟨10, .guard⟩], some (10, true)⟩
def f10r13Op13 : Oper := ⟨some 58, .load 29 (.tmp 10), 29, "law.go:160", #[⟨10, .guard⟩], some (10, true)⟩
def f10r13Op14 : Oper := ⟨some 59, .call { callee := .value (.func 21), args := #[.tmp 57, .tmp 58], argTypes := #[29, 29] }, 29, "law.go:160", #[⟨12, .data⟩, ⟨13, .data⟩, ⟨10, .chain⟩, ⟨10, .guard⟩], some (10, true)⟩
def f10r13Op15 : Oper := ⟨some 60, .call { callee := .value (.func 18), args := #[.tmp 56, .tmp 59], argTypes := #[29, 29] }, 4, "law.go:160", #[⟨11, .data⟩, ⟨14, .data⟩, ⟨14, .chain⟩, ⟨10, .guard⟩], some (10, true)⟩
def f10r13Op16 : Oper := ⟨some 61, .pick (.tmp 55) (.tmp 60) (.const (.bool false)), 4, "law.go:160", #[⟨10, .data⟩, ⟨15, .data⟩], none⟩
def f10r13Op17 : Oper := ⟨some 4, .assign (.tmp 61), 4, "law.go:160", #[⟨16, .data⟩, ⟨15, .chain⟩, ⟨0, .phase⟩, ⟨1, .phase⟩, ⟨2, .phase⟩, ⟨3, .phase⟩, ⟨4, .phase⟩, ⟨5, .phase⟩, ⟨6, .phase⟩, ⟨7, .phase⟩, ⟨8, .phase⟩, ⟨9, .phase⟩, ⟨10, .phase⟩, ⟨11, .phase⟩, ⟨12, .phase⟩, ⟨13, .phase⟩, ⟨14, .phase⟩, ⟨15, .phase⟩, ⟨16, .phase⟩], none⟩
def f10r13Ops : Array Oper := #[f10r13Op0, f10r13Op1, f10r13Op2, f10r13Op3, f10r13Op4, f10r13Op5, f10r13Op6, f10r13Op7, f10r13Op8, f10r13Op9, f10r13Op10, f10r13Op11, f10r13Op12, f10r13Op13, f10r13Op14, f10r13Op15, f10r13Op16, f10r13Op17]
set_option maxRecDepth 100000 in
set_option maxHeartbeats 2000000 in
theorem f10r13_r {Q : Exit → Act → World → Prop} {u w : World} {L : List Row} {z0 z1 z2 z3 z4 z7 z9 z12 z13 z14 z15 z16 z17 z18 z19 z20 z21 z22 z23 z24 z25 z26 z27 z28 z29 z30 z31 z32 z33 z34 z35 z36 z37 z38 z39 z40 z41 z42 z43 z44 z45 z46 z47 z48 z49 z50 z51 z52 z53 z54 z55 z56 z57 z58 z59 z60 z61 : Value} {b6 b8 b10 b11 : Nat} {c6 c8 c10 c11 : Array Value} {e49 e52 e59 : Array Value} (hQ : ∀ c a w n v, Q (.panic c) (a.put (some n) v) w → Q (.panic c) a w) (hO : Own u w L) (i6 : Nat) (h6 : L[i6]? = some (b6, c6, 29)) (i8 : Nat) (h8 : L[i8]? = some (b8, c8, 22)) (i10 : Nat) (h10 : L[i10]? = some (b10, c10, 29)) (i11 : Nat) (h11 : L[i11]? = some (b11, c11, 29)) (r49 : ∀ w, Ret 30 #[.agg c8, .agg c6] w (.agg e49)) (r52 : ∀ w, Ret 21 #[.agg c10, .agg c6] w (.agg e52)) (r53 : ∀ w, Ret 18 #[.agg e49, .agg e52] w (.bool true)) (r59 : ∀ w, Ret 21 #[.agg c10, .agg c10] w (.agg e59)) (r60 : ∀ w, Ret 18 #[.agg c11, .agg e59] w (.bool true)) (H : ∀ (w' : World), Own u w' (L) → Q .normal { tmps := List.toArray (z0 :: z1 :: z2 :: z3 :: (.bool true) :: (.bool true) :: (.pointer (some ⟨b6, 0, none⟩)) :: z7 :: (.pointer (some ⟨b8, 0, none⟩)) :: z9 :: (.pointer (some ⟨b10, 0, none⟩)) :: (.pointer (some ⟨b11, 0, none⟩)) :: z12 :: z13 :: z14 :: z15 :: z16 :: z17 :: z18 :: z19 :: z20 :: z21 :: z22 :: z23 :: z24 :: z25 :: z26 :: z27 :: z28 :: z29 :: z30 :: z31 :: z32 :: z33 :: z34 :: z35 :: z36 :: z37 :: z38 :: z39 :: z40 :: z41 :: z42 :: z43 :: z44 :: (.bool true) :: (.bool true) :: (.agg c8) :: (.agg c6) :: (.agg e49) :: (.agg c10) :: (.agg c6) :: (.agg e52) :: (.bool true) :: (.bool true) :: (.bool true) :: (.agg c11) :: (.agg c10) :: (.agg c10) :: (.agg e59) :: (.bool true) :: (.bool true) :: []), defers := [] } w') :
    (Code.region 13 f10r13Ops true).wp Try.prog Q { tmps := List.toArray (z0 :: z1 :: z2 :: z3 :: z4 :: (.bool true) :: (.pointer (some ⟨b6, 0, none⟩)) :: z7 :: (.pointer (some ⟨b8, 0, none⟩)) :: z9 :: (.pointer (some ⟨b10, 0, none⟩)) :: (.pointer (some ⟨b11, 0, none⟩)) :: z12 :: z13 :: z14 :: z15 :: z16 :: z17 :: z18 :: z19 :: z20 :: z21 :: z22 :: z23 :: z24 :: z25 :: z26 :: z27 :: z28 :: z29 :: z30 :: z31 :: z32 :: z33 :: z34 :: z35 :: z36 :: z37 :: z38 :: z39 :: z40 :: z41 :: z42 :: z43 :: z44 :: z45 :: z46 :: z47 :: z48 :: z49 :: z50 :: z51 :: z52 :: z53 :: z54 :: z55 :: z56 :: z57 :: z58 :: z59 :: z60 :: z61 :: []), defers := [] } w := by
  have fc6_29 := hO.fits i6 h6
  have fc8_22 := hO.fits i8 h8
  have fc10_29 := hO.fits i10 h10
  have fc11_29 := hO.fits i11 h11
  refine wp_region_held_drew (S := Has [(b6, c6, 29), (b8, c8, 22), (b10, c10, 29), (b11, c11, 29)]) (by kernel_rfl) ⟨hO.drew.row _ h6, hO.drew.row _ h8, hO.drew.row _ h10, hO.drew.row _ h11, trivial⟩ (fun hS => ?_)
  replace hO := hO.drew
  refine d_tk 0 f10r13Op0 (.bool true) hQ (y_val (fun _ => by kernel_rfl)) hS ?_
  refine d_tk 1 f10r13Op1 (.bool true) hQ (y_val (fun _ => by kernel_rfl)) hS ?_
  refine d_tk 2 f10r13Op2 (.agg c8) hQ (y_l 22 (fun _ h => h.2.1) fc8_22 Try.underlying22) hS ?_
  refine d_fr (ls 18 7) (Fr [z0, z1, z2, z3, z4, .bool true, D b6, z7, D b8, z9, D b10, D b11, z12, z13, z14, z15, z16, z17, z18, z19, z20, z21, z22, z23, z24, z25, z26, z27, z28, z29, z30, z31, z32, z33, z34, z35, z36, z37, z38, z39, z40, z41, z42, z43, z44, .bool true, .bool true, A c8, z48, z49, z50, z51, z52, z53, z54, z55, z56, z57, z58, z59, z60, z61] []) ?_
  refine d_tk 3 f10r13Op3 (.agg c6) hQ (y_l 29 (fun _ h => h.1) fc6_29 Try.underlying29) hS ?_
  refine d_tk 5 f10r13Op5 (.agg c10) hQ (y_l 29 (fun _ h => h.2.2.1) fc10_29 Try.underlying29) hS ?_
  refine d_tk 6 f10r13Op6 (.agg c6) hQ (y_l 29 (fun _ h => h.1) fc6_29 Try.underlying29) hS ?_
  refine d_fr (ls 18 111) (Fr [z0, z1, z2, z3, z4, .bool true, D b6, z7, D b8, z9, D b10, D b11, z12, z13, z14, z15, z16, z17, z18, z19, z20, z21, z22, z23, z24, z25, z26, z27, z28, z29, z30, z31, z32, z33, z34, z35, z36, z37, z38, z39, z40, z41, z42, z43, z44, .bool true, .bool true, A c8, A c6, z49, A c10, A c6, z52, z53, z54, z55, z56, z57, z58, z59, z60, z61] []) ?_
  refine d_one 4 f10r13Op4 (ls 18 127) (fun K hK => ?_)
  refine k_call hK hO (fun _ hO => ⟨hO.row _ h6, hO.row _ h8, hO.row _ h10, hO.row _ h11, trivial⟩) 30 #[.agg c8, .agg c6] (.agg e49) r49 ?_
  intro w1 hO
  refine d_one 7 f10r13Op7 (ls 18 255) (fun K hK => ?_)
  refine k_call hK hO (fun _ hO => ⟨hO.row _ h6, hO.row _ h8, hO.row _ h10, hO.row _ h11, trivial⟩) 21 #[.agg c10, .agg c6] (.agg e52) r52 ?_
  intro w2 hO
  refine d_one 8 f10r13Op8 (ls 18 511) (fun K hK => ?_)
  refine k_call hK hO (fun _ hO => ⟨hO.row _ h6, hO.row _ h8, hO.row _ h10, hO.row _ h11, trivial⟩) 18 #[.agg e49, .agg e52] (.bool true) r53 ?_
  intro w3 hO
  have hS : Has [(b6, c6, 29), (b8, c8, 22), (b10, c10, 29), (b11, c11, 29)] w3 := ⟨hO.row _ h6, hO.row _ h8, hO.row _ h10, hO.row _ h11, trivial⟩
  refine d_tk 9 f10r13Op9 (.bool true) hQ (y_val (fun _ => by kernel_rfl)) hS ?_
  refine d_tk 10 f10r13Op10 (.bool true) hQ (y_val (fun _ => by kernel_rfl)) hS ?_
  refine d_tk 11 f10r13Op11 (.agg c11) hQ (y_l 29 (fun _ h => h.2.2.2.1) fc11_29 Try.underlying29) hS ?_
  refine d_fr (ls 18 4095) (Fr [z0, z1, z2, z3, z4, .bool true, D b6, z7, D b8, z9, D b10, D b11, z12, z13, z14, z15, z16, z17, z18, z19, z20, z21, z22, z23, z24, z25, z26, z27, z28, z29, z30, z31, z32, z33, z34, z35, z36, z37, z38, z39, z40, z41, z42, z43, z44, .bool true, .bool true, A c8, A c6, A e49, A c10, A c6, A e52, .bool true, .bool true, .bool true, A c11, z57, z58, z59, z60, z61] []) ?_
  refine d_tk 12 f10r13Op12 (.agg c10) hQ (y_l 29 (fun _ h => h.2.2.1) fc10_29 Try.underlying29) hS ?_
  refine d_tk 13 f10r13Op13 (.agg c10) hQ (y_l 29 (fun _ h => h.2.2.1) fc10_29 Try.underlying29) hS ?_
  refine d_fr (ls 18 16383) (Fr [z0, z1, z2, z3, z4, .bool true, D b6, z7, D b8, z9, D b10, D b11, z12, z13, z14, z15, z16, z17, z18, z19, z20, z21, z22, z23, z24, z25, z26, z27, z28, z29, z30, z31, z32, z33, z34, z35, z36, z37, z38, z39, z40, z41, z42, z43, z44, .bool true, .bool true, A c8, A c6, A e49, A c10, A c6, A e52, .bool true, .bool true, .bool true, A c11, A c10, A c10, z59, z60, z61] []) ?_
  refine d_one 14 f10r13Op14 (ls 18 32767) (fun K hK => ?_)
  refine k_call hK hO (fun _ hO => ⟨hO.row _ h6, hO.row _ h8, hO.row _ h10, hO.row _ h11, trivial⟩) 21 #[.agg c10, .agg c10] (.agg e59) r59 ?_
  intro w4 hO
  refine d_one 15 f10r13Op15 (ls 18 65535) (fun K hK => ?_)
  refine k_call hK hO (fun _ hO => ⟨hO.row _ h6, hO.row _ h8, hO.row _ h10, hO.row _ h11, trivial⟩) 18 #[.agg c11, .agg e59] (.bool true) r60 ?_
  intro w5 hO
  have hS : Has [(b6, c6, 29), (b8, c8, 22), (b10, c10, 29), (b11, c11, 29)] w5 := ⟨hO.row _ h6, hO.row _ h8, hO.row _ h10, hO.row _ h11, trivial⟩
  refine d_tk 16 f10r13Op16 (.bool true) hQ (y_val (fun _ => by kernel_rfl)) hS ?_
  refine d_tk 17 f10r13Op17 (.bool true) hQ (y_val (fun _ => by kernel_rfl)) hS ?_
  exact d_fr (ls 18 262143) _ (wpAnyH_done (by kernel_rfl) (H  _ hO) _)
set_option maxRecDepth 100000 in
set_option maxHeartbeats 8000000 in
theorem counts_walk (f g : Nat → Nat) (w : World) (hf : ∀ i, f i < 256) (hg : ∀ i, g i < 256) : Ret 10 #[.agg (vals .u8 32 f), .agg (vals .u8 32 g)] w (.bool true) := by
  go_enter Try.func10, Try.ntmps10
  have hO := Own.start w
  have qP := point_p f hf
  have hP := ok_ptP f hf
  generalize ptP f = P at qP hP
  have KP := hide qP
  clear qP
  go_upto_region 0 with (fail)
  refine f10r0_r hO (fit_by _) (fit_by _) ?_
  intro n2 n3 w1 hO
  replace hO : Own w w1 [(n3, vals .u8 32 g, 22), (n2, vals .u8 32 f, 22)] := hO
  go_upto_region 1 with (fail)
  refine f10r1_r hO awake_c ?_
  intro w2 hO
  replace hO : Own w w2 [(n3, vals .u8 32 g, 22), (n2, vals .u8 32 f, 22)] := hO
  go_upto_region 2 with (fail)
  refine f10r2_r hO 1 rfl KP.out (fit_pt _ _) (fit_rp _ _) ?_
  intro n6 n7 w3 hO
  replace hO : Own w w3 [(n7, rp P, 35), (n6, pt P, 29), (n3, vals .u8 32 g, 22), (n2, vals .u8 32 f, 22)] := hO
  go_upto_region 3 with (fail)
  refine f10r3_r hO 2 rfl ?_
  intro n8 w4 hO
  replace hO : Own w w4 [(n8, vals .u8 32 g, 22), (n7, rp P, 35), (n6, pt P, 29), (n3, vals .u8 32 g, 22), (n2, vals .u8 32 f, 22)] := hO
  go_wp2_with fail
  go_loopw [9] (fun i wr => ∃ k : Nat, k ≤ 32 ∧ i = .int .i64 k ∧ (∀ j, j < k → g j = 255) ∧ Own w wr [(n8, vals .u8 32 (ca g k), 22), (n7, rp P, 35), (n6, pt P, 29), (n3, vals .u8 32 g, 22), (n2, vals .u8 32 f, 22)]) (fun i _ => (32 - intOf i).toNat)
  case atStart => exact ⟨0, by omega, rfl, fun _ h => by omega, hO⟩
  case round =>
    clear hO
    obtain ⟨k, hk, rfl, hall, hO⟩ := hrel
    have Ha := hide hall
    clear hall
    by_cases hlt : k < 32
    · have hlt' : (k : Int) < 32 := by omega
      have hk0 : (0 : Int) ≤ (k : Int) := by omega
      have hck : ca g k k = g k := by unfold ca; rw [if_neg (by omega)]
      have Hc := hide hck
      clear hck
      go_upto_region 7 with (fail)
      refine f10r7_r hO 0 rfl k hlt ?_
      intro w8 hO
      by_cases h5 : g k = 255
      · skip
        have hc : (fun j => if j = k then (ca g k k + 1) % 256 else ca g k j) = ca g (k + 1) := by
          funext j
          rw [Hc.out, h5]
          unfold ca
          by_cases h1 : j = k
          · rw [if_pos h1, if_pos (by omega)]
          · rw [if_neg h1]
            by_cases h2 : j < k
            · rw [if_pos h2, if_pos (by omega)]
            · rw [if_neg h2, if_neg (by omega)]
        rw [hc] at hO
        have hz : ca g (k + 1) k = 0 := by unfold ca; rw [if_pos (by omega)]
        replace hO : Own w w8 [(n8, vals .u8 32 (ca g (k + 1)), 22), (n7, rp P, 35), (n6, pt P, 29), (n3, vals .u8 32 g, 22), (n2, vals .u8 32 f, 22)] := hO
        have c0 := ((hO.row 0 rfl).cell k).trans (vals_get _ _ _ _ hlt)
        rw [hz] at c0
        have Ha2 : ∀ j, j < k + 1 → g j = 255 := fun j hj => by rcases Nat.lt_or_eq_of_le (Nat.le_of_lt_succ hj) with h | h; exact Ha.out j h; rw [h]; exact h5
        have H2 := hide Ha2
        clear hc hz h5 Ha2 Hc
        generalize (ca g k k + 1) % 256 = zz1
        generalize ca g k k = zz2
        go_wp2_with fail
        go_roundw
        case rel => exact ⟨k + 1, by omega, by go_num, H2.out, hO⟩
        case measure => simp [intOf]; omega
      · skip
        have hc : (fun j => if j = k then (ca g k k + 1) % 256 else ca g k j) = nx g k := by
          funext j
          rw [Hc.out]
          unfold nx
          have := hg k
          rw [Nat.mod_eq_of_lt (by omega)]
        rw [hc] at hO
        have hz : nx g k k = g k + 1 := by unfold nx; rw [if_pos rfl]
        have hne : (((g k + 1 : Nat) : Int) == 0) = false := by rw [Bool.eq_false_iff]; simp; omega
        replace hO : Own w w8 [(n8, vals .u8 32 (nx g k), 22), (n7, rp P, 35), (n6, pt P, 29), (n3, vals .u8 32 g, 22), (n2, vals .u8 32 f, 22)] := hO
        have c0 := ((hO.row 0 rfl).cell k).trans (vals_get _ _ _ _ hlt)
        rw [hz] at c0
        have hn := nx_same hg h5 hlt Ha.out
        have hnl := nx_lt hg h5
        obtain ⟨hn1, hn2⟩ := hn
        have Hn1 := hide hn1
        have Hn2 := hide hn2
        obtain ⟨v, hv⟩ : ∃ v, v = g k + 1 := ⟨_, rfl⟩
        have hv0 : ¬ ((v : Nat) : Int) = 0 := by omega
        rw [← hv] at c0 hne
        clear hc hz h5 Hc hn1 hn2 hv
        generalize (ca g k k + 1) % 256 = zz1
        generalize ca g k k = zz2
        generalize nx g k = M at hO Hn1 Hn2 hnl
        go_upto_region 9 with (fail)
        refine f10r9f_r hO 0 rfl (e34 := vals .u8 32 (fun _ => 0)) (by kernel_rfl) (fun a w h1 h2 => eql_c _ _ _ _ false Hn2.out w rfl h1 h2) ?_
        intro w9 hO
        replace hO : Own w w9 [(n8, vals .u8 32 M, 22), (n7, rp P, 35), (n6, pt P, 29), (n3, vals .u8 32 g, 22), (n2, vals .u8 32 f, 22)] := hO
        go_upto_region 11 with (fail)
        refine f10r11_r hO 3 rfl 2 rfl (mul7_c _ hg hP) (fit_pt _ _) ?_
        intro n10 w10 hO
        replace hO : Own w w10 [(n10, pt (mul7 P (nb g 32)), 29), (n8, vals .u8 32 M, 22), (n7, rp P, 35), (n6, pt P, 29), (n3, vals .u8 32 g, 22), (n2, vals .u8 32 f, 22)] := hO
        go_upto_region 12 with (fail)
        refine f10r12_r (fun _ _ _ _ _ h => h) hO 4 rfl 3 rfl (add7_c hP hP) (mul7_c _ hg (ok_add hP hP)) (fit_pt _ _) ?_
        intro n11 w11 hO
        replace hO : Own w w11 [(n11, pt (mul7 (add7 P P) (nb g 32)), 29), (n10, pt (mul7 P (nb g 32)), 29), (n8, vals .u8 32 M, 22), (n7, rp P, 35), (n6, pt P, 29), (n3, vals .u8 32 g, 22), (n2, vals .u8 32 f, 22)] := hO
        go_upto_region 13 with (fail)
        refine f10r13_r (fun _ _ _ _ _ h => h) hO 4 rfl 2 rfl 1 rfl 0 rfl (mul7_c _ hnl hP) (add7_c (ok_mul hP _) hP) (same_t (ok_mul hP _) (ok_add (ok_mul hP _) hP) (by rw [Hn1.out]; exact mul7_succ _ _)) (add7_c (ok_mul hP _) (ok_mul hP _)) (same_t (ok_mul (ok_add hP hP) _) (ok_add (ok_mul hP _) (ok_mul hP _)) (mul7_plus hP hP _)) ?_
        intro w12 hO
        replace hO : Own w w12 [(n11, pt (mul7 (add7 P P) (nb g 32)), 29), (n10, pt (mul7 P (nb g 32)), 29), (n8, vals .u8 32 M, 22), (n7, rp P, 35), (n6, pt P, 29), (n3, vals .u8 32 g, 22), (n2, vals .u8 32 f, 22)] := hO
        go_wp2_with fail
        refine bodyPost_ret (v := .bool true) (results_tmp Try.results10 _ _ _) rfl ⟨rfl, hO.low⟩
    · have hk6 : k = 32 := by omega
      subst hk6
      go_upto_region 9 with (fail)
      refine f10r9t_r hO 0 rfl (e34 := vals .u8 32 (fun _ => 0)) (by kernel_rfl) (fun a w h1 h2 => eql_c _ _ _ _ true (ca_same g) w rfl h1 h2) ?_
      intro w5 hO
      replace hO : Own w w5 [(n8, vals .u8 32 (ca g 32), 22), (n7, rp P, 35), (n6, pt P, 29), (n3, vals .u8 32 g, 22), (n2, vals .u8 32 f, 22)] := hO
      go_wp2_with fail
      refine bodyPost_ret (v := .bool true) (results_tmp Try.results10 _ _ _) rfl ⟨rfl, hO.low⟩
end Go.Proofs.Ytalnkcijebdpbaa

/- EdwardsGroup: the walk. Thirty-two bytes each; no other condition. -/
import Derived.Test.YtalnkcijebdpbaaQ0
namespace Go.Proofs.Ytalnkcijebdpbaa
open F Go.RowKit

def f34r0Op0 : Oper := ⟨some 1, .box 22 (.tmp 0), 0, "law.go:89", #[], none⟩
def f34r0Op1 : Oper := ⟨some 2, .alloc 22, 0, "law.go:89", #[], none⟩
def f34r0Ops : Array Oper := #[f34r0Op0, f34r0Op1]
set_option maxRecDepth 100000 in
set_option maxHeartbeats 2000000 in
theorem f34r0_r {Q : Exit → Act → World → Prop} {u w : World} {L : List Row} {z1 z2 : Value} {zz : List Value} {e0 : Array Value} (hO : Own u w L) (fe0_22 : Fit 22 e0) (H : ∀ (n1 : Nat) (n2 : Nat) (w' : World), Own u w' ((n2, vals .u8 32 (fun _ => 0), 22) :: (n1, e0, 22) :: L) → Q .normal { tmps := List.toArray ((.agg e0) :: (.pointer (some ⟨n1, 0, none⟩)) :: (.pointer (some ⟨n2, 0, none⟩)) :: zz), defers := [] } w') :
    (Code.region 0 f34r0Ops false).wp Try.prog Q { tmps := List.toArray ((.agg e0) :: z1 :: z2 :: zz), defers := [] } w := by
  refine wp_region_list (show wpList _ f34r0Ops _ [f34r0Op0, f34r0Op1] _ _ from ?_)
  refine l_new hO (e0) 22 (run_box 22 _ rfl _ (by kernel_rfl)) fe0_22 ?_
  intro n1 w1 hO
  refine l_new hO (vals .u8 32 (fun _ => 0)) 22 (al22 rfl) (fit_by _) ?_
  intro n2 w2 hO
  exact l_fr _ (wpList_nil (H n1 n2 _ hO))
def f34r1Op0 : Oper := ⟨some 3, .indexAddr 22 (.tmp 1) (.const (.int .i64 31)), 0, "law.go:90", #[], none⟩
def f34r1Op1 : Oper := ⟨some 4, .load 5 (.tmp 3), 5, "law.go:90", #[⟨0, .data⟩], none⟩
def f34r1Op2 : Oper := ⟨some 5, .binOp .andNot 5 (.tmp 4) (.const (.int .u8 128)) 5, 5, "law.go:90", #[⟨1, .data⟩], none⟩
def f34r1Op3 : Oper := ⟨some 6, .indexAddr 22 (.tmp 1) (.const (.int .i64 31)), 0, "law.go:90", #[⟨0, .phase⟩, ⟨1, .phase⟩, ⟨2, .phase⟩], none⟩
def f34r1Op4 : Oper := ⟨none, .store 5 (.tmp 6) (.tmp 5), 0, "law.go:90", #[⟨3, .data⟩, ⟨2, .data⟩, ⟨0, .phase⟩, ⟨1, .phase⟩, ⟨2, .phase⟩], none⟩
def f34r1Ops : Array Oper := #[f34r1Op0, f34r1Op1, f34r1Op2, f34r1Op3, f34r1Op4]
set_option maxRecDepth 100000 in
set_option maxHeartbeats 2000000 in
theorem f34r1_r {Q : Exit → Act → World → Prop} {u w : World} {L : List Row} {z0 z2 z3 z4 z5 z6 : Value} {zz : List Value} {b1 : Nat} {c1 : Array Value} {e904 : Array Value} {g4 g5 : Nat} (hO : Own u w L) (i1 : Nat) (h1 : L[i1]? = some (b1, c1, 22)) (v4 : c1[31]? = some (.int .u8 ((g4 : Nat) : Int))) (k5 : ∀ (a : Act) (w : World), a.eval (.tmp 4) = .int .u8 ((g4 : Nat) : Int) → (execOp a.eval f34r1Op2).run Try.prog w = .ok (.value (.int .u8 ((g5 : Nat) : Int))) w) (s4 : c1.setIfInBounds 31 (.int .u8 ((g5 : Nat) : Int)) = e904) (fe904_22 : Fit 22 e904) (H : ∀ (w' : World), Own u w' ((L.set i1 (b1, e904, 22))) → Q .normal { tmps := List.toArray (z0 :: (.pointer (some ⟨b1, 0, none⟩)) :: z2 :: (.pointer (some ⟨b1, 31, none⟩)) :: (.int .u8 ((g4 : Nat) : Int)) :: (.int .u8 ((g5 : Nat) : Int)) :: (.pointer (some ⟨b1, 31, none⟩)) :: zz), defers := [] } w') :
    (Code.region 1 f34r1Ops false).wp Try.prog Q { tmps := List.toArray (z0 :: (.pointer (some ⟨b1, 0, none⟩)) :: z2 :: z3 :: z4 :: z5 :: z6 :: zz), defers := [] } w := by
  refine wp_region_list (show wpList _ f34r1Ops _ [f34r1Op0, f34r1Op1, f34r1Op2, f34r1Op3, f34r1Op4] _ _ from ?_)
  refine l_val (.pointer (some ⟨b1, 31, none⟩)) (by kernel_rfl) ?_
  refine l_c8 hO i1 h1 v4 ?_
  refine l_val (.int .u8 ((g5 : Nat) : Int)) (k5 _ _ (by kernel_rfl)) ?_
  refine l_fr (Fr [z0, D b1, z2, .pointer (some ⟨b1, 31, none⟩), .int .u8 ((g4 : Nat) : Int), .int .u8 ((g5 : Nat) : Int), z6] zz) ?_
  refine l_val (.pointer (some ⟨b1, 31, none⟩)) (by kernel_rfl) ?_
  refine l_stc hO i1 h1 g5 v4 s4 fe904_22 ?_
  intro w1 hO
  exact l_fr _ (wpList_nil (H  _ hO))
def f34r2Op0 : Oper := ⟨some 7, .load 22 (.tmp 1), 22, "law.go:91", #[], none⟩
def f34r2Op1 : Oper := ⟨none, .store 22 (.tmp 2) (.tmp 7), 0, "law.go:91", #[⟨0, .data⟩, ⟨0, .phase⟩], none⟩
def f34r2Ops : Array Oper := #[f34r2Op0, f34r2Op1]
set_option maxRecDepth 100000 in
set_option maxHeartbeats 2000000 in
theorem f34r2_r {Q : Exit → Act → World → Prop} {u w : World} {L : List Row} {z0 z3 z4 z5 z6 z7 : Value} {b1 b2 : Nat} {c1 c2 : Array Value} (hO : Own u w L) (i1 : Nat) (h1 : L[i1]? = some (b1, c1, 22)) (i2 : Nat) (h2 : L[i2]? = some (b2, c2, 22)) (H : ∀ (w' : World), Own u w' ((L.set i2 (b2, c1, 22))) → Q .normal { tmps := List.toArray (z0 :: (.pointer (some ⟨b1, 0, none⟩)) :: (.pointer (some ⟨b2, 0, none⟩)) :: z3 :: z4 :: z5 :: z6 :: (.agg c1) :: []), defers := [] } w') :
    (Code.region 2 f34r2Ops false).wp Try.prog Q { tmps := List.toArray (z0 :: (.pointer (some ⟨b1, 0, none⟩)) :: (.pointer (some ⟨b2, 0, none⟩)) :: z3 :: z4 :: z5 :: z6 :: z7 :: []), defers := [] } w := by
  refine wp_region_list (show wpList _ f34r2Ops _ [f34r2Op0, f34r2Op1] _ _ from ?_)
  have fc1_22 := hO.fits i1 h1
  refine l_ld hO 22 i1 h1 Try.underlying22 ?_
  refine l_st hO 22 i2 h2 c1 fc1_22 ?_
  intro w1 hO
  exact l_fr _ (wpList_nil (H  _ hO))
theorem clr_run34 (a : Act) (w : World) (g : Nat) (hg : g < 256) (h0 : a.eval (.tmp 4) = .int .u8 ((g : Nat) : Int)) : (execOp a.eval f34r1Op2).run Try.prog w = .ok (.value (.int .u8 ((g % 128 : Nat) : Int))) w := by
  unfold execOp f34r1Op2
  simp only [h0]
  have e0 : a.eval (.const (.int .u8 128)) = .int .u8 128 := rfl
  have e := clr128 g hg
  go_simp
set_option maxRecDepth 100000 in
set_option maxHeartbeats 4000000 in
theorem low_c (f : Nat → Nat) (hf : ∀ i, f i < 256) (w : World) : Ret 34 #[.agg (vals .u8 32 f)] w (.agg (vals .u8 32 (cob f))) := by
  go_enter Try.func34, Try.ntmps34
  have hO := Own.start w
  go_upto_region 0 with (fail)
  refine f34r0_r hO (fit_by _) ?_
  intro n1 n2 w1 hO
  replace hO : Own w w1 [(n2, vals .u8 32 (fun _ => 0), 22), (n1, vals .u8 32 f, 22)] := hO
  go_upto_region 1 with (fail)
  refine f34r1_r hO 1 rfl (get_by _ 31 (by omega)) (fun a w h => clr_run34 a w _ (hf 31) h) (set_by _ _ _) (fit_by _) ?_
  intro w2 hO
  replace hO : Own w w2 [(n2, vals .u8 32 (fun _ => 0), 22), (n1, vals .u8 32 (fun j => if j = 31 then f 31 % 128 else f j), 22)] := hO
  replace hO : Own w w2 [(n2, vals .u8 32 (fun _ => 0), 22), (n1, vals .u8 32 (cob f), 22)] := hO
  go_upto_region 2 with (fail)
  refine f34r2_r hO 1 rfl 0 rfl ?_
  intro w3 hO
  replace hO : Own w w3 [(n2, vals .u8 32 (cob f), 22), (n1, vals .u8 32 (cob f), 22)] := hO
  go_wp2_with fail
  refine bodyPost_ret (v := .agg (vals .u8 32 (cob f))) (results_cell_row Try.results34 _ _ n2 22 _ (0, 0) _ rfl (hO.row 0 rfl) Try.underlying22 rfl (fit_by _).size) rfl ⟨rfl, hO.low⟩
theorem dec_back {P : Nat × Nat} (hP : Ok7 P) (w : World) : Ret 12 #[.agg (vals .u8 32 (byt (num7 P)))] w (.tuple #[.agg (pt P), .bool true]) := by
  have h := decode_p (byt (num7 P)) (byt_lt _) w
  rw [nb_byt32 (num7_lt hP), decR_some (dec7_num hP)] at h
  exact h
theorem ix_run31 (f : Nat → Nat) (w : World) : (Instr.index 22 (.agg (vals .u8 32 f)) (.int .i64 31)).run Try.prog w = .ok (.int .u8 ((f 31 : Nat) : Int)) w := by kernel_rfl
theorem ix_run0 (f : Nat → Nat) (w : World) : (Instr.index 22 (.agg (vals .u8 32 f)) (.int .i64 0)).run Try.prog w = .ok (.int .u8 ((f 0 : Nat) : Int)) w := by kernel_rfl
theorem ix31 {a : Act} {o : Oper} {x : Operand} (f : Nat → Nat) (w : World) (ho : o.op = .index 22 x (.const (.int .i64 31))) (hx : a.eval x = .agg (vals .u8 32 f)) : (execOp a.eval o).run Try.prog w = .ok (.value (.int .u8 ((f 31 : Nat) : Int))) w := by
  have e0 : a.eval (.const (.int .i64 31)) = .int .i64 31 := rfl
  have e : (execOp a.eval o).run Try.prog w = ((Instr.index 22 (a.eval x) (a.eval (.const (.int .i64 31)))).run Try.prog w).andThen fun v w' => .ok (.value v) w' := by
    unfold execOp
    simp only [ho, Sem.run_bind, Sem.run_pure]
  rw [e, hx, e0, ix_run31 f w]
  rfl
theorem ix0 {a : Act} {o : Oper} {x : Operand} (f : Nat → Nat) (w : World) (ho : o.op = .index 22 x (.const (.int .i64 0))) (hx : a.eval x = .agg (vals .u8 32 f)) : (execOp a.eval o).run Try.prog w = .ok (.value (.int .u8 ((f 0 : Nat) : Int))) w := by
  have e0 : a.eval (.const (.int .i64 0)) = .int .i64 0 := rfl
  have e : (execOp a.eval o).run Try.prog w = ((Instr.index 22 (a.eval x) (a.eval (.const (.int .i64 0)))).run Try.prog w).andThen fun v w' => .ok (.value v) w' := by
    unfold execOp
    simp only [ho, Sem.run_bind, Sem.run_pure]
  rw [e, hx, e0, ix_run0 f w]
  rfl
theorem eq5_c {ρ : Operand → Value} {o : Oper} (x y : Operand) (m n : Nat) (h : m = n) (w : World) (ho : o.op = .binOp .eql 5 x y 5) (hx : ρ x = .int .u8 ((m : Nat) : Int)) (hy : ρ y = .int .u8 ((n : Nat) : Int)) : (execOp ρ o).run Try.prog w = .ok (.value (.bool true)) w := by
  subst h
  unfold execOp
  simp only [ho, hx, hy]
  go_simp
theorem top_bit {P : Nat × Nat} (hP : Ok7 P) : byt (num7 P) 31 / 128 = byt P.1 0 % 2 := by
  have hp : P.2 < 2 ^ 255 := Nat.lt_of_lt_of_le hP.y (by unfold pP; omega)
  have h1 : P.2 / 2 ^ (8 * 31) < 128 := Nat.div_lt_of_lt_mul (by rw [show 2 ^ (8 * 31) * 128 = 2 ^ 255 by decide +kernel]; exact hp)
  have e0 : byt P.1 0 % 2 = P.1 % 2 := by unfold byt; rw [Nat.mul_zero, Nat.pow_zero, Nat.div_one]; omega
  rw [e0]
  unfold byt num7
  rw [show (2 : Nat) ^ 255 = 2 ^ (8 * 31) * 128 by decide +kernel, Nat.mul_assoc, Nat.add_mul_div_left _ _ (by decide +kernel)]
  omega
theorem load_low {P : Nat × Nat} (hP : Ok7 P) (w : World) : Ret 33 #[.agg (vals .u8 32 (cob (byt (num7 P))))] w (.agg (arr 4 (limb P.2))) := by
  refine load_k _ P.2 (cob_lt _ (byt_lt _)) ?_ w
  have hp : P.2 < 2 ^ 255 := Nat.lt_of_lt_of_le hP.y (by unfold pP; omega)
  rw [nb_cob _ (byt_lt _), nb_byt32 (num7_lt hP)]
  unfold num7
  rw [Nat.add_mul_mod_self_left, Nat.mod_eq_of_lt hp, Nat.mod_eq_of_lt hP.y]
theorem same_one {x : Nat} (hx : x < pP) (w : World) : Ret 32 #[.agg (arr 4 (limb x)), .agg (arr 4 (limb x))] w (.bool true) := by
  have h := same_c x x hx hx w
  rw [decide_eq_true rfl] at h
  exact h
def f6r0Op0 : Oper := ⟨some 3, .box 22 (.tmp 0), 0, "law.go:76", #[], none⟩
def f6r0Op1 : Oper := ⟨some 4, .box 22 (.tmp 1), 0, "law.go:76", #[], none⟩
def f6r0Op2 : Oper := ⟨some 5, .box 22 (.tmp 2), 0, "law.go:76", #[], none⟩
def f6r0Op3 : Oper := ⟨some 6, .assign (.const (.bool false)), 4, "law.go:76", #[], none⟩
def f6r0Ops : Array Oper := #[f6r0Op0, f6r0Op1, f6r0Op2, f6r0Op3]
set_option maxRecDepth 100000 in
set_option maxHeartbeats 2000000 in
theorem f6r0_r {Q : Exit → Act → World → Prop} {u w : World} {L : List Row} {z3 z4 z5 z6 : Value} {zz : List Value} {e0 e1 e2 : Array Value} (hO : Own u w L) (fe0_22 : Fit 22 e0) (fe1_22 : Fit 22 e1) (fe2_22 : Fit 22 e2) (H : ∀ (n3 : Nat) (n4 : Nat) (n5 : Nat) (w' : World), Own u w' ((n5, e2, 22) :: (n4, e1, 22) :: (n3, e0, 22) :: L) → Q .normal { tmps := List.toArray ((.agg e0) :: (.agg e1) :: (.agg e2) :: (.pointer (some ⟨n3, 0, none⟩)) :: (.pointer (some ⟨n4, 0, none⟩)) :: (.pointer (some ⟨n5, 0, none⟩)) :: (.bool false) :: zz), defers := [] } w') :
    (Code.region 0 f6r0Ops false).wp Try.prog Q { tmps := List.toArray ((.agg e0) :: (.agg e1) :: (.agg e2) :: z3 :: z4 :: z5 :: z6 :: zz), defers := [] } w := by
  refine wp_region_list (show wpList _ f6r0Ops _ [f6r0Op0, f6r0Op1, f6r0Op2, f6r0Op3] _ _ from ?_)
  refine l_new hO (e0) 22 (run_box 22 _ rfl _ (by kernel_rfl)) fe0_22 ?_
  intro n3 w1 hO
  refine l_new hO (e1) 22 (run_box 22 _ rfl _ (by kernel_rfl)) fe1_22 ?_
  intro n4 w2 hO
  refine l_new hO (e2) 22 (run_box 22 _ rfl _ (by kernel_rfl)) fe2_22 ?_
  intro n5 w3 hO
  refine l_fr (Fr [A e0, A e1, A e2, D n3, D n4, D n5, z6] zz) ?_
  refine l_val (.bool false) (by kernel_rfl) ?_
  exact l_fr _ (wpList_nil (H n3 n4 n5 _ hO))
def f6r1Op0 : Oper := ⟨some 20, .call { callee := .value (.func 11), args := #[], argTypes := #[] }, 4, "law.go:77", #[], none⟩
def f6r1Op1 : Oper := ⟨some 7, .assign (.tmp 20), 4, "law.go:77", #[⟨0, .data⟩, ⟨0, .chain⟩, ⟨0, .phase⟩], none⟩
def f6r1Ops : Array Oper := #[f6r1Op0, f6r1Op1]
set_option maxRecDepth 100000 in
set_option maxHeartbeats 2000000 in
theorem f6r1_r {Q : Exit → Act → World → Prop} {u w : World} {L : List Row} {z0 z1 z2 z3 z4 z5 z6 z7 z8 z9 z10 z11 z12 z13 z14 z15 z16 z17 z18 z19 z20 : Value} {zz : List Value} {p20 : Bool} (hO : Own u w L) (r20 : ∀ w, Ret 11 #[] w (.bool p20)) (H : ∀ (w' : World), Own u w' (L) → Q .normal { tmps := List.toArray (z0 :: z1 :: z2 :: z3 :: z4 :: z5 :: z6 :: (.bool p20) :: z8 :: z9 :: z10 :: z11 :: z12 :: z13 :: z14 :: z15 :: z16 :: z17 :: z18 :: z19 :: (.bool p20) :: zz), defers := [] } w') :
    (Code.region 1 f6r1Ops false).wp Try.prog Q { tmps := List.toArray (z0 :: z1 :: z2 :: z3 :: z4 :: z5 :: z6 :: z7 :: z8 :: z9 :: z10 :: z11 :: z12 :: z13 :: z14 :: z15 :: z16 :: z17 :: z18 :: z19 :: z20 :: zz), defers := [] } w := by
  refine wp_region_list (show wpList _ f6r1Ops _ [f6r1Op0, f6r1Op1] _ _ from ?_)
  refine l_call hO 11 #[] (.bool p20) r20 ?_
  intro w1 hO
  refine l_val (.bool p20) (by kernel_rfl) ?_
  exact l_fr _ (wpList_nil (H  _ hO))
def f6r2Op0 : Oper := ⟨some 22, .load 22 (.tmp 3), 22, "law.go:78", #[], none⟩
def f6r2Op1 : Oper := ⟨some 23, .call { callee := .value (.func 20), args := #[.tmp 22], argTypes := #[22] }, 45, "law.go:78", #[⟨0, .data⟩], none⟩
def f6r2Op2 : Oper := ⟨some 21, .move (.tmp 23), 45, "law.go:78", #[⟨1, .data⟩], none⟩
def f6r2Op3 : Oper := ⟨some 24, .extract (.tmp 21) 0, 29, "law.go:78", #[⟨2, .data⟩], none⟩
def f6r2Op4 : Oper := ⟨some 25, .extract (.tmp 21) 1, 35, "law.go:78", #[⟨2, .data⟩, ⟨7, .gcOnly .lateStores⟩], none⟩
def f6r2Op5 : Oper := ⟨some 8, .alloc 29, 0, "law.go:78", #[], none⟩
def f6r2Op6 : Oper := ⟨some 9, .alloc 35, 0, "law.go:78", #[], none⟩
def f6r2Op7 : Oper := ⟨none, .store 29 (.tmp 8) (.tmp 24), 0, "law.go:78", #[⟨5, .data⟩, ⟨3, .data⟩, ⟨1, .chain⟩, ⟨0, .phase⟩, ⟨1, .phase⟩, ⟨2, .phase⟩, ⟨3, .phase⟩, ⟨4, .textOnly .lateStores⟩, ⟨5, .phase⟩, ⟨6, .phase⟩], none⟩
def f6r2Op8 : Oper := ⟨none, .store 35 (.tmp 9) (.tmp 25), 0, "law.go:78", #[⟨6, .data⟩, ⟨4, .data⟩, ⟨7, .chain⟩, ⟨0, .phase⟩, ⟨1, .phase⟩, ⟨2, .phase⟩, ⟨3, .phase⟩, ⟨4, .phase⟩, ⟨5, .phase⟩, ⟨6, .phase⟩, ⟨7, .phase⟩], none⟩
def f6r2Ops : Array Oper := #[f6r2Op0, f6r2Op1, f6r2Op2, f6r2Op3, f6r2Op4, f6r2Op5, f6r2Op6, f6r2Op7, f6r2Op8]
set_option maxRecDepth 100000 in
set_option maxHeartbeats 2000000 in
theorem f6r2_r {Q : Exit → Act → World → Prop} {u w : World} {L : List Row} {z0 z1 z2 z4 z5 z6 z7 z8 z9 z10 z11 z12 z13 z14 z15 z16 z17 z18 z19 z20 z21 z22 z23 z24 z25 : Value} {zz : List Value} {b3 : Nat} {c3 : Array Value} {e23a e23b : Array Value} (hO : Own u w L) (i3 : Nat) (h3 : L[i3]? = some (b3, c3, 22)) (r23 : ∀ w, Ret 20 #[.agg c3] w (.tuple #[.agg e23a, .agg e23b])) (fe23a_29 : Fit 29 e23a) (fe23b_35 : Fit 35 e23b) (H : ∀ (n8 : Nat) (n9 : Nat) (w' : World), Own u w' ((n9, e23b, 35) :: (n8, e23a, 29) :: L) → Q .normal { tmps := List.toArray (z0 :: z1 :: z2 :: (.pointer (some ⟨b3, 0, none⟩)) :: z4 :: z5 :: z6 :: z7 :: (.pointer (some ⟨n8, 0, none⟩)) :: (.pointer (some ⟨n9, 0, none⟩)) :: z10 :: z11 :: z12 :: z13 :: z14 :: z15 :: z16 :: z17 :: z18 :: z19 :: z20 :: (.tuple #[.agg e23a, .agg e23b]) :: (.agg c3) :: (.tuple #[.agg e23a, .agg e23b]) :: (.agg e23a) :: (.agg e23b) :: zz), defers := [] } w') :
    (Code.region 2 f6r2Ops false).wp Try.prog Q { tmps := List.toArray (z0 :: z1 :: z2 :: (.pointer (some ⟨b3, 0, none⟩)) :: z4 :: z5 :: z6 :: z7 :: z8 :: z9 :: z10 :: z11 :: z12 :: z13 :: z14 :: z15 :: z16 :: z17 :: z18 :: z19 :: z20 :: z21 :: z22 :: z23 :: z24 :: z25 :: zz), defers := [] } w := by
  refine wp_region_list (show wpList _ f6r2Ops _ [f6r2Op0, f6r2Op1, f6r2Op2, f6r2Op3, f6r2Op4, f6r2Op5, f6r2Op6, f6r2Op7, f6r2Op8] _ _ from ?_)
  refine l_ld hO 22 i3 h3 Try.underlying22 ?_
  refine l_call hO 20 #[.agg c3] (.tuple #[.agg e23a, .agg e23b]) r23 ?_
  intro w1 hO
  refine l_val (.tuple #[.agg e23a, .agg e23b]) (by kernel_rfl) ?_
  refine l_fr (Fr [z0, z1, z2, D b3, z4, z5, z6, z7, z8, z9, z10, z11, z12, z13, z14, z15, z16, z17, z18, z19, z20, .tuple #[.agg e23a, .agg e23b], A c3, .tuple #[.agg e23a, .agg e23b], z24, z25] zz) ?_
  refine l_val (.agg e23a) (by kernel_rfl) ?_
  refine l_val (.agg e23b) (by kernel_rfl) ?_
  refine l_new hO (ps [0, 0]) 29 (al29 rfl) (fit_pt _ _) ?_
  intro n8 w2 hO
  refine l_fr (Fr [z0, z1, z2, D b3, z4, z5, z6, z7, D n8, z9, z10, z11, z12, z13, z14, z15, z16, z17, z18, z19, z20, .tuple #[.agg e23a, .agg e23b], A c3, .tuple #[.agg e23a, .agg e23b], A e23a, A e23b] zz) ?_
  refine l_new hO (qn [0, 0]) 35 (al35 rfl) (fit_rp _ _) ?_
  intro n9 w3 hO
  refine l_st hO 29 1 rfl e23a fe23a_29 ?_
  intro w4 hO
  replace hO : Own u w4 ((n9, qn [0, 0], 35) :: (n8, e23a, 29) :: L) := hO
  refine l_st hO 35 0 rfl e23b fe23b_35 ?_
  intro w5 hO
  exact l_fr _ (wpList_nil (H n8 n9 _ hO))
def f6r3Op0 : Oper := ⟨some 27, .load 22 (.tmp 4), 22, "law.go:79", #[], none⟩
def f6r3Op1 : Oper := ⟨some 28, .call { callee := .value (.func 20), args := #[.tmp 27], argTypes := #[22] }, 45, "law.go:79", #[⟨0, .data⟩], none⟩
def f6r3Op2 : Oper := ⟨some 26, .move (.tmp 28), 45, "law.go:79", #[⟨1, .data⟩], none⟩
def f6r3Op3 : Oper := ⟨some 29, .extract (.tmp 26) 0, 29, "law.go:79", #[⟨2, .data⟩], none⟩
def f6r3Op4 : Oper := ⟨some 30, .extract (.tmp 26) 1, 35, "law.go:79", #[⟨2, .data⟩, ⟨7, .gcOnly .lateStores⟩], none⟩
def f6r3Op5 : Oper := ⟨some 10, .alloc 29, 0, "law.go:79", #[], none⟩
def f6r3Op6 : Oper := ⟨some 11, .alloc 35, 0, "law.go:79", #[], none⟩
def f6r3Op7 : Oper := ⟨none, .store 29 (.tmp 10) (.tmp 29), 0, "law.go:79", #[⟨5, .data⟩, ⟨3, .data⟩, ⟨1, .chain⟩, ⟨0, .phase⟩, ⟨1, .phase⟩, ⟨2, .phase⟩, ⟨3, .phase⟩, ⟨4, .textOnly .lateStores⟩, ⟨5, .phase⟩, ⟨6, .phase⟩], none⟩
def f6r3Op8 : Oper := ⟨none, .store 35 (.tmp 11) (.tmp 30), 0, "law.go:79", #[⟨6, .data⟩, ⟨4, .data⟩, ⟨7, .chain⟩, ⟨0, .phase⟩, ⟨1, .phase⟩, ⟨2, .phase⟩, ⟨3, .phase⟩, ⟨4, .phase⟩, ⟨5, .phase⟩, ⟨6, .phase⟩, ⟨7, .phase⟩], none⟩
def f6r3Ops : Array Oper := #[f6r3Op0, f6r3Op1, f6r3Op2, f6r3Op3, f6r3Op4, f6r3Op5, f6r3Op6, f6r3Op7, f6r3Op8]
set_option maxRecDepth 100000 in
set_option maxHeartbeats 2000000 in
theorem f6r3_r {Q : Exit → Act → World → Prop} {u w : World} {L : List Row} {z0 z1 z2 z3 z5 z6 z7 z8 z9 z10 z11 z12 z13 z14 z15 z16 z17 z18 z19 z20 z21 z22 z23 z24 z25 z26 z27 z28 z29 z30 : Value} {zz : List Value} {b4 : Nat} {c4 : Array Value} {e28a e28b : Array Value} (hO : Own u w L) (i4 : Nat) (h4 : L[i4]? = some (b4, c4, 22)) (r28 : ∀ w, Ret 20 #[.agg c4] w (.tuple #[.agg e28a, .agg e28b])) (fe28a_29 : Fit 29 e28a) (fe28b_35 : Fit 35 e28b) (H : ∀ (n10 : Nat) (n11 : Nat) (w' : World), Own u w' ((n11, e28b, 35) :: (n10, e28a, 29) :: L) → Q .normal { tmps := List.toArray (z0 :: z1 :: z2 :: z3 :: (.pointer (some ⟨b4, 0, none⟩)) :: z5 :: z6 :: z7 :: z8 :: z9 :: (.pointer (some ⟨n10, 0, none⟩)) :: (.pointer (some ⟨n11, 0, none⟩)) :: z12 :: z13 :: z14 :: z15 :: z16 :: z17 :: z18 :: z19 :: z20 :: z21 :: z22 :: z23 :: z24 :: z25 :: (.tuple #[.agg e28a, .agg e28b]) :: (.agg c4) :: (.tuple #[.agg e28a, .agg e28b]) :: (.agg e28a) :: (.agg e28b) :: zz), defers := [] } w') :
    (Code.region 3 f6r3Ops false).wp Try.prog Q { tmps := List.toArray (z0 :: z1 :: z2 :: z3 :: (.pointer (some ⟨b4, 0, none⟩)) :: z5 :: z6 :: z7 :: z8 :: z9 :: z10 :: z11 :: z12 :: z13 :: z14 :: z15 :: z16 :: z17 :: z18 :: z19 :: z20 :: z21 :: z22 :: z23 :: z24 :: z25 :: z26 :: z27 :: z28 :: z29 :: z30 :: zz), defers := [] } w := by
  refine wp_region_list (show wpList _ f6r3Ops _ [f6r3Op0, f6r3Op1, f6r3Op2, f6r3Op3, f6r3Op4, f6r3Op5, f6r3Op6, f6r3Op7, f6r3Op8] _ _ from ?_)
  refine l_ld hO 22 i4 h4 Try.underlying22 ?_
  refine l_call hO 20 #[.agg c4] (.tuple #[.agg e28a, .agg e28b]) r28 ?_
  intro w1 hO
  refine l_val (.tuple #[.agg e28a, .agg e28b]) (by kernel_rfl) ?_
  refine l_fr (Fr [z0, z1, z2, z3, D b4, z5, z6, z7, z8, z9, z10, z11, z12, z13, z14, z15, z16, z17, z18, z19, z20, z21, z22, z23, z24, z25, .tuple #[.agg e28a, .agg e28b], A c4, .tuple #[.agg e28a, .agg e28b], z29, z30] zz) ?_
  refine l_val (.agg e28a) (by kernel_rfl) ?_
  refine l_val (.agg e28b) (by kernel_rfl) ?_
  refine l_new hO (ps [0, 0]) 29 (al29 rfl) (fit_pt _ _) ?_
  intro n10 w2 hO
  refine l_fr (Fr [z0, z1, z2, z3, D b4, z5, z6, z7, z8, z9, D n10, z11, z12, z13, z14, z15, z16, z17, z18, z19, z20, z21, z22, z23, z24, z25, .tuple #[.agg e28a, .agg e28b], A c4, .tuple #[.agg e28a, .agg e28b], A e28a, A e28b] zz) ?_
  refine l_new hO (qn [0, 0]) 35 (al35 rfl) (fit_rp _ _) ?_
  intro n11 w3 hO
  refine l_st hO 29 1 rfl e28a fe28a_29 ?_
  intro w4 hO
  replace hO : Own u w4 ((n11, qn [0, 0], 35) :: (n10, e28a, 29) :: L) := hO
  refine l_st hO 35 0 rfl e28b fe28b_35 ?_
  intro w5 hO
  exact l_fr _ (wpList_nil (H n10 n11 _ hO))
def f6r4Op0 : Oper := ⟨some 32, .load 22 (.tmp 5), 22, "law.go:80", #[], none⟩
def f6r4Op1 : Oper := ⟨some 33, .call { callee := .value (.func 20), args := #[.tmp 32], argTypes := #[22] }, 45, "law.go:80", #[⟨0, .data⟩], none⟩
def f6r4Op2 : Oper := ⟨some 31, .move (.tmp 33), 45, "law.go:80", #[⟨1, .data⟩], none⟩
def f6r4Op3 : Oper := ⟨some 34, .extract (.tmp 31) 0, 29, "law.go:80", #[⟨2, .data⟩], none⟩
def f6r4Op4 : Oper := ⟨some 35, .extract (.tmp 31) 1, 35, "law.go:80", #[⟨2, .data⟩, ⟨7, .gcOnly .lateStores⟩], none⟩
def f6r4Op5 : Oper := ⟨some 12, .alloc 29, 0, "law.go:80", #[], none⟩
def f6r4Op6 : Oper := ⟨some 13, .alloc 35, 0, "law.go:80", #[], none⟩
def f6r4Op7 : Oper := ⟨none, .store 29 (.tmp 12) (.tmp 34), 0, "law.go:80", #[⟨5, .data⟩, ⟨3, .data⟩, ⟨1, .chain⟩, ⟨0, .phase⟩, ⟨1, .phase⟩, ⟨2, .phase⟩, ⟨3, .phase⟩, ⟨4, .textOnly .lateStores⟩, ⟨5, .phase⟩, ⟨6, .phase⟩], none⟩
def f6r4Op8 : Oper := ⟨none, .store 35 (.tmp 13) (.tmp 35), 0, "law.go:80", #[⟨6, .data⟩, ⟨4, .data⟩, ⟨7, .chain⟩, ⟨0, .phase⟩, ⟨1, .phase⟩, ⟨2, .phase⟩, ⟨3, .phase⟩, ⟨4, .phase⟩, ⟨5, .phase⟩, ⟨6, .phase⟩, ⟨7, .phase⟩], none⟩
def f6r4Ops : Array Oper := #[f6r4Op0, f6r4Op1, f6r4Op2, f6r4Op3, f6r4Op4, f6r4Op5, f6r4Op6, f6r4Op7, f6r4Op8]
set_option maxRecDepth 100000 in
set_option maxHeartbeats 2000000 in
theorem f6r4_r {Q : Exit → Act → World → Prop} {u w : World} {L : List Row} {z0 z1 z2 z3 z4 z6 z7 z8 z9 z10 z11 z12 z13 z14 z15 z16 z17 z18 z19 z20 z21 z22 z23 z24 z25 z26 z27 z28 z29 z30 z31 z32 z33 z34 z35 : Value} {zz : List Value} {b5 : Nat} {c5 : Array Value} {e33a e33b : Array Value} (hO : Own u w L) (i5 : Nat) (h5 : L[i5]? = some (b5, c5, 22)) (r33 : ∀ w, Ret 20 #[.agg c5] w (.tuple #[.agg e33a, .agg e33b])) (fe33a_29 : Fit 29 e33a) (fe33b_35 : Fit 35 e33b) (H : ∀ (n12 : Nat) (n13 : Nat) (w' : World), Own u w' ((n13, e33b, 35) :: (n12, e33a, 29) :: L) → Q .normal { tmps := List.toArray (z0 :: z1 :: z2 :: z3 :: z4 :: (.pointer (some ⟨b5, 0, none⟩)) :: z6 :: z7 :: z8 :: z9 :: z10 :: z11 :: (.pointer (some ⟨n12, 0, none⟩)) :: (.pointer (some ⟨n13, 0, none⟩)) :: z14 :: z15 :: z16 :: z17 :: z18 :: z19 :: z20 :: z21 :: z22 :: z23 :: z24 :: z25 :: z26 :: z27 :: z28 :: z29 :: z30 :: (.tuple #[.agg e33a, .agg e33b]) :: (.agg c5) :: (.tuple #[.agg e33a, .agg e33b]) :: (.agg e33a) :: (.agg e33b) :: zz), defers := [] } w') :
    (Code.region 4 f6r4Ops false).wp Try.prog Q { tmps := List.toArray (z0 :: z1 :: z2 :: z3 :: z4 :: (.pointer (some ⟨b5, 0, none⟩)) :: z6 :: z7 :: z8 :: z9 :: z10 :: z11 :: z12 :: z13 :: z14 :: z15 :: z16 :: z17 :: z18 :: z19 :: z20 :: z21 :: z22 :: z23 :: z24 :: z25 :: z26 :: z27 :: z28 :: z29 :: z30 :: z31 :: z32 :: z33 :: z34 :: z35 :: zz), defers := [] } w := by
  refine wp_region_list (show wpList _ f6r4Ops _ [f6r4Op0, f6r4Op1, f6r4Op2, f6r4Op3, f6r4Op4, f6r4Op5, f6r4Op6, f6r4Op7, f6r4Op8] _ _ from ?_)
  refine l_ld hO 22 i5 h5 Try.underlying22 ?_
  refine l_call hO 20 #[.agg c5] (.tuple #[.agg e33a, .agg e33b]) r33 ?_
  intro w1 hO
  refine l_val (.tuple #[.agg e33a, .agg e33b]) (by kernel_rfl) ?_
  refine l_fr (Fr [z0, z1, z2, z3, z4, D b5, z6, z7, z8, z9, z10, z11, z12, z13, z14, z15, z16, z17, z18, z19, z20, z21, z22, z23, z24, z25, z26, z27, z28, z29, z30, .tuple #[.agg e33a, .agg e33b], A c5, .tuple #[.agg e33a, .agg e33b], z34, z35] zz) ?_
  refine l_val (.agg e33a) (by kernel_rfl) ?_
  refine l_val (.agg e33b) (by kernel_rfl) ?_
  refine l_new hO (ps [0, 0]) 29 (al29 rfl) (fit_pt _ _) ?_
  intro n12 w2 hO
  refine l_fr (Fr [z0, z1, z2, z3, z4, D b5, z6, z7, z8, z9, z10, z11, D n12, z13, z14, z15, z16, z17, z18, z19, z20, z21, z22, z23, z24, z25, z26, z27, z28, z29, z30, .tuple #[.agg e33a, .agg e33b], A c5, .tuple #[.agg e33a, .agg e33b], A e33a, A e33b] zz) ?_
  refine l_new hO (qn [0, 0]) 35 (al35 rfl) (fit_rp _ _) ?_
  intro n13 w3 hO
  refine l_st hO 29 1 rfl e33a fe33a_29 ?_
  intro w4 hO
  replace hO : Own u w4 ((n13, qn [0, 0], 35) :: (n12, e33a, 29) :: L) := hO
  refine l_st hO 35 0 rfl e33b fe33b_35 ?_
  intro w5 hO
  exact l_fr _ (wpList_nil (H n12 n13 _ hO))
def f6r5Op0 : Oper := ⟨some 36, .load 29 (.tmp 8), 29, "law.go:81", #[], none⟩
def f6r5Op1 : Oper := ⟨some 37, .load 29 (.tmp 10), 29, "law.go:81", #[], none⟩
def f6r5Op2 : Oper := ⟨some 38, .call { callee := .value (.func 21), args := #[.tmp 36, .tmp 37], argTypes := #[29, 29] }, 29, "law.go:81", #[⟨0, .data⟩, ⟨1, .data⟩], none⟩
def f6r5Op3 : Oper := ⟨some 39, .load 29 (.tmp 10), 29, "law.go:81", #[], none⟩
def f6r5Op4 : Oper := ⟨some 40, .load 29 (.tmp 8), 29, "law.go:81", #[], none⟩
def f6r5Op5 : Oper := ⟨some 41, .call { callee := .value (.func 21), args := #[.tmp 39, .tmp 40], argTypes := #[29, 29] }, 29, "law.go:81", #[⟨3, .data⟩, ⟨4, .data⟩, ⟨2, .chain⟩], none⟩
def f6r5Op6 : Oper := ⟨some 42, .call { callee := .value (.func 18), args := #[.tmp 38, .tmp 41], argTypes := #[29, 29] }, 4, "law.go:81", #[⟨2, .data⟩, ⟨5, .data⟩, ⟨5, .chain⟩], none⟩
def f6r5Op7 : Oper := ⟨some 43, .move (.tmp 42), 4, "law.go:81", #[⟨6, .data⟩, ⟨6, .chain⟩], none⟩
def f6r5Op8 : Oper := ⟨some 44, .load 29 (.tmp 8), 29, "law.go:81", #[⟨7, .guard⟩], some (7, true)⟩
def f6r5Op9 : Oper := ⟨some 45, .load 29 (.tmp 10), 29, "law.go:81", #[⟨7, .guard⟩], some (7, true)⟩
def f6r5Op10 : Oper := ⟨some 46, .call { callee := .value (.func 21), args := #[.tmp 44, .tmp 45], argTypes := #[29, 29] }, 29, "law.go:81", #[⟨8, .data⟩, ⟨9, .data⟩, ⟨7, .chain⟩, ⟨7, .guard⟩], some (7, true)⟩
def f6r5Op11 : Oper := ⟨some 47, .load 29 (.tmp 12), 29, "law.go:81", #[⟨7, .guard⟩], some (7, true)⟩
def f6r5Op12 : Oper := ⟨some 48, .call { callee := .value (.func 21), args := #[.tmp 46, .tmp 47], argTypes := #[29, 29] }, 29, "law.go:81", #[⟨10, .data⟩, ⟨11, .data⟩, ⟨10, .chain⟩, ⟨7, .guard⟩], some (7, true)⟩
def f6r5Op13 : Oper := ⟨some 49, .load 29 (.tmp 8), 29, "law.go:81", #[⟨7, .guard⟩], some (7, true)⟩
def f6r5Op14 : Oper := ⟨some 50, .load 29 (.tmp 10), 29, "law.go:81", #[⟨7, .guard⟩], some (7, true)⟩
def f6r5Op15 : Oper := ⟨some 51, .load 29 (.tmp 12), 29, "law.go:81", #[⟨7, .guard⟩], some (7, true)⟩
def f6r5Op16 : Oper := ⟨some 52, .call { callee := .value (.func 21), args := #[.tmp 50, .tmp 51], argTypes := #[29, 29] }, 29, "law.go:81", #[⟨14, .data⟩, ⟨15, .data⟩, ⟨12, .chain⟩, ⟨7, .guard⟩], some (7, true)⟩
def f6r5Op17 : Oper := ⟨some 53, .call { callee := .value (.func 21), args := #[.tmp 49, .tmp 52], argTypes := #[29, 29] }, 29, "law.go:81", #[⟨13, .data⟩, ⟨16, .data⟩, ⟨16, .chain⟩, ⟨7, .guard⟩], some (7, true)⟩
def f6r5Op18 : Oper := ⟨some 54, .call { callee := .value (.func 18), args := #[.tmp 48, .tmp 53], argTypes := #[29, 29] }, 4, "law.go:81", #[⟨12, .data⟩, ⟨17, .data⟩, ⟨17, .chain⟩, ⟨7, .guard⟩], some (7, true)⟩
def f6r5Op19 : Oper := ⟨some 55, .pick (.tmp 43) (.tmp 54) (.const (.bool false)), 4, "law.go:81", #[⟨7, .data⟩, ⟨18, .data⟩], none⟩
def f6r5Op20 : Oper := ⟨some 14, .assign (.tmp 55), 4, "law.go:81", #[⟨19, .data⟩, ⟨18, .chain⟩, ⟨0, .phase⟩, ⟨1, .phase⟩, ⟨2, .phase⟩, ⟨3, .phase⟩, ⟨4, .phase⟩, ⟨5, .phase⟩, ⟨6, .phase⟩, ⟨7, .phase⟩, ⟨8, .phase⟩, ⟨9, .phase⟩, ⟨10, .phase⟩, ⟨11, .phase⟩, ⟨12, .phase⟩, ⟨13, .phase⟩, ⟨14, .phase⟩, ⟨15, .phase⟩, ⟨16, .phase⟩, ⟨17, .phase⟩, ⟨18, .phase⟩, ⟨19, .phase⟩], none⟩
def f6r5Ops : Array Oper := #[f6r5Op0, f6r5Op1, f6r5Op2, f6r5Op3, f6r5Op4, f6r5Op5, f6r5Op6, f6r5Op7, f6r5Op8, f6r5Op9, f6r5Op10, f6r5Op11, f6r5Op12, f6r5Op13, f6r5Op14, f6r5Op15, f6r5Op16, f6r5Op17, f6r5Op18, f6r5Op19, f6r5Op20]
set_option maxRecDepth 100000 in
set_option maxHeartbeats 2000000 in
theorem f6r5_r {Q : Exit → Act → World → Prop} {u w : World} {L : List Row} {z0 z1 z2 z3 z4 z5 z6 z7 z9 z11 z13 z14 z15 z16 z17 z18 z19 z20 z21 z22 z23 z24 z25 z26 z27 z28 z29 z30 z31 z32 z33 z34 z35 z36 z37 z38 z39 z40 z41 z42 z43 z44 z45 z46 z47 z48 z49 z50 z51 z52 z53 z54 z55 : Value} {zz : List Value} {b8 b10 b12 : Nat} {c8 c10 c12 : Array Value} {e38 e41 e46 e48 e52 e53 : Array Value} (hQ : ∀ c a w n v, Q (.panic c) (a.put (some n) v) w → Q (.panic c) a w) (hO : Own u w L) (i8 : Nat) (h8 : L[i8]? = some (b8, c8, 29)) (i10 : Nat) (h10 : L[i10]? = some (b10, c10, 29)) (i12 : Nat) (h12 : L[i12]? = some (b12, c12, 29)) (r38 : ∀ w, Ret 21 #[.agg c8, .agg c10] w (.agg e38)) (r41 : ∀ w, Ret 21 #[.agg c10, .agg c8] w (.agg e41)) (r42 : ∀ w, Ret 18 #[.agg e38, .agg e41] w (.bool true)) (r46 : ∀ w, Ret 21 #[.agg c8, .agg c10] w (.agg e46)) (r48 : ∀ w, Ret 21 #[.agg e46, .agg c12] w (.agg e48)) (r52 : ∀ w, Ret 21 #[.agg c10, .agg c12] w (.agg e52)) (r53 : ∀ w, Ret 21 #[.agg c8, .agg e52] w (.agg e53)) (r54 : ∀ w, Ret 18 #[.agg e48, .agg e53] w (.bool true)) (H : ∀ (w' : World), Own u w' (L) → Q .normal { tmps := List.toArray (z0 :: z1 :: z2 :: z3 :: z4 :: z5 :: z6 :: z7 :: (.pointer (some ⟨b8, 0, none⟩)) :: z9 :: (.pointer (some ⟨b10, 0, none⟩)) :: z11 :: (.pointer (some ⟨b12, 0, none⟩)) :: z13 :: (.bool true) :: z15 :: z16 :: z17 :: z18 :: z19 :: z20 :: z21 :: z22 :: z23 :: z24 :: z25 :: z26 :: z27 :: z28 :: z29 :: z30 :: z31 :: z32 :: z33 :: z34 :: z35 :: (.agg c8) :: (.agg c10) :: (.agg e38) :: (.agg c10) :: (.agg c8) :: (.agg e41) :: (.bool true) :: (.bool true) :: (.agg c8) :: (.agg c10) :: (.agg e46) :: (.agg c12) :: (.agg e48) :: (.agg c8) :: (.agg c10) :: (.agg c12) :: (.agg e52) :: (.agg e53) :: (.bool true) :: (.bool true) :: zz), defers := [] } w') :
    (Code.region 5 f6r5Ops true).wp Try.prog Q { tmps := List.toArray (z0 :: z1 :: z2 :: z3 :: z4 :: z5 :: z6 :: z7 :: (.pointer (some ⟨b8, 0, none⟩)) :: z9 :: (.pointer (some ⟨b10, 0, none⟩)) :: z11 :: (.pointer (some ⟨b12, 0, none⟩)) :: z13 :: z14 :: z15 :: z16 :: z17 :: z18 :: z19 :: z20 :: z21 :: z22 :: z23 :: z24 :: z25 :: z26 :: z27 :: z28 :: z29 :: z30 :: z31 :: z32 :: z33 :: z34 :: z35 :: z36 :: z37 :: z38 :: z39 :: z40 :: z41 :: z42 :: z43 :: z44 :: z45 :: z46 :: z47 :: z48 :: z49 :: z50 :: z51 :: z52 :: z53 :: z54 :: z55 :: zz), defers := [] } w := by
  have fc8_29 := hO.fits i8 h8
  have fc10_29 := hO.fits i10 h10
  have fc12_29 := hO.fits i12 h12
  refine wp_region_held_drew (S := Has [(b8, c8, 29), (b10, c10, 29), (b12, c12, 29)]) (by kernel_rfl) ⟨hO.drew.row _ h8, hO.drew.row _ h10, hO.drew.row _ h12, trivial⟩ (fun hS => ?_)
  replace hO := hO.drew
  refine d_tk 0 f6r5Op0 (.agg c8) hQ (y_l 29 (fun _ h => h.1) fc8_29 Try.underlying29) hS ?_
  refine d_tk 1 f6r5Op1 (.agg c10) hQ (y_l 29 (fun _ h => h.2.1) fc10_29 Try.underlying29) hS ?_
  refine d_tk 3 f6r5Op3 (.agg c10) hQ (y_l 29 (fun _ h => h.2.1) fc10_29 Try.underlying29) hS ?_
  refine d_fr (ls 21 11) (Fr [z0, z1, z2, z3, z4, z5, z6, z7, D b8, z9, D b10, z11, D b12, z13, z14, z15, z16, z17, z18, z19, z20, z21, z22, z23, z24, z25, z26, z27, z28, z29, z30, z31, z32, z33, z34, z35, A c8, A c10, z38, A c10, z40, z41, z42, z43, z44, z45, z46, z47, z48, z49, z50, z51, z52, z53, z54, z55] zz) ?_
  refine d_tk 4 f6r5Op4 (.agg c8) hQ (y_l 29 (fun _ h => h.1) fc8_29 Try.underlying29) hS ?_
  refine d_fr (ls 21 27) (Fr [z0, z1, z2, z3, z4, z5, z6, z7, D b8, z9, D b10, z11, D b12, z13, z14, z15, z16, z17, z18, z19, z20, z21, z22, z23, z24, z25, z26, z27, z28, z29, z30, z31, z32, z33, z34, z35, A c8, A c10, z38, A c10, A c8, z41, z42, z43, z44, z45, z46, z47, z48, z49, z50, z51, z52, z53, z54, z55] zz) ?_
  refine d_one 2 f6r5Op2 (ls 21 31) (fun K hK => ?_)
  refine k_call hK hO (fun _ hO => ⟨hO.row _ h8, hO.row _ h10, hO.row _ h12, trivial⟩) 21 #[.agg c8, .agg c10] (.agg e38) r38 ?_
  intro w1 hO
  refine d_one 5 f6r5Op5 (ls 21 63) (fun K hK => ?_)
  refine k_call hK hO (fun _ hO => ⟨hO.row _ h8, hO.row _ h10, hO.row _ h12, trivial⟩) 21 #[.agg c10, .agg c8] (.agg e41) r41 ?_
  intro w2 hO
  refine d_one 6 f6r5Op6 (ls 21 127) (fun K hK => ?_)
  refine k_call hK hO (fun _ hO => ⟨hO.row _ h8, hO.row _ h10, hO.row _ h12, trivial⟩) 18 #[.agg e38, .agg e41] (.bool true) r42 ?_
  intro w3 hO
  have hS : Has [(b8, c8, 29), (b10, c10, 29), (b12, c12, 29)] w3 := ⟨hO.row _ h8, hO.row _ h10, hO.row _ h12, trivial⟩
  refine d_tk 7 f6r5Op7 (.bool true) hQ (y_val (fun _ => by kernel_rfl)) hS ?_
  refine d_tk 8 f6r5Op8 (.agg c8) hQ (y_l 29 (fun _ h => h.1) fc8_29 Try.underlying29) hS ?_
  refine d_tk 9 f6r5Op9 (.agg c10) hQ (y_l 29 (fun _ h => h.2.1) fc10_29 Try.underlying29) hS ?_
  refine d_fr (ls 21 1023) (Fr [z0, z1, z2, z3, z4, z5, z6, z7, D b8, z9, D b10, z11, D b12, z13, z14, z15, z16, z17, z18, z19, z20, z21, z22, z23, z24, z25, z26, z27, z28, z29, z30, z31, z32, z33, z34, z35, A c8, A c10, A e38, A c10, A c8, A e41, .bool true, .bool true, A c8, A c10, z46, z47, z48, z49, z50, z51, z52, z53, z54, z55] zz) ?_
  refine d_tk 11 f6r5Op11 (.agg c12) hQ (y_l 29 (fun _ h => h.2.2.1) fc12_29 Try.underlying29) hS ?_
  refine d_tk 13 f6r5Op13 (.agg c8) hQ (y_l 29 (fun _ h => h.1) fc8_29 Try.underlying29) hS ?_
  refine d_tk 14 f6r5Op14 (.agg c10) hQ (y_l 29 (fun _ h => h.2.1) fc10_29 Try.underlying29) hS ?_
  refine d_fr (ls 21 27647) (Fr [z0, z1, z2, z3, z4, z5, z6, z7, D b8, z9, D b10, z11, D b12, z13, z14, z15, z16, z17, z18, z19, z20, z21, z22, z23, z24, z25, z26, z27, z28, z29, z30, z31, z32, z33, z34, z35, A c8, A c10, A e38, A c10, A c8, A e41, .bool true, .bool true, A c8, A c10, z46, A c12, z48, A c8, A c10, z51, z52, z53, z54, z55] zz) ?_
  refine d_tk 15 f6r5Op15 (.agg c12) hQ (y_l 29 (fun _ h => h.2.2.1) fc12_29 Try.underlying29) hS ?_
  refine d_fr (ls 21 60415) (Fr [z0, z1, z2, z3, z4, z5, z6, z7, D b8, z9, D b10, z11, D b12, z13, z14, z15, z16, z17, z18, z19, z20, z21, z22, z23, z24, z25, z26, z27, z28, z29, z30, z31, z32, z33, z34, z35, A c8, A c10, A e38, A c10, A c8, A e41, .bool true, .bool true, A c8, A c10, z46, A c12, z48, A c8, A c10, A c12, z52, z53, z54, z55] zz) ?_
  refine d_one 10 f6r5Op10 (ls 21 61439) (fun K hK => ?_)
  refine k_call hK hO (fun _ hO => ⟨hO.row _ h8, hO.row _ h10, hO.row _ h12, trivial⟩) 21 #[.agg c8, .agg c10] (.agg e46) r46 ?_
  intro w4 hO
  refine d_one 12 f6r5Op12 (ls 21 65535) (fun K hK => ?_)
  refine k_call hK hO (fun _ hO => ⟨hO.row _ h8, hO.row _ h10, hO.row _ h12, trivial⟩) 21 #[.agg e46, .agg c12] (.agg e48) r48 ?_
  intro w5 hO
  refine d_one 16 f6r5Op16 (ls 21 131071) (fun K hK => ?_)
  refine k_call hK hO (fun _ hO => ⟨hO.row _ h8, hO.row _ h10, hO.row _ h12, trivial⟩) 21 #[.agg c10, .agg c12] (.agg e52) r52 ?_
  intro w6 hO
  refine d_fr (ls 21 131071) (Fr [z0, z1, z2, z3, z4, z5, z6, z7, D b8, z9, D b10, z11, D b12, z13, z14, z15, z16, z17, z18, z19, z20, z21, z22, z23, z24, z25, z26, z27, z28, z29, z30, z31, z32, z33, z34, z35, A c8, A c10, A e38, A c10, A c8, A e41, .bool true, .bool true, A c8, A c10, A e46, A c12, A e48, A c8, A c10, A c12, A e52, z53, z54, z55] zz) ?_
  refine d_one 17 f6r5Op17 (ls 21 262143) (fun K hK => ?_)
  refine k_call hK hO (fun _ hO => ⟨hO.row _ h8, hO.row _ h10, hO.row _ h12, trivial⟩) 21 #[.agg c8, .agg e52] (.agg e53) r53 ?_
  intro w7 hO
  refine d_one 18 f6r5Op18 (ls 21 524287) (fun K hK => ?_)
  refine k_call hK hO (fun _ hO => ⟨hO.row _ h8, hO.row _ h10, hO.row _ h12, trivial⟩) 18 #[.agg e48, .agg e53] (.bool true) r54 ?_
  intro w8 hO
  have hS : Has [(b8, c8, 29), (b10, c10, 29), (b12, c12, 29)] w8 := ⟨hO.row _ h8, hO.row _ h10, hO.row _ h12, trivial⟩
  refine d_tk 19 f6r5Op19 (.bool true) hQ (y_val (fun _ => by kernel_rfl)) hS ?_
  refine d_tk 20 f6r5Op20 (.bool true) hQ (y_val (fun _ => by kernel_rfl)) hS ?_
  exact d_fr (ls 21 2097151) _ (wpAnyH_done (by kernel_rfl) (H  _ hO) _)
def f6r6Op0 : Oper := ⟨some 56, .load 29 (.tmp 8), 29, "law.go:82", #[], none⟩
def f6r6Op1 : Oper := ⟨some 57, .call { callee := .value (.func 19), args := #[], argTypes := #[] }, 29, "law.go:82", #[], none⟩
def f6r6Op2 : Oper := ⟨some 58, .call { callee := .value (.func 21), args := #[.tmp 56, .tmp 57], argTypes := #[29, 29] }, 29, "law.go:82", #[⟨0, .data⟩, ⟨1, .data⟩, ⟨1, .chain⟩], none⟩
def f6r6Op3 : Oper := ⟨some 59, .load 29 (.tmp 8), 29, "law.go:82", #[], none⟩
def f6r6Op4 : Oper := ⟨some 60, .call { callee := .value (.func 18), args := #[.tmp 58, .tmp 59], argTypes := #[29, 29] }, 4, "law.go:82", #[⟨2, .data⟩, ⟨3, .data⟩, ⟨2, .chain⟩], none⟩
def f6r6Op5 : Oper := ⟨some 61, .move (.tmp 60), 4, "law.go:82", #[⟨4, .data⟩, ⟨4, .chain⟩], none⟩
def f6r6Op6 : Oper := ⟨some 62, .load 29 (.tmp 8), 29, "law.go:82", #[⟨5, .guard⟩], some (5, true)⟩
def f6r6Op7 : Oper := ⟨some 63, .load 29 (.tmp 8), 29, "law.go:82", #[⟨5, .guard⟩], some (5, true)⟩
def f6r6Op8 : Oper := ⟨some 64, .call { callee := .value (.func 25), args := #[.tmp 63], argTypes := #[29] }, 29, "law.go:82", #[⟨7, .data⟩, ⟨5, .chain⟩, ⟨5, .guard⟩], some (5, true)⟩
def f6r6Op9 : Oper := ⟨some 65, .call { callee := .value (.func 21), args := #[.tmp 62, .tmp 64], argTypes := #[29, 29] }, 29, "law.go:82", #[⟨6, .data⟩, ⟨8, .data⟩, ⟨8, .chain⟩, ⟨5, .guard⟩], some (5, true)⟩
def f6r6Op10 : Oper := ⟨some 66, .call { callee := .value (.func 19), args := #[], argTypes := #[] }, 29, "law.go:82", #[⟨9, .chain⟩, ⟨5, .guard⟩], some (5, true)⟩
def f6r6Op11 : Oper := ⟨some 67, .call { callee := .value (.func 18), args := #[.tmp 65, .tmp 66], argTypes := #[29, 29] }, 4, "law.go:82", #[⟨9, .data⟩, ⟨10, .data⟩, ⟨10, .chain⟩, ⟨5, .guard⟩], some (5, true)⟩
def f6r6Op12 : Oper := ⟨some 68, .pick (.tmp 61) (.tmp 67) (.const (.bool false)), 4, "law.go:82", #[⟨5, .data⟩, ⟨11, .data⟩], none⟩
def f6r6Op13 : Oper := ⟨some 15, .assign (.tmp 68), 4, "law.go:82", #[⟨12, .data⟩, ⟨11, .chain⟩, ⟨0, .phase⟩, ⟨1, .phase⟩, ⟨2, .phase⟩, ⟨3, .phase⟩, ⟨4, .phase⟩, ⟨5, .phase⟩, ⟨6, .phase⟩, ⟨7, .phase⟩, ⟨8, .phase⟩, ⟨9, .phase⟩, ⟨10, .phase⟩, ⟨11, .phase⟩, ⟨12, .phase⟩], none⟩
def f6r6Ops : Array Oper := #[f6r6Op0, f6r6Op1, f6r6Op2, f6r6Op3, f6r6Op4, f6r6Op5, f6r6Op6, f6r6Op7, f6r6Op8, f6r6Op9, f6r6Op10, f6r6Op11, f6r6Op12, f6r6Op13]
set_option maxRecDepth 100000 in
set_option maxHeartbeats 2000000 in
theorem f6r6_r {Q : Exit → Act → World → Prop} {u w : World} {L : List Row} {z0 z1 z2 z3 z4 z5 z6 z7 z9 z10 z11 z12 z13 z14 z15 z16 z17 z18 z19 z20 z21 z22 z23 z24 z25 z26 z27 z28 z29 z30 z31 z32 z33 z34 z35 z36 z37 z38 z39 z40 z41 z42 z43 z44 z45 z46 z47 z48 z49 z50 z51 z52 z53 z54 z55 z56 z57 z58 z59 z60 z61 z62 z63 z64 z65 z66 z67 z68 : Value} {zz : List Value} {b8 : Nat} {c8 : Array Value} {e57 e58 e64 e65 e66 : Array Value} (hQ : ∀ c a w n v, Q (.panic c) (a.put (some n) v) w → Q (.panic c) a w) (hO : Own u w L) (i8 : Nat) (h8 : L[i8]? = some (b8, c8, 29)) (r57 : ∀ w, Ret 19 #[] w (.agg e57)) (r58 : ∀ w, Ret 21 #[.agg c8, .agg e57] w (.agg e58)) (r60 : ∀ w, Ret 18 #[.agg e58, .agg c8] w (.bool true)) (r64 : ∀ w, Ret 25 #[.agg c8] w (.agg e64)) (r65 : ∀ w, Ret 21 #[.agg c8, .agg e64] w (.agg e65)) (r66 : ∀ w, Ret 19 #[] w (.agg e66)) (r67 : ∀ w, Ret 18 #[.agg e65, .agg e66] w (.bool true)) (H : ∀ (w' : World), Own u w' (L) → Q .normal { tmps := List.toArray (z0 :: z1 :: z2 :: z3 :: z4 :: z5 :: z6 :: z7 :: (.pointer (some ⟨b8, 0, none⟩)) :: z9 :: z10 :: z11 :: z12 :: z13 :: z14 :: (.bool true) :: z16 :: z17 :: z18 :: z19 :: z20 :: z21 :: z22 :: z23 :: z24 :: z25 :: z26 :: z27 :: z28 :: z29 :: z30 :: z31 :: z32 :: z33 :: z34 :: z35 :: z36 :: z37 :: z38 :: z39 :: z40 :: z41 :: z42 :: z43 :: z44 :: z45 :: z46 :: z47 :: z48 :: z49 :: z50 :: z51 :: z52 :: z53 :: z54 :: z55 :: (.agg c8) :: (.agg e57) :: (.agg e58) :: (.agg c8) :: (.bool true) :: (.bool true) :: (.agg c8) :: (.agg c8) :: (.agg e64) :: (.agg e65) :: (.agg e66) :: (.bool true) :: (.bool true) :: zz), defers := [] } w') :
    (Code.region 6 f6r6Ops true).wp Try.prog Q { tmps := List.toArray (z0 :: z1 :: z2 :: z3 :: z4 :: z5 :: z6 :: z7 :: (.pointer (some ⟨b8, 0, none⟩)) :: z9 :: z10 :: z11 :: z12 :: z13 :: z14 :: z15 :: z16 :: z17 :: z18 :: z19 :: z20 :: z21 :: z22 :: z23 :: z24 :: z25 :: z26 :: z27 :: z28 :: z29 :: z30 :: z31 :: z32 :: z33 :: z34 :: z35 :: z36 :: z37 :: z38 :: z39 :: z40 :: z41 :: z42 :: z43 :: z44 :: z45 :: z46 :: z47 :: z48 :: z49 :: z50 :: z51 :: z52 :: z53 :: z54 :: z55 :: z56 :: z57 :: z58 :: z59 :: z60 :: z61 :: z62 :: z63 :: z64 :: z65 :: z66 :: z67 :: z68 :: zz), defers := [] } w := by
  have fc8_29 := hO.fits i8 h8
  refine wp_region_held_drew (S := Has [(b8, c8, 29)]) (by kernel_rfl) ⟨hO.drew.row _ h8, trivial⟩ (fun hS => ?_)
  replace hO := hO.drew
  refine d_tk 0 f6r6Op0 (.agg c8) hQ (y_l 29 (fun _ h => h.1) fc8_29 Try.underlying29) hS ?_
  refine d_tk 3 f6r6Op3 (.agg c8) hQ (y_l 29 (fun _ h => h.1) fc8_29 Try.underlying29) hS ?_
  refine d_fr (ls 14 9) (Fr [z0, z1, z2, z3, z4, z5, z6, z7, D b8, z9, z10, z11, z12, z13, z14, z15, z16, z17, z18, z19, z20, z21, z22, z23, z24, z25, z26, z27, z28, z29, z30, z31, z32, z33, z34, z35, z36, z37, z38, z39, z40, z41, z42, z43, z44, z45, z46, z47, z48, z49, z50, z51, z52, z53, z54, z55, A c8, z57, z58, A c8, z60, z61, z62, z63, z64, z65, z66, z67, z68] zz) ?_
  refine d_one 1 f6r6Op1 (ls 14 11) (fun K hK => ?_)
  refine k_call hK hO (fun _ hO => ⟨hO.row _ h8, trivial⟩) 19 #[] (.agg e57) r57 ?_
  intro w1 hO
  refine d_one 2 f6r6Op2 (ls 14 15) (fun K hK => ?_)
  refine k_call hK hO (fun _ hO => ⟨hO.row _ h8, trivial⟩) 21 #[.agg c8, .agg e57] (.agg e58) r58 ?_
  intro w2 hO
  refine d_one 4 f6r6Op4 (ls 14 31) (fun K hK => ?_)
  refine k_call hK hO (fun _ hO => ⟨hO.row _ h8, trivial⟩) 18 #[.agg e58, .agg c8] (.bool true) r60 ?_
  intro w3 hO
  have hS : Has [(b8, c8, 29)] w3 := ⟨hO.row _ h8, trivial⟩
  refine d_tk 5 f6r6Op5 (.bool true) hQ (y_val (fun _ => by kernel_rfl)) hS ?_
  refine d_tk 6 f6r6Op6 (.agg c8) hQ (y_l 29 (fun _ h => h.1) fc8_29 Try.underlying29) hS ?_
  refine d_tk 7 f6r6Op7 (.agg c8) hQ (y_l 29 (fun _ h => h.1) fc8_29 Try.underlying29) hS ?_
  refine d_fr (ls 14 255) (Fr [z0, z1, z2, z3, z4, z5, z6, z7, D b8, z9, z10, z11, z12, z13, z14, z15, z16, z17, z18, z19, z20, z21, z22, z23, z24, z25, z26, z27, z28, z29, z30, z31, z32, z33, z34, z35, z36, z37, z38, z39, z40, z41, z42, z43, z44, z45, z46, z47, z48, z49, z50, z51, z52, z53, z54, z55, A c8, A e57, A e58, A c8, .bool true, .bool true, A c8, A c8, z64, z65, z66, z67, z68] zz) ?_
  refine d_one 8 f6r6Op8 (ls 14 511) (fun K hK => ?_)
  refine k_call hK hO (fun _ hO => ⟨hO.row _ h8, trivial⟩) 25 #[.agg c8] (.agg e64) r64 ?_
  intro w4 hO
  refine d_one 9 f6r6Op9 (ls 14 1023) (fun K hK => ?_)
  refine k_call hK hO (fun _ hO => ⟨hO.row _ h8, trivial⟩) 21 #[.agg c8, .agg e64] (.agg e65) r65 ?_
  intro w5 hO
  refine d_one 10 f6r6Op10 (ls 14 2047) (fun K hK => ?_)
  refine k_call hK hO (fun _ hO => ⟨hO.row _ h8, trivial⟩) 19 #[] (.agg e66) r66 ?_
  intro w6 hO
  refine d_fr (ls 14 2047) (Fr [z0, z1, z2, z3, z4, z5, z6, z7, D b8, z9, z10, z11, z12, z13, z14, z15, z16, z17, z18, z19, z20, z21, z22, z23, z24, z25, z26, z27, z28, z29, z30, z31, z32, z33, z34, z35, z36, z37, z38, z39, z40, z41, z42, z43, z44, z45, z46, z47, z48, z49, z50, z51, z52, z53, z54, z55, A c8, A e57, A e58, A c8, .bool true, .bool true, A c8, A c8, A e64, A e65, A e66, z67, z68] zz) ?_
  refine d_one 11 f6r6Op11 (ls 14 4095) (fun K hK => ?_)
  refine k_call hK hO (fun _ hO => ⟨hO.row _ h8, trivial⟩) 18 #[.agg e65, .agg e66] (.bool true) r67 ?_
  intro w7 hO
  have hS : Has [(b8, c8, 29)] w7 := ⟨hO.row _ h8, trivial⟩
  refine d_tk 12 f6r6Op12 (.bool true) hQ (y_val (fun _ => by kernel_rfl)) hS ?_
  refine d_tk 13 f6r6Op13 (.bool true) hQ (y_val (fun _ => by kernel_rfl)) hS ?_
  exact d_fr (ls 14 16383) _ (wpAnyH_done (by kernel_rfl) (H  _ hO) _)
def f6r7Op0 : Oper := ⟨some 70, .load 29 (.tmp 8), 29, "law.go:83", #[], none⟩
def f6r7Op1 : Oper := ⟨some 71, .call { callee := .value (.func 14), args := #[.tmp 70], argTypes := #[29] }, 38, "law.go:83", #[⟨0, .data⟩], none⟩
def f6r7Op2 : Oper := ⟨some 69, .move (.tmp 71), 38, "law.go:83", #[⟨1, .data⟩], none⟩
def f6r7Op3 : Oper := ⟨some 72, .extract (.tmp 69) 0, 27, "law.go:83", #[⟨2, .data⟩], none⟩
def f6r7Op4 : Oper := ⟨some 73, .extract (.tmp 69) 1, 27, "law.go:83", #[⟨2, .data⟩, ⟨7, .gcOnly .lateStores⟩], none⟩
def f6r7Op5 : Oper := ⟨some 16, .alloc 27, 0, "law.go:83", #[], none⟩
def f6r7Op6 : Oper := ⟨some 17, .alloc 27, 0, "law.go:83", #[], none⟩
def f6r7Op7 : Oper := ⟨none, .store 27 (.tmp 16) (.tmp 72), 0, "law.go:83", #[⟨5, .data⟩, ⟨3, .data⟩, ⟨1, .chain⟩, ⟨0, .phase⟩, ⟨1, .phase⟩, ⟨2, .phase⟩, ⟨3, .phase⟩, ⟨4, .textOnly .lateStores⟩, ⟨5, .phase⟩, ⟨6, .phase⟩], none⟩
def f6r7Op8 : Oper := ⟨none, .store 27 (.tmp 17) (.tmp 73), 0, "law.go:83", #[⟨6, .data⟩, ⟨4, .data⟩, ⟨7, .chain⟩, ⟨0, .phase⟩, ⟨1, .phase⟩, ⟨2, .phase⟩, ⟨3, .phase⟩, ⟨4, .phase⟩, ⟨5, .phase⟩, ⟨6, .phase⟩, ⟨7, .phase⟩], none⟩
def f6r7Ops : Array Oper := #[f6r7Op0, f6r7Op1, f6r7Op2, f6r7Op3, f6r7Op4, f6r7Op5, f6r7Op6, f6r7Op7, f6r7Op8]
set_option maxRecDepth 100000 in
set_option maxHeartbeats 2000000 in
theorem f6r7_r {Q : Exit → Act → World → Prop} {u w : World} {L : List Row} {z0 z1 z2 z3 z4 z5 z6 z7 z9 z10 z11 z12 z13 z14 z15 z16 z17 z18 z19 z20 z21 z22 z23 z24 z25 z26 z27 z28 z29 z30 z31 z32 z33 z34 z35 z36 z37 z38 z39 z40 z41 z42 z43 z44 z45 z46 z47 z48 z49 z50 z51 z52 z53 z54 z55 z56 z57 z58 z59 z60 z61 z62 z63 z64 z65 z66 z67 z68 z69 z70 z71 z72 z73 : Value} {zz : List Value} {b8 : Nat} {c8 : Array Value} {e71a e71b : Array Value} (hO : Own u w L) (i8 : Nat) (h8 : L[i8]? = some (b8, c8, 29)) (r71 : ∀ w, Ret 14 #[.agg c8] w (.tuple #[.agg e71a, .agg e71b])) (fe71a_27 : Fit 27 e71a) (fe71b_27 : Fit 27 e71b) (H : ∀ (n16 : Nat) (n17 : Nat) (w' : World), Own u w' ((n17, e71b, 27) :: (n16, e71a, 27) :: L) → Q .normal { tmps := List.toArray (z0 :: z1 :: z2 :: z3 :: z4 :: z5 :: z6 :: z7 :: (.pointer (some ⟨b8, 0, none⟩)) :: z9 :: z10 :: z11 :: z12 :: z13 :: z14 :: z15 :: (.pointer (some ⟨n16, 0, none⟩)) :: (.pointer (some ⟨n17, 0, none⟩)) :: z18 :: z19 :: z20 :: z21 :: z22 :: z23 :: z24 :: z25 :: z26 :: z27 :: z28 :: z29 :: z30 :: z31 :: z32 :: z33 :: z34 :: z35 :: z36 :: z37 :: z38 :: z39 :: z40 :: z41 :: z42 :: z43 :: z44 :: z45 :: z46 :: z47 :: z48 :: z49 :: z50 :: z51 :: z52 :: z53 :: z54 :: z55 :: z56 :: z57 :: z58 :: z59 :: z60 :: z61 :: z62 :: z63 :: z64 :: z65 :: z66 :: z67 :: z68 :: (.tuple #[.agg e71a, .agg e71b]) :: (.agg c8) :: (.tuple #[.agg e71a, .agg e71b]) :: (.agg e71a) :: (.agg e71b) :: zz), defers := [] } w') :
    (Code.region 7 f6r7Ops false).wp Try.prog Q { tmps := List.toArray (z0 :: z1 :: z2 :: z3 :: z4 :: z5 :: z6 :: z7 :: (.pointer (some ⟨b8, 0, none⟩)) :: z9 :: z10 :: z11 :: z12 :: z13 :: z14 :: z15 :: z16 :: z17 :: z18 :: z19 :: z20 :: z21 :: z22 :: z23 :: z24 :: z25 :: z26 :: z27 :: z28 :: z29 :: z30 :: z31 :: z32 :: z33 :: z34 :: z35 :: z36 :: z37 :: z38 :: z39 :: z40 :: z41 :: z42 :: z43 :: z44 :: z45 :: z46 :: z47 :: z48 :: z49 :: z50 :: z51 :: z52 :: z53 :: z54 :: z55 :: z56 :: z57 :: z58 :: z59 :: z60 :: z61 :: z62 :: z63 :: z64 :: z65 :: z66 :: z67 :: z68 :: z69 :: z70 :: z71 :: z72 :: z73 :: zz), defers := [] } w := by
  refine wp_region_list (show wpList _ f6r7Ops _ [f6r7Op0, f6r7Op1, f6r7Op2, f6r7Op3, f6r7Op4, f6r7Op5, f6r7Op6, f6r7Op7, f6r7Op8] _ _ from ?_)
  refine l_ld hO 29 i8 h8 Try.underlying29 ?_
  refine l_call hO 14 #[.agg c8] (.tuple #[.agg e71a, .agg e71b]) r71 ?_
  intro w1 hO
  refine l_val (.tuple #[.agg e71a, .agg e71b]) (by kernel_rfl) ?_
  refine l_fr (Fr [z0, z1, z2, z3, z4, z5, z6, z7, D b8, z9, z10, z11, z12, z13, z14, z15, z16, z17, z18, z19, z20, z21, z22, z23, z24, z25, z26, z27, z28, z29, z30, z31, z32, z33, z34, z35, z36, z37, z38, z39, z40, z41, z42, z43, z44, z45, z46, z47, z48, z49, z50, z51, z52, z53, z54, z55, z56, z57, z58, z59, z60, z61, z62, z63, z64, z65, z66, z67, z68, .tuple #[.agg e71a, .agg e71b], A c8, .tuple #[.agg e71a, .agg e71b], z72, z73] zz) ?_
  refine l_val (.agg e71a) (by kernel_rfl) ?_
  refine l_val (.agg e71b) (by kernel_rfl) ?_
  refine l_new hO (arr 4 (limb 0)) 27 (al27 rfl) (fit_fe _) ?_
  intro n16 w2 hO
  refine l_fr (Fr [z0, z1, z2, z3, z4, z5, z6, z7, D b8, z9, z10, z11, z12, z13, z14, z15, D n16, z17, z18, z19, z20, z21, z22, z23, z24, z25, z26, z27, z28, z29, z30, z31, z32, z33, z34, z35, z36, z37, z38, z39, z40, z41, z42, z43, z44, z45, z46, z47, z48, z49, z50, z51, z52, z53, z54, z55, z56, z57, z58, z59, z60, z61, z62, z63, z64, z65, z66, z67, z68, .tuple #[.agg e71a, .agg e71b], A c8, .tuple #[.agg e71a, .agg e71b], A e71a, A e71b] zz) ?_
  refine l_new hO (arr 4 (limb 0)) 27 (al27 rfl) (fit_fe _) ?_
  intro n17 w3 hO
  refine l_st hO 27 1 rfl e71a fe71a_27 ?_
  intro w4 hO
  replace hO : Own u w4 ((n17, arr 4 (limb 0), 27) :: (n16, e71a, 27) :: L) := hO
  refine l_st hO 27 0 rfl e71b fe71b_27 ?_
  intro w5 hO
  exact l_fr _ (wpList_nil (H n16 n17 _ hO))
def f6r8Op0 : Oper := ⟨some 75, .load 29 (.tmp 8), 29, "law.go:84", #[], none⟩
def f6r8Op1 : Oper := ⟨some 76, .call { callee := .value (.func 15), args := #[.tmp 75], argTypes := #[29] }, 22, "law.go:84", #[⟨0, .data⟩], none⟩
def f6r8Op2 : Oper := ⟨some 77, .call { callee := .value (.func 12), args := #[.tmp 76], argTypes := #[22] }, 30, "law.go:84", #[⟨1, .data⟩, ⟨1, .chain⟩], none⟩
def f6r8Op3 : Oper := ⟨some 74, .move (.tmp 77), 30, "law.go:84", #[⟨2, .data⟩], none⟩
def f6r8Op4 : Oper := ⟨some 78, .extract (.tmp 74) 0, 29, "law.go:84", #[⟨3, .data⟩], none⟩
def f6r8Op5 : Oper := ⟨some 79, .extract (.tmp 74) 1, 4, "law.go:84", #[⟨3, .data⟩, ⟨7, .gcOnly .lateStores⟩], none⟩
def f6r8Op6 : Oper := ⟨some 18, .alloc 29, 0, "law.go:84", #[], none⟩
def f6r8Op7 : Oper := ⟨none, .store 29 (.tmp 18) (.tmp 78), 0, "law.go:84", #[⟨6, .data⟩, ⟨4, .data⟩, ⟨2, .chain⟩, ⟨0, .phase⟩, ⟨1, .phase⟩, ⟨2, .phase⟩, ⟨3, .phase⟩, ⟨4, .phase⟩, ⟨5, .textOnly .lateStores⟩, ⟨6, .phase⟩], none⟩
def f6r8Op8 : Oper := ⟨some 19, .assign (.tmp 79), 4, "law.go:84", #[⟨5, .data⟩, ⟨7, .chain⟩, ⟨0, .phase⟩, ⟨1, .phase⟩, ⟨2, .phase⟩, ⟨3, .phase⟩, ⟨4, .phase⟩, ⟨5, .phase⟩, ⟨6, .phase⟩, ⟨7, .phase⟩], none⟩
def f6r8Ops : Array Oper := #[f6r8Op0, f6r8Op1, f6r8Op2, f6r8Op3, f6r8Op4, f6r8Op5, f6r8Op6, f6r8Op7, f6r8Op8]
set_option maxRecDepth 100000 in
set_option maxHeartbeats 2000000 in
theorem f6r8_r {Q : Exit → Act → World → Prop} {u w : World} {L : List Row} {z0 z1 z2 z3 z4 z5 z6 z7 z9 z10 z11 z12 z13 z14 z15 z16 z17 z18 z19 z20 z21 z22 z23 z24 z25 z26 z27 z28 z29 z30 z31 z32 z33 z34 z35 z36 z37 z38 z39 z40 z41 z42 z43 z44 z45 z46 z47 z48 z49 z50 z51 z52 z53 z54 z55 z56 z57 z58 z59 z60 z61 z62 z63 z64 z65 z66 z67 z68 z69 z70 z71 z72 z73 z74 z75 z76 z77 z78 z79 : Value} {zz : List Value} {b8 : Nat} {c8 : Array Value} {e76 e77a : Array Value} {p77b : Bool} (hO : Own u w L) (i8 : Nat) (h8 : L[i8]? = some (b8, c8, 29)) (r76 : ∀ w, Ret 15 #[.agg c8] w (.agg e76)) (r77 : ∀ w, Ret 12 #[.agg e76] w (.tuple #[.agg e77a, .bool p77b])) (fe77a_29 : Fit 29 e77a) (H : ∀ (n18 : Nat) (w' : World), Own u w' ((n18, e77a, 29) :: L) → Q .normal { tmps := List.toArray (z0 :: z1 :: z2 :: z3 :: z4 :: z5 :: z6 :: z7 :: (.pointer (some ⟨b8, 0, none⟩)) :: z9 :: z10 :: z11 :: z12 :: z13 :: z14 :: z15 :: z16 :: z17 :: (.pointer (some ⟨n18, 0, none⟩)) :: (.bool p77b) :: z20 :: z21 :: z22 :: z23 :: z24 :: z25 :: z26 :: z27 :: z28 :: z29 :: z30 :: z31 :: z32 :: z33 :: z34 :: z35 :: z36 :: z37 :: z38 :: z39 :: z40 :: z41 :: z42 :: z43 :: z44 :: z45 :: z46 :: z47 :: z48 :: z49 :: z50 :: z51 :: z52 :: z53 :: z54 :: z55 :: z56 :: z57 :: z58 :: z59 :: z60 :: z61 :: z62 :: z63 :: z64 :: z65 :: z66 :: z67 :: z68 :: z69 :: z70 :: z71 :: z72 :: z73 :: (.tuple #[.agg e77a, .bool p77b]) :: (.agg c8) :: (.agg e76) :: (.tuple #[.agg e77a, .bool p77b]) :: (.agg e77a) :: (.bool p77b) :: zz), defers := [] } w') :
    (Code.region 8 f6r8Ops false).wp Try.prog Q { tmps := List.toArray (z0 :: z1 :: z2 :: z3 :: z4 :: z5 :: z6 :: z7 :: (.pointer (some ⟨b8, 0, none⟩)) :: z9 :: z10 :: z11 :: z12 :: z13 :: z14 :: z15 :: z16 :: z17 :: z18 :: z19 :: z20 :: z21 :: z22 :: z23 :: z24 :: z25 :: z26 :: z27 :: z28 :: z29 :: z30 :: z31 :: z32 :: z33 :: z34 :: z35 :: z36 :: z37 :: z38 :: z39 :: z40 :: z41 :: z42 :: z43 :: z44 :: z45 :: z46 :: z47 :: z48 :: z49 :: z50 :: z51 :: z52 :: z53 :: z54 :: z55 :: z56 :: z57 :: z58 :: z59 :: z60 :: z61 :: z62 :: z63 :: z64 :: z65 :: z66 :: z67 :: z68 :: z69 :: z70 :: z71 :: z72 :: z73 :: z74 :: z75 :: z76 :: z77 :: z78 :: z79 :: zz), defers := [] } w := by
  refine wp_region_list (show wpList _ f6r8Ops _ [f6r8Op0, f6r8Op1, f6r8Op2, f6r8Op3, f6r8Op4, f6r8Op5, f6r8Op6, f6r8Op7, f6r8Op8] _ _ from ?_)
  refine l_ld hO 29 i8 h8 Try.underlying29 ?_
  refine l_call hO 15 #[.agg c8] (.agg e76) r76 ?_
  intro w1 hO
  refine l_call hO 12 #[.agg e76] (.tuple #[.agg e77a, .bool p77b]) r77 ?_
  intro w2 hO
  refine l_fr (Fr [z0, z1, z2, z3, z4, z5, z6, z7, D b8, z9, z10, z11, z12, z13, z14, z15, z16, z17, z18, z19, z20, z21, z22, z23, z24, z25, z26, z27, z28, z29, z30, z31, z32, z33, z34, z35, z36, z37, z38, z39, z40, z41, z42, z43, z44, z45, z46, z47, z48, z49, z50, z51, z52, z53, z54, z55, z56, z57, z58, z59, z60, z61, z62, z63, z64, z65, z66, z67, z68, z69, z70, z71, z72, z73, z74, A c8, A e76, .tuple #[.agg e77a, .bool p77b], z78, z79] zz) ?_
  refine l_val (.tuple #[.agg e77a, .bool p77b]) (by kernel_rfl) ?_
  refine l_val (.agg e77a) (by kernel_rfl) ?_
  refine l_val (.bool p77b) (by kernel_rfl) ?_
  refine l_fr (Fr [z0, z1, z2, z3, z4, z5, z6, z7, D b8, z9, z10, z11, z12, z13, z14, z15, z16, z17, z18, z19, z20, z21, z22, z23, z24, z25, z26, z27, z28, z29, z30, z31, z32, z33, z34, z35, z36, z37, z38, z39, z40, z41, z42, z43, z44, z45, z46, z47, z48, z49, z50, z51, z52, z53, z54, z55, z56, z57, z58, z59, z60, z61, z62, z63, z64, z65, z66, z67, z68, z69, z70, z71, z72, z73, .tuple #[.agg e77a, .bool p77b], A c8, A e76, .tuple #[.agg e77a, .bool p77b], A e77a, .bool p77b] zz) ?_
  refine l_new hO (ps [0, 0]) 29 (al29 rfl) (fit_pt _ _) ?_
  intro n18 w3 hO
  refine l_st hO 29 0 rfl e77a fe77a_29 ?_
  intro w4 hO
  refine l_val (.bool p77b) (by kernel_rfl) ?_
  exact l_fr _ (wpList_nil (H n18 _ hO))
def f6r9Op0 : Oper := ⟨some 80, .move (.tmp 7), 4, "law.go:85", #[], none⟩
def f6r9Op1 : Oper := ⟨some 81, .move (.tmp 80), 4, "law.go:85", #[⟨0, .data⟩], none⟩
def f6r9Op2 : Oper := ⟨some 82, .move (.tmp 14), 4, "law.go:85", #[⟨1, .guard⟩], some (1, true)⟩
def f6r9Op3 : Oper := ⟨some 83, .pick (.tmp 81) (.tmp 82) (.const (.bool false)), 4, "law.go:85", #[⟨1, .data⟩, ⟨2, .data⟩], none⟩
def f6r9Op4 : Oper := ⟨some 84, .move (.tmp 83), 4, "law.go:85", #[⟨3, .data⟩, ⟨1, .chain⟩], none⟩
def f6r9Op5 : Oper := ⟨some 85, .move (.tmp 15), 4, "law.go:85", #[⟨4, .guard⟩], some (4, true)⟩
def f6r9Op6 : Oper := ⟨some 86, .pick (.tmp 84) (.tmp 85) (.const (.bool false)), 4, "law.go:85", #[⟨4, .data⟩, ⟨5, .data⟩], none⟩
def f6r9Op7 : Oper := ⟨some 87, .move (.tmp 86), 4, "law.go:85", #[⟨6, .data⟩, ⟨4, .chain⟩], none⟩
def f6r9Op8 : Oper := ⟨some 88, .move (.tmp 19), 4, "law.go:85", #[⟨7, .guard⟩], some (7, true)⟩
def f6r9Op9 : Oper := ⟨some 89, .pick (.tmp 87) (.tmp 88) (.const (.bool false)), 4, "law.go:85", #[⟨7, .data⟩, ⟨8, .data⟩], none⟩
def f6r9Op10 : Oper := ⟨some 90, .move (.tmp 89), 4, "law.go:85", #[⟨9, .data⟩, ⟨7, .chain⟩], none⟩
def f6r9Op11 : Oper := ⟨some 91, .load 29 (.tmp 18), 29, "law.go:85", #[⟨10, .guard⟩], some (10, true)⟩
def f6r9Op12 : Oper := ⟨some 92, .load 29 (.tmp 8), 29, "law.go:85", #[⟨10, .guard⟩], some (10, true)⟩
def f6r9Op13 : Oper := ⟨some 93, .call { callee := .value (.func 18), args := #[.tmp 91, .tmp 92], argTypes := #[29, 29] }, 4, "law.go:85", #[⟨11, .data⟩, ⟨12, .data⟩, ⟨10, .chain⟩, ⟨10, .guard⟩], some (10, true)⟩
def f6r9Op14 : Oper := ⟨some 94, .pick (.tmp 90) (.tmp 93) (.const (.bool false)), 4, "law.go:85", #[⟨10, .data⟩, ⟨13, .data⟩], none⟩
def f6r9Op15 : Oper := ⟨some 95, .move (.tmp 94), 4, "law.go:85", #[⟨14, .data⟩, ⟨13, .chain⟩], none⟩
def f6r9Op16 : Oper := ⟨some 96, .load 29 (.tmp 8), 29, "law.go:85", #[⟨15, .guard⟩], some (15, true)⟩
def f6r9Op17 : Oper := ⟨some 97, .call { callee := .value (.func 15), args := #[.tmp 96], argTypes := #[29] }, 22, "law.go:85", #[⟨16, .data⟩, ⟨15, .chain⟩, ⟨15, .guard⟩], some (15, true)⟩
def f6r9Op18 : Oper := ⟨some 98, .index 22 (.tmp 97) (.const (.int .i64 31)), 5, "law.go:85", #[⟨17, .data⟩, ⟨15, .guard⟩], some (15, true)⟩
def f6r9Op19 : Oper := ⟨some 99, .binOp .shr 5 (.tmp 98) (.const (.int .u64 7)) 59, 5, "law.go:85", #[⟨18, .data⟩, ⟨15, .guard⟩], some (15, true)⟩
def f6r9Op20 : Oper := ⟨some 100, .load 27 (.tmp 16), 27, "law.go:85", #[⟨15, .guard⟩], some (15, true)⟩
def f6r9Op21 : Oper := ⟨some 101, .call { callee := .value (.func 16), args := #[.tmp 100], argTypes := #[27] }, 22, "law.go:85", #[⟨20, .data⟩, ⟨17, .chain⟩, ⟨15, .guard⟩], some (15, true)⟩
def f6r9Op22 : Oper := ⟨some 102, .index 22 (.tmp 101) (.const (.int .i64 0)), 5, "law.go:85", #[⟨21, .data⟩, ⟨15, .guard⟩], some (15, true)⟩
def f6r9Op23 : Oper := ⟨some 103, .binOp .and 5 (.tmp 102) (.const (.int .u8 1)) 5, 5, "law.go:85", #[⟨22, .data⟩, ⟨15, .guard⟩], some (15, true)⟩
def f6r9Op24 : Oper := ⟨some 104, .binOp .eql 5 (.tmp 99) (.tmp 103) 5, 4, "law.go:85", #[⟨19, .data⟩, ⟨23, .data⟩, ⟨15, .guard⟩], some (15, true)⟩
def f6r9Op25 : Oper := ⟨some 105, .pick (.tmp 95) (.tmp 104) (.const (.bool false)), 4, "law.go:85", #[⟨15, .data⟩, ⟨24, .data⟩], none⟩
def f6r9Op26 : Oper := ⟨some 106, .move (.tmp 105), 4, "law.go:85", #[⟨25, .data⟩, ⟨21, .chain⟩], none⟩
def f6r9Op27 : Oper := ⟨some 107, .load 27 (.tmp 17), 27, "law.go:85", #[⟨26, .guard⟩], some (26, true)⟩
def f6r9Op28 : Oper := ⟨some 108, .load 29 (.tmp 8), 29, "law.go:85", #[⟨26, .guard⟩], some (26, true)⟩
def f6r9Op29 : Oper := ⟨some 109, .call { callee := .value (.func 15), args := #[.tmp 108], argTypes := #[29] }, 22, "law.go:85", #[⟨28, .data⟩, ⟨26, .chain⟩, ⟨26, .guard⟩], some (26, true)⟩
def f6r9Op30 : Oper := ⟨some 110, .call { callee := .value (.func 34), args := #[.tmp 109], argTypes := #[22] }, 22, "law.go:85", #[⟨29, .data⟩, ⟨29, .chain⟩, ⟨26, .guard⟩], some (26, true)⟩
def f6r9Op31 : Oper := ⟨some 111, .call { callee := .value (.func 33), args := #[.tmp 110], argTypes := #[22] }, 27, "law.go:85", #[⟨30, .data⟩, ⟨30, .chain⟩, ⟨26, .guard⟩], some (26, true)⟩
def f6r9Op32 : Oper := ⟨some 112, .call { callee := .value (.func 32), args := #[.tmp 107, .tmp 111], argTypes := #[27, 27] }, 4, "law.go:85", #[⟨27, .data⟩, ⟨31, .data⟩, ⟨31, .chain⟩, ⟨26, .guard⟩], some (26, true)⟩
def f6r9Op33 : Oper := ⟨some 113, .pick (.tmp 106) (.tmp 112) (.const (.bool false)), 4, "law.go:85", #[⟨26, .data⟩, ⟨32, .data⟩], none⟩
def f6r9Op34 : Oper := ⟨some 6, .assign (.tmp 113), 4, "law.go:85", #[⟨33, .data⟩, ⟨32, .chain⟩, ⟨0, .phase⟩, ⟨1, .phase⟩, ⟨2, .phase⟩, ⟨3, .phase⟩, ⟨4, .phase⟩, ⟨5, .phase⟩, ⟨6, .phase⟩, ⟨7, .phase⟩, ⟨8, .phase⟩, ⟨9, .phase⟩, ⟨10, .phase⟩, ⟨11, .phase⟩, ⟨12, .phase⟩, ⟨13, .phase⟩, ⟨14, .phase⟩, ⟨15, .phase⟩, ⟨16, .phase⟩, ⟨17, .phase⟩, ⟨18, .phase⟩, ⟨19, .phase⟩, ⟨20, .phase⟩, ⟨21, .phase⟩, ⟨22, .phase⟩, ⟨23, .phase⟩, ⟨24, .phase⟩, ⟨25, .phase⟩, ⟨26, .phase⟩, ⟨27, .phase⟩, ⟨28, .phase⟩, ⟨29, .phase⟩, ⟨30, .phase⟩, ⟨31, .phase⟩, ⟨32, .phase⟩, ⟨33, .phase⟩], none⟩
def f6r9Ops : Array Oper := #[f6r9Op0, f6r9Op1, f6r9Op2, f6r9Op3, f6r9Op4, f6r9Op5, f6r9Op6, f6r9Op7, f6r9Op8, f6r9Op9, f6r9Op10, f6r9Op11, f6r9Op12, f6r9Op13, f6r9Op14, f6r9Op15, f6r9Op16, f6r9Op17, f6r9Op18, f6r9Op19, f6r9Op20, f6r9Op21, f6r9Op22, f6r9Op23, f6r9Op24, f6r9Op25, f6r9Op26, f6r9Op27, f6r9Op28, f6r9Op29, f6r9Op30, f6r9Op31, f6r9Op32, f6r9Op33, f6r9Op34]
set_option maxRecDepth 100000 in
set_option maxHeartbeats 2000000 in
theorem f6r9_r {Q : Exit → Act → World → Prop} {u w : World} {L : List Row} {z0 z1 z2 z3 z4 z5 z6 z9 z10 z11 z12 z13 z20 z21 z22 z23 z24 z25 z26 z27 z28 z29 z30 z31 z32 z33 z34 z35 z36 z37 z38 z39 z40 z41 z42 z43 z44 z45 z46 z47 z48 z49 z50 z51 z52 z53 z54 z55 z56 z57 z58 z59 z60 z61 z62 z63 z64 z65 z66 z67 z68 z69 z70 z71 z72 z73 z74 z75 z76 z77 z78 z79 z80 z81 z82 z83 z84 z85 z86 z87 z88 z89 z90 z91 z92 z93 z94 z95 z96 z97 z98 z99 z100 z101 z102 z103 z104 z105 z106 z107 z108 z109 z110 z111 z112 z113 : Value} {b8 b16 b17 b18 : Nat} {c8 c16 c17 c18 : Array Value} {e97 e101 e109 e110 e111 : Array Value} {g98 g99 g102 g103 : Nat} (hQ : ∀ c a w n v, Q (.panic c) (a.put (some n) v) w → Q (.panic c) a w) (hO : Own u w L) (i8 : Nat) (h8 : L[i8]? = some (b8, c8, 29)) (i16 : Nat) (h16 : L[i16]? = some (b16, c16, 27)) (i17 : Nat) (h17 : L[i17]? = some (b17, c17, 27)) (i18 : Nat) (h18 : L[i18]? = some (b18, c18, 29)) (r93 : ∀ w, Ret 18 #[.agg c18, .agg c8] w (.bool true)) (r97 : ∀ w, Ret 15 #[.agg c8] w (.agg e97)) (k98 : ∀ (a : Act) (w : World), a.eval (.tmp 97) = .agg e97 → (execOp a.eval f6r9Op18).run Try.prog w = .ok (.value (.int .u8 ((g98 : Nat) : Int))) w) (k99 : ∀ (a : Act) (w : World), a.eval (.tmp 98) = .int .u8 ((g98 : Nat) : Int) → (execOp a.eval f6r9Op19).run Try.prog w = .ok (.value (.int .u8 ((g99 : Nat) : Int))) w) (r101 : ∀ w, Ret 16 #[.agg c16] w (.agg e101)) (k102 : ∀ (a : Act) (w : World), a.eval (.tmp 101) = .agg e101 → (execOp a.eval f6r9Op22).run Try.prog w = .ok (.value (.int .u8 ((g102 : Nat) : Int))) w) (k103 : ∀ (a : Act) (w : World), a.eval (.tmp 102) = .int .u8 ((g102 : Nat) : Int) → (execOp a.eval f6r9Op23).run Try.prog w = .ok (.value (.int .u8 ((g103 : Nat) : Int))) w) (k104 : ∀ (a : Act) (w : World), a.eval (.tmp 99) = .int .u8 ((g99 : Nat) : Int) → a.eval (.tmp 103) = .int .u8 ((g103 : Nat) : Int) → (execOp a.eval f6r9Op24).run Try.prog w = .ok (.value (.bool true)) w) (r109 : ∀ w, Ret 15 #[.agg c8] w (.agg e109)) (r110 : ∀ w, Ret 34 #[.agg e109] w (.agg e110)) (r111 : ∀ w, Ret 33 #[.agg e110] w (.agg e111)) (r112 : ∀ w, Ret 32 #[.agg c17, .agg e111] w (.bool true)) (H : ∀ (w' : World), Own u w' (L) → Q .normal { tmps := List.toArray (z0 :: z1 :: z2 :: z3 :: z4 :: z5 :: (.bool true) :: (.bool true) :: (.pointer (some ⟨b8, 0, none⟩)) :: z9 :: z10 :: z11 :: z12 :: z13 :: (.bool true) :: (.bool true) :: (.pointer (some ⟨b16, 0, none⟩)) :: (.pointer (some ⟨b17, 0, none⟩)) :: (.pointer (some ⟨b18, 0, none⟩)) :: (.bool true) :: z20 :: z21 :: z22 :: z23 :: z24 :: z25 :: z26 :: z27 :: z28 :: z29 :: z30 :: z31 :: z32 :: z33 :: z34 :: z35 :: z36 :: z37 :: z38 :: z39 :: z40 :: z41 :: z42 :: z43 :: z44 :: z45 :: z46 :: z47 :: z48 :: z49 :: z50 :: z51 :: z52 :: z53 :: z54 :: z55 :: z56 :: z57 :: z58 :: z59 :: z60 :: z61 :: z62 :: z63 :: z64 :: z65 :: z66 :: z67 :: z68 :: z69 :: z70 :: z71 :: z72 :: z73 :: z74 :: z75 :: z76 :: z77 :: z78 :: z79 :: (.bool true) :: (.bool true) :: (.bool true) :: (.bool true) :: (.bool true) :: (.bool true) :: (.bool true) :: (.bool true) :: (.bool true) :: (.bool true) :: (.bool true) :: (.agg c18) :: (.agg c8) :: (.bool true) :: (.bool true) :: (.bool true) :: (.agg c8) :: (.agg e97) :: (.int .u8 ((g98 : Nat) : Int)) :: (.int .u8 ((g99 : Nat) : Int)) :: (.agg c16) :: (.agg e101) :: (.int .u8 ((g102 : Nat) : Int)) :: (.int .u8 ((g103 : Nat) : Int)) :: (.bool true) :: (.bool true) :: (.bool true) :: (.agg c17) :: (.agg c8) :: (.agg e109) :: (.agg e110) :: (.agg e111) :: (.bool true) :: (.bool true) :: []), defers := [] } w') :
    (Code.region 9 f6r9Ops true).wp Try.prog Q { tmps := List.toArray (z0 :: z1 :: z2 :: z3 :: z4 :: z5 :: z6 :: (.bool true) :: (.pointer (some ⟨b8, 0, none⟩)) :: z9 :: z10 :: z11 :: z12 :: z13 :: (.bool true) :: (.bool true) :: (.pointer (some ⟨b16, 0, none⟩)) :: (.pointer (some ⟨b17, 0, none⟩)) :: (.pointer (some ⟨b18, 0, none⟩)) :: (.bool true) :: z20 :: z21 :: z22 :: z23 :: z24 :: z25 :: z26 :: z27 :: z28 :: z29 :: z30 :: z31 :: z32 :: z33 :: z34 :: z35 :: z36 :: z37 :: z38 :: z39 :: z40 :: z41 :: z42 :: z43 :: z44 :: z45 :: z46 :: z47 :: z48 :: z49 :: z50 :: z51 :: z52 :: z53 :: z54 :: z55 :: z56 :: z57 :: z58 :: z59 :: z60 :: z61 :: z62 :: z63 :: z64 :: z65 :: z66 :: z67 :: z68 :: z69 :: z70 :: z71 :: z72 :: z73 :: z74 :: z75 :: z76 :: z77 :: z78 :: z79 :: z80 :: z81 :: z82 :: z83 :: z84 :: z85 :: z86 :: z87 :: z88 :: z89 :: z90 :: z91 :: z92 :: z93 :: z94 :: z95 :: z96 :: z97 :: z98 :: z99 :: z100 :: z101 :: z102 :: z103 :: z104 :: z105 :: z106 :: z107 :: z108 :: z109 :: z110 :: z111 :: z112 :: z113 :: []), defers := [] } w := by
  have fc8_29 := hO.fits i8 h8
  have fc16_27 := hO.fits i16 h16
  have fc17_27 := hO.fits i17 h17
  have fc18_29 := hO.fits i18 h18
  refine wp_region_held_drew (S := Has [(b8, c8, 29), (b16, c16, 27), (b17, c17, 27), (b18, c18, 29)]) (by kernel_rfl) ⟨hO.drew.row _ h8, hO.drew.row _ h16, hO.drew.row _ h17, hO.drew.row _ h18, trivial⟩ (fun hS => ?_)
  replace hO := hO.drew
  refine d_tk 0 f6r9Op0 (.bool true) hQ (y_val (fun _ => by kernel_rfl)) hS ?_
  refine d_tk 1 f6r9Op1 (.bool true) hQ (y_val (fun _ => by kernel_rfl)) hS ?_
  refine d_tk 2 f6r9Op2 (.bool true) hQ (y_val (fun _ => by kernel_rfl)) hS ?_
  refine d_fr (ls 35 7) (Fr [z0, z1, z2, z3, z4, z5, z6, .bool true, D b8, z9, z10, z11, z12, z13, .bool true, .bool true, D b16, D b17, D b18, .bool true, z20, z21, z22, z23, z24, z25, z26, z27, z28, z29, z30, z31, z32, z33, z34, z35, z36, z37, z38, z39, z40, z41, z42, z43, z44, z45, z46, z47, z48, z49, z50, z51, z52, z53, z54, z55, z56, z57, z58, z59, z60, z61, z62, z63, z64, z65, z66, z67, z68, z69, z70, z71, z72, z73, z74, z75, z76, z77, z78, z79, .bool true, .bool true, .bool true, z83, z84, z85, z86, z87, z88, z89, z90, z91, z92, z93, z94, z95, z96, z97, z98, z99, z100, z101, z102, z103, z104, z105, z106, z107, z108, z109, z110, z111, z112, z113] []) ?_
  refine d_tk 3 f6r9Op3 (.bool true) hQ (y_val (fun _ => by kernel_rfl)) hS ?_
  refine d_tk 4 f6r9Op4 (.bool true) hQ (y_val (fun _ => by kernel_rfl)) hS ?_
  refine d_tk 5 f6r9Op5 (.bool true) hQ (y_val (fun _ => by kernel_rfl)) hS ?_
  refine d_fr (ls 35 63) (Fr [z0, z1, z2, z3, z4, z5, z6, .bool true, D b8, z9, z10, z11, z12, z13, .bool true, .bool true, D b16, D b17, D b18, .bool true, z20, z21, z22, z23, z24, z25, z26, z27, z28, z29, z30, z31, z32, z33, z34, z35, z36, z37, z38, z39, z40, z41, z42, z43, z44, z45, z46, z47, z48, z49, z50, z51, z52, z53, z54, z55, z56, z57, z58, z59, z60, z61, z62, z63, z64, z65, z66, z67, z68, z69, z70, z71, z72, z73, z74, z75, z76, z77, z78, z79, .bool true, .bool true, .bool true, .bool true, .bool true, .bool true, z86, z87, z88, z89, z90, z91, z92, z93, z94, z95, z96, z97, z98, z99, z100, z101, z102, z103, z104, z105, z106, z107, z108, z109, z110, z111, z112, z113] []) ?_
  refine d_tk 6 f6r9Op6 (.bool true) hQ (y_val (fun _ => by kernel_rfl)) hS ?_
  refine d_tk 7 f6r9Op7 (.bool true) hQ (y_val (fun _ => by kernel_rfl)) hS ?_
  refine d_tk 8 f6r9Op8 (.bool true) hQ (y_val (fun _ => by kernel_rfl)) hS ?_
  refine d_fr (ls 35 511) (Fr [z0, z1, z2, z3, z4, z5, z6, .bool true, D b8, z9, z10, z11, z12, z13, .bool true, .bool true, D b16, D b17, D b18, .bool true, z20, z21, z22, z23, z24, z25, z26, z27, z28, z29, z30, z31, z32, z33, z34, z35, z36, z37, z38, z39, z40, z41, z42, z43, z44, z45, z46, z47, z48, z49, z50, z51, z52, z53, z54, z55, z56, z57, z58, z59, z60, z61, z62, z63, z64, z65, z66, z67, z68, z69, z70, z71, z72, z73, z74, z75, z76, z77, z78, z79, .bool true, .bool true, .bool true, .bool true, .bool true, .bool true, .bool true, .bool true, .bool true, z89, z90, z91, z92, z93, z94, z95, z96, z97, z98, z99, z100, z101, z102, z103, z104, z105, z106, z107, z108, z109, z110, z111, z112, z113] []) ?_
  refine d_tk 9 f6r9Op9 (.bool true) hQ (y_val (fun _ => by kernel_rfl)) hS ?_
  refine d_tk 10 f6r9Op10 (.bool true) hQ (y_val (fun _ => by kernel_rfl)) hS ?_
  refine d_tk 11 f6r9Op11 (.agg c18) hQ (y_l 29 (fun _ h => h.2.2.2.1) fc18_29 Try.underlying29) hS ?_
  refine d_fr (ls 35 4095) (Fr [z0, z1, z2, z3, z4, z5, z6, .bool true, D b8, z9, z10, z11, z12, z13, .bool true, .bool true, D b16, D b17, D b18, .bool true, z20, z21, z22, z23, z24, z25, z26, z27, z28, z29, z30, z31, z32, z33, z34, z35, z36, z37, z38, z39, z40, z41, z42, z43, z44, z45, z46, z47, z48, z49, z50, z51, z52, z53, z54, z55, z56, z57, z58, z59, z60, z61, z62, z63, z64, z65, z66, z67, z68, z69, z70, z71, z72, z73, z74, z75, z76, z77, z78, z79, .bool true, .bool true, .bool true, .bool true, .bool true, .bool true, .bool true, .bool true, .bool true, .bool true, .bool true, A c18, z92, z93, z94, z95, z96, z97, z98, z99, z100, z101, z102, z103, z104, z105, z106, z107, z108, z109, z110, z111, z112, z113] []) ?_
  refine d_tk 12 f6r9Op12 (.agg c8) hQ (y_l 29 (fun _ h => h.1) fc8_29 Try.underlying29) hS ?_
  refine d_fr (ls 35 8191) (Fr [z0, z1, z2, z3, z4, z5, z6, .bool true, D b8, z9, z10, z11, z12, z13, .bool true, .bool true, D b16, D b17, D b18, .bool true, z20, z21, z22, z23, z24, z25, z26, z27, z28, z29, z30, z31, z32, z33, z34, z35, z36, z37, z38, z39, z40, z41, z42, z43, z44, z45, z46, z47, z48, z49, z50, z51, z52, z53, z54, z55, z56, z57, z58, z59, z60, z61, z62, z63, z64, z65, z66, z67, z68, z69, z70, z71, z72, z73, z74, z75, z76, z77, z78, z79, .bool true, .bool true, .bool true, .bool true, .bool true, .bool true, .bool true, .bool true, .bool true, .bool true, .bool true, A c18, A c8, z93, z94, z95, z96, z97, z98, z99, z100, z101, z102, z103, z104, z105, z106, z107, z108, z109, z110, z111, z112, z113] []) ?_
  refine d_one 13 f6r9Op13 (ls 35 16383) (fun K hK => ?_)
  refine k_call hK hO (fun _ hO => ⟨hO.row _ h8, hO.row _ h16, hO.row _ h17, hO.row _ h18, trivial⟩) 18 #[.agg c18, .agg c8] (.bool true) r93 ?_
  intro w1 hO
  have hS : Has [(b8, c8, 29), (b16, c16, 27), (b17, c17, 27), (b18, c18, 29)] w1 := ⟨hO.row _ h8, hO.row _ h16, hO.row _ h17, hO.row _ h18, trivial⟩
  refine d_tk 14 f6r9Op14 (.bool true) hQ (y_val (fun _ => by kernel_rfl)) hS ?_
  refine d_tk 15 f6r9Op15 (.bool true) hQ (y_val (fun _ => by kernel_rfl)) hS ?_
  refine d_tk 16 f6r9Op16 (.agg c8) hQ (y_l 29 (fun _ h => h.1) fc8_29 Try.underlying29) hS ?_
  refine d_fr (ls 35 131071) (Fr [z0, z1, z2, z3, z4, z5, z6, .bool true, D b8, z9, z10, z11, z12, z13, .bool true, .bool true, D b16, D b17, D b18, .bool true, z20, z21, z22, z23, z24, z25, z26, z27, z28, z29, z30, z31, z32, z33, z34, z35, z36, z37, z38, z39, z40, z41, z42, z43, z44, z45, z46, z47, z48, z49, z50, z51, z52, z53, z54, z55, z56, z57, z58, z59, z60, z61, z62, z63, z64, z65, z66, z67, z68, z69, z70, z71, z72, z73, z74, z75, z76, z77, z78, z79, .bool true, .bool true, .bool true, .bool true, .bool true, .bool true, .bool true, .bool true, .bool true, .bool true, .bool true, A c18, A c8, .bool true, .bool true, .bool true, A c8, z97, z98, z99, z100, z101, z102, z103, z104, z105, z106, z107, z108, z109, z110, z111, z112, z113] []) ?_
  refine d_tk 20 f6r9Op20 (.agg c16) hQ (y_l 27 (fun _ h => h.2.1) fc16_27 Try.underlying27) hS ?_
  refine d_fr (ls 35 1179647) (Fr [z0, z1, z2, z3, z4, z5, z6, .bool true, D b8, z9, z10, z11, z12, z13, .bool true, .bool true, D b16, D b17, D b18, .bool true, z20, z21, z22, z23, z24, z25, z26, z27, z28, z29, z30, z31, z32, z33, z34, z35, z36, z37, z38, z39, z40, z41, z42, z43, z44, z45, z46, z47, z48, z49, z50, z51, z52, z53, z54, z55, z56, z57, z58, z59, z60, z61, z62, z63, z64, z65, z66, z67, z68, z69, z70, z71, z72, z73, z74, z75, z76, z77, z78, z79, .bool true, .bool true, .bool true, .bool true, .bool true, .bool true, .bool true, .bool true, .bool true, .bool true, .bool true, A c18, A c8, .bool true, .bool true, .bool true, A c8, z97, z98, z99, A c16, z101, z102, z103, z104, z105, z106, z107, z108, z109, z110, z111, z112, z113] []) ?_
  refine d_one 17 f6r9Op17 (ls 35 1310719) (fun K hK => ?_)
  refine k_call hK hO (fun _ hO => ⟨hO.row _ h8, hO.row _ h16, hO.row _ h17, hO.row _ h18, trivial⟩) 15 #[.agg c8] (.agg e97) r97 ?_
  intro w2 hO
  have hS : Has [(b8, c8, 29), (b16, c16, 27), (b17, c17, 27), (b18, c18, 29)] w2 := ⟨hO.row _ h8, hO.row _ h16, hO.row _ h17, hO.row _ h18, trivial⟩
  refine d_tk 18 f6r9Op18 (.int .u8 ((g98 : Nat) : Int)) hQ (y_val (fun _ => k98 _ _ (by kernel_rfl))) hS ?_
  refine d_tk 19 f6r9Op19 (.int .u8 ((g99 : Nat) : Int)) hQ (y_val (fun _ => k99 _ _ (by kernel_rfl))) hS ?_
  refine d_fr (ls 35 2097151) (Fr [z0, z1, z2, z3, z4, z5, z6, .bool true, D b8, z9, z10, z11, z12, z13, .bool true, .bool true, D b16, D b17, D b18, .bool true, z20, z21, z22, z23, z24, z25, z26, z27, z28, z29, z30, z31, z32, z33, z34, z35, z36, z37, z38, z39, z40, z41, z42, z43, z44, z45, z46, z47, z48, z49, z50, z51, z52, z53, z54, z55, z56, z57, z58, z59, z60, z61, z62, z63, z64, z65, z66, z67, z68, z69, z70, z71, z72, z73, z74, z75, z76, z77, z78, z79, .bool true, .bool true, .bool true, .bool true, .bool true, .bool true, .bool true, .bool true, .bool true, .bool true, .bool true, A c18, A c8, .bool true, .bool true, .bool true, A c8, A e97, .int .u8 ((g98 : Nat) : Int), .int .u8 ((g99 : Nat) : Int), A c16, z101, z102, z103, z104, z105, z106, z107, z108, z109, z110, z111, z112, z113] []) ?_
  refine d_one 21 f6r9Op21 (ls 35 4194303) (fun K hK => ?_)
  refine k_call hK hO (fun _ hO => ⟨hO.row _ h8, hO.row _ h16, hO.row _ h17, hO.row _ h18, trivial⟩) 16 #[.agg c16] (.agg e101) r101 ?_
  intro w3 hO
  have hS : Has [(b8, c8, 29), (b16, c16, 27), (b17, c17, 27), (b18, c18, 29)] w3 := ⟨hO.row _ h8, hO.row _ h16, hO.row _ h17, hO.row _ h18, trivial⟩
  refine d_tk 22 f6r9Op22 (.int .u8 ((g102 : Nat) : Int)) hQ (y_val (fun _ => k102 _ _ (by kernel_rfl))) hS ?_
  refine d_tk 23 f6r9Op23 (.int .u8 ((g103 : Nat) : Int)) hQ (y_val (fun _ => k103 _ _ (by kernel_rfl))) hS ?_
  refine d_tk 24 f6r9Op24 (.bool true) hQ (y_val (fun _ => k104 _ _ (by kernel_rfl) (by kernel_rfl))) hS ?_
  refine d_fr (ls 35 33554431) (Fr [z0, z1, z2, z3, z4, z5, z6, .bool true, D b8, z9, z10, z11, z12, z13, .bool true, .bool true, D b16, D b17, D b18, .bool true, z20, z21, z22, z23, z24, z25, z26, z27, z28, z29, z30, z31, z32, z33, z34, z35, z36, z37, z38, z39, z40, z41, z42, z43, z44, z45, z46, z47, z48, z49, z50, z51, z52, z53, z54, z55, z56, z57, z58, z59, z60, z61, z62, z63, z64, z65, z66, z67, z68, z69, z70, z71, z72, z73, z74, z75, z76, z77, z78, z79, .bool true, .bool true, .bool true, .bool true, .bool true, .bool true, .bool true, .bool true, .bool true, .bool true, .bool true, A c18, A c8, .bool true, .bool true, .bool true, A c8, A e97, .int .u8 ((g98 : Nat) : Int), .int .u8 ((g99 : Nat) : Int), A c16, A e101, .int .u8 ((g102 : Nat) : Int), .int .u8 ((g103 : Nat) : Int), .bool true, z105, z106, z107, z108, z109, z110, z111, z112, z113] []) ?_
  refine d_tk 25 f6r9Op25 (.bool true) hQ (y_val (fun _ => by kernel_rfl)) hS ?_
  refine d_tk 26 f6r9Op26 (.bool true) hQ (y_val (fun _ => by kernel_rfl)) hS ?_
  refine d_tk 27 f6r9Op27 (.agg c17) hQ (y_l 27 (fun _ h => h.2.2.1) fc17_27 Try.underlying27) hS ?_
  refine d_fr (ls 35 268435455) (Fr [z0, z1, z2, z3, z4, z5, z6, .bool true, D b8, z9, z10, z11, z12, z13, .bool true, .bool true, D b16, D b17, D b18, .bool true, z20, z21, z22, z23, z24, z25, z26, z27, z28, z29, z30, z31, z32, z33, z34, z35, z36, z37, z38, z39, z40, z41, z42, z43, z44, z45, z46, z47, z48, z49, z50, z51, z52, z53, z54, z55, z56, z57, z58, z59, z60, z61, z62, z63, z64, z65, z66, z67, z68, z69, z70, z71, z72, z73, z74, z75, z76, z77, z78, z79, .bool true, .bool true, .bool true, .bool true, .bool true, .bool true, .bool true, .bool true, .bool true, .bool true, .bool true, A c18, A c8, .bool true, .bool true, .bool true, A c8, A e97, .int .u8 ((g98 : Nat) : Int), .int .u8 ((g99 : Nat) : Int), A c16, A e101, .int .u8 ((g102 : Nat) : Int), .int .u8 ((g103 : Nat) : Int), .bool true, .bool true, .bool true, A c17, z108, z109, z110, z111, z112, z113] []) ?_
  refine d_tk 28 f6r9Op28 (.agg c8) hQ (y_l 29 (fun _ h => h.1) fc8_29 Try.underlying29) hS ?_
  refine d_fr (ls 35 536870911) (Fr [z0, z1, z2, z3, z4, z5, z6, .bool true, D b8, z9, z10, z11, z12, z13, .bool true, .bool true, D b16, D b17, D b18, .bool true, z20, z21, z22, z23, z24, z25, z26, z27, z28, z29, z30, z31, z32, z33, z34, z35, z36, z37, z38, z39, z40, z41, z42, z43, z44, z45, z46, z47, z48, z49, z50, z51, z52, z53, z54, z55, z56, z57, z58, z59, z60, z61, z62, z63, z64, z65, z66, z67, z68, z69, z70, z71, z72, z73, z74, z75, z76, z77, z78, z79, .bool true, .bool true, .bool true, .bool true, .bool true, .bool true, .bool true, .bool true, .bool true, .bool true, .bool true, A c18, A c8, .bool true, .bool true, .bool true, A c8, A e97, .int .u8 ((g98 : Nat) : Int), .int .u8 ((g99 : Nat) : Int), A c16, A e101, .int .u8 ((g102 : Nat) : Int), .int .u8 ((g103 : Nat) : Int), .bool true, .bool true, .bool true, A c17, A c8, z109, z110, z111, z112, z113] []) ?_
  refine d_one 29 f6r9Op29 (ls 35 1073741823) (fun K hK => ?_)
  refine k_call hK hO (fun _ hO => ⟨hO.row _ h8, hO.row _ h16, hO.row _ h17, hO.row _ h18, trivial⟩) 15 #[.agg c8] (.agg e109) r109 ?_
  intro w4 hO
  refine d_one 30 f6r9Op30 (ls 35 2147483647) (fun K hK => ?_)
  refine k_call hK hO (fun _ hO => ⟨hO.row _ h8, hO.row _ h16, hO.row _ h17, hO.row _ h18, trivial⟩) 34 #[.agg e109] (.agg e110) r110 ?_
  intro w5 hO
  refine d_one 31 f6r9Op31 (ls 35 4294967295) (fun K hK => ?_)
  refine k_call hK hO (fun _ hO => ⟨hO.row _ h8, hO.row _ h16, hO.row _ h17, hO.row _ h18, trivial⟩) 33 #[.agg e110] (.agg e111) r111 ?_
  intro w6 hO
  refine d_fr (ls 35 4294967295) (Fr [z0, z1, z2, z3, z4, z5, z6, .bool true, D b8, z9, z10, z11, z12, z13, .bool true, .bool true, D b16, D b17, D b18, .bool true, z20, z21, z22, z23, z24, z25, z26, z27, z28, z29, z30, z31, z32, z33, z34, z35, z36, z37, z38, z39, z40, z41, z42, z43, z44, z45, z46, z47, z48, z49, z50, z51, z52, z53, z54, z55, z56, z57, z58, z59, z60, z61, z62, z63, z64, z65, z66, z67, z68, z69, z70, z71, z72, z73, z74, z75, z76, z77, z78, z79, .bool true, .bool true, .bool true, .bool true, .bool true, .bool true, .bool true, .bool true, .bool true, .bool true, .bool true, A c18, A c8, .bool true, .bool true, .bool true, A c8, A e97, .int .u8 ((g98 : Nat) : Int), .int .u8 ((g99 : Nat) : Int), A c16, A e101, .int .u8 ((g102 : Nat) : Int), .int .u8 ((g103 : Nat) : Int), .bool true, .bool true, .bool true, A c17, A c8, A e109, A e110, A e111, z112, z113] []) ?_
  refine d_one 32 f6r9Op32 (ls 35 8589934591) (fun K hK => ?_)
  refine k_call hK hO (fun _ hO => ⟨hO.row _ h8, hO.row _ h16, hO.row _ h17, hO.row _ h18, trivial⟩) 32 #[.agg c17, .agg e111] (.bool true) r112 ?_
  intro w7 hO
  have hS : Has [(b8, c8, 29), (b16, c16, 27), (b17, c17, 27), (b18, c18, 29)] w7 := ⟨hO.row _ h8, hO.row _ h16, hO.row _ h17, hO.row _ h18, trivial⟩
  refine d_tk 33 f6r9Op33 (.bool true) hQ (y_val (fun _ => by kernel_rfl)) hS ?_
  refine d_tk 34 f6r9Op34 (.bool true) hQ (y_val (fun _ => by kernel_rfl)) hS ?_
  exact d_fr (ls 35 34359738367) _ (wpAnyH_done (by kernel_rfl) (H  _ hO) _)
theorem shr_run6 (a : Act) (w : World) (g : Nat) (hg : g < 256) (h0 : a.eval (.tmp 98) = .int .u8 ((g : Nat) : Int)) : (execOp a.eval f6r9Op19).run Try.prog w = .ok (.value (.int .u8 ((g / 128 : Nat) : Int))) w := by
  have key : ∀ i : Fin 256, ∀ w, (binOp .shr 5 (.int .u8 ((i.val : Nat) : Int)) (.int .u64 7)).run Try.prog w = .ok (.int .u8 ((i.val / 128 : Nat) : Int)) w := by
    intro i w
    have e : ((i.val : Nat) : Int).fdiv (2 ^ 7) = ((i.val / 128 : Nat) : Int) := by rw [Int.fdiv_eq_ediv_of_nonneg _ (by omega)]; omega
    have e3 : (binOp .shr 5 (.int .u8 ((i.val : Nat) : Int)) (.int .u64 7)).run Try.prog w = .ok (.int .u8 (((i.val : Nat) : Int).fdiv (2 ^ 7))) w := by kernel_rfl
    exact e3.trans (by rw [e])
  unfold execOp f6r9Op19
  simp only [h0]
  have e0 : a.eval (.const (.int .u64 7)) = .int .u64 7 := rfl
  rw [e0]
  have hk := key ⟨g, hg⟩
  have e1 : (eqGuard BinOp.shr 5 (Operand.tmp 98) (Operand.const (.int .u64 7)) (.int .u8 ((g : Nat) : Int)) (.int .u64 7)).run Try.prog w = .ok () w := by kernel_rfl
  simp only [Sem.run_bind, e1, Result.andThen_ok, hk, Sem.run_pure]
theorem and_run6 (a : Act) (w : World) (g : Nat) (hg : g < 256) (h0 : a.eval (.tmp 102) = .int .u8 ((g : Nat) : Int)) : (execOp a.eval f6r9Op23).run Try.prog w = .ok (.value (.int .u8 ((g % 2 : Nat) : Int))) w := by
  unfold execOp f6r9Op23
  simp only [h0]
  have e0 : a.eval (.const (.int .u8 1)) = .int .u8 1 := rfl
  have e := and8_one g hg
  go_simp
set_option maxRecDepth 100000 in
set_option maxHeartbeats 4000000 in
theorem group_walk (a : Nat → Nat) (b : Nat → Nat) (c : Nat → Nat) (w : World) (ha : ∀ i, a i < 256) (hb : ∀ i, b i < 256) (hc : ∀ i, c i < 256) : Ret 6 #[.agg (vals .u8 32 a), .agg (vals .u8 32 b), .agg (vals .u8 32 c)] w (.bool true) := by
  go_enter Try.func6, Try.ntmps6
  have hO := Own.start w
  have qP := point_p a ha
  have hP := ok_ptP a ha
  generalize ptP a = P at qP hP
  have KP := hide qP
  clear qP
  have qQ := point_p b hb
  have hQ := ok_ptP b hb
  generalize ptP b = Q at qQ hQ
  have KQ := hide qQ
  clear qQ
  have qS := point_p c hc
  have hS := ok_ptP c hc
  generalize ptP c = S at qS hS
  have KS := hide qS
  clear qS
  go_upto_region 0 with (fail)
  refine f6r0_r hO (fit_by _) (fit_by _) (fit_by _) ?_
  intro n3 n4 n5 w1 hO
  replace hO : Own w w1 [(n5, vals .u8 32 c, 22), (n4, vals .u8 32 b, 22), (n3, vals .u8 32 a, 22)] := hO
  go_upto_region 1 with (fail)
  refine f6r1_r hO awake_c ?_
  intro w2 hO
  replace hO : Own w w2 [(n5, vals .u8 32 c, 22), (n4, vals .u8 32 b, 22), (n3, vals .u8 32 a, 22)] := hO
  go_upto_region 2 with (fail)
  refine f6r2_r hO 2 rfl KP.out (fit_pt _ _) (fit_rp _ _) ?_
  intro n8 n9 w3 hO
  replace hO : Own w w3 [(n9, rp P, 35), (n8, pt P, 29), (n5, vals .u8 32 c, 22), (n4, vals .u8 32 b, 22), (n3, vals .u8 32 a, 22)] := hO
  go_upto_region 3 with (fail)
  refine f6r3_r hO 3 rfl KQ.out (fit_pt _ _) (fit_rp _ _) ?_
  intro n10 n11 w4 hO
  replace hO : Own w w4 [(n11, rp Q, 35), (n10, pt Q, 29), (n9, rp P, 35), (n8, pt P, 29), (n5, vals .u8 32 c, 22), (n4, vals .u8 32 b, 22), (n3, vals .u8 32 a, 22)] := hO
  go_upto_region 4 with (fail)
  refine f6r4_r hO 4 rfl KS.out (fit_pt _ _) (fit_rp _ _) ?_
  intro n12 n13 w5 hO
  replace hO : Own w w5 [(n13, rp S, 35), (n12, pt S, 29), (n11, rp Q, 35), (n10, pt Q, 29), (n9, rp P, 35), (n8, pt P, 29), (n5, vals .u8 32 c, 22), (n4, vals .u8 32 b, 22), (n3, vals .u8 32 a, 22)] := hO
  go_upto_region 5 with (fail)
  refine f6r5_r (fun _ _ _ _ _ h => h) hO 5 rfl 3 rfl 1 rfl (add7_c hP hQ) (add7_c hQ hP) (same_t (ok_add hP hQ) (ok_add hQ hP) (add7_comm hP hQ)) (add7_c hP hQ) (add7_c (ok_add hP hQ) hS) (add7_c hQ hS) (add7_c hP (ok_add hQ hS)) (same_t (ok_add (ok_add hP hQ) hS) (ok_add hP (ok_add hQ hS)) (add7_assoc hP hQ hS)) ?_
  intro w6 hO
  replace hO : Own w w6 [(n13, rp S, 35), (n12, pt S, 29), (n11, rp Q, 35), (n10, pt Q, 29), (n9, rp P, 35), (n8, pt P, 29), (n5, vals .u8 32 c, 22), (n4, vals .u8 32 b, 22), (n3, vals .u8 32 a, 22)] := hO
  go_upto_region 6 with (fail)
  refine f6r6_r (fun _ _ _ _ _ h => h) hO 5 rfl zero_c (add7_c hP ok_zero7) (same_t (ok_add hP ok_zero7) hP (add7_zero hP)) (neg_p hP) (add7_c hP (ok_neg hP)) zero_c (same_t (ok_add hP (ok_neg hP)) ok_zero7 (add7_neg hP)) ?_
  intro w7 hO
  replace hO : Own w w7 [(n13, rp S, 35), (n12, pt S, 29), (n11, rp Q, 35), (n10, pt Q, 29), (n9, rp P, 35), (n8, pt P, 29), (n5, vals .u8 32 c, 22), (n4, vals .u8 32 b, 22), (n3, vals .u8 32 a, 22)] := hO
  go_upto_region 7 with (fail)
  refine f6r7_r hO 5 rfl (places_p hP) (fit_fe _) (fit_fe _) ?_
  intro n16 n17 w8 hO
  replace hO : Own w w8 [(n17, arr 4 (limb P.2), 27), (n16, arr 4 (limb P.1), 27), (n13, rp S, 35), (n12, pt S, 29), (n11, rp Q, 35), (n10, pt Q, 29), (n9, rp P, 35), (n8, pt P, 29), (n5, vals .u8 32 c, 22), (n4, vals .u8 32 b, 22), (n3, vals .u8 32 a, 22)] := hO
  go_upto_region 8 with (fail)
  refine f6r8_r hO 7 rfl (bytes_p hP) (dec_back hP) (fit_pt _ _) ?_
  intro n18 w9 hO
  replace hO : Own w w9 [(n18, pt P, 29), (n17, arr 4 (limb P.2), 27), (n16, arr 4 (limb P.1), 27), (n13, rp S, 35), (n12, pt S, 29), (n11, rp Q, 35), (n10, pt Q, 29), (n9, rp P, 35), (n8, pt P, 29), (n5, vals .u8 32 c, 22), (n4, vals .u8 32 b, 22), (n3, vals .u8 32 a, 22)] := hO
  go_upto_region 9 with (fail)
  refine f6r9_r (fun _ _ _ _ _ h => h) hO 8 rfl 2 rfl 1 rfl 0 rfl (same_t hP hP rfl) (bytes_p hP) (fun a w h => ix31 _ w rfl h) (fun a w h => shr_run6 a w _ (byt_lt _ _) h) (bytes_c _) (fun a w h => ix0 _ w rfl h) (fun a w h => and_run6 a w _ (byt_lt _ _) h) (fun a w h1 h2 => eq5_c _ _ _ _ (top_bit hP) w rfl h1 h2) (bytes_p hP) (low_c _ (byt_lt _)) (load_low hP) (same_one hP.y) ?_
  intro w10 hO
  replace hO : Own w w10 [(n18, pt P, 29), (n17, arr 4 (limb P.2), 27), (n16, arr 4 (limb P.1), 27), (n13, rp S, 35), (n12, pt S, 29), (n11, rp Q, 35), (n10, pt Q, 29), (n9, rp P, 35), (n8, pt P, 29), (n5, vals .u8 32 c, 22), (n4, vals .u8 32 b, 22), (n3, vals .u8 32 a, 22)] := hO
  go_wp2_with fail
  refine bodyPost_ret (v := .bool true) (results_tmp Try.results6 _ _ _) rfl ⟨rfl, hO.low⟩
end Go.Proofs.Ytalnkcijebdpbaa

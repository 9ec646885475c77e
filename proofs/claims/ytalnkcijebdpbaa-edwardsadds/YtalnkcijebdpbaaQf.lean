/- EdwardsAdds: the walk. Thirty-two bytes each; no other condition. -/
import Derived.Test.YtalnkcijebdpbaaQ0
namespace Go.Proofs.Ytalnkcijebdpbaa
open F Go.RowKit

theorem run_part {c e : Array Value} {off : Nat} {ty : TypeId} {d : TypeDesc} (hp : Part c off ty e) (hu : Try.prog.underlying ty = some d) (hd : d.isRow = true) (w : World) : (part ty c off).run Try.prog w = .ok (.agg e) w := by
  have hagg : ∀ w, (isAgg ty).run Try.prog w = .ok true w := by
    intro w
    unfold isAgg
    rw [Sem.run_bind, run_underlying hu w]
    cases d <;> simp_all
  cases hq : Try.prog.info? ty with
  | none => have := hp.size; simp [hq] at this
  | some i =>
    have hs : i.size = e.size := by have := hp.size; simpa [hq] using this
    simp [part, hagg, sizeOf, typeInfo, hq, hs, hp.eq]
theorem eqN9 (x y : Nat) (hx : x < pP) (hy : y < pP) (w : World) : (Op.equalIn 9999 33 (.agg (vals .u64 16 (F.dg x))) (.agg (vals .u64 16 (F.dg y)))).run Try.prog w = .ok (decide (x = y)) w := by
  rw [← all16 x y (lt256 hx) (lt256 hy)]
  exact run_equal_vals (P := Try.prog) w 9997 33 24 16 .u64 Try.underlying33 Try.underlying24 size24 _ _
theorem eqR {P Q : Nat × Nat} (hP : Ok7 P) (hQ : Ok7 Q) (w : World) : (Op.equalIn 10000 35 (.agg (rp P)) (.agg (rp Q))).run Try.prog w = .ok (decide (P = Q)) w := by
  rw [run_equalIn_struct w 9999 35 _ _ (by kernel_rfl) (by kernel_rfl)]
  obtain ⟨F1, F2, hF, n1, t1, o1, n2, t2, o2⟩ : ∃ F1 F2 : Field, (Try.prog.fieldsOf 35).toList = [F1, F2] ∧ F1.name ≠ "_" ∧ F1.type = 33 ∧ F1.offset = 0 ∧ F2.name ≠ "_" ∧ F2.type = 33 ∧ F2.offset = 16 := ⟨{ name := "X", type := 33, offset := 0, embedded := false, tag := "", pkgPath := "", byteOffset := 0 }, { name := "Y", type := 33, offset := 16, embedded := false, tag := "", pkgPath := "", byteOffset := 128 }, (by kernel_rfl), (by decide), rfl, rfl, (by decide), rfl, rfl⟩
  rw [hF]
  have e1 : ∀ w, (part 33 (rp P) 0).run Try.prog w = .ok (.agg (vals .u64 16 (F.dg P.1))) w := run_part (part_rp0 P.1 P.2) Try.underlying33 rfl
  have e2 : ∀ w, (part 33 (rp Q) 0).run Try.prog w = .ok (.agg (vals .u64 16 (F.dg Q.1))) w := run_part (part_rp0 Q.1 Q.2) Try.underlying33 rfl
  have e3 : ∀ w, (part 33 (rp P) 16).run Try.prog w = .ok (.agg (vals .u64 16 (F.dg P.2))) w := run_part (part_rp1 P.1 P.2) Try.underlying33 rfl
  have e4 : ∀ w, (part 33 (rp Q) 16).run Try.prog w = .ok (.agg (vals .u64 16 (F.dg Q.2))) w := run_part (part_rp1 Q.1 Q.2) Try.underlying33 rfl
  have q1 := eqN9 P.1 Q.1 hP.x hQ.x
  have q2 := eqN9 P.2 Q.2 hP.y hQ.y
  simp only [Op.eqFields, n1, n2, t1, t2, o1, o2, ne_eq, not_false_eq_true, if_true, Sem.run_bind, e1, e2, q1, Result.andThen_ok]
  have hd : decide (P = Q) = (decide (P.1 = Q.1) && decide (P.2 = Q.2)) := by
    rw [Bool.eq_iff_iff]
    simp only [Bool.and_eq_true, decide_eq_true_eq]
    exact ⟨fun h => ⟨h ▸ rfl, h ▸ rfl⟩, fun h => Prod.ext h.1 h.2⟩
  rw [hd]
  clear hd q1
  generalize decide (P.1 = Q.1) = b1
  generalize decide (P.2 = Q.2) = b2 at q2 ⊢
  cases b1
  · simp
  · cases b2 <;> simp [e3, e4, q2]
theorem eqR_c {ρ : Operand → Value} {o : Oper} {P Q : Nat × Nat} (x y : Operand) (hP : Ok7 P) (hQ : Ok7 Q) (w : World) (ho : o.op = .binOp .eql 35 x y 35) (hx : ρ x = .agg (rp P)) (hy : ρ y = .agg (rp Q)) : (execOp ρ o).run Try.prog w = .ok (.value (.bool (decide (P = Q)))) w := by
  have h := eqR hP hQ
  unfold execOp
  simp only [ho, hx, hy]
  go_simp
def f4r0Op0 : Oper := ⟨some 2, .box 22 (.tmp 0), 0, "law.go:52", #[], none⟩
def f4r0Op1 : Oper := ⟨some 3, .box 22 (.tmp 1), 0, "law.go:52", #[], none⟩
def f4r0Op2 : Oper := ⟨some 4, .assign (.const (.bool false)), 4, "law.go:52", #[], none⟩
def f4r0Ops : Array Oper := #[f4r0Op0, f4r0Op1, f4r0Op2]
set_option maxRecDepth 100000 in
set_option maxHeartbeats 2000000 in
theorem f4r0_r {Q : Exit → Act → World → Prop} {u w : World} {L : List Row} {z2 z3 z4 : Value} {zz : List Value} {e0 e1 : Array Value} (hO : Own u w L) (fe0_22 : Fit 22 e0) (fe1_22 : Fit 22 e1) (H : ∀ (n2 : Nat) (n3 : Nat) (w' : World), Own u w' ((n3, e1, 22) :: (n2, e0, 22) :: L) → Q .normal { tmps := List.toArray ((.agg e0) :: (.agg e1) :: (.pointer (some ⟨n2, 0, none⟩)) :: (.pointer (some ⟨n3, 0, none⟩)) :: (.bool false) :: zz), defers := [] } w') :
    (Code.region 0 f4r0Ops false).wp Try.prog Q { tmps := List.toArray ((.agg e0) :: (.agg e1) :: z2 :: z3 :: z4 :: zz), defers := [] } w := by
  refine wp_region_list (show wpList _ f4r0Ops _ [f4r0Op0, f4r0Op1, f4r0Op2] _ _ from ?_)
  refine l_new hO (e0) 22 (run_box 22 _ rfl _ (by kernel_rfl)) fe0_22 ?_
  intro n2 w1 hO
  refine l_new hO (e1) 22 (run_box 22 _ rfl _ (by kernel_rfl)) fe1_22 ?_
  intro n3 w2 hO
  refine l_val (.bool false) (by kernel_rfl) ?_
  exact l_fr _ (wpList_nil (H n2 n3 _ hO))
def f4r1Op0 : Oper := ⟨some 16, .call { callee := .value (.func 11), args := #[], argTypes := #[] }, 4, "law.go:53", #[], none⟩
def f4r1Op1 : Oper := ⟨some 5, .assign (.tmp 16), 4, "law.go:53", #[⟨0, .data⟩, ⟨0, .chain⟩, ⟨0, .phase⟩], none⟩
def f4r1Ops : Array Oper := #[f4r1Op0, f4r1Op1]
set_option maxRecDepth 100000 in
set_option maxHeartbeats 2000000 in
theorem f4r1_r {Q : Exit → Act → World → Prop} {u w : World} {L : List Row} {z0 z1 z2 z3 z4 z5 z6 z7 z8 z9 z10 z11 z12 z13 z14 z15 z16 : Value} {zz : List Value} {p16 : Bool} (hO : Own u w L) (r16 : ∀ w, Ret 11 #[] w (.bool p16)) (H : ∀ (w' : World), Own u w' (L) → Q .normal { tmps := List.toArray (z0 :: z1 :: z2 :: z3 :: z4 :: (.bool p16) :: z6 :: z7 :: z8 :: z9 :: z10 :: z11 :: z12 :: z13 :: z14 :: z15 :: (.bool p16) :: zz), defers := [] } w') :
    (Code.region 1 f4r1Ops false).wp Try.prog Q { tmps := List.toArray (z0 :: z1 :: z2 :: z3 :: z4 :: z5 :: z6 :: z7 :: z8 :: z9 :: z10 :: z11 :: z12 :: z13 :: z14 :: z15 :: z16 :: zz), defers := [] } w := by
  refine wp_region_list (show wpList _ f4r1Ops _ [f4r1Op0, f4r1Op1] _ _ from ?_)
  refine l_call hO 11 #[] (.bool p16) r16 ?_
  intro w1 hO
  refine l_val (.bool p16) (by kernel_rfl) ?_
  exact l_fr _ (wpList_nil (H  _ hO))
def f4r2Op0 : Oper := ⟨some 18, .load 22 (.tmp 2), 22, "law.go:54", #[], none⟩
def f4r2Op1 : Oper := ⟨some 19, .call { callee := .value (.func 20), args := #[.tmp 18], argTypes := #[22] }, 45, "law.go:54", #[⟨0, .data⟩], none⟩
def f4r2Op2 : Oper := ⟨some 17, .move (.tmp 19), 45, "law.go:54", #[⟨1, .data⟩], none⟩
def f4r2Op3 : Oper := ⟨some 20, .extract (.tmp 17) 0, 29, "law.go:54", #[⟨2, .data⟩], none⟩
def f4r2Op4 : Oper := ⟨some 21, .extract (.tmp 17) 1, 35, "law.go:54", #[⟨2, .data⟩, ⟨7, .gcOnly .lateStores⟩], none⟩
def f4r2Op5 : Oper := ⟨some 6, .alloc 29, 0, "law.go:54", #[], none⟩
def f4r2Op6 : Oper := ⟨some 7, .alloc 35, 0, "law.go:54", #[], none⟩
def f4r2Op7 : Oper := ⟨none, .store 29 (.tmp 6) (.tmp 20), 0, "law.go:54", #[⟨5, .data⟩, ⟨3, .data⟩, ⟨1, .chain⟩, ⟨0, .phase⟩, ⟨1, .phase⟩, ⟨2, .phase⟩, ⟨3, .phase⟩, ⟨4, .textOnly .lateStores⟩, ⟨5, .phase⟩, ⟨6, .phase⟩], none⟩
def f4r2Op8 : Oper := ⟨none, .store 35 (.tmp 7) (.tmp 21), 0, "law.go:54", #[⟨6, .data⟩, ⟨4, .data⟩, ⟨7, .chain⟩, ⟨0, .phase⟩, ⟨1, .phase⟩, ⟨2, .phase⟩, ⟨3, .phase⟩, ⟨4, .phase⟩, ⟨5, .phase⟩, ⟨6, .phase⟩, ⟨7, .phase⟩], none⟩
def f4r2Ops : Array Oper := #[f4r2Op0, f4r2Op1, f4r2Op2, f4r2Op3, f4r2Op4, f4r2Op5, f4r2Op6, f4r2Op7, f4r2Op8]
set_option maxRecDepth 100000 in
set_option maxHeartbeats 2000000 in
theorem f4r2_r {Q : Exit → Act → World → Prop} {u w : World} {L : List Row} {z0 z1 z3 z4 z5 z6 z7 z8 z9 z10 z11 z12 z13 z14 z15 z16 z17 z18 z19 z20 z21 : Value} {zz : List Value} {b2 : Nat} {c2 : Array Value} {e19a e19b : Array Value} (hO : Own u w L) (i2 : Nat) (h2 : L[i2]? = some (b2, c2, 22)) (r19 : ∀ w, Ret 20 #[.agg c2] w (.tuple #[.agg e19a, .agg e19b])) (fe19a_29 : Fit 29 e19a) (fe19b_35 : Fit 35 e19b) (H : ∀ (n6 : Nat) (n7 : Nat) (w' : World), Own u w' ((n7, e19b, 35) :: (n6, e19a, 29) :: L) → Q .normal { tmps := List.toArray (z0 :: z1 :: (.pointer (some ⟨b2, 0, none⟩)) :: z3 :: z4 :: z5 :: (.pointer (some ⟨n6, 0, none⟩)) :: (.pointer (some ⟨n7, 0, none⟩)) :: z8 :: z9 :: z10 :: z11 :: z12 :: z13 :: z14 :: z15 :: z16 :: (.tuple #[.agg e19a, .agg e19b]) :: (.agg c2) :: (.tuple #[.agg e19a, .agg e19b]) :: (.agg e19a) :: (.agg e19b) :: zz), defers := [] } w') :
    (Code.region 2 f4r2Ops false).wp Try.prog Q { tmps := List.toArray (z0 :: z1 :: (.pointer (some ⟨b2, 0, none⟩)) :: z3 :: z4 :: z5 :: z6 :: z7 :: z8 :: z9 :: z10 :: z11 :: z12 :: z13 :: z14 :: z15 :: z16 :: z17 :: z18 :: z19 :: z20 :: z21 :: zz), defers := [] } w := by
  refine wp_region_list (show wpList _ f4r2Ops _ [f4r2Op0, f4r2Op1, f4r2Op2, f4r2Op3, f4r2Op4, f4r2Op5, f4r2Op6, f4r2Op7, f4r2Op8] _ _ from ?_)
  refine l_ld hO 22 i2 h2 Try.underlying22 ?_
  refine l_call hO 20 #[.agg c2] (.tuple #[.agg e19a, .agg e19b]) r19 ?_
  intro w1 hO
  refine l_val (.tuple #[.agg e19a, .agg e19b]) (by kernel_rfl) ?_
  refine l_fr (Fr [z0, z1, D b2, z3, z4, z5, z6, z7, z8, z9, z10, z11, z12, z13, z14, z15, z16, .tuple #[.agg e19a, .agg e19b], A c2, .tuple #[.agg e19a, .agg e19b], z20, z21] zz) ?_
  refine l_val (.agg e19a) (by kernel_rfl) ?_
  refine l_val (.agg e19b) (by kernel_rfl) ?_
  refine l_new hO (ps [0, 0]) 29 (al29 rfl) (fit_pt _ _) ?_
  intro n6 w2 hO
  refine l_fr (Fr [z0, z1, D b2, z3, z4, z5, D n6, z7, z8, z9, z10, z11, z12, z13, z14, z15, z16, .tuple #[.agg e19a, .agg e19b], A c2, .tuple #[.agg e19a, .agg e19b], A e19a, A e19b] zz) ?_
  refine l_new hO (qn [0, 0]) 35 (al35 rfl) (fit_rp _ _) ?_
  intro n7 w3 hO
  refine l_st hO 29 1 rfl e19a fe19a_29 ?_
  intro w4 hO
  replace hO : Own u w4 ((n7, qn [0, 0], 35) :: (n6, e19a, 29) :: L) := hO
  refine l_st hO 35 0 rfl e19b fe19b_35 ?_
  intro w5 hO
  exact l_fr _ (wpList_nil (H n6 n7 _ hO))
def f4r3Op0 : Oper := ⟨some 23, .load 22 (.tmp 3), 22, "law.go:55", #[], none⟩
def f4r3Op1 : Oper := ⟨some 24, .call { callee := .value (.func 20), args := #[.tmp 23], argTypes := #[22] }, 45, "law.go:55", #[⟨0, .data⟩], none⟩
def f4r3Op2 : Oper := ⟨some 22, .move (.tmp 24), 45, "law.go:55", #[⟨1, .data⟩], none⟩
def f4r3Op3 : Oper := ⟨some 25, .extract (.tmp 22) 0, 29, "law.go:55", #[⟨2, .data⟩], none⟩
def f4r3Op4 : Oper := ⟨some 26, .extract (.tmp 22) 1, 35, "law.go:55", #[⟨2, .data⟩, ⟨7, .gcOnly .lateStores⟩], none⟩
def f4r3Op5 : Oper := ⟨some 8, .alloc 29, 0, "law.go:55", #[], none⟩
def f4r3Op6 : Oper := ⟨some 9, .alloc 35, 0, "law.go:55", #[], none⟩
def f4r3Op7 : Oper := ⟨none, .store 29 (.tmp 8) (.tmp 25), 0, "law.go:55", #[⟨5, .data⟩, ⟨3, .data⟩, ⟨1, .chain⟩, ⟨0, .phase⟩, ⟨1, .phase⟩, ⟨2, .phase⟩, ⟨3, .phase⟩, ⟨4, .textOnly .lateStores⟩, ⟨5, .phase⟩, ⟨6, .phase⟩], none⟩
def f4r3Op8 : Oper := ⟨none, .store 35 (.tmp 9) (.tmp 26), 0, "law.go:55", #[⟨6, .data⟩, ⟨4, .data⟩, ⟨7, .chain⟩, ⟨0, .phase⟩, ⟨1, .phase⟩, ⟨2, .phase⟩, ⟨3, .phase⟩, ⟨4, .phase⟩, ⟨5, .phase⟩, ⟨6, .phase⟩, ⟨7, .phase⟩], none⟩
def f4r3Ops : Array Oper := #[f4r3Op0, f4r3Op1, f4r3Op2, f4r3Op3, f4r3Op4, f4r3Op5, f4r3Op6, f4r3Op7, f4r3Op8]
set_option maxRecDepth 100000 in
set_option maxHeartbeats 2000000 in
theorem f4r3_r {Q : Exit → Act → World → Prop} {u w : World} {L : List Row} {z0 z1 z2 z4 z5 z6 z7 z8 z9 z10 z11 z12 z13 z14 z15 z16 z17 z18 z19 z20 z21 z22 z23 z24 z25 z26 : Value} {zz : List Value} {b3 : Nat} {c3 : Array Value} {e24a e24b : Array Value} (hO : Own u w L) (i3 : Nat) (h3 : L[i3]? = some (b3, c3, 22)) (r24 : ∀ w, Ret 20 #[.agg c3] w (.tuple #[.agg e24a, .agg e24b])) (fe24a_29 : Fit 29 e24a) (fe24b_35 : Fit 35 e24b) (H : ∀ (n8 : Nat) (n9 : Nat) (w' : World), Own u w' ((n9, e24b, 35) :: (n8, e24a, 29) :: L) → Q .normal { tmps := List.toArray (z0 :: z1 :: z2 :: (.pointer (some ⟨b3, 0, none⟩)) :: z4 :: z5 :: z6 :: z7 :: (.pointer (some ⟨n8, 0, none⟩)) :: (.pointer (some ⟨n9, 0, none⟩)) :: z10 :: z11 :: z12 :: z13 :: z14 :: z15 :: z16 :: z17 :: z18 :: z19 :: z20 :: z21 :: (.tuple #[.agg e24a, .agg e24b]) :: (.agg c3) :: (.tuple #[.agg e24a, .agg e24b]) :: (.agg e24a) :: (.agg e24b) :: zz), defers := [] } w') :
    (Code.region 3 f4r3Ops false).wp Try.prog Q { tmps := List.toArray (z0 :: z1 :: z2 :: (.pointer (some ⟨b3, 0, none⟩)) :: z4 :: z5 :: z6 :: z7 :: z8 :: z9 :: z10 :: z11 :: z12 :: z13 :: z14 :: z15 :: z16 :: z17 :: z18 :: z19 :: z20 :: z21 :: z22 :: z23 :: z24 :: z25 :: z26 :: zz), defers := [] } w := by
  refine wp_region_list (show wpList _ f4r3Ops _ [f4r3Op0, f4r3Op1, f4r3Op2, f4r3Op3, f4r3Op4, f4r3Op5, f4r3Op6, f4r3Op7, f4r3Op8] _ _ from ?_)
  refine l_ld hO 22 i3 h3 Try.underlying22 ?_
  refine l_call hO 20 #[.agg c3] (.tuple #[.agg e24a, .agg e24b]) r24 ?_
  intro w1 hO
  refine l_val (.tuple #[.agg e24a, .agg e24b]) (by kernel_rfl) ?_
  refine l_fr (Fr [z0, z1, z2, D b3, z4, z5, z6, z7, z8, z9, z10, z11, z12, z13, z14, z15, z16, z17, z18, z19, z20, z21, .tuple #[.agg e24a, .agg e24b], A c3, .tuple #[.agg e24a, .agg e24b], z25, z26] zz) ?_
  refine l_val (.agg e24a) (by kernel_rfl) ?_
  refine l_val (.agg e24b) (by kernel_rfl) ?_
  refine l_new hO (ps [0, 0]) 29 (al29 rfl) (fit_pt _ _) ?_
  intro n8 w2 hO
  refine l_fr (Fr [z0, z1, z2, D b3, z4, z5, z6, z7, D n8, z9, z10, z11, z12, z13, z14, z15, z16, z17, z18, z19, z20, z21, .tuple #[.agg e24a, .agg e24b], A c3, .tuple #[.agg e24a, .agg e24b], A e24a, A e24b] zz) ?_
  refine l_new hO (qn [0, 0]) 35 (al35 rfl) (fit_rp _ _) ?_
  intro n9 w3 hO
  refine l_st hO 29 1 rfl e24a fe24a_29 ?_
  intro w4 hO
  replace hO : Own u w4 ((n9, qn [0, 0], 35) :: (n8, e24a, 29) :: L) := hO
  refine l_st hO 35 0 rfl e24b fe24b_35 ?_
  intro w5 hO
  exact l_fr _ (wpList_nil (H n8 n9 _ hO))
def f4r4Op0 : Oper := ⟨some 27, .load 29 (.tmp 6), 29, "law.go:56", #[], none⟩
def f4r4Op1 : Oper := ⟨some 28, .load 29 (.tmp 8), 29, "law.go:56", #[], none⟩
def f4r4Op2 : Oper := ⟨some 29, .call { callee := .value (.func 21), args := #[.tmp 27, .tmp 28], argTypes := #[29, 29] }, 29, "law.go:56", #[⟨0, .data⟩, ⟨1, .data⟩], none⟩
def f4r4Op3 : Oper := ⟨some 10, .alloc 29, 0, "law.go:56", #[], none⟩
def f4r4Op4 : Oper := ⟨none, .store 29 (.tmp 10) (.tmp 29), 0, "law.go:56", #[⟨3, .data⟩, ⟨2, .data⟩, ⟨2, .chain⟩, ⟨0, .phase⟩, ⟨1, .phase⟩, ⟨2, .phase⟩, ⟨3, .phase⟩], none⟩
def f4r4Ops : Array Oper := #[f4r4Op0, f4r4Op1, f4r4Op2, f4r4Op3, f4r4Op4]
set_option maxRecDepth 100000 in
set_option maxHeartbeats 2000000 in
theorem f4r4_r {Q : Exit → Act → World → Prop} {u w : World} {L : List Row} {z0 z1 z2 z3 z4 z5 z7 z9 z10 z11 z12 z13 z14 z15 z16 z17 z18 z19 z20 z21 z22 z23 z24 z25 z26 z27 z28 z29 : Value} {zz : List Value} {b6 b8 : Nat} {c6 c8 : Array Value} {e29 : Array Value} (hO : Own u w L) (i6 : Nat) (h6 : L[i6]? = some (b6, c6, 29)) (i8 : Nat) (h8 : L[i8]? = some (b8, c8, 29)) (r29 : ∀ w, Ret 21 #[.agg c6, .agg c8] w (.agg e29)) (fe29_29 : Fit 29 e29) (H : ∀ (n10 : Nat) (w' : World), Own u w' ((n10, e29, 29) :: L) → Q .normal { tmps := List.toArray (z0 :: z1 :: z2 :: z3 :: z4 :: z5 :: (.pointer (some ⟨b6, 0, none⟩)) :: z7 :: (.pointer (some ⟨b8, 0, none⟩)) :: z9 :: (.pointer (some ⟨n10, 0, none⟩)) :: z11 :: z12 :: z13 :: z14 :: z15 :: z16 :: z17 :: z18 :: z19 :: z20 :: z21 :: z22 :: z23 :: z24 :: z25 :: z26 :: (.agg c6) :: (.agg c8) :: (.agg e29) :: zz), defers := [] } w') :
    (Code.region 4 f4r4Ops false).wp Try.prog Q { tmps := List.toArray (z0 :: z1 :: z2 :: z3 :: z4 :: z5 :: (.pointer (some ⟨b6, 0, none⟩)) :: z7 :: (.pointer (some ⟨b8, 0, none⟩)) :: z9 :: z10 :: z11 :: z12 :: z13 :: z14 :: z15 :: z16 :: z17 :: z18 :: z19 :: z20 :: z21 :: z22 :: z23 :: z24 :: z25 :: z26 :: z27 :: z28 :: z29 :: zz), defers := [] } w := by
  refine wp_region_list (show wpList _ f4r4Ops _ [f4r4Op0, f4r4Op1, f4r4Op2, f4r4Op3, f4r4Op4] _ _ from ?_)
  refine l_ld hO 29 i6 h6 Try.underlying29 ?_
  refine l_ld hO 29 i8 h8 Try.underlying29 ?_
  refine l_call hO 21 #[.agg c6, .agg c8] (.agg e29) r29 ?_
  intro w1 hO
  refine l_fr (Fr [z0, z1, z2, z3, z4, z5, D b6, z7, D b8, z9, z10, z11, z12, z13, z14, z15, z16, z17, z18, z19, z20, z21, z22, z23, z24, z25, z26, A c6, A c8, A e29] zz) ?_
  refine l_new hO (ps [0, 0]) 29 (al29 rfl) (fit_pt _ _) ?_
  intro n10 w2 hO
  refine l_st hO 29 0 rfl e29 fe29_29 ?_
  intro w3 hO
  exact l_fr _ (wpList_nil (H n10 _ hO))
def f4r5Op0 : Oper := ⟨some 30, .load 35 (.tmp 7), 35, "law.go:57", #[], none⟩
def f4r5Op1 : Oper := ⟨some 31, .load 35 (.tmp 9), 35, "law.go:57", #[], none⟩
def f4r5Op2 : Oper := ⟨some 32, .call { callee := .value (.func 22), args := #[.tmp 30, .tmp 31], argTypes := #[35, 35] }, 35, "law.go:57", #[⟨0, .data⟩, ⟨1, .data⟩], none⟩
def f4r5Op3 : Oper := ⟨some 11, .alloc 35, 0, "law.go:57", #[], none⟩
def f4r5Op4 : Oper := ⟨none, .store 35 (.tmp 11) (.tmp 32), 0, "law.go:57", #[⟨3, .data⟩, ⟨2, .data⟩, ⟨2, .chain⟩, ⟨0, .phase⟩, ⟨1, .phase⟩, ⟨2, .phase⟩, ⟨3, .phase⟩], none⟩
def f4r5Ops : Array Oper := #[f4r5Op0, f4r5Op1, f4r5Op2, f4r5Op3, f4r5Op4]
set_option maxRecDepth 100000 in
set_option maxHeartbeats 2000000 in
theorem f4r5_r {Q : Exit → Act → World → Prop} {u w : World} {L : List Row} {z0 z1 z2 z3 z4 z5 z6 z8 z10 z11 z12 z13 z14 z15 z16 z17 z18 z19 z20 z21 z22 z23 z24 z25 z26 z27 z28 z29 z30 z31 z32 : Value} {zz : List Value} {b7 b9 : Nat} {c7 c9 : Array Value} {e32 : Array Value} (hO : Own u w L) (i7 : Nat) (h7 : L[i7]? = some (b7, c7, 35)) (i9 : Nat) (h9 : L[i9]? = some (b9, c9, 35)) (r32 : ∀ w, Ret 22 #[.agg c7, .agg c9] w (.agg e32)) (fe32_35 : Fit 35 e32) (H : ∀ (n11 : Nat) (w' : World), Own u w' ((n11, e32, 35) :: L) → Q .normal { tmps := List.toArray (z0 :: z1 :: z2 :: z3 :: z4 :: z5 :: z6 :: (.pointer (some ⟨b7, 0, none⟩)) :: z8 :: (.pointer (some ⟨b9, 0, none⟩)) :: z10 :: (.pointer (some ⟨n11, 0, none⟩)) :: z12 :: z13 :: z14 :: z15 :: z16 :: z17 :: z18 :: z19 :: z20 :: z21 :: z22 :: z23 :: z24 :: z25 :: z26 :: z27 :: z28 :: z29 :: (.agg c7) :: (.agg c9) :: (.agg e32) :: zz), defers := [] } w') :
    (Code.region 5 f4r5Ops false).wp Try.prog Q { tmps := List.toArray (z0 :: z1 :: z2 :: z3 :: z4 :: z5 :: z6 :: (.pointer (some ⟨b7, 0, none⟩)) :: z8 :: (.pointer (some ⟨b9, 0, none⟩)) :: z10 :: z11 :: z12 :: z13 :: z14 :: z15 :: z16 :: z17 :: z18 :: z19 :: z20 :: z21 :: z22 :: z23 :: z24 :: z25 :: z26 :: z27 :: z28 :: z29 :: z30 :: z31 :: z32 :: zz), defers := [] } w := by
  refine wp_region_list (show wpList _ f4r5Ops _ [f4r5Op0, f4r5Op1, f4r5Op2, f4r5Op3, f4r5Op4] _ _ from ?_)
  refine l_ld hO 35 i7 h7 Try.underlying35 ?_
  refine l_ld hO 35 i9 h9 Try.underlying35 ?_
  refine l_call hO 22 #[.agg c7, .agg c9] (.agg e32) r32 ?_
  intro w1 hO
  refine l_fr (Fr [z0, z1, z2, z3, z4, z5, z6, D b7, z8, D b9, z10, z11, z12, z13, z14, z15, z16, z17, z18, z19, z20, z21, z22, z23, z24, z25, z26, z27, z28, z29, A c7, A c9, A e32] zz) ?_
  refine l_new hO (qn [0, 0]) 35 (al35 rfl) (fit_rp _ _) ?_
  intro n11 w2 hO
  refine l_st hO 35 0 rfl e32 fe32_35 ?_
  intro w3 hO
  exact l_fr _ (wpList_nil (H n11 _ hO))
def f4r6Op0 : Oper := ⟨some 34, .load 29 (.tmp 10), 29, "law.go:58", #[], none⟩
def f4r6Op1 : Oper := ⟨some 35, .call { callee := .value (.func 14), args := #[.tmp 34], argTypes := #[29] }, 38, "law.go:58", #[⟨0, .data⟩], none⟩
def f4r6Op2 : Oper := ⟨some 33, .move (.tmp 35), 38, "law.go:58", #[⟨1, .data⟩], none⟩
def f4r6Op3 : Oper := ⟨some 36, .extract (.tmp 33) 0, 27, "law.go:58", #[⟨2, .data⟩], none⟩
def f4r6Op4 : Oper := ⟨some 37, .extract (.tmp 33) 1, 27, "law.go:58", #[⟨2, .data⟩, ⟨7, .gcOnly .lateStores⟩], none⟩
def f4r6Op5 : Oper := ⟨some 12, .alloc 27, 0, "law.go:58", #[], none⟩
def f4r6Op6 : Oper := ⟨some 13, .alloc 27, 0, "law.go:58", #[], none⟩
def f4r6Op7 : Oper := ⟨none, .store 27 (.tmp 12) (.tmp 36), 0, "law.go:58", #[⟨5, .data⟩, ⟨3, .data⟩, ⟨1, .chain⟩, ⟨0, .phase⟩, ⟨1, .phase⟩, ⟨2, .phase⟩, ⟨3, .phase⟩, ⟨4, .textOnly .lateStores⟩, ⟨5, .phase⟩, ⟨6, .phase⟩], none⟩
def f4r6Op8 : Oper := ⟨none, .store 27 (.tmp 13) (.tmp 37), 0, "law.go:58", #[⟨6, .data⟩, ⟨4, .data⟩, ⟨7, .chain⟩, ⟨0, .phase⟩, ⟨1, .phase⟩, ⟨2, .phase⟩, ⟨3, .phase⟩, ⟨4, .phase⟩, ⟨5, .phase⟩, ⟨6, .phase⟩, ⟨7, .phase⟩], none⟩
def f4r6Ops : Array Oper := #[f4r6Op0, f4r6Op1, f4r6Op2, f4r6Op3, f4r6Op4, f4r6Op5, f4r6Op6, f4r6Op7, f4r6Op8]
set_option maxRecDepth 100000 in
set_option maxHeartbeats 2000000 in
theorem f4r6_r {Q : Exit → Act → World → Prop} {u w : World} {L : List Row} {z0 z1 z2 z3 z4 z5 z6 z7 z8 z9 z11 z12 z13 z14 z15 z16 z17 z18 z19 z20 z21 z22 z23 z24 z25 z26 z27 z28 z29 z30 z31 z32 z33 z34 z35 z36 z37 : Value} {zz : List Value} {b10 : Nat} {c10 : Array Value} {e35a e35b : Array Value} (hO : Own u w L) (i10 : Nat) (h10 : L[i10]? = some (b10, c10, 29)) (r35 : ∀ w, Ret 14 #[.agg c10] w (.tuple #[.agg e35a, .agg e35b])) (fe35a_27 : Fit 27 e35a) (fe35b_27 : Fit 27 e35b) (H : ∀ (n12 : Nat) (n13 : Nat) (w' : World), Own u w' ((n13, e35b, 27) :: (n12, e35a, 27) :: L) → Q .normal { tmps := List.toArray (z0 :: z1 :: z2 :: z3 :: z4 :: z5 :: z6 :: z7 :: z8 :: z9 :: (.pointer (some ⟨b10, 0, none⟩)) :: z11 :: (.pointer (some ⟨n12, 0, none⟩)) :: (.pointer (some ⟨n13, 0, none⟩)) :: z14 :: z15 :: z16 :: z17 :: z18 :: z19 :: z20 :: z21 :: z22 :: z23 :: z24 :: z25 :: z26 :: z27 :: z28 :: z29 :: z30 :: z31 :: z32 :: (.tuple #[.agg e35a, .agg e35b]) :: (.agg c10) :: (.tuple #[.agg e35a, .agg e35b]) :: (.agg e35a) :: (.agg e35b) :: zz), defers := [] } w') :
    (Code.region 6 f4r6Ops false).wp Try.prog Q { tmps := List.toArray (z0 :: z1 :: z2 :: z3 :: z4 :: z5 :: z6 :: z7 :: z8 :: z9 :: (.pointer (some ⟨b10, 0, none⟩)) :: z11 :: z12 :: z13 :: z14 :: z15 :: z16 :: z17 :: z18 :: z19 :: z20 :: z21 :: z22 :: z23 :: z24 :: z25 :: z26 :: z27 :: z28 :: z29 :: z30 :: z31 :: z32 :: z33 :: z34 :: z35 :: z36 :: z37 :: zz), defers := [] } w := by
  refine wp_region_list (show wpList _ f4r6Ops _ [f4r6Op0, f4r6Op1, f4r6Op2, f4r6Op3, f4r6Op4, f4r6Op5, f4r6Op6, f4r6Op7, f4r6Op8] _ _ from ?_)
  refine l_ld hO 29 i10 h10 Try.underlying29 ?_
  refine l_call hO 14 #[.agg c10] (.tuple #[.agg e35a, .agg e35b]) r35 ?_
  intro w1 hO
  refine l_val (.tuple #[.agg e35a, .agg e35b]) (by kernel_rfl) ?_
  refine l_fr (Fr [z0, z1, z2, z3, z4, z5, z6, z7, z8, z9, D b10, z11, z12, z13, z14, z15, z16, z17, z18, z19, z20, z21, z22, z23, z24, z25, z26, z27, z28, z29, z30, z31, z32, .tuple #[.agg e35a, .agg e35b], A c10, .tuple #[.agg e35a, .agg e35b], z36, z37] zz) ?_
  refine l_val (.agg e35a) (by kernel_rfl) ?_
  refine l_val (.agg e35b) (by kernel_rfl) ?_
  refine l_new hO (arr 4 (limb 0)) 27 (al27 rfl) (fit_fe _) ?_
  intro n12 w2 hO
  refine l_fr (Fr [z0, z1, z2, z3, z4, z5, z6, z7, z8, z9, D b10, z11, D n12, z13, z14, z15, z16, z17, z18, z19, z20, z21, z22, z23, z24, z25, z26, z27, z28, z29, z30, z31, z32, .tuple #[.agg e35a, .agg e35b], A c10, .tuple #[.agg e35a, .agg e35b], A e35a, A e35b] zz) ?_
  refine l_new hO (arr 4 (limb 0)) 27 (al27 rfl) (fit_fe _) ?_
  intro n13 w3 hO
  refine l_st hO 27 1 rfl e35a fe35a_27 ?_
  intro w4 hO
  replace hO : Own u w4 ((n13, arr 4 (limb 0), 27) :: (n12, e35a, 27) :: L) := hO
  refine l_st hO 27 0 rfl e35b fe35b_27 ?_
  intro w5 hO
  exact l_fr _ (wpList_nil (H n12 n13 _ hO))
def f4r7Op0 : Oper := ⟨some 38, .load 27 (.tmp 12), 27, "law.go:59", #[], none⟩
def f4r7Op1 : Oper := ⟨some 39, .call { callee := .value (.func 16), args := #[.tmp 38], argTypes := #[27] }, 22, "law.go:59", #[⟨0, .data⟩], none⟩
def f4r7Op2 : Oper := ⟨some 40, .fieldAddr 35 (.tmp 11) 0, 0, "law.go:59", #[], none⟩
def f4r7Op3 : Oper := ⟨some 41, .load 33 (.tmp 40), 33, "law.go:59", #[⟨2, .data⟩], none⟩
def f4r7Op4 : Oper := ⟨some 42, .call { callee := .value (.func 17), args := #[.tmp 41], argTypes := #[33] }, 22, "law.go:59", #[⟨3, .data⟩, ⟨1, .chain⟩], none⟩
def f4r7Op5 : Oper := ⟨some 43, .binOp .eql 22 (.tmp 39) (.tmp 42) 22, 4, "law.go:59", #[⟨1, .data⟩, ⟨4, .data⟩], none⟩
def f4r7Op6 : Oper := ⟨some 44, .move (.tmp 43), 4, "law.go:59", #[⟨5, .data⟩, ⟨4, .chain⟩], none⟩
def f4r7Op7 : Oper := ⟨some 45, .load 27 (.tmp 13), 27, "law.go:59", #[⟨6, .guard⟩], some (6, true)⟩
def f4r7Op8 : Oper := ⟨some 46, .call { callee := .value (.func 16), args := #[.tmp 45], argTypes := #[27] }, 22, "law.go:59", #[⟨7, .data⟩, ⟨6, .chain⟩, ⟨6, .guard⟩], some (6, true)⟩
def f4r7Op9 : Oper := ⟨some 47, .fieldAddr 35 (.tmp 11) 1, 0, "law.go:59", #[⟨6, .guard⟩], some (6, true)⟩
def f4r7Op10 : Oper := ⟨some 48, .load 33 (.tmp 47), 33, "law.go:59", #[⟨9, .data⟩, ⟨6, .guard⟩], some (6, true)⟩
def f4r7Op11 : Oper := ⟨some 49, .call { callee := .value (.func 17), args := #[.tmp 48], argTypes := #[33] }, 22, "law.go:59", #[⟨10, .data⟩, ⟨8, .chain⟩, ⟨6, .guard⟩], some (6, true)⟩
def f4r7Op12 : Oper := ⟨some 50, .binOp .eql 22 (.tmp 46) (.tmp 49) 22, 4, "law.go:59", #[⟨8, .data⟩, ⟨11, .data⟩, ⟨6, .guard⟩], some (6, true)⟩
def f4r7Op13 : Oper := ⟨some 51, .pick (.tmp 44) (.tmp 50) (.const (.bool false)), 4, "law.go:59", #[⟨6, .data⟩, ⟨12, .data⟩], none⟩
def f4r7Op14 : Oper := ⟨some 52, .move (.tmp 51), 4, "law.go:59", #[⟨13, .data⟩, ⟨11, .chain⟩], none⟩
def f4r7Op15 : Oper := ⟨some 53, .load 29 (.tmp 10), 29, "law.go:59", #[⟨14, .guard⟩], some (14, true)⟩
def f4r7Op16 : Oper := ⟨some 54, .call { callee := .value (.func 15), args := #[.tmp 53], argTypes := #[29] }, 22, "law.go:59", #[⟨15, .data⟩, ⟨14, .chain⟩, ⟨14, .guard⟩], some (14, true)⟩
def f4r7Op17 : Oper := ⟨some 55, .load 35 (.tmp 11), 35, "law.go:59", #[⟨14, .guard⟩], some (14, true)⟩
def f4r7Op18 : Oper := ⟨some 56, .call { callee := .value (.func 23), args := #[.tmp 55], argTypes := #[35] }, 22, "law.go:59", #[⟨17, .data⟩, ⟨16, .chain⟩, ⟨14, .guard⟩], some (14, true)⟩
def f4r7Op19 : Oper := ⟨some 57, .binOp .eql 22 (.tmp 54) (.tmp 56) 22, 4, "law.go:59", #[⟨16, .data⟩, ⟨18, .data⟩, ⟨14, .guard⟩], some (14, true)⟩
def f4r7Op20 : Oper := ⟨some 58, .pick (.tmp 52) (.tmp 57) (.const (.bool false)), 4, "law.go:59", #[⟨14, .data⟩, ⟨19, .data⟩], none⟩
def f4r7Op21 : Oper := ⟨some 14, .assign (.tmp 58), 4, "law.go:59", #[⟨20, .data⟩, ⟨18, .chain⟩, ⟨0, .phase⟩, ⟨1, .phase⟩, ⟨2, .phase⟩, ⟨3, .phase⟩, ⟨4, .phase⟩, ⟨5, .phase⟩, ⟨6, .phase⟩, ⟨7, .phase⟩, ⟨8, .phase⟩, ⟨9, .phase⟩, ⟨10, .phase⟩, ⟨11, .phase⟩, ⟨12, .phase⟩, ⟨13, .phase⟩, ⟨14, .phase⟩, ⟨15, .phase⟩, ⟨16, .phase⟩, ⟨17, .phase⟩, ⟨18, .phase⟩, ⟨19, .phase⟩, ⟨20, .phase⟩], none⟩
def f4r7Ops : Array Oper := #[f4r7Op0, f4r7Op1, f4r7Op2, f4r7Op3, f4r7Op4, f4r7Op5, f4r7Op6, f4r7Op7, f4r7Op8, f4r7Op9, f4r7Op10, f4r7Op11, f4r7Op12, f4r7Op13, f4r7Op14, f4r7Op15, f4r7Op16, f4r7Op17, f4r7Op18, f4r7Op19, f4r7Op20, f4r7Op21]
set_option maxRecDepth 100000 in
set_option maxHeartbeats 2000000 in
theorem f4r7_r {Q : Exit → Act → World → Prop} {u w : World} {L : List Row} {z0 z1 z2 z3 z4 z5 z6 z7 z8 z9 z14 z15 z16 z17 z18 z19 z20 z21 z22 z23 z24 z25 z26 z27 z28 z29 z30 z31 z32 z33 z34 z35 z36 z37 z38 z39 z40 z41 z42 z43 z44 z45 z46 z47 z48 z49 z50 z51 z52 z53 z54 z55 z56 z57 z58 : Value} {zz : List Value} {b10 b11 b12 b13 : Nat} {c10 c11 c12 c13 : Array Value} {e39 e41 e42 e46 e48 e49 e54 e56 : Array Value} (hQ : ∀ c a w n v, Q (.panic c) (a.put (some n) v) w → Q (.panic c) a w) (hO : Own u w L) (i10 : Nat) (h10 : L[i10]? = some (b10, c10, 29)) (i11 : Nat) (h11 : L[i11]? = some (b11, c11, 35)) (i12 : Nat) (h12 : L[i12]? = some (b12, c12, 27)) (i13 : Nat) (h13 : L[i13]? = some (b13, c13, 27)) (r39 : ∀ w, Ret 16 #[.agg c12] w (.agg e39)) (q41 : Part c11 0 33 e41) (r42 : ∀ w, Ret 17 #[.agg e41] w (.agg e42)) (k43 : ∀ (a : Act) (w : World), a.eval (.tmp 39) = .agg e39 → a.eval (.tmp 42) = .agg e42 → (execOp a.eval f4r7Op5).run Try.prog w = .ok (.value (.bool true)) w) (r46 : ∀ w, Ret 16 #[.agg c13] w (.agg e46)) (q48 : Part c11 16 33 e48) (r49 : ∀ w, Ret 17 #[.agg e48] w (.agg e49)) (k50 : ∀ (a : Act) (w : World), a.eval (.tmp 46) = .agg e46 → a.eval (.tmp 49) = .agg e49 → (execOp a.eval f4r7Op12).run Try.prog w = .ok (.value (.bool true)) w) (r54 : ∀ w, Ret 15 #[.agg c10] w (.agg e54)) (r56 : ∀ w, Ret 23 #[.agg c11] w (.agg e56)) (k57 : ∀ (a : Act) (w : World), a.eval (.tmp 54) = .agg e54 → a.eval (.tmp 56) = .agg e56 → (execOp a.eval f4r7Op19).run Try.prog w = .ok (.value (.bool true)) w) (H : ∀ (w' : World), Own u w' (L) → Q .normal { tmps := List.toArray (z0 :: z1 :: z2 :: z3 :: z4 :: z5 :: z6 :: z7 :: z8 :: z9 :: (.pointer (some ⟨b10, 0, none⟩)) :: (.pointer (some ⟨b11, 0, none⟩)) :: (.pointer (some ⟨b12, 0, none⟩)) :: (.pointer (some ⟨b13, 0, none⟩)) :: (.bool true) :: z15 :: z16 :: z17 :: z18 :: z19 :: z20 :: z21 :: z22 :: z23 :: z24 :: z25 :: z26 :: z27 :: z28 :: z29 :: z30 :: z31 :: z32 :: z33 :: z34 :: z35 :: z36 :: z37 :: (.agg c12) :: (.agg e39) :: (.pointer (some ⟨b11, 0, none⟩)) :: (.agg e41) :: (.agg e42) :: (.bool true) :: (.bool true) :: (.agg c13) :: (.agg e46) :: (.pointer (some ⟨b11, 16, none⟩)) :: (.agg e48) :: (.agg e49) :: (.bool true) :: (.bool true) :: (.bool true) :: (.agg c10) :: (.agg e54) :: (.agg c11) :: (.agg e56) :: (.bool true) :: (.bool true) :: zz), defers := [] } w') :
    (Code.region 7 f4r7Ops true).wp Try.prog Q { tmps := List.toArray (z0 :: z1 :: z2 :: z3 :: z4 :: z5 :: z6 :: z7 :: z8 :: z9 :: (.pointer (some ⟨b10, 0, none⟩)) :: (.pointer (some ⟨b11, 0, none⟩)) :: (.pointer (some ⟨b12, 0, none⟩)) :: (.pointer (some ⟨b13, 0, none⟩)) :: z14 :: z15 :: z16 :: z17 :: z18 :: z19 :: z20 :: z21 :: z22 :: z23 :: z24 :: z25 :: z26 :: z27 :: z28 :: z29 :: z30 :: z31 :: z32 :: z33 :: z34 :: z35 :: z36 :: z37 :: z38 :: z39 :: z40 :: z41 :: z42 :: z43 :: z44 :: z45 :: z46 :: z47 :: z48 :: z49 :: z50 :: z51 :: z52 :: z53 :: z54 :: z55 :: z56 :: z57 :: z58 :: zz), defers := [] } w := by
  have fc10_29 := hO.fits i10 h10
  have fc11_35 := hO.fits i11 h11
  have fc12_27 := hO.fits i12 h12
  have fc13_27 := hO.fits i13 h13
  refine wp_region_held_drew (S := Has [(b10, c10, 29), (b11, c11, 35), (b12, c12, 27), (b13, c13, 27)]) (by kernel_rfl) ⟨hO.drew.row _ h10, hO.drew.row _ h11, hO.drew.row _ h12, hO.drew.row _ h13, trivial⟩ (fun hS => ?_)
  replace hO := hO.drew
  refine d_tk 0 f4r7Op0 (.agg c12) hQ (y_l 27 (fun _ h => h.2.2.1) fc12_27 Try.underlying27) hS ?_
  refine d_tk 2 f4r7Op2 (.pointer (some ⟨b11, 0, none⟩)) hQ (y_val (fun _ => by kernel_rfl)) hS ?_
  refine d_tk 3 f4r7Op3 (.agg e41) hQ (y_p 33 (fun _ h => h.2.1) q41 Try.underlying33) hS ?_
  refine d_fr (ls 22 13) (Fr [z0, z1, z2, z3, z4, z5, z6, z7, z8, z9, D b10, D b11, D b12, D b13, z14, z15, z16, z17, z18, z19, z20, z21, z22, z23, z24, z25, z26, z27, z28, z29, z30, z31, z32, z33, z34, z35, z36, z37, A c12, z39, .pointer (some ⟨b11, 0, none⟩), A e41, z42, z43, z44, z45, z46, z47, z48, z49, z50, z51, z52, z53, z54, z55, z56, z57, z58] zz) ?_
  refine d_one 1 f4r7Op1 (ls 22 15) (fun K hK => ?_)
  refine k_call hK hO (fun _ hO => ⟨hO.row _ h10, hO.row _ h11, hO.row _ h12, hO.row _ h13, trivial⟩) 16 #[.agg c12] (.agg e39) r39 ?_
  intro w1 hO
  refine d_one 4 f4r7Op4 (ls 22 31) (fun K hK => ?_)
  refine k_call hK hO (fun _ hO => ⟨hO.row _ h10, hO.row _ h11, hO.row _ h12, hO.row _ h13, trivial⟩) 17 #[.agg e41] (.agg e42) r42 ?_
  intro w2 hO
  have hS : Has [(b10, c10, 29), (b11, c11, 35), (b12, c12, 27), (b13, c13, 27)] w2 := ⟨hO.row _ h10, hO.row _ h11, hO.row _ h12, hO.row _ h13, trivial⟩
  refine d_tk 5 f4r7Op5 (.bool true) hQ (y_val (fun _ => k43 _ _ (by kernel_rfl) (by kernel_rfl))) hS ?_
  refine d_tk 6 f4r7Op6 (.bool true) hQ (y_val (fun _ => by kernel_rfl)) hS ?_
  refine d_tk 7 f4r7Op7 (.agg c13) hQ (y_l 27 (fun _ h => h.2.2.2.1) fc13_27 Try.underlying27) hS ?_
  refine d_fr (ls 22 255) (Fr [z0, z1, z2, z3, z4, z5, z6, z7, z8, z9, D b10, D b11, D b12, D b13, z14, z15, z16, z17, z18, z19, z20, z21, z22, z23, z24, z25, z26, z27, z28, z29, z30, z31, z32, z33, z34, z35, z36, z37, A c12, A e39, .pointer (some ⟨b11, 0, none⟩), A e41, A e42, .bool true, .bool true, A c13, z46, z47, z48, z49, z50, z51, z52, z53, z54, z55, z56, z57, z58] zz) ?_
  refine d_tk 9 f4r7Op9 (.pointer (some ⟨b11, 16, none⟩)) hQ (y_val (fun _ => by kernel_rfl)) hS ?_
  refine d_tk 10 f4r7Op10 (.agg e48) hQ (y_p 33 (fun _ h => h.2.1) q48 Try.underlying33) hS ?_
  refine d_fr (ls 22 1791) (Fr [z0, z1, z2, z3, z4, z5, z6, z7, z8, z9, D b10, D b11, D b12, D b13, z14, z15, z16, z17, z18, z19, z20, z21, z22, z23, z24, z25, z26, z27, z28, z29, z30, z31, z32, z33, z34, z35, z36, z37, A c12, A e39, .pointer (some ⟨b11, 0, none⟩), A e41, A e42, .bool true, .bool true, A c13, z46, .pointer (some ⟨b11, 16, none⟩), A e48, z49, z50, z51, z52, z53, z54, z55, z56, z57, z58] zz) ?_
  refine d_one 8 f4r7Op8 (ls 22 2047) (fun K hK => ?_)
  refine k_call hK hO (fun _ hO => ⟨hO.row _ h10, hO.row _ h11, hO.row _ h12, hO.row _ h13, trivial⟩) 16 #[.agg c13] (.agg e46) r46 ?_
  intro w3 hO
  refine d_one 11 f4r7Op11 (ls 22 4095) (fun K hK => ?_)
  refine k_call hK hO (fun _ hO => ⟨hO.row _ h10, hO.row _ h11, hO.row _ h12, hO.row _ h13, trivial⟩) 17 #[.agg e48] (.agg e49) r49 ?_
  intro w4 hO
  have hS : Has [(b10, c10, 29), (b11, c11, 35), (b12, c12, 27), (b13, c13, 27)] w4 := ⟨hO.row _ h10, hO.row _ h11, hO.row _ h12, hO.row _ h13, trivial⟩
  refine d_tk 12 f4r7Op12 (.bool true) hQ (y_val (fun _ => k50 _ _ (by kernel_rfl) (by kernel_rfl))) hS ?_
  refine d_tk 13 f4r7Op13 (.bool true) hQ (y_val (fun _ => by kernel_rfl)) hS ?_
  refine d_tk 14 f4r7Op14 (.bool true) hQ (y_val (fun _ => by kernel_rfl)) hS ?_
  refine d_fr (ls 22 32767) (Fr [z0, z1, z2, z3, z4, z5, z6, z7, z8, z9, D b10, D b11, D b12, D b13, z14, z15, z16, z17, z18, z19, z20, z21, z22, z23, z24, z25, z26, z27, z28, z29, z30, z31, z32, z33, z34, z35, z36, z37, A c12, A e39, .pointer (some ⟨b11, 0, none⟩), A e41, A e42, .bool true, .bool true, A c13, A e46, .pointer (some ⟨b11, 16, none⟩), A e48, A e49, .bool true, .bool true, .bool true, z53, z54, z55, z56, z57, z58] zz) ?_
  refine d_tk 15 f4r7Op15 (.agg c10) hQ (y_l 29 (fun _ h => h.1) fc10_29 Try.underlying29) hS ?_
  refine d_tk 17 f4r7Op17 (.agg c11) hQ (y_l 35 (fun _ h => h.2.1) fc11_35 Try.underlying35) hS ?_
  refine d_fr (ls 22 196607) (Fr [z0, z1, z2, z3, z4, z5, z6, z7, z8, z9, D b10, D b11, D b12, D b13, z14, z15, z16, z17, z18, z19, z20, z21, z22, z23, z24, z25, z26, z27, z28, z29, z30, z31, z32, z33, z34, z35, z36, z37, A c12, A e39, .pointer (some ⟨b11, 0, none⟩), A e41, A e42, .bool true, .bool true, A c13, A e46, .pointer (some ⟨b11, 16, none⟩), A e48, A e49, .bool true, .bool true, .bool true, A c10, z54, A c11, z56, z57, z58] zz) ?_
  refine d_one 16 f4r7Op16 (ls 22 262143) (fun K hK => ?_)
  refine k_call hK hO (fun _ hO => ⟨hO.row _ h10, hO.row _ h11, hO.row _ h12, hO.row _ h13, trivial⟩) 15 #[.agg c10] (.agg e54) r54 ?_
  intro w5 hO
  refine d_one 18 f4r7Op18 (ls 22 524287) (fun K hK => ?_)
  refine k_call hK hO (fun _ hO => ⟨hO.row _ h10, hO.row _ h11, hO.row _ h12, hO.row _ h13, trivial⟩) 23 #[.agg c11] (.agg e56) r56 ?_
  intro w6 hO
  have hS : Has [(b10, c10, 29), (b11, c11, 35), (b12, c12, 27), (b13, c13, 27)] w6 := ⟨hO.row _ h10, hO.row _ h11, hO.row _ h12, hO.row _ h13, trivial⟩
  refine d_tk 19 f4r7Op19 (.bool true) hQ (y_val (fun _ => k57 _ _ (by kernel_rfl) (by kernel_rfl))) hS ?_
  refine d_tk 20 f4r7Op20 (.bool true) hQ (y_val (fun _ => by kernel_rfl)) hS ?_
  refine d_tk 21 f4r7Op21 (.bool true) hQ (y_val (fun _ => by kernel_rfl)) hS ?_
  exact d_fr (ls 22 4194303) _ (wpAnyH_done (by kernel_rfl) (H  _ hO) _)
def f4r8Op0 : Oper := ⟨some 59, .load 35 (.tmp 11), 35, "law.go:60", #[], none⟩
def f4r8Op1 : Oper := ⟨some 60, .call { callee := .value (.func 24), args := #[.tmp 59], argTypes := #[35] }, 4, "law.go:60", #[⟨0, .data⟩], none⟩
def f4r8Op2 : Oper := ⟨some 15, .assign (.tmp 60), 4, "law.go:60", #[⟨1, .data⟩, ⟨1, .chain⟩, ⟨0, .phase⟩, ⟨1, .phase⟩], none⟩
def f4r8Ops : Array Oper := #[f4r8Op0, f4r8Op1, f4r8Op2]
set_option maxRecDepth 100000 in
set_option maxHeartbeats 2000000 in
theorem f4r8_r {Q : Exit → Act → World → Prop} {u w : World} {L : List Row} {z0 z1 z2 z3 z4 z5 z6 z7 z8 z9 z10 z12 z13 z14 z15 z16 z17 z18 z19 z20 z21 z22 z23 z24 z25 z26 z27 z28 z29 z30 z31 z32 z33 z34 z35 z36 z37 z38 z39 z40 z41 z42 z43 z44 z45 z46 z47 z48 z49 z50 z51 z52 z53 z54 z55 z56 z57 z58 z59 z60 : Value} {zz : List Value} {b11 : Nat} {c11 : Array Value} (hO : Own u w L) (i11 : Nat) (h11 : L[i11]? = some (b11, c11, 35)) (r60 : ∀ w, Ret 24 #[.agg c11] w (.bool true)) (H : ∀ (w' : World), Own u w' (L) → Q .normal { tmps := List.toArray (z0 :: z1 :: z2 :: z3 :: z4 :: z5 :: z6 :: z7 :: z8 :: z9 :: z10 :: (.pointer (some ⟨b11, 0, none⟩)) :: z12 :: z13 :: z14 :: (.bool true) :: z16 :: z17 :: z18 :: z19 :: z20 :: z21 :: z22 :: z23 :: z24 :: z25 :: z26 :: z27 :: z28 :: z29 :: z30 :: z31 :: z32 :: z33 :: z34 :: z35 :: z36 :: z37 :: z38 :: z39 :: z40 :: z41 :: z42 :: z43 :: z44 :: z45 :: z46 :: z47 :: z48 :: z49 :: z50 :: z51 :: z52 :: z53 :: z54 :: z55 :: z56 :: z57 :: z58 :: (.agg c11) :: (.bool true) :: zz), defers := [] } w') :
    (Code.region 8 f4r8Ops false).wp Try.prog Q { tmps := List.toArray (z0 :: z1 :: z2 :: z3 :: z4 :: z5 :: z6 :: z7 :: z8 :: z9 :: z10 :: (.pointer (some ⟨b11, 0, none⟩)) :: z12 :: z13 :: z14 :: z15 :: z16 :: z17 :: z18 :: z19 :: z20 :: z21 :: z22 :: z23 :: z24 :: z25 :: z26 :: z27 :: z28 :: z29 :: z30 :: z31 :: z32 :: z33 :: z34 :: z35 :: z36 :: z37 :: z38 :: z39 :: z40 :: z41 :: z42 :: z43 :: z44 :: z45 :: z46 :: z47 :: z48 :: z49 :: z50 :: z51 :: z52 :: z53 :: z54 :: z55 :: z56 :: z57 :: z58 :: z59 :: z60 :: zz), defers := [] } w := by
  refine wp_region_list (show wpList _ f4r8Ops _ [f4r8Op0, f4r8Op1, f4r8Op2] _ _ from ?_)
  refine l_ld hO 35 i11 h11 Try.underlying35 ?_
  refine l_call hO 24 #[.agg c11] (.bool true) r60 ?_
  intro w1 hO
  refine l_val (.bool true) (by kernel_rfl) ?_
  exact l_fr _ (wpList_nil (H  _ hO))
def f4r9Op0 : Oper := ⟨some 61, .move (.tmp 5), 4, "law.go:61", #[], none⟩
def f4r9Op1 : Oper := ⟨some 62, .move (.tmp 61), 4, "law.go:61", #[⟨0, .data⟩], none⟩
def f4r9Op2 : Oper := ⟨some 63, .move (.tmp 14), 4, "law.go:61", #[⟨1, .guard⟩], some (1, true)⟩
def f4r9Op3 : Oper := ⟨some 64, .pick (.tmp 62) (.tmp 63) (.const (.bool false)), 4, "law.go:61", #[⟨1, .data⟩, ⟨2, .data⟩], none⟩
def f4r9Op4 : Oper := ⟨some 65, .move (.tmp 64), 4, "law.go:61", #[⟨3, .data⟩, ⟨1, .chain⟩], none⟩
def f4r9Op5 : Oper := ⟨some 66, .move (.tmp 15), 4, "law.go:61", #[⟨4, .guard⟩], some (4, true)⟩
def f4r9Op6 : Oper := ⟨some 67, .pick (.tmp 65) (.tmp 66) (.const (.bool false)), 4, "law.go:61", #[⟨4, .data⟩, ⟨5, .data⟩], none⟩
def f4r9Op7 : Oper := ⟨some 68, .move (.tmp 67), 4, "law.go:61", #[⟨6, .data⟩, ⟨4, .chain⟩], none⟩
def f4r9Op8 : Oper := ⟨some 69, .load 29 (.tmp 6), 29, "law.go:61", #[⟨7, .guard⟩], some (7, true)⟩
def f4r9Op9 : Oper := ⟨some 70, .call { callee := .value (.func 25), args := #[.tmp 69], argTypes := #[29] }, 29, "law.go:61", #[⟨8, .data⟩, ⟨7, .chain⟩, ⟨7, .guard⟩], some (7, true)⟩
def f4r9Op10 : Oper := ⟨some 71, .call { callee := .value (.func 15), args := #[.tmp 70], argTypes := #[29] }, 22, "law.go:61", #[⟨9, .data⟩, ⟨9, .chain⟩, ⟨7, .guard⟩], some (7, true)⟩
def f4r9Op11 : Oper := ⟨some 72, .load 35 (.tmp 7), 35, "law.go:61", #[⟨7, .guard⟩], some (7, true)⟩
def f4r9Op12 : Oper := ⟨some 73, .call { callee := .value (.func 26), args := #[.tmp 72], argTypes := #[35] }, 35, "law.go:61", #[⟨11, .data⟩, ⟨10, .chain⟩, ⟨7, .guard⟩], some (7, true)⟩
def f4r9Op13 : Oper := ⟨some 74, .call { callee := .value (.func 23), args := #[.tmp 73], argTypes := #[35] }, 22, "law.go:61", #[⟨12, .data⟩, ⟨12, .chain⟩, ⟨7, .guard⟩], some (7, true)⟩
def f4r9Op14 : Oper := ⟨some 75, .binOp .eql 22 (.tmp 71) (.tmp 74) 22, 4, "law.go:61", #[⟨10, .data⟩, ⟨13, .data⟩, ⟨7, .guard⟩], some (7, true)⟩
def f4r9Op15 : Oper := ⟨some 76, .pick (.tmp 68) (.tmp 75) (.const (.bool false)), 4, "law.go:61", #[⟨7, .data⟩, ⟨14, .data⟩], none⟩
def f4r9Op16 : Oper := ⟨some 77, .move (.tmp 76), 4, "law.go:61", #[⟨15, .data⟩, ⟨13, .chain⟩], none⟩
def f4r9Op17 : Oper := ⟨some 78, .load 29 (.tmp 6), 29, "law.go:61", #[⟨16, .guard⟩], some (16, true)⟩
def f4r9Op18 : Oper := ⟨some 79, .load 29 (.tmp 8), 29, "law.go:61", #[⟨16, .guard⟩], some (16, true)⟩
def f4r9Op19 : Oper := ⟨some 80, .call { callee := .value (.func 18), args := #[.tmp 78, .tmp 79], argTypes := #[29, 29] }, 4, "law.go:61", #[⟨17, .data⟩, ⟨18, .data⟩, ⟨16, .chain⟩, ⟨16, .guard⟩], some (16, true)⟩
def f4r9Op20 : Oper := ⟨some 81, .load 35 (.tmp 7), 35, "law.go:61", #[⟨16, .guard⟩], some (16, true)⟩
def f4r9Op21 : Oper := ⟨some 82, .load 35 (.tmp 9), 35, "law.go:61", #[⟨16, .guard⟩], some (16, true)⟩
def f4r9Op22 : Oper := ⟨some 83, .binOp .eql 35 (.tmp 81) (.tmp 82) 35, 4, "law.go:61", #[⟨20, .data⟩, ⟨21, .data⟩, ⟨16, .guard⟩], some (16, true)⟩
def f4r9Op23 : Oper := ⟨some 84, .binOp .eql 4 (.tmp 80) (.tmp 83) 4, 4, "law.go:61", #[⟨19, .data⟩, ⟨22, .data⟩, ⟨16, .guard⟩], some (16, true)⟩
def f4r9Op24 : Oper := ⟨some 85, .pick (.tmp 77) (.tmp 84) (.const (.bool false)), 4, "law.go:61", #[⟨16, .data⟩, ⟨23, .data⟩], none⟩
def f4r9Op25 : Oper := ⟨some 86, .move (.tmp 85), 4, "law.go:61", #[⟨24, .data⟩, ⟨19, .chain⟩], none⟩
def f4r9Op26 : Oper := ⟨some 87, .call { callee := .value (.func 27), args := #[], argTypes := #[] }, 29, "law.go:61", #[⟨25, .chain⟩, ⟨25, .guard⟩], some (25, true)⟩
def f4r9Op27 : Oper := ⟨some 88, .call { callee := .value (.func 15), args := #[.tmp 87], argTypes := #[29] }, 22, "law.go:61", #[⟨26, .data⟩, ⟨26, .chain⟩, ⟨25, .guard⟩], some (25, true)⟩
def f4r9Op28 : Oper := ⟨some 89, .call { callee := .value (.func 28), args := #[], argTypes := #[] }, 35, "law.go:61", #[⟨27, .chain⟩, ⟨25, .guard⟩], some (25, true)⟩
def f4r9Op29 : Oper := ⟨some 90, .call { callee := .value (.func 23), args := #[.tmp 89], argTypes := #[35] }, 22, "law.go:61", #[⟨28, .data⟩, ⟨28, .chain⟩, ⟨25, .guard⟩], some (25, true)⟩
def f4r9Op30 : Oper := ⟨some 91, .binOp .eql 22 (.tmp 88) (.tmp 90) 22, 4, "law.go:61", #[⟨27, .data⟩, ⟨29, .data⟩, ⟨25, .guard⟩], some (25, true)⟩
def f4r9Op31 : Oper := ⟨some 92, .pick (.tmp 86) (.tmp 91) (.const (.bool false)), 4, "law.go:61", #[⟨25, .data⟩, ⟨30, .data⟩], none⟩
def f4r9Op32 : Oper := ⟨some 4, .assign (.tmp 92), 4, "law.go:61", #[⟨31, .data⟩, ⟨29, .chain⟩, ⟨0, .phase⟩, ⟨1, .phase⟩, ⟨2, .phase⟩, ⟨3, .phase⟩, ⟨4, .phase⟩, ⟨5, .phase⟩, ⟨6, .phase⟩, ⟨7, .phase⟩, ⟨8, .phase⟩, ⟨9, .phase⟩, ⟨10, .phase⟩, ⟨11, .phase⟩, ⟨12, .phase⟩, ⟨13, .phase⟩, ⟨14, .phase⟩, ⟨15, .phase⟩, ⟨16, .phase⟩, ⟨17, .phase⟩, ⟨18, .phase⟩, ⟨19, .phase⟩, ⟨20, .phase⟩, ⟨21, .phase⟩, ⟨22, .phase⟩, ⟨23, .phase⟩, ⟨24, .phase⟩, ⟨25, .phase⟩, ⟨26, .phase⟩, ⟨27, .phase⟩, ⟨28, .phase⟩, ⟨29, .phase⟩, ⟨30, .phase⟩, ⟨31, .phase⟩], none⟩
def f4r9Ops : Array Oper := #[f4r9Op0, f4r9Op1, f4r9Op2, f4r9Op3, f4r9Op4, f4r9Op5, f4r9Op6, f4r9Op7, f4r9Op8, f4r9Op9, f4r9Op10, f4r9Op11, f4r9Op12, f4r9Op13, f4r9Op14, f4r9Op15, f4r9Op16, f4r9Op17, f4r9Op18, f4r9Op19, f4r9Op20, f4r9Op21, f4r9Op22, f4r9Op23, f4r9Op24, f4r9Op25, f4r9Op26, f4r9Op27, f4r9Op28, f4r9Op29, f4r9Op30, f4r9Op31, f4r9Op32]
set_option maxRecDepth 100000 in
set_option maxHeartbeats 2000000 in
theorem f4r9_r {Q : Exit → Act → World → Prop} {u w : World} {L : List Row} {z0 z1 z2 z3 z4 z10 z11 z12 z13 z16 z17 z18 z19 z20 z21 z22 z23 z24 z25 z26 z27 z28 z29 z30 z31 z32 z33 z34 z35 z36 z37 z38 z39 z40 z41 z42 z43 z44 z45 z46 z47 z48 z49 z50 z51 z52 z53 z54 z55 z56 z57 z58 z59 z60 z61 z62 z63 z64 z65 z66 z67 z68 z69 z70 z71 z72 z73 z74 z75 z76 z77 z78 z79 z80 z81 z82 z83 z84 z85 z86 z87 z88 z89 z90 z91 z92 : Value} {b6 b7 b8 b9 : Nat} {c6 c7 c8 c9 : Array Value} {e70 e71 e73 e74 e87 e88 e89 e90 : Array Value} {p80 p83 : Bool} (hQ : ∀ c a w n v, Q (.panic c) (a.put (some n) v) w → Q (.panic c) a w) (hO : Own u w L) (i6 : Nat) (h6 : L[i6]? = some (b6, c6, 29)) (i7 : Nat) (h7 : L[i7]? = some (b7, c7, 35)) (i8 : Nat) (h8 : L[i8]? = some (b8, c8, 29)) (i9 : Nat) (h9 : L[i9]? = some (b9, c9, 35)) (r70 : ∀ w, Ret 25 #[.agg c6] w (.agg e70)) (r71 : ∀ w, Ret 15 #[.agg e70] w (.agg e71)) (r73 : ∀ w, Ret 26 #[.agg c7] w (.agg e73)) (r74 : ∀ w, Ret 23 #[.agg e73] w (.agg e74)) (k75 : ∀ (a : Act) (w : World), a.eval (.tmp 71) = .agg e71 → a.eval (.tmp 74) = .agg e74 → (execOp a.eval f4r9Op14).run Try.prog w = .ok (.value (.bool true)) w) (r80 : ∀ w, Ret 18 #[.agg c6, .agg c8] w (.bool p80)) (k83 : ∀ (a : Act) (w : World), a.eval (.tmp 81) = .agg c7 → a.eval (.tmp 82) = .agg c9 → (execOp a.eval f4r9Op22).run Try.prog w = .ok (.value (.bool p83)) w) (k84 : ∀ (a : Act) (w : World), a.eval (.tmp 80) = .bool p80 → a.eval (.tmp 83) = .bool p83 → (execOp a.eval f4r9Op23).run Try.prog w = .ok (.value (.bool true)) w) (r87 : ∀ w, Ret 27 #[] w (.agg e87)) (r88 : ∀ w, Ret 15 #[.agg e87] w (.agg e88)) (r89 : ∀ w, Ret 28 #[] w (.agg e89)) (r90 : ∀ w, Ret 23 #[.agg e89] w (.agg e90)) (k91 : ∀ (a : Act) (w : World), a.eval (.tmp 88) = .agg e88 → a.eval (.tmp 90) = .agg e90 → (execOp a.eval f4r9Op30).run Try.prog w = .ok (.value (.bool true)) w) (H : ∀ (w' : World), Own u w' (L) → Q .normal { tmps := List.toArray (z0 :: z1 :: z2 :: z3 :: (.bool true) :: (.bool true) :: (.pointer (some ⟨b6, 0, none⟩)) :: (.pointer (some ⟨b7, 0, none⟩)) :: (.pointer (some ⟨b8, 0, none⟩)) :: (.pointer (some ⟨b9, 0, none⟩)) :: z10 :: z11 :: z12 :: z13 :: (.bool true) :: (.bool true) :: z16 :: z17 :: z18 :: z19 :: z20 :: z21 :: z22 :: z23 :: z24 :: z25 :: z26 :: z27 :: z28 :: z29 :: z30 :: z31 :: z32 :: z33 :: z34 :: z35 :: z36 :: z37 :: z38 :: z39 :: z40 :: z41 :: z42 :: z43 :: z44 :: z45 :: z46 :: z47 :: z48 :: z49 :: z50 :: z51 :: z52 :: z53 :: z54 :: z55 :: z56 :: z57 :: z58 :: z59 :: z60 :: (.bool true) :: (.bool true) :: (.bool true) :: (.bool true) :: (.bool true) :: (.bool true) :: (.bool true) :: (.bool true) :: (.agg c6) :: (.agg e70) :: (.agg e71) :: (.agg c7) :: (.agg e73) :: (.agg e74) :: (.bool true) :: (.bool true) :: (.bool true) :: (.agg c6) :: (.agg c8) :: (.bool p80) :: (.agg c7) :: (.agg c9) :: (.bool p83) :: (.bool true) :: (.bool true) :: (.bool true) :: (.agg e87) :: (.agg e88) :: (.agg e89) :: (.agg e90) :: (.bool true) :: (.bool true) :: []), defers := [] } w') :
    (Code.region 9 f4r9Ops true).wp Try.prog Q { tmps := List.toArray (z0 :: z1 :: z2 :: z3 :: z4 :: (.bool true) :: (.pointer (some ⟨b6, 0, none⟩)) :: (.pointer (some ⟨b7, 0, none⟩)) :: (.pointer (some ⟨b8, 0, none⟩)) :: (.pointer (some ⟨b9, 0, none⟩)) :: z10 :: z11 :: z12 :: z13 :: (.bool true) :: (.bool true) :: z16 :: z17 :: z18 :: z19 :: z20 :: z21 :: z22 :: z23 :: z24 :: z25 :: z26 :: z27 :: z28 :: z29 :: z30 :: z31 :: z32 :: z33 :: z34 :: z35 :: z36 :: z37 :: z38 :: z39 :: z40 :: z41 :: z42 :: z43 :: z44 :: z45 :: z46 :: z47 :: z48 :: z49 :: z50 :: z51 :: z52 :: z53 :: z54 :: z55 :: z56 :: z57 :: z58 :: z59 :: z60 :: z61 :: z62 :: z63 :: z64 :: z65 :: z66 :: z67 :: z68 :: z69 :: z70 :: z71 :: z72 :: z73 :: z74 :: z75 :: z76 :: z77 :: z78 :: z79 :: z80 :: z81 :: z82 :: z83 :: z84 :: z85 :: z86 :: z87 :: z88 :: z89 :: z90 :: z91 :: z92 :: []), defers := [] } w := by
  have fc6_29 := hO.fits i6 h6
  have fc7_35 := hO.fits i7 h7
  have fc8_29 := hO.fits i8 h8
  have fc9_35 := hO.fits i9 h9
  refine wp_region_held_drew (S := Has [(b6, c6, 29), (b7, c7, 35), (b8, c8, 29), (b9, c9, 35)]) (by kernel_rfl) ⟨hO.drew.row _ h6, hO.drew.row _ h7, hO.drew.row _ h8, hO.drew.row _ h9, trivial⟩ (fun hS => ?_)
  replace hO := hO.drew
  refine d_tk 0 f4r9Op0 (.bool true) hQ (y_val (fun _ => by kernel_rfl)) hS ?_
  refine d_tk 1 f4r9Op1 (.bool true) hQ (y_val (fun _ => by kernel_rfl)) hS ?_
  refine d_tk 2 f4r9Op2 (.bool true) hQ (y_val (fun _ => by kernel_rfl)) hS ?_
  refine d_fr (ls 33 7) (Fr [z0, z1, z2, z3, z4, .bool true, D b6, D b7, D b8, D b9, z10, z11, z12, z13, .bool true, .bool true, z16, z17, z18, z19, z20, z21, z22, z23, z24, z25, z26, z27, z28, z29, z30, z31, z32, z33, z34, z35, z36, z37, z38, z39, z40, z41, z42, z43, z44, z45, z46, z47, z48, z49, z50, z51, z52, z53, z54, z55, z56, z57, z58, z59, z60, .bool true, .bool true, .bool true, z64, z65, z66, z67, z68, z69, z70, z71, z72, z73, z74, z75, z76, z77, z78, z79, z80, z81, z82, z83, z84, z85, z86, z87, z88, z89, z90, z91, z92] []) ?_
  refine d_tk 3 f4r9Op3 (.bool true) hQ (y_val (fun _ => by kernel_rfl)) hS ?_
  refine d_tk 4 f4r9Op4 (.bool true) hQ (y_val (fun _ => by kernel_rfl)) hS ?_
  refine d_tk 5 f4r9Op5 (.bool true) hQ (y_val (fun _ => by kernel_rfl)) hS ?_
  refine d_fr (ls 33 63) (Fr [z0, z1, z2, z3, z4, .bool true, D b6, D b7, D b8, D b9, z10, z11, z12, z13, .bool true, .bool true, z16, z17, z18, z19, z20, z21, z22, z23, z24, z25, z26, z27, z28, z29, z30, z31, z32, z33, z34, z35, z36, z37, z38, z39, z40, z41, z42, z43, z44, z45, z46, z47, z48, z49, z50, z51, z52, z53, z54, z55, z56, z57, z58, z59, z60, .bool true, .bool true, .bool true, .bool true, .bool true, .bool true, z67, z68, z69, z70, z71, z72, z73, z74, z75, z76, z77, z78, z79, z80, z81, z82, z83, z84, z85, z86, z87, z88, z89, z90, z91, z92] []) ?_
  refine d_tk 6 f4r9Op6 (.bool true) hQ (y_val (fun _ => by kernel_rfl)) hS ?_
  refine d_tk 7 f4r9Op7 (.bool true) hQ (y_val (fun _ => by kernel_rfl)) hS ?_
  refine d_tk 8 f4r9Op8 (.agg c6) hQ (y_l 29 (fun _ h => h.1) fc6_29 Try.underlying29) hS ?_
  refine d_fr (ls 33 511) (Fr [z0, z1, z2, z3, z4, .bool true, D b6, D b7, D b8, D b9, z10, z11, z12, z13, .bool true, .bool true, z16, z17, z18, z19, z20, z21, z22, z23, z24, z25, z26, z27, z28, z29, z30, z31, z32, z33, z34, z35, z36, z37, z38, z39, z40, z41, z42, z43, z44, z45, z46, z47, z48, z49, z50, z51, z52, z53, z54, z55, z56, z57, z58, z59, z60, .bool true, .bool true, .bool true, .bool true, .bool true, .bool true, .bool true, .bool true, A c6, z70, z71, z72, z73, z74, z75, z76, z77, z78, z79, z80, z81, z82, z83, z84, z85, z86, z87, z88, z89, z90, z91, z92] []) ?_
  refine d_tk 11 f4r9Op11 (.agg c7) hQ (y_l 35 (fun _ h => h.2.1) fc7_35 Try.underlying35) hS ?_
  refine d_fr (ls 33 2559) (Fr [z0, z1, z2, z3, z4, .bool true, D b6, D b7, D b8, D b9, z10, z11, z12, z13, .bool true, .bool true, z16, z17, z18, z19, z20, z21, z22, z23, z24, z25, z26, z27, z28, z29, z30, z31, z32, z33, z34, z35, z36, z37, z38, z39, z40, z41, z42, z43, z44, z45, z46, z47, z48, z49, z50, z51, z52, z53, z54, z55, z56, z57, z58, z59, z60, .bool true, .bool true, .bool true, .bool true, .bool true, .bool true, .bool true, .bool true, A c6, z70, z71, A c7, z73, z74, z75, z76, z77, z78, z79, z80, z81, z82, z83, z84, z85, z86, z87, z88, z89, z90, z91, z92] []) ?_
  refine d_one 9 f4r9Op9 (ls 33 3071) (fun K hK => ?_)
  refine k_call hK hO (fun _ hO => ⟨hO.row _ h6, hO.row _ h7, hO.row _ h8, hO.row _ h9, trivial⟩) 25 #[.agg c6] (.agg e70) r70 ?_
  intro w1 hO
  refine d_one 10 f4r9Op10 (ls 33 4095) (fun K hK => ?_)
  refine k_call hK hO (fun _ hO => ⟨hO.row _ h6, hO.row _ h7, hO.row _ h8, hO.row _ h9, trivial⟩) 15 #[.agg e70] (.agg e71) r71 ?_
  intro w2 hO
  refine d_one 12 f4r9Op12 (ls 33 8191) (fun K hK => ?_)
  refine k_call hK hO (fun _ hO => ⟨hO.row _ h6, hO.row _ h7, hO.row _ h8, hO.row _ h9, trivial⟩) 26 #[.agg c7] (.agg e73) r73 ?_
  intro w3 hO
  refine d_fr (ls 33 8191) (Fr [z0, z1, z2, z3, z4, .bool true, D b6, D b7, D b8, D b9, z10, z11, z12, z13, .bool true, .bool true, z16, z17, z18, z19, z20, z21, z22, z23, z24, z25, z26, z27, z28, z29, z30, z31, z32, z33, z34, z35, z36, z37, z38, z39, z40, z41, z42, z43, z44, z45, z46, z47, z48, z49, z50, z51, z52, z53, z54, z55, z56, z57, z58, z59, z60, .bool true, .bool true, .bool true, .bool true, .bool true, .bool true, .bool true, .bool true, A c6, A e70, A e71, A c7, A e73, z74, z75, z76, z77, z78, z79, z80, z81, z82, z83, z84, z85, z86, z87, z88, z89, z90, z91, z92] []) ?_
  refine d_one 13 f4r9Op13 (ls 33 16383) (fun K hK => ?_)
  refine k_call hK hO (fun _ hO => ⟨hO.row _ h6, hO.row _ h7, hO.row _ h8, hO.row _ h9, trivial⟩) 23 #[.agg e73] (.agg e74) r74 ?_
  intro w4 hO
  have hS : Has [(b6, c6, 29), (b7, c7, 35), (b8, c8, 29), (b9, c9, 35)] w4 := ⟨hO.row _ h6, hO.row _ h7, hO.row _ h8, hO.row _ h9, trivial⟩
  refine d_tk 14 f4r9Op14 (.bool true) hQ (y_val (fun _ => k75 _ _ (by kernel_rfl) (by kernel_rfl))) hS ?_
  refine d_tk 15 f4r9Op15 (.bool true) hQ (y_val (fun _ => by kernel_rfl)) hS ?_
  refine d_tk 16 f4r9Op16 (.bool true) hQ (y_val (fun _ => by kernel_rfl)) hS ?_
  refine d_fr (ls 33 131071) (Fr [z0, z1, z2, z3, z4, .bool true, D b6, D b7, D b8, D b9, z10, z11, z12, z13, .bool true, .bool true, z16, z17, z18, z19, z20, z21, z22, z23, z24, z25, z26, z27, z28, z29, z30, z31, z32, z33, z34, z35, z36, z37, z38, z39, z40, z41, z42, z43, z44, z45, z46, z47, z48, z49, z50, z51, z52, z53, z54, z55, z56, z57, z58, z59, z60, .bool true, .bool true, .bool true, .bool true, .bool true, .bool true, .bool true, .bool true, A c6, A e70, A e71, A c7, A e73, A e74, .bool true, .bool true, .bool true, z78, z79, z80, z81, z82, z83, z84, z85, z86, z87, z88, z89, z90, z91, z92] []) ?_
  refine d_tk 17 f4r9Op17 (.agg c6) hQ (y_l 29 (fun _ h => h.1) fc6_29 Try.underlying29) hS ?_
  refine d_tk 18 f4r9Op18 (.agg c8) hQ (y_l 29 (fun _ h => h.2.2.1) fc8_29 Try.underlying29) hS ?_
  refine d_tk 20 f4r9Op20 (.agg c7) hQ (y_l 35 (fun _ h => h.2.1) fc7_35 Try.underlying35) hS ?_
  refine d_fr (ls 33 1572863) (Fr [z0, z1, z2, z3, z4, .bool true, D b6, D b7, D b8, D b9, z10, z11, z12, z13, .bool true, .bool true, z16, z17, z18, z19, z20, z21, z22, z23, z24, z25, z26, z27, z28, z29, z30, z31, z32, z33, z34, z35, z36, z37, z38, z39, z40, z41, z42, z43, z44, z45, z46, z47, z48, z49, z50, z51, z52, z53, z54, z55, z56, z57, z58, z59, z60, .bool true, .bool true, .bool true, .bool true, .bool true, .bool true, .bool true, .bool true, A c6, A e70, A e71, A c7, A e73, A e74, .bool true, .bool true, .bool true, A c6, A c8, z80, A c7, z82, z83, z84, z85, z86, z87, z88, z89, z90, z91, z92] []) ?_
  refine d_tk 21 f4r9Op21 (.agg c9) hQ (y_l 35 (fun _ h => h.2.2.2.1) fc9_35 Try.underlying35) hS ?_
  refine d_tk 22 f4r9Op22 (.bool p83) hQ (y_val (fun _ => k83 _ _ (by kernel_rfl) (by kernel_rfl))) hS ?_
  refine d_fr (ls 33 7864319) (Fr [z0, z1, z2, z3, z4, .bool true, D b6, D b7, D b8, D b9, z10, z11, z12, z13, .bool true, .bool true, z16, z17, z18, z19, z20, z21, z22, z23, z24, z25, z26, z27, z28, z29, z30, z31, z32, z33, z34, z35, z36, z37, z38, z39, z40, z41, z42, z43, z44, z45, z46, z47, z48, z49, z50, z51, z52, z53, z54, z55, z56, z57, z58, z59, z60, .bool true, .bool true, .bool true, .bool true, .bool true, .bool true, .bool true, .bool true, A c6, A e70, A e71, A c7, A e73, A e74, .bool true, .bool true, .bool true, A c6, A c8, z80, A c7, A c9, .bool p83, z84, z85, z86, z87, z88, z89, z90, z91, z92] []) ?_
  refine d_one 19 f4r9Op19 (ls 33 8388607) (fun K hK => ?_)
  refine k_call hK hO (fun _ hO => ⟨hO.row _ h6, hO.row _ h7, hO.row _ h8, hO.row _ h9, trivial⟩) 18 #[.agg c6, .agg c8] (.bool p80) r80 ?_
  intro w5 hO
  have hS : Has [(b6, c6, 29), (b7, c7, 35), (b8, c8, 29), (b9, c9, 35)] w5 := ⟨hO.row _ h6, hO.row _ h7, hO.row _ h8, hO.row _ h9, trivial⟩
  refine d_tk 23 f4r9Op23 (.bool true) hQ (y_val (fun _ => k84 _ _ (by kernel_rfl) (by kernel_rfl))) hS ?_
  refine d_tk 24 f4r9Op24 (.bool true) hQ (y_val (fun _ => by kernel_rfl)) hS ?_
  refine d_tk 25 f4r9Op25 (.bool true) hQ (y_val (fun _ => by kernel_rfl)) hS ?_
  refine d_fr (ls 33 67108863) (Fr [z0, z1, z2, z3, z4, .bool true, D b6, D b7, D b8, D b9, z10, z11, z12, z13, .bool true, .bool true, z16, z17, z18, z19, z20, z21, z22, z23, z24, z25, z26, z27, z28, z29, z30, z31, z32, z33, z34, z35, z36, z37, z38, z39, z40, z41, z42, z43, z44, z45, z46, z47, z48, z49, z50, z51, z52, z53, z54, z55, z56, z57, z58, z59, z60, .bool true, .bool true, .bool true, .bool true, .bool true, .bool true, .bool true, .bool true, A c6, A e70, A e71, A c7, A e73, A e74, .bool true, .bool true, .bool true, A c6, A c8, .bool p80, A c7, A c9, .bool p83, .bool true, .bool true, .bool true, z87, z88, z89, z90, z91, z92] []) ?_
  refine d_one 26 f4r9Op26 (ls 33 134217727) (fun K hK => ?_)
  refine k_call hK hO (fun _ hO => ⟨hO.row _ h6, hO.row _ h7, hO.row _ h8, hO.row _ h9, trivial⟩) 27 #[] (.agg e87) r87 ?_
  intro w6 hO
  refine d_one 27 f4r9Op27 (ls 33 268435455) (fun K hK => ?_)
  refine k_call hK hO (fun _ hO => ⟨hO.row _ h6, hO.row _ h7, hO.row _ h8, hO.row _ h9, trivial⟩) 15 #[.agg e87] (.agg e88) r88 ?_
  intro w7 hO
  refine d_one 28 f4r9Op28 (ls 33 536870911) (fun K hK => ?_)
  refine k_call hK hO (fun _ hO => ⟨hO.row _ h6, hO.row _ h7, hO.row _ h8, hO.row _ h9, trivial⟩) 28 #[] (.agg e89) r89 ?_
  intro w8 hO
  refine d_fr (ls 33 536870911) (Fr [z0, z1, z2, z3, z4, .bool true, D b6, D b7, D b8, D b9, z10, z11, z12, z13, .bool true, .bool true, z16, z17, z18, z19, z20, z21, z22, z23, z24, z25, z26, z27, z28, z29, z30, z31, z32, z33, z34, z35, z36, z37, z38, z39, z40, z41, z42, z43, z44, z45, z46, z47, z48, z49, z50, z51, z52, z53, z54, z55, z56, z57, z58, z59, z60, .bool true, .bool true, .bool true, .bool true, .bool true, .bool true, .bool true, .bool true, A c6, A e70, A e71, A c7, A e73, A e74, .bool true, .bool true, .bool true, A c6, A c8, .bool p80, A c7, A c9, .bool p83, .bool true, .bool true, .bool true, A e87, A e88, A e89, z90, z91, z92] []) ?_
  refine d_one 29 f4r9Op29 (ls 33 1073741823) (fun K hK => ?_)
  refine k_call hK hO (fun _ hO => ⟨hO.row _ h6, hO.row _ h7, hO.row _ h8, hO.row _ h9, trivial⟩) 23 #[.agg e89] (.agg e90) r90 ?_
  intro w9 hO
  have hS : Has [(b6, c6, 29), (b7, c7, 35), (b8, c8, 29), (b9, c9, 35)] w9 := ⟨hO.row _ h6, hO.row _ h7, hO.row _ h8, hO.row _ h9, trivial⟩
  refine d_tk 30 f4r9Op30 (.bool true) hQ (y_val (fun _ => k91 _ _ (by kernel_rfl) (by kernel_rfl))) hS ?_
  refine d_tk 31 f4r9Op31 (.bool true) hQ (y_val (fun _ => by kernel_rfl)) hS ?_
  refine d_tk 32 f4r9Op32 (.bool true) hQ (y_val (fun _ => by kernel_rfl)) hS ?_
  exact d_fr (ls 33 8589934591) _ (wpAnyH_done (by kernel_rfl) (H  _ hO) _)
set_option maxRecDepth 100000 in
set_option maxHeartbeats 4000000 in
theorem adds_walk (f : Nat → Nat) (g : Nat → Nat) (w : World) (hf : ∀ i, f i < 256) (hg : ∀ i, g i < 256) : Ret 4 #[.agg (vals .u8 32 f), .agg (vals .u8 32 g)] w (.bool true) := by
  go_enter Try.func4, Try.ntmps4
  have hO := Own.start w
  have qP := point_p f hf
  have hP := ok_ptP f hf
  generalize ptP f = P at qP hP
  have KP := hide qP
  clear qP
  have qQ := point_p g hg
  have hQ := ok_ptP g hg
  generalize ptP g = Q at qQ hQ
  have KQ := hide qQ
  clear qQ
  go_upto_region 0 with (fail)
  refine f4r0_r hO (fit_by _) (fit_by _) ?_
  intro n2 n3 w1 hO
  replace hO : Own w w1 [(n3, vals .u8 32 g, 22), (n2, vals .u8 32 f, 22)] := hO
  go_upto_region 1 with (fail)
  refine f4r1_r hO awake_c ?_
  intro w2 hO
  replace hO : Own w w2 [(n3, vals .u8 32 g, 22), (n2, vals .u8 32 f, 22)] := hO
  go_upto_region 2 with (fail)
  refine f4r2_r hO 1 rfl KP.out (fit_pt _ _) (fit_rp _ _) ?_
  intro n6 n7 w3 hO
  replace hO : Own w w3 [(n7, rp P, 35), (n6, pt P, 29), (n3, vals .u8 32 g, 22), (n2, vals .u8 32 f, 22)] := hO
  go_upto_region 3 with (fail)
  refine f4r3_r hO 2 rfl KQ.out (fit_pt _ _) (fit_rp _ _) ?_
  intro n8 n9 w4 hO
  replace hO : Own w w4 [(n9, rp Q, 35), (n8, pt Q, 29), (n7, rp P, 35), (n6, pt P, 29), (n3, vals .u8 32 g, 22), (n2, vals .u8 32 f, 22)] := hO
  go_upto_region 4 with (fail)
  refine f4r4_r hO 3 rfl 1 rfl (add7_c hP hQ) (fit_pt _ _) ?_
  intro n10 w5 hO
  replace hO : Own w w5 [(n10, pt (add7 P Q), 29), (n9, rp Q, 35), (n8, pt Q, 29), (n7, rp P, 35), (n6, pt P, 29), (n3, vals .u8 32 g, 22), (n2, vals .u8 32 f, 22)] := hO
  go_upto_region 5 with (fail)
  refine f4r5_r hO 3 rfl 1 rfl (radd_p hP hQ) (fit_rp _ _) ?_
  intro n11 w6 hO
  replace hO : Own w w6 [(n11, rp (add7 P Q), 35), (n10, pt (add7 P Q), 29), (n9, rp Q, 35), (n8, pt Q, 29), (n7, rp P, 35), (n6, pt P, 29), (n3, vals .u8 32 g, 22), (n2, vals .u8 32 f, 22)] := hO
  go_upto_region 6 with (fail)
  refine f4r6_r hO 1 rfl (places_p (ok_add hP hQ)) (fit_fe _) (fit_fe _) ?_
  intro n12 n13 w7 hO
  replace hO : Own w w7 [(n13, arr 4 (limb ((add7 P Q).2)), 27), (n12, arr 4 (limb ((add7 P Q).1)), 27), (n11, rp (add7 P Q), 35), (n10, pt (add7 P Q), 29), (n9, rp Q, 35), (n8, pt Q, 29), (n7, rp P, 35), (n6, pt P, 29), (n3, vals .u8 32 g, 22), (n2, vals .u8 32 f, 22)] := hO
  go_upto_region 7 with (fail)
  refine f4r7_r (fun _ _ _ _ _ h => h) hO 3 rfl 2 rfl 1 rfl 0 rfl (bytes_c _) (part_rp0 _ _) (rbytes_c _) (fun a w h1 h2 => eql_c _ _ _ _ true (same_self _) w rfl h1 h2) (bytes_c _) (part_rp1 _ _) (rbytes_c _) (fun a w h1 h2 => eql_c _ _ _ _ true (same_self _) w rfl h1 h2) (bytes_p (ok_add hP hQ)) (rbytes_p (ok_add hP hQ)) (fun a w h1 h2 => eql_c _ _ _ _ true (same_self _) w rfl h1 h2) ?_
  intro w8 hO
  replace hO : Own w w8 [(n13, arr 4 (limb ((add7 P Q).2)), 27), (n12, arr 4 (limb ((add7 P Q).1)), 27), (n11, rp (add7 P Q), 35), (n10, pt (add7 P Q), 29), (n9, rp Q, 35), (n8, pt Q, 29), (n7, rp P, 35), (n6, pt P, 29), (n3, vals .u8 32 g, 22), (n2, vals .u8 32 f, 22)] := hO
  go_upto_region 8 with (fail)
  refine f4r8_r hO 2 rfl (ron_p (ok_add hP hQ)) ?_
  intro w9 hO
  replace hO : Own w w9 [(n13, arr 4 (limb ((add7 P Q).2)), 27), (n12, arr 4 (limb ((add7 P Q).1)), 27), (n11, rp (add7 P Q), 35), (n10, pt (add7 P Q), 29), (n9, rp Q, 35), (n8, pt Q, 29), (n7, rp P, 35), (n6, pt P, 29), (n3, vals .u8 32 g, 22), (n2, vals .u8 32 f, 22)] := hO
  go_upto_region 9 with (fail)
  refine f4r9_r (fun _ _ _ _ _ h => h) hO 7 rfl 6 rfl 5 rfl 4 rfl (neg_p hP) (bytes_p (ok_neg hP)) (rneg_p hP) (rbytes_p (ok_neg hP)) (fun a w h1 h2 => eql_c _ _ _ _ true (same_self _) w rfl h1 h2) (same_p hP hQ) (fun a w h1 h2 => eqR_c _ _ hP hQ w rfl h1 h2) (fun a w h1 h2 => eqb_c _ _ _ w rfl h1 h2) base_p (bytes_p ok_base) rbase_p (rbytes_p ok_base) (fun a w h1 h2 => eql_c _ _ _ _ true (same_self _) w rfl h1 h2) ?_
  intro w10 hO
  replace hO : Own w w10 [(n13, arr 4 (limb ((add7 P Q).2)), 27), (n12, arr 4 (limb ((add7 P Q).1)), 27), (n11, rp (add7 P Q), 35), (n10, pt (add7 P Q), 29), (n9, rp Q, 35), (n8, pt Q, 29), (n7, rp P, 35), (n6, pt P, 29), (n3, vals .u8 32 g, 22), (n2, vals .u8 32 f, 22)] := hO
  go_wp2_with fail
  refine bodyPost_ret (v := .bool true) (results_tmp Try.results4 _ _ _) rfl ⟨rfl, hO.low⟩
end Go.Proofs.Ytalnkcijebdpbaa

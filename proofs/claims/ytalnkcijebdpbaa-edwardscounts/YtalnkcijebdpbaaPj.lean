/- Walks of the reference: D, Zero, Neg, Add, On, Bytes, sum. Points of the curve, numbers below p; no other condition. -/
import Derived.Test.YtalnkcijebdpbaaPi
namespace Go.Proofs.Ytalnkcijebdpbaa
open F Go.RowKit

abbrev rp (P : Nat × Nat) : Array Value := qn [P.1, P.2]
abbrev wq (r : Q4) : Array Value := qn [r.1, r.2.1, r.2.2.1, r.2.2.2]
theorem sm_zero (a : Nat) : sm 0 a = ng a := by unfold sm ng; rw [Nat.zero_add]
theorem eqlN_c {ρ : Operand → Value} {o : Oper} (x y : Operand) (f g : Nat) (b : Bool) (hf : f < 2 ^ 256) (hg : g < 2 ^ 256) (hb : decide (f = g) = b) (w : World) (ho : o.op = .binOp .eql 33 x y 33) (hx : ρ x = .agg (vals .u64 16 (F.dg f))) (hy : ρ y = .agg (vals .u64 16 (F.dg g))) : (execOp ρ o).run Try.prog w = .ok (.value (.bool b)) w := by
  have h := eq_n (F.dg f) (F.dg g) b ((all16 f g hf hg).trans hb)
  unfold execOp
  simp only [ho, hx, hy]
  go_simp
theorem on_num {P : Nat × Nat} (hP : Ok7 P) : sm (mm P.2 P.2) (mm P.1 P.1) = am 1 (mm d7N (mm (mm P.1 P.1) (mm P.2 P.2))) := by
  apply ph_inj (sm_lt _ _) (am_lt _ _)
  rw [ph_sm _ _ (mm_lt _ _), ph_am, ph_mm, ph_mm, ph_mm, ph_mm, ph_mm, ph_mm, ph_one]
  have h : C7.a * (cn pP P.1 * cn pP P.1) + cn pP P.2 * cn pP P.2 = 1 + C7.d * (cn pP P.1 * cn pP P.1) * (cn pP P.2 * cn pP P.2) := hP.on
  rw [C7_a, C7_d] at h
  rw [ph_cn, ph_cn, ph_cn]
  generalize cn pP P.1 = x at *
  generalize cn pP P.2 = y at *
  generalize cn pP d7N = d at *
  clear hP
  grind
def f52r0Op0 : Oper := ⟨some 0, .alloc 33, 0, "ref.go:16", #[], none⟩
def f52r0Ops : Array Oper := #[f52r0Op0]
set_option maxRecDepth 100000 in
set_option maxHeartbeats 2000000 in
theorem f52r0_r {Q : Exit → Act → World → Prop} {u w : World} {L : List Row} {z0 : Value} {zz : List Value} (hO : Own u w L) (H : ∀ (n0 : Nat) (w' : World), Own u w' ((n0, vals .u64 16 (F.dg 0), 33) :: L) → Q .normal { tmps := List.toArray ((.pointer (some ⟨n0, 0, none⟩)) :: zz), defers := [] } w') :
    (Code.region 0 f52r0Ops false).wp Try.prog Q { tmps := List.toArray (z0 :: zz), defers := [] } w := by
  refine wp_region_list (show wpList _ f52r0Ops _ [f52r0Op0] _ _ from ?_)
  refine l_new hO (vals .u64 16 (F.dg 0)) 33 (al33 rfl) (fit_rn _) ?_
  intro n0 w1 hO
  exact l_fr _ (wpList_nil (H n0 _ hO))
def f52r1Op0 : Oper := ⟨some 2, .call { callee := .value (.func 50), args := #[.const (.int .u64 121665)], argTypes := #[24] }, 33, "ref.go:17", #[], none⟩
def f52r1Op1 : Oper := ⟨some 3, .call { callee := .value (.func 50), args := #[.const (.int .u64 121666)], argTypes := #[24] }, 33, "ref.go:17", #[⟨0, .chain⟩], none⟩
def f52r1Op2 : Oper := ⟨some 4, .call { callee := .value (.func 59), args := #[.tmp 3], argTypes := #[33] }, 33, "ref.go:17", #[⟨1, .data⟩, ⟨1, .chain⟩], none⟩
def f52r1Op3 : Oper := ⟨some 5, .call { callee := .value (.func 48), args := #[.tmp 2, .tmp 4], argTypes := #[33, 33] }, 33, "ref.go:17", #[⟨0, .data⟩, ⟨2, .data⟩, ⟨2, .chain⟩], none⟩
def f52r1Op4 : Oper := ⟨some 1, .alloc 33, 0, "ref.go:17", #[], none⟩
def f52r1Op5 : Oper := ⟨none, .store 33 (.tmp 1) (.tmp 5), 0, "ref.go:17", #[⟨4, .data⟩, ⟨3, .data⟩, ⟨3, .chain⟩, ⟨0, .phase⟩, ⟨1, .phase⟩, ⟨2, .phase⟩, ⟨3, .phase⟩, ⟨4, .phase⟩], none⟩
def f52r1Ops : Array Oper := #[f52r1Op0, f52r1Op1, f52r1Op2, f52r1Op3, f52r1Op4, f52r1Op5]
set_option maxRecDepth 100000 in
set_option maxHeartbeats 2000000 in
theorem f52r1_r {Q : Exit → Act → World → Prop} {u w : World} {L : List Row} {z0 z1 z2 z3 z4 z5 : Value} {zz : List Value} {e2 e3 e4 e5 : Array Value} (hO : Own u w L) (r2 : ∀ w, Ret 50 #[.int IntKind.u64 121665] w (.agg e2)) (r3 : ∀ w, Ret 50 #[.int IntKind.u64 121666] w (.agg e3)) (r4 : ∀ w, Ret 59 #[.agg e3] w (.agg e4)) (r5 : ∀ w, Ret 48 #[.agg e2, .agg e4] w (.agg e5)) (fe5_33 : Fit 33 e5) (H : ∀ (n1 : Nat) (w' : World), Own u w' ((n1, e5, 33) :: L) → Q .normal { tmps := List.toArray (z0 :: (.pointer (some ⟨n1, 0, none⟩)) :: (.agg e2) :: (.agg e3) :: (.agg e4) :: (.agg e5) :: zz), defers := [] } w') :
    (Code.region 1 f52r1Ops false).wp Try.prog Q { tmps := List.toArray (z0 :: z1 :: z2 :: z3 :: z4 :: z5 :: zz), defers := [] } w := by
  refine wp_region_list (show wpList _ f52r1Ops _ [f52r1Op0, f52r1Op1, f52r1Op2, f52r1Op3, f52r1Op4, f52r1Op5] _ _ from ?_)
  refine l_call hO 50 #[.int IntKind.u64 121665] (.agg e2) r2 ?_
  intro w1 hO
  refine l_call hO 50 #[.int IntKind.u64 121666] (.agg e3) r3 ?_
  intro w2 hO
  refine l_call hO 59 #[.agg e3] (.agg e4) r4 ?_
  intro w3 hO
  refine l_fr (Fr [z0, z1, A e2, A e3, A e4, z5] zz) ?_
  refine l_call hO 48 #[.agg e2, .agg e4] (.agg e5) r5 ?_
  intro w4 hO
  refine l_new hO (vals .u64 16 (F.dg 0)) 33 (al33 rfl) (fit_rn _) ?_
  intro n1 w5 hO
  refine l_st hO 33 0 rfl e5 fe5_33 ?_
  intro w6 hO
  exact l_fr _ (wpList_nil (H n1 _ hO))
def f52r2Op0 : Oper := ⟨some 6, .call { callee := .value (.func 50), args := #[.const (.int .u64 0)], argTypes := #[24] }, 33, "ref.go:18", #[], none⟩
def f52r2Op1 : Oper := ⟨some 7, .load 33 (.tmp 1), 33, "ref.go:18", #[], none⟩
def f52r2Op2 : Oper := ⟨some 8, .call { callee := .value (.func 49), args := #[.tmp 6, .tmp 7], argTypes := #[33, 33] }, 33, "ref.go:18", #[⟨0, .data⟩, ⟨1, .data⟩, ⟨0, .chain⟩], none⟩
def f52r2Op3 : Oper := ⟨none, .store 33 (.tmp 0) (.tmp 8), 0, "ref.go:18", #[⟨2, .data⟩, ⟨2, .chain⟩, ⟨0, .phase⟩, ⟨1, .phase⟩, ⟨2, .phase⟩], none⟩
def f52r2Ops : Array Oper := #[f52r2Op0, f52r2Op1, f52r2Op2, f52r2Op3]
set_option maxRecDepth 100000 in
set_option maxHeartbeats 2000000 in
theorem f52r2_r {Q : Exit → Act → World → Prop} {u w : World} {L : List Row} {z2 z3 z4 z5 z6 z7 z8 : Value} {b0 b1 : Nat} {c0 c1 : Array Value} {e6 e8 : Array Value} (hQ : ∀ c a w n v, Q (.panic c) (a.put (some n) v) w → Q (.panic c) a w) (hO : Own u w L) (i0 : Nat) (h0 : L[i0]? = some (b0, c0, 33)) (i1 : Nat) (h1 : L[i1]? = some (b1, c1, 33)) (e0_1 : i0 ≠ i1) (r6 : ∀ w, Ret 50 #[.int IntKind.u64 0] w (.agg e6)) (r8 : ∀ w, Ret 49 #[.agg e6, .agg c1] w (.agg e8)) (fe8_33 : Fit 33 e8) (H : ∀ (w' : World), Own u w' ((L.set i0 (b0, e8, 33))) → Q .normal { tmps := List.toArray ((.pointer (some ⟨b0, 0, none⟩)) :: (.pointer (some ⟨b1, 0, none⟩)) :: z2 :: z3 :: z4 :: z5 :: (.agg e6) :: (.agg c1) :: (.agg e8) :: []), defers := [] } w') :
    (Code.region 2 f52r2Ops true).wp Try.prog Q { tmps := List.toArray ((.pointer (some ⟨b0, 0, none⟩)) :: (.pointer (some ⟨b1, 0, none⟩)) :: z2 :: z3 :: z4 :: z5 :: z6 :: z7 :: z8 :: []), defers := [] } w := by
  have fc1_33 := hO.fits i1 h1
  refine wp_region_held_drew (S := Has [(b1, c1, 33)]) (by kernel_rfl) ⟨hO.drew.row _ h1, trivial⟩ (fun hS => ?_)
  replace hO := hO.drew
  refine d_tk 1 f52r2Op1 (.agg c1) hQ (y_l 33 (fun _ h => h.1) fc1_33 Try.underlying33) hS ?_
  refine d_fr (ls 4 2) (Fr [D b0, D b1, z2, z3, z4, z5, z6, A c1, z8] []) ?_
  refine d_one 0 f52r2Op0 (ls 4 3) (fun K hK => ?_)
  refine k_call hK hO (fun _ hO => ⟨hO.row _ h1, trivial⟩) 50 #[.int IntKind.u64 0] (.agg e6) r6 ?_
  intro w1 hO
  refine d_one 2 f52r2Op2 (ls 4 7) (fun K hK => ?_)
  refine k_call hK hO (fun _ hO => ⟨hO.row _ h1, trivial⟩) 49 #[.agg e6, .agg c1] (.agg e8) r8 ?_
  intro w2 hO
  refine d_one 3 f52r2Op3 (ls 4 15) (fun K hK => ?_)
  refine k_st hK hO 33 i0 h0 e8 fe8_33 (fun _ hO => ⟨hO.row _ (get_set h1 e0_1), trivial⟩) ?_
  intro w3 hO
  exact d_fr (ls 4 15) _ (wpAnyH_done (by kernel_rfl) (H  _ hO) _)
set_option maxRecDepth 100000 in
set_option maxHeartbeats 4000000 in
theorem rd_c (w : World) : Ret 52 #[] w (.agg (vals .u64 16 (F.dg d7N))) := by
  go_enter Try.func52, Try.ntmps52
  have hO := Own.start w
  go_upto_region 0 with (fail)
  refine f52r0_r hO ?_
  intro n0 w1 hO
  replace hO : Own w w1 [(n0, vals .u64 16 (F.dg 0), 33)] := hO
  go_upto_region 1 with (fail)
  refine f52r1_r hO (rof_c 121665 (by omega)) (rof_c 121666 (by omega)) (rinv_c _ (of_lt (by omega))) (rmul_c _ _ (of_lt (by omega)) (iN_lt _)) (fit_rn _) ?_
  intro n1 w2 hO
  replace hO : Own w w2 [(n1, vals .u64 16 (F.dg (mm 121665 (iN 121666))), 33), (n0, vals .u64 16 (F.dg 0), 33)] := hO
  go_upto_region 2 with (fail)
  refine f52r2_r (fun _ _ _ _ _ h => h) hO 1 rfl 0 rfl (by decide) (rof_c 0 (by omega)) (rsub_c _ _ (of_lt (by omega)) (mm_lt _ _)) (fit_rn _) ?_
  intro w3 hO
  replace hO : Own w w3 [(n1, vals .u64 16 (F.dg (mm 121665 (iN 121666))), 33), (n0, vals .u64 16 (F.dg (sm 0 (mm 121665 (iN 121666)))), 33)] := hO
  go_wp2_with fail
  refine bodyPost_ret (v := .agg (vals .u64 16 (F.dg (sm 0 (mm 121665 (iN 121666)))))) (results_cell_row Try.results52 _ _ n0 33 _ (0, 0) _ rfl (hO.row 1 rfl) Try.underlying33 rfl (fit_rn _).size) rfl ⟨by rw [d7_eq], hO.low⟩
def f47r0Op0 : Oper := ⟨some 0, .alloc 35, 0, "ref.go:13", #[], none⟩
def f47r0Ops : Array Oper := #[f47r0Op0]
set_option maxRecDepth 100000 in
set_option maxHeartbeats 2000000 in
theorem f47r0_r {Q : Exit → Act → World → Prop} {u w : World} {L : List Row} {z0 : Value} {zz : List Value} (hO : Own u w L) (H : ∀ (n0 : Nat) (w' : World), Own u w' ((n0, qn [0, 0], 35) :: L) → Q .normal { tmps := List.toArray ((.pointer (some ⟨n0, 0, none⟩)) :: zz), defers := [] } w') :
    (Code.region 0 f47r0Ops false).wp Try.prog Q { tmps := List.toArray (z0 :: zz), defers := [] } w := by
  refine wp_region_list (show wpList _ f47r0Ops _ [f47r0Op0] _ _ from ?_)
  refine l_new hO (qn [0, 0]) 35 (al35 rfl) (fit_rp _ _) ?_
  intro n0 w1 hO
  exact l_fr _ (wpList_nil (H n0 _ hO))
def f47r1Op0 : Oper := ⟨some 1, .call { callee := .value (.func 50), args := #[.const (.int .u64 1)], argTypes := #[24] }, 33, "ref.go:13", #[], none⟩
def f47r1Op1 : Oper := ⟨some 2, .build 35 #[(1, .tmp 1)], 35, "ref.go:13", #[⟨0, .data⟩], none⟩
def f47r1Op2 : Oper := ⟨none, .store 35 (.tmp 0) (.tmp 2), 0, "ref.go:13", #[⟨1, .data⟩, ⟨0, .chain⟩, ⟨0, .phase⟩, ⟨1, .phase⟩], none⟩
def f47r1Ops : Array Oper := #[f47r1Op0, f47r1Op1, f47r1Op2]
set_option maxRecDepth 100000 in
set_option maxHeartbeats 2000000 in
theorem f47r1_r {Q : Exit → Act → World → Prop} {u w : World} {L : List Row} {z1 z2 : Value} {b0 : Nat} {c0 : Array Value} {e1 e2 : Array Value} (hO : Own u w L) (i0 : Nat) (h0 : L[i0]? = some (b0, c0, 35)) (r1 : ∀ w, Ret 50 #[.int IntKind.u64 1] w (.agg e1)) (q2 : Try.prog.built 35 [(1, .agg e1)] = some e2) (fe2_35 : Fit 35 e2) (H : ∀ (w' : World), Own u w' ((L.set i0 (b0, e2, 35))) → Q .normal { tmps := List.toArray ((.pointer (some ⟨b0, 0, none⟩)) :: (.agg e1) :: (.agg e2) :: []), defers := [] } w') :
    (Code.region 1 f47r1Ops false).wp Try.prog Q { tmps := List.toArray ((.pointer (some ⟨b0, 0, none⟩)) :: z1 :: z2 :: []), defers := [] } w := by
  refine wp_region_list (show wpList _ f47r1Ops _ [f47r1Op0, f47r1Op1, f47r1Op2] _ _ from ?_)
  refine l_call hO 50 #[.int IntKind.u64 1] (.agg e1) r1 ?_
  intro w1 hO
  refine l_val (.agg e2) (run_bd 35 _ rfl [(1, .agg e1)] (by kernel_rfl) e2 q2 _) ?_
  refine l_st hO 35 i0 h0 e2 fe2_35 ?_
  intro w2 hO
  exact l_fr _ (wpList_nil (H  _ hO))
set_option maxRecDepth 100000 in
set_option maxHeartbeats 4000000 in
theorem rzero_c (w : World) : Ret 47 #[] w (.agg (rp zero7)) := by
  go_enter Try.func47, Try.ntmps47
  have hO := Own.start w
  go_upto_region 0 with (fail)
  refine f47r0_r hO ?_
  intro n0 w1 hO
  replace hO : Own w w1 [(n0, qn [0, 0], 35)] := hO
  go_upto_region 1 with (fail)
  refine f47r1_r hO 0 rfl (rof_c 1 (by omega)) (bd_rp1 _) (fit_rp _ _) ?_
  intro w2 hO
  replace hO : Own w w2 [(n0, qn [0, 1], 35)] := hO
  go_wp2_with fail
  refine bodyPost_ret (v := .agg (qn [0, 1])) (results_cell_row Try.results47 _ _ n0 35 _ (0, 0) _ rfl (hO.row 0 rfl) Try.underlying35 rfl (fit_rp _ _).size) rfl ⟨rfl, hO.low⟩
def f26r0Op0 : Oper := ⟨some 1, .box 35 (.tmp 0), 0, "ref.go:43", #[], none⟩
def f26r0Op1 : Oper := ⟨some 2, .alloc 35, 0, "ref.go:43", #[], none⟩
def f26r0Ops : Array Oper := #[f26r0Op0, f26r0Op1]
set_option maxRecDepth 100000 in
set_option maxHeartbeats 2000000 in
theorem f26r0_r {Q : Exit → Act → World → Prop} {u w : World} {L : List Row} {z1 z2 : Value} {zz : List Value} {e0 : Array Value} (hO : Own u w L) (fe0_35 : Fit 35 e0) (H : ∀ (n1 : Nat) (n2 : Nat) (w' : World), Own u w' ((n2, qn [0, 0], 35) :: (n1, e0, 35) :: L) → Q .normal { tmps := List.toArray ((.agg e0) :: (.pointer (some ⟨n1, 0, none⟩)) :: (.pointer (some ⟨n2, 0, none⟩)) :: zz), defers := [] } w') :
    (Code.region 0 f26r0Ops false).wp Try.prog Q { tmps := List.toArray ((.agg e0) :: z1 :: z2 :: zz), defers := [] } w := by
  refine wp_region_list (show wpList _ f26r0Ops _ [f26r0Op0, f26r0Op1] _ _ from ?_)
  refine l_new hO (e0) 35 (run_box 35 _ rfl _ (by kernel_rfl)) fe0_35 ?_
  intro n1 w1 hO
  refine l_new hO (qn [0, 0]) 35 (al35 rfl) (fit_rp _ _) ?_
  intro n2 w2 hO
  exact l_fr _ (wpList_nil (H n1 n2 _ hO))
def f26r1Op0 : Oper := ⟨some 3, .call { callee := .value (.func 50), args := #[.const (.int .u64 0)], argTypes := #[24] }, 33, "ref.go:43", #[], none⟩
def f26r1Op1 : Oper := ⟨some 4, .fieldAddr 35 (.tmp 1) 0, 0, "ref.go:43", #[], none⟩
def f26r1Op2 : Oper := ⟨some 5, .load 33 (.tmp 4), 33, "ref.go:43", #[⟨1, .data⟩], none⟩
def f26r1Op3 : Oper := ⟨some 6, .call { callee := .value (.func 49), args := #[.tmp 3, .tmp 5], argTypes := #[33, 33] }, 33, "ref.go:43", #[⟨0, .data⟩, ⟨2, .data⟩, ⟨0, .chain⟩], none⟩
def f26r1Op4 : Oper := ⟨some 7, .fieldAddr 35 (.tmp 1) 1, 0, "ref.go:43", #[], none⟩
def f26r1Op5 : Oper := ⟨some 8, .load 33 (.tmp 7), 33, "ref.go:43", #[⟨4, .data⟩], none⟩
def f26r1Op6 : Oper := ⟨some 9, .build 35 #[(0, .tmp 6), (1, .tmp 8)], 35, "ref.go:43", #[⟨3, .data⟩, ⟨5, .data⟩], none⟩
def f26r1Op7 : Oper := ⟨none, .store 35 (.tmp 2) (.tmp 9), 0, "ref.go:43", #[⟨6, .data⟩, ⟨3, .chain⟩, ⟨0, .phase⟩, ⟨1, .phase⟩, ⟨2, .phase⟩, ⟨3, .phase⟩, ⟨4, .phase⟩, ⟨5, .phase⟩, ⟨6, .phase⟩], none⟩
def f26r1Ops : Array Oper := #[f26r1Op0, f26r1Op1, f26r1Op2, f26r1Op3, f26r1Op4, f26r1Op5, f26r1Op6, f26r1Op7]
set_option maxRecDepth 100000 in
set_option maxHeartbeats 2000000 in
theorem f26r1_r {Q : Exit → Act → World → Prop} {u w : World} {L : List Row} {z0 z3 z4 z5 z6 z7 z8 z9 : Value} {b1 b2 : Nat} {c1 c2 : Array Value} {e3 e5 e6 e8 e9 : Array Value} (hQ : ∀ c a w n v, Q (.panic c) (a.put (some n) v) w → Q (.panic c) a w) (hO : Own u w L) (i1 : Nat) (h1 : L[i1]? = some (b1, c1, 35)) (i2 : Nat) (h2 : L[i2]? = some (b2, c2, 35)) (e2_1 : i2 ≠ i1) (r3 : ∀ w, Ret 50 #[.int IntKind.u64 0] w (.agg e3)) (q5 : Part c1 0 33 e5) (r6 : ∀ w, Ret 49 #[.agg e3, .agg e5] w (.agg e6)) (q8 : Part c1 16 33 e8) (q9 : Try.prog.built 35 [(0, .agg e6), (1, .agg e8)] = some e9) (fe9_35 : Fit 35 e9) (H : ∀ (w' : World), Own u w' ((L.set i2 (b2, e9, 35))) → Q .normal { tmps := List.toArray (z0 :: (.pointer (some ⟨b1, 0, none⟩)) :: (.pointer (some ⟨b2, 0, none⟩)) :: (.agg e3) :: (.pointer (some ⟨b1, 0, none⟩)) :: (.agg e5) :: (.agg e6) :: (.pointer (some ⟨b1, 16, none⟩)) :: (.agg e8) :: (.agg e9) :: []), defers := [] } w') :
    (Code.region 1 f26r1Ops true).wp Try.prog Q { tmps := List.toArray (z0 :: (.pointer (some ⟨b1, 0, none⟩)) :: (.pointer (some ⟨b2, 0, none⟩)) :: z3 :: z4 :: z5 :: z6 :: z7 :: z8 :: z9 :: []), defers := [] } w := by
  refine wp_region_held_drew (S := Has [(b1, c1, 35)]) (by kernel_rfl) ⟨hO.drew.row _ h1, trivial⟩ (fun hS => ?_)
  replace hO := hO.drew
  refine d_tk 1 f26r1Op1 (.pointer (some ⟨b1, 0, none⟩)) hQ (y_val (fun _ => by kernel_rfl)) hS ?_
  refine d_tk 2 f26r1Op2 (.agg e5) hQ (y_p 33 (fun _ h => h.1) q5 Try.underlying33) hS ?_
  refine d_tk 4 f26r1Op4 (.pointer (some ⟨b1, 16, none⟩)) hQ (y_val (fun _ => by kernel_rfl)) hS ?_
  refine d_fr (ls 8 22) (Fr [z0, D b1, D b2, z3, .pointer (some ⟨b1, 0, none⟩), A e5, z6, .pointer (some ⟨b1, 16, none⟩), z8, z9] []) ?_
  refine d_tk 5 f26r1Op5 (.agg e8) hQ (y_p 33 (fun _ h => h.1) q8 Try.underlying33) hS ?_
  refine d_fr (ls 8 54) (Fr [z0, D b1, D b2, z3, .pointer (some ⟨b1, 0, none⟩), A e5, z6, .pointer (some ⟨b1, 16, none⟩), A e8, z9] []) ?_
  refine d_one 0 f26r1Op0 (ls 8 55) (fun K hK => ?_)
  refine k_call hK hO (fun _ hO => ⟨hO.row _ h1, trivial⟩) 50 #[.int IntKind.u64 0] (.agg e3) r3 ?_
  intro w1 hO
  refine d_one 3 f26r1Op3 (ls 8 63) (fun K hK => ?_)
  refine k_call hK hO (fun _ hO => ⟨hO.row _ h1, trivial⟩) 49 #[.agg e3, .agg e5] (.agg e6) r6 ?_
  intro w2 hO
  have hS : Has [(b1, c1, 35)] _ := ⟨hO.row _ h1, trivial⟩
  refine d_tk 6 f26r1Op6 (.agg e9) hQ (y_val (run_bd 35 _ rfl [(0, .agg e6), (1, .agg e8)] (by kernel_rfl) e9 q9)) hS ?_
  refine d_fr (ls 8 127) (Fr [z0, D b1, D b2, A e3, .pointer (some ⟨b1, 0, none⟩), A e5, A e6, .pointer (some ⟨b1, 16, none⟩), A e8, A e9] []) ?_
  refine d_one 7 f26r1Op7 (ls 8 255) (fun K hK => ?_)
  refine k_st hK hO 35 i2 h2 e9 fe9_35 (fun _ hO => ⟨hO.row _ (get_set h1 e2_1), trivial⟩) ?_
  intro w3 hO
  exact wpAnyH_done (by kernel_rfl) (H  _ hO) _
set_option maxRecDepth 100000 in
set_option maxHeartbeats 4000000 in
theorem rneg_p {P : Nat × Nat} (hP : Ok7 P) (w : World) : Ret 26 #[.agg (rp P)] w (.agg (rp (neg7 P))) := by
  go_enter Try.func26, Try.ntmps26
  have hO := Own.start w
  go_upto_region 0 with (fail)
  refine f26r0_r hO (fit_rp _ _) ?_
  intro n1 n2 w1 hO
  replace hO : Own w w1 [(n2, qn [0, 0], 35), (n1, rp P, 35)] := hO
  go_upto_region 1 with (fail)
  refine f26r1_r (fun _ _ _ _ _ h => h) hO 1 rfl 0 rfl (by decide) (rof_c 0 (by omega)) (part_rp0 _ _) (rsub_c _ _ (of_lt (by omega)) hP.x) (part_rp1 _ _) (bd_rp _ _) (fit_rp _ _) ?_
  intro w2 hO
  replace hO : Own w w2 [(n2, qn [sm 0 P.1, P.2], 35), (n1, rp P, 35)] := hO
  go_wp2_with fail
  refine bodyPost_ret (v := .agg (qn [sm 0 P.1, P.2])) (results_cell_row Try.results26 _ _ n2 35 _ (0, 0) _ rfl (hO.row 0 rfl) Try.underlying35 rfl (fit_rp _ _).size) rfl ⟨by rw [sm_zero]; rfl, hO.low⟩
def f22r0Op0 : Oper := ⟨some 2, .box 35 (.tmp 0), 0, "ref.go:30", #[], none⟩
def f22r0Op1 : Oper := ⟨some 3, .box 35 (.tmp 1), 0, "ref.go:30", #[], none⟩
def f22r0Op2 : Oper := ⟨some 4, .alloc 35, 0, "ref.go:30", #[], none⟩
def f22r0Ops : Array Oper := #[f22r0Op0, f22r0Op1, f22r0Op2]
set_option maxRecDepth 100000 in
set_option maxHeartbeats 2000000 in
theorem f22r0_r {Q : Exit → Act → World → Prop} {u w : World} {L : List Row} {z2 z3 z4 : Value} {zz : List Value} {e0 e1 : Array Value} (hO : Own u w L) (fe0_35 : Fit 35 e0) (fe1_35 : Fit 35 e1) (H : ∀ (n2 : Nat) (n3 : Nat) (n4 : Nat) (w' : World), Own u w' ((n4, qn [0, 0], 35) :: (n3, e1, 35) :: (n2, e0, 35) :: L) → Q .normal { tmps := List.toArray ((.agg e0) :: (.agg e1) :: (.pointer (some ⟨n2, 0, none⟩)) :: (.pointer (some ⟨n3, 0, none⟩)) :: (.pointer (some ⟨n4, 0, none⟩)) :: zz), defers := [] } w') :
    (Code.region 0 f22r0Ops false).wp Try.prog Q { tmps := List.toArray ((.agg e0) :: (.agg e1) :: z2 :: z3 :: z4 :: zz), defers := [] } w := by
  refine wp_region_list (show wpList _ f22r0Ops _ [f22r0Op0, f22r0Op1, f22r0Op2] _ _ from ?_)
  refine l_new hO (e0) 35 (run_box 35 _ rfl _ (by kernel_rfl)) fe0_35 ?_
  intro n2 w1 hO
  refine l_new hO (e1) 35 (run_box 35 _ rfl _ (by kernel_rfl)) fe1_35 ?_
  intro n3 w2 hO
  refine l_new hO (qn [0, 0]) 35 (al35 rfl) (fit_rp _ _) ?_
  intro n4 w3 hO
  exact l_fr _ (wpList_nil (H n2 n3 n4 _ hO))
def f22r1Op0 : Oper := ⟨some 13, .fieldAddr 35 (.tmp 2) 0, 0, "ref.go:31", #[], none⟩
def f22r1Op1 : Oper := ⟨some 14, .load 33 (.tmp 13), 33, "ref.go:31", #[⟨0, .data⟩], none⟩
def f22r1Op2 : Oper := ⟨some 15, .fieldAddr 35 (.tmp 3) 1, 0, "ref.go:31", #[], none⟩
def f22r1Op3 : Oper := ⟨some 16, .load 33 (.tmp 15), 33, "ref.go:31", #[⟨2, .data⟩], none⟩
def f22r1Op4 : Oper := ⟨some 17, .call { callee := .value (.func 48), args := #[.tmp 14, .tmp 16], argTypes := #[33, 33] }, 33, "ref.go:31", #[⟨1, .data⟩, ⟨3, .data⟩], none⟩
def f22r1Op5 : Oper := ⟨some 5, .alloc 33, 0, "ref.go:31", #[], none⟩
def f22r1Op6 : Oper := ⟨none, .store 33 (.tmp 5) (.tmp 17), 0, "ref.go:31", #[⟨5, .data⟩, ⟨4, .data⟩, ⟨4, .chain⟩, ⟨0, .phase⟩, ⟨1, .phase⟩, ⟨2, .phase⟩, ⟨3, .phase⟩, ⟨4, .phase⟩, ⟨5, .phase⟩], none⟩
def f22r1Ops : Array Oper := #[f22r1Op0, f22r1Op1, f22r1Op2, f22r1Op3, f22r1Op4, f22r1Op5, f22r1Op6]
set_option maxRecDepth 100000 in
set_option maxHeartbeats 2000000 in
theorem f22r1_r {Q : Exit → Act → World → Prop} {u w : World} {L : List Row} {z0 z1 z4 z5 z6 z7 z8 z9 z10 z11 z12 z13 z14 z15 z16 z17 : Value} {zz : List Value} {b2 b3 : Nat} {c2 c3 : Array Value} {e14 e16 e17 : Array Value} (hO : Own u w L) (i2 : Nat) (h2 : L[i2]? = some (b2, c2, 35)) (i3 : Nat) (h3 : L[i3]? = some (b3, c3, 35)) (q14 : Part c2 0 33 e14) (q16 : Part c3 16 33 e16) (r17 : ∀ w, Ret 48 #[.agg e14, .agg e16] w (.agg e17)) (fe17_33 : Fit 33 e17) (H : ∀ (n5 : Nat) (w' : World), Own u w' ((n5, e17, 33) :: L) → Q .normal { tmps := List.toArray (z0 :: z1 :: (.pointer (some ⟨b2, 0, none⟩)) :: (.pointer (some ⟨b3, 0, none⟩)) :: z4 :: (.pointer (some ⟨n5, 0, none⟩)) :: z6 :: z7 :: z8 :: z9 :: z10 :: z11 :: z12 :: (.pointer (some ⟨b2, 0, none⟩)) :: (.agg e14) :: (.pointer (some ⟨b3, 16, none⟩)) :: (.agg e16) :: (.agg e17) :: zz), defers := [] } w') :
    (Code.region 1 f22r1Ops false).wp Try.prog Q { tmps := List.toArray (z0 :: z1 :: (.pointer (some ⟨b2, 0, none⟩)) :: (.pointer (some ⟨b3, 0, none⟩)) :: z4 :: z5 :: z6 :: z7 :: z8 :: z9 :: z10 :: z11 :: z12 :: z13 :: z14 :: z15 :: z16 :: z17 :: zz), defers := [] } w := by
  refine wp_region_list (show wpList _ f22r1Ops _ [f22r1Op0, f22r1Op1, f22r1Op2, f22r1Op3, f22r1Op4, f22r1Op5, f22r1Op6] _ _ from ?_)
  refine l_val (.pointer (some ⟨b2, 0, none⟩)) (by kernel_rfl) ?_
  refine l_part hO 33 i2 h2 q14 Try.underlying33 ?_
  refine l_val (.pointer (some ⟨b3, 16, none⟩)) (by kernel_rfl) ?_
  refine l_fr (Fr [z0, z1, D b2, D b3, z4, z5, z6, z7, z8, z9, z10, z11, z12, .pointer (some ⟨b2, 0, none⟩), A e14, .pointer (some ⟨b3, 16, none⟩), z16, z17] zz) ?_
  refine l_part hO 33 i3 h3 q16 Try.underlying33 ?_
  refine l_call hO 48 #[.agg e14, .agg e16] (.agg e17) r17 ?_
  intro w1 hO
  refine l_new hO (vals .u64 16 (F.dg 0)) 33 (al33 rfl) (fit_rn _) ?_
  intro n5 w2 hO
  refine l_fr (Fr [z0, z1, D b2, D b3, z4, D n5, z6, z7, z8, z9, z10, z11, z12, .pointer (some ⟨b2, 0, none⟩), A e14, .pointer (some ⟨b3, 16, none⟩), A e16, A e17] zz) ?_
  refine l_st hO 33 0 rfl e17 fe17_33 ?_
  intro w3 hO
  exact l_fr _ (wpList_nil (H n5 _ hO))
def f22r2Op0 : Oper := ⟨some 18, .fieldAddr 35 (.tmp 2) 1, 0, "ref.go:32", #[], none⟩
def f22r2Op1 : Oper := ⟨some 19, .load 33 (.tmp 18), 33, "ref.go:32", #[⟨0, .data⟩], none⟩
def f22r2Op2 : Oper := ⟨some 20, .fieldAddr 35 (.tmp 3) 0, 0, "ref.go:32", #[], none⟩
def f22r2Op3 : Oper := ⟨some 21, .load 33 (.tmp 20), 33, "ref.go:32", #[⟨2, .data⟩], none⟩
def f22r2Op4 : Oper := ⟨some 22, .call { callee := .value (.func 48), args := #[.tmp 19, .tmp 21], argTypes := #[33, 33] }, 33, "ref.go:32", #[⟨1, .data⟩, ⟨3, .data⟩], none⟩
def f22r2Op5 : Oper := ⟨some 6, .alloc 33, 0, "ref.go:32", #[], none⟩
def f22r2Op6 : Oper := ⟨none, .store 33 (.tmp 6) (.tmp 22), 0, "ref.go:32", #[⟨5, .data⟩, ⟨4, .data⟩, ⟨4, .chain⟩, ⟨0, .phase⟩, ⟨1, .phase⟩, ⟨2, .phase⟩, ⟨3, .phase⟩, ⟨4, .phase⟩, ⟨5, .phase⟩], none⟩
def f22r2Ops : Array Oper := #[f22r2Op0, f22r2Op1, f22r2Op2, f22r2Op3, f22r2Op4, f22r2Op5, f22r2Op6]
set_option maxRecDepth 100000 in
set_option maxHeartbeats 2000000 in
theorem f22r2_r {Q : Exit → Act → World → Prop} {u w : World} {L : List Row} {z0 z1 z4 z5 z6 z7 z8 z9 z10 z11 z12 z13 z14 z15 z16 z17 z18 z19 z20 z21 z22 : Value} {zz : List Value} {b2 b3 : Nat} {c2 c3 : Array Value} {e19 e21 e22 : Array Value} (hO : Own u w L) (i2 : Nat) (h2 : L[i2]? = some (b2, c2, 35)) (i3 : Nat) (h3 : L[i3]? = some (b3, c3, 35)) (q19 : Part c2 16 33 e19) (q21 : Part c3 0 33 e21) (r22 : ∀ w, Ret 48 #[.agg e19, .agg e21] w (.agg e22)) (fe22_33 : Fit 33 e22) (H : ∀ (n6 : Nat) (w' : World), Own u w' ((n6, e22, 33) :: L) → Q .normal { tmps := List.toArray (z0 :: z1 :: (.pointer (some ⟨b2, 0, none⟩)) :: (.pointer (some ⟨b3, 0, none⟩)) :: z4 :: z5 :: (.pointer (some ⟨n6, 0, none⟩)) :: z7 :: z8 :: z9 :: z10 :: z11 :: z12 :: z13 :: z14 :: z15 :: z16 :: z17 :: (.pointer (some ⟨b2, 16, none⟩)) :: (.agg e19) :: (.pointer (some ⟨b3, 0, none⟩)) :: (.agg e21) :: (.agg e22) :: zz), defers := [] } w') :
    (Code.region 2 f22r2Ops false).wp Try.prog Q { tmps := List.toArray (z0 :: z1 :: (.pointer (some ⟨b2, 0, none⟩)) :: (.pointer (some ⟨b3, 0, none⟩)) :: z4 :: z5 :: z6 :: z7 :: z8 :: z9 :: z10 :: z11 :: z12 :: z13 :: z14 :: z15 :: z16 :: z17 :: z18 :: z19 :: z20 :: z21 :: z22 :: zz), defers := [] } w := by
  refine wp_region_list (show wpList _ f22r2Ops _ [f22r2Op0, f22r2Op1, f22r2Op2, f22r2Op3, f22r2Op4, f22r2Op5, f22r2Op6] _ _ from ?_)
  refine l_val (.pointer (some ⟨b2, 16, none⟩)) (by kernel_rfl) ?_
  refine l_part hO 33 i2 h2 q19 Try.underlying33 ?_
  refine l_val (.pointer (some ⟨b3, 0, none⟩)) (by kernel_rfl) ?_
  refine l_fr (Fr [z0, z1, D b2, D b3, z4, z5, z6, z7, z8, z9, z10, z11, z12, z13, z14, z15, z16, z17, .pointer (some ⟨b2, 16, none⟩), A e19, .pointer (some ⟨b3, 0, none⟩), z21, z22] zz) ?_
  refine l_part hO 33 i3 h3 q21 Try.underlying33 ?_
  refine l_call hO 48 #[.agg e19, .agg e21] (.agg e22) r22 ?_
  intro w1 hO
  refine l_new hO (vals .u64 16 (F.dg 0)) 33 (al33 rfl) (fit_rn _) ?_
  intro n6 w2 hO
  refine l_fr (Fr [z0, z1, D b2, D b3, z4, z5, D n6, z7, z8, z9, z10, z11, z12, z13, z14, z15, z16, z17, .pointer (some ⟨b2, 16, none⟩), A e19, .pointer (some ⟨b3, 0, none⟩), A e21, A e22] zz) ?_
  refine l_st hO 33 0 rfl e22 fe22_33 ?_
  intro w3 hO
  exact l_fr _ (wpList_nil (H n6 _ hO))
def f22r3Op0 : Oper := ⟨some 23, .fieldAddr 35 (.tmp 2) 1, 0, "ref.go:33", #[], none⟩
def f22r3Op1 : Oper := ⟨some 24, .load 33 (.tmp 23), 33, "ref.go:33", #[⟨0, .data⟩], none⟩
def f22r3Op2 : Oper := ⟨some 25, .fieldAddr 35 (.tmp 3) 1, 0, "ref.go:33", #[], none⟩
def f22r3Op3 : Oper := ⟨some 26, .load 33 (.tmp 25), 33, "ref.go:33", #[⟨2, .data⟩], none⟩
def f22r3Op4 : Oper := ⟨some 27, .call { callee := .value (.func 48), args := #[.tmp 24, .tmp 26], argTypes := #[33, 33] }, 33, "ref.go:33", #[⟨1, .data⟩, ⟨3, .data⟩], none⟩
def f22r3Op5 : Oper := ⟨some 7, .alloc 33, 0, "ref.go:33", #[], none⟩
def f22r3Op6 : Oper := ⟨none, .store 33 (.tmp 7) (.tmp 27), 0, "ref.go:33", #[⟨5, .data⟩, ⟨4, .data⟩, ⟨4, .chain⟩, ⟨0, .phase⟩, ⟨1, .phase⟩, ⟨2, .phase⟩, ⟨3, .phase⟩, ⟨4, .phase⟩, ⟨5, .phase⟩], none⟩
def f22r3Ops : Array Oper := #[f22r3Op0, f22r3Op1, f22r3Op2, f22r3Op3, f22r3Op4, f22r3Op5, f22r3Op6]
set_option maxRecDepth 100000 in
set_option maxHeartbeats 2000000 in
theorem f22r3_r {Q : Exit → Act → World → Prop} {u w : World} {L : List Row} {z0 z1 z4 z5 z6 z7 z8 z9 z10 z11 z12 z13 z14 z15 z16 z17 z18 z19 z20 z21 z22 z23 z24 z25 z26 z27 : Value} {zz : List Value} {b2 b3 : Nat} {c2 c3 : Array Value} {e24 e26 e27 : Array Value} (hO : Own u w L) (i2 : Nat) (h2 : L[i2]? = some (b2, c2, 35)) (i3 : Nat) (h3 : L[i3]? = some (b3, c3, 35)) (q24 : Part c2 16 33 e24) (q26 : Part c3 16 33 e26) (r27 : ∀ w, Ret 48 #[.agg e24, .agg e26] w (.agg e27)) (fe27_33 : Fit 33 e27) (H : ∀ (n7 : Nat) (w' : World), Own u w' ((n7, e27, 33) :: L) → Q .normal { tmps := List.toArray (z0 :: z1 :: (.pointer (some ⟨b2, 0, none⟩)) :: (.pointer (some ⟨b3, 0, none⟩)) :: z4 :: z5 :: z6 :: (.pointer (some ⟨n7, 0, none⟩)) :: z8 :: z9 :: z10 :: z11 :: z12 :: z13 :: z14 :: z15 :: z16 :: z17 :: z18 :: z19 :: z20 :: z21 :: z22 :: (.pointer (some ⟨b2, 16, none⟩)) :: (.agg e24) :: (.pointer (some ⟨b3, 16, none⟩)) :: (.agg e26) :: (.agg e27) :: zz), defers := [] } w') :
    (Code.region 3 f22r3Ops false).wp Try.prog Q { tmps := List.toArray (z0 :: z1 :: (.pointer (some ⟨b2, 0, none⟩)) :: (.pointer (some ⟨b3, 0, none⟩)) :: z4 :: z5 :: z6 :: z7 :: z8 :: z9 :: z10 :: z11 :: z12 :: z13 :: z14 :: z15 :: z16 :: z17 :: z18 :: z19 :: z20 :: z21 :: z22 :: z23 :: z24 :: z25 :: z26 :: z27 :: zz), defers := [] } w := by
  refine wp_region_list (show wpList _ f22r3Ops _ [f22r3Op0, f22r3Op1, f22r3Op2, f22r3Op3, f22r3Op4, f22r3Op5, f22r3Op6] _ _ from ?_)
  refine l_val (.pointer (some ⟨b2, 16, none⟩)) (by kernel_rfl) ?_
  refine l_part hO 33 i2 h2 q24 Try.underlying33 ?_
  refine l_val (.pointer (some ⟨b3, 16, none⟩)) (by kernel_rfl) ?_
  refine l_fr (Fr [z0, z1, D b2, D b3, z4, z5, z6, z7, z8, z9, z10, z11, z12, z13, z14, z15, z16, z17, z18, z19, z20, z21, z22, .pointer (some ⟨b2, 16, none⟩), A e24, .pointer (some ⟨b3, 16, none⟩), z26, z27] zz) ?_
  refine l_part hO 33 i3 h3 q26 Try.underlying33 ?_
  refine l_call hO 48 #[.agg e24, .agg e26] (.agg e27) r27 ?_
  intro w1 hO
  refine l_new hO (vals .u64 16 (F.dg 0)) 33 (al33 rfl) (fit_rn _) ?_
  intro n7 w2 hO
  refine l_fr (Fr [z0, z1, D b2, D b3, z4, z5, z6, D n7, z8, z9, z10, z11, z12, z13, z14, z15, z16, z17, z18, z19, z20, z21, z22, .pointer (some ⟨b2, 16, none⟩), A e24, .pointer (some ⟨b3, 16, none⟩), A e26, A e27] zz) ?_
  refine l_st hO 33 0 rfl e27 fe27_33 ?_
  intro w3 hO
  exact l_fr _ (wpList_nil (H n7 _ hO))
def f22r4Op0 : Oper := ⟨some 28, .fieldAddr 35 (.tmp 2) 0, 0, "ref.go:34", #[], none⟩
def f22r4Op1 : Oper := ⟨some 29, .load 33 (.tmp 28), 33, "ref.go:34", #[⟨0, .data⟩], none⟩
def f22r4Op2 : Oper := ⟨some 30, .fieldAddr 35 (.tmp 3) 0, 0, "ref.go:34", #[], none⟩
def f22r4Op3 : Oper := ⟨some 31, .load 33 (.tmp 30), 33, "ref.go:34", #[⟨2, .data⟩], none⟩
def f22r4Op4 : Oper := ⟨some 32, .call { callee := .value (.func 48), args := #[.tmp 29, .tmp 31], argTypes := #[33, 33] }, 33, "ref.go:34", #[⟨1, .data⟩, ⟨3, .data⟩], none⟩
def f22r4Op5 : Oper := ⟨some 8, .alloc 33, 0, "ref.go:34", #[], none⟩
def f22r4Op6 : Oper := ⟨none, .store 33 (.tmp 8) (.tmp 32), 0, "ref.go:34", #[⟨5, .data⟩, ⟨4, .data⟩, ⟨4, .chain⟩, ⟨0, .phase⟩, ⟨1, .phase⟩, ⟨2, .phase⟩, ⟨3, .phase⟩, ⟨4, .phase⟩, ⟨5, .phase⟩], none⟩
def f22r4Ops : Array Oper := #[f22r4Op0, f22r4Op1, f22r4Op2, f22r4Op3, f22r4Op4, f22r4Op5, f22r4Op6]
set_option maxRecDepth 100000 in
set_option maxHeartbeats 2000000 in
theorem f22r4_r {Q : Exit → Act → World → Prop} {u w : World} {L : List Row} {z0 z1 z4 z5 z6 z7 z8 z9 z10 z11 z12 z13 z14 z15 z16 z17 z18 z19 z20 z21 z22 z23 z24 z25 z26 z27 z28 z29 z30 z31 z32 : Value} {zz : List Value} {b2 b3 : Nat} {c2 c3 : Array Value} {e29 e31 e32 : Array Value} (hO : Own u w L) (i2 : Nat) (h2 : L[i2]? = some (b2, c2, 35)) (i3 : Nat) (h3 : L[i3]? = some (b3, c3, 35)) (q29 : Part c2 0 33 e29) (q31 : Part c3 0 33 e31) (r32 : ∀ w, Ret 48 #[.agg e29, .agg e31] w (.agg e32)) (fe32_33 : Fit 33 e32) (H : ∀ (n8 : Nat) (w' : World), Own u w' ((n8, e32, 33) :: L) → Q .normal { tmps := List.toArray (z0 :: z1 :: (.pointer (some ⟨b2, 0, none⟩)) :: (.pointer (some ⟨b3, 0, none⟩)) :: z4 :: z5 :: z6 :: z7 :: (.pointer (some ⟨n8, 0, none⟩)) :: z9 :: z10 :: z11 :: z12 :: z13 :: z14 :: z15 :: z16 :: z17 :: z18 :: z19 :: z20 :: z21 :: z22 :: z23 :: z24 :: z25 :: z26 :: z27 :: (.pointer (some ⟨b2, 0, none⟩)) :: (.agg e29) :: (.pointer (some ⟨b3, 0, none⟩)) :: (.agg e31) :: (.agg e32) :: zz), defers := [] } w') :
    (Code.region 4 f22r4Ops false).wp Try.prog Q { tmps := List.toArray (z0 :: z1 :: (.pointer (some ⟨b2, 0, none⟩)) :: (.pointer (some ⟨b3, 0, none⟩)) :: z4 :: z5 :: z6 :: z7 :: z8 :: z9 :: z10 :: z11 :: z12 :: z13 :: z14 :: z15 :: z16 :: z17 :: z18 :: z19 :: z20 :: z21 :: z22 :: z23 :: z24 :: z25 :: z26 :: z27 :: z28 :: z29 :: z30 :: z31 :: z32 :: zz), defers := [] } w := by
  refine wp_region_list (show wpList _ f22r4Ops _ [f22r4Op0, f22r4Op1, f22r4Op2, f22r4Op3, f22r4Op4, f22r4Op5, f22r4Op6] _ _ from ?_)
  refine l_val (.pointer (some ⟨b2, 0, none⟩)) (by kernel_rfl) ?_
  refine l_part hO 33 i2 h2 q29 Try.underlying33 ?_
  refine l_val (.pointer (some ⟨b3, 0, none⟩)) (by kernel_rfl) ?_
  refine l_fr (Fr [z0, z1, D b2, D b3, z4, z5, z6, z7, z8, z9, z10, z11, z12, z13, z14, z15, z16, z17, z18, z19, z20, z21, z22, z23, z24, z25, z26, z27, .pointer (some ⟨b2, 0, none⟩), A e29, .pointer (some ⟨b3, 0, none⟩), z31, z32] zz) ?_
  refine l_part hO 33 i3 h3 q31 Try.underlying33 ?_
  refine l_call hO 48 #[.agg e29, .agg e31] (.agg e32) r32 ?_
  intro w1 hO
  refine l_new hO (vals .u64 16 (F.dg 0)) 33 (al33 rfl) (fit_rn _) ?_
  intro n8 w2 hO
  refine l_fr (Fr [z0, z1, D b2, D b3, z4, z5, z6, z7, D n8, z9, z10, z11, z12, z13, z14, z15, z16, z17, z18, z19, z20, z21, z22, z23, z24, z25, z26, z27, .pointer (some ⟨b2, 0, none⟩), A e29, .pointer (some ⟨b3, 0, none⟩), A e31, A e32] zz) ?_
  refine l_st hO 33 0 rfl e32 fe32_33 ?_
  intro w3 hO
  exact l_fr _ (wpList_nil (H n8 _ hO))
def f22r5Op0 : Oper := ⟨some 33, .call { callee := .value (.func 52), args := #[], argTypes := #[] }, 33, "ref.go:35", #[], none⟩
def f22r5Op1 : Oper := ⟨some 34, .load 33 (.tmp 5), 33, "ref.go:35", #[], none⟩
def f22r5Op2 : Oper := ⟨some 35, .load 33 (.tmp 6), 33, "ref.go:35", #[], none⟩
def f22r5Op3 : Oper := ⟨some 36, .call { callee := .value (.func 48), args := #[.tmp 34, .tmp 35], argTypes := #[33, 33] }, 33, "ref.go:35", #[⟨1, .data⟩, ⟨2, .data⟩, ⟨0, .chain⟩], none⟩
def f22r5Op4 : Oper := ⟨some 37, .call { callee := .value (.func 48), args := #[.tmp 33, .tmp 36], argTypes := #[33, 33] }, 33, "ref.go:35", #[⟨0, .data⟩, ⟨3, .data⟩, ⟨3, .chain⟩], none⟩
def f22r5Op5 : Oper := ⟨some 9, .alloc 33, 0, "ref.go:35", #[], none⟩
def f22r5Op6 : Oper := ⟨none, .store 33 (.tmp 9) (.tmp 37), 0, "ref.go:35", #[⟨5, .data⟩, ⟨4, .data⟩, ⟨4, .chain⟩, ⟨0, .phase⟩, ⟨1, .phase⟩, ⟨2, .phase⟩, ⟨3, .phase⟩, ⟨4, .phase⟩, ⟨5, .phase⟩], none⟩
def f22r5Ops : Array Oper := #[f22r5Op0, f22r5Op1, f22r5Op2, f22r5Op3, f22r5Op4, f22r5Op5, f22r5Op6]
set_option maxRecDepth 100000 in
set_option maxHeartbeats 2000000 in
theorem f22r5_r {Q : Exit → Act → World → Prop} {u w : World} {L : List Row} {z0 z1 z2 z3 z4 z7 z8 z9 z10 z11 z12 z13 z14 z15 z16 z17 z18 z19 z20 z21 z22 z23 z24 z25 z26 z27 z28 z29 z30 z31 z32 z33 z34 z35 z36 z37 : Value} {zz : List Value} {b5 b6 : Nat} {c5 c6 : Array Value} {e33 e36 e37 : Array Value} (hQ : ∀ c a w n v, Q (.panic c) (a.put (some n) v) w → Q (.panic c) a w) (hO : Own u w L) (i5 : Nat) (h5 : L[i5]? = some (b5, c5, 33)) (i6 : Nat) (h6 : L[i6]? = some (b6, c6, 33)) (r33 : ∀ w, Ret 52 #[] w (.agg e33)) (r36 : ∀ w, Ret 48 #[.agg c5, .agg c6] w (.agg e36)) (r37 : ∀ w, Ret 48 #[.agg e33, .agg e36] w (.agg e37)) (fe37_33 : Fit 33 e37) (H : ∀ (n9 : Nat) (w' : World), Own u w' ((n9, e37, 33) :: L) → Q .normal { tmps := List.toArray (z0 :: z1 :: z2 :: z3 :: z4 :: (.pointer (some ⟨b5, 0, none⟩)) :: (.pointer (some ⟨b6, 0, none⟩)) :: z7 :: z8 :: (.pointer (some ⟨n9, 0, none⟩)) :: z10 :: z11 :: z12 :: z13 :: z14 :: z15 :: z16 :: z17 :: z18 :: z19 :: z20 :: z21 :: z22 :: z23 :: z24 :: z25 :: z26 :: z27 :: z28 :: z29 :: z30 :: z31 :: z32 :: (.agg e33) :: (.agg c5) :: (.agg c6) :: (.agg e36) :: (.agg e37) :: zz), defers := [] } w') :
    (Code.region 5 f22r5Ops true).wp Try.prog Q { tmps := List.toArray (z0 :: z1 :: z2 :: z3 :: z4 :: (.pointer (some ⟨b5, 0, none⟩)) :: (.pointer (some ⟨b6, 0, none⟩)) :: z7 :: z8 :: z9 :: z10 :: z11 :: z12 :: z13 :: z14 :: z15 :: z16 :: z17 :: z18 :: z19 :: z20 :: z21 :: z22 :: z23 :: z24 :: z25 :: z26 :: z27 :: z28 :: z29 :: z30 :: z31 :: z32 :: z33 :: z34 :: z35 :: z36 :: z37 :: zz), defers := [] } w := by
  have fc5_33 := hO.fits i5 h5
  have fc6_33 := hO.fits i6 h6
  have s0 : ∀ (n9 : Nat) (w : World), Own u w ((n9, vals .u64 16 (F.dg 0), 33) :: L) → wpAnyH Try.prog .any f22r5Ops Q (Has [(b5, c5, 33), (b6, c6, 33)]) 1 (ls 7 63) (Fr [z0, z1, z2, z3, z4, D b5, D b6, z7, z8, D n9, z10, z11, z12, z13, z14, z15, z16, z17, z18, z19, z20, z21, z22, z23, z24, z25, z26, z27, z28, z29, z30, z31, z32, A e33, A c5, A c6, A e36, A e37] zz) w := by
    intro n9 w hO
    refine d_one 6 f22r5Op6 (ls 7 127) (fun K hK => ?_)
    refine k_st hK hO 33 0 rfl e37 fe37_33 (fun _ hO => ⟨hO.row _ (gs h5), hO.row _ (gs h6), trivial⟩) ?_
    intro w1 hO
    exact wpAnyH_done (by kernel_rfl) (H n9 _ hO) _
  have s1 : ∀ (n9 : Nat) (w : World), Own u w ((n9, vals .u64 16 (F.dg 0), 33) :: L) → wpAnyH Try.prog .any f22r5Ops Q (Has [(b5, c5, 33), (b6, c6, 33)]) 2 (ls 7 47) (Fr [z0, z1, z2, z3, z4, D b5, D b6, z7, z8, D n9, z10, z11, z12, z13, z14, z15, z16, z17, z18, z19, z20, z21, z22, z23, z24, z25, z26, z27, z28, z29, z30, z31, z32, A e33, A c5, A c6, A e36, z37] zz) w := by
    intro n9 w hO
    refine d_one 4 f22r5Op4 (ls 7 63) (fun K hK => ?_)
    refine k_call hK hO (fun _ hO => ⟨hO.row _ (gs h5), hO.row _ (gs h6), trivial⟩) 48 #[.agg e33, .agg e36] (.agg e37) r37 ?_
    intro w2 hO
    exact d_fr _ _ (s0 n9 _ hO)
  have s2 : ∀ (n9 : Nat) (w : World), Own u w ((n9, vals .u64 16 (F.dg 0), 33) :: L) → wpAnyH Try.prog .any f22r5Ops Q (Has [(b5, c5, 33), (b6, c6, 33)]) 3 (ls 7 39) (Fr [z0, z1, z2, z3, z4, D b5, D b6, z7, z8, D n9, z10, z11, z12, z13, z14, z15, z16, z17, z18, z19, z20, z21, z22, z23, z24, z25, z26, z27, z28, z29, z30, z31, z32, A e33, A c5, A c6, z36, z37] zz) w := by
    intro n9 w hO
    refine d_one 3 f22r5Op3 (ls 7 47) (fun K hK => ?_)
    refine k_call hK hO (fun _ hO => ⟨hO.row _ (gs h5), hO.row _ (gs h6), trivial⟩) 48 #[.agg c5, .agg c6] (.agg e36) r36 ?_
    intro w3 hO
    exact d_fr _ _ (s1 n9 _ hO)
  refine wp_region_held_drew (S := Has [(b5, c5, 33), (b6, c6, 33)]) (by kernel_rfl) ⟨hO.drew.row _ h5, hO.drew.row _ h6, trivial⟩ (fun hS => ?_)
  replace hO := hO.drew
  refine d_tk 1 f22r5Op1 (.agg c5) hQ (y_l 33 (fun _ h => h.1) fc5_33 Try.underlying33) hS ?_
  refine d_tk 2 f22r5Op2 (.agg c6) hQ (y_l 33 (fun _ h => h.2.1) fc6_33 Try.underlying33) hS ?_
  refine d_fr (ls 7 6) (Fr [z0, z1, z2, z3, z4, D b5, D b6, z7, z8, z9, z10, z11, z12, z13, z14, z15, z16, z17, z18, z19, z20, z21, z22, z23, z24, z25, z26, z27, z28, z29, z30, z31, z32, z33, A c5, A c6, z36, z37] zz) ?_
  refine wpAnyH_ready (rs := [0, 5]) (by kernel_rfl) (by simp) ?_
  refine d_cons 0 f22r5Op0 (ls 7 7) (fun K hK => ?_) ?_
  · skip
    refine k_call hK hO (fun _ hO => ⟨hO.row _ h5, hO.row _ h6, trivial⟩) 52 #[] (.agg e33) r33 ?_
    intro w4 hO
    refine wpAnyH_ready (rs := [3, 5]) (by kernel_rfl) (by simp) ?_
    refine d_cons 3 f22r5Op3 (ls 7 15) (fun K hK => ?_) ?_
    · skip
      refine k_call hK hO (fun _ hO => ⟨hO.row _ h5, hO.row _ h6, trivial⟩) 48 #[.agg c5, .agg c6] (.agg e36) r36 ?_
      intro w5 hO
      refine wpAnyH_ready (rs := [4, 5]) (by kernel_rfl) (by simp) ?_
      refine d_cons 4 f22r5Op4 (ls 7 31) (fun K hK => ?_) ?_
      · skip
        refine k_call hK hO (fun _ hO => ⟨hO.row _ h5, hO.row _ h6, trivial⟩) 48 #[.agg e33, .agg e36] (.agg e37) r37 ?_
        intro w6 hO
        refine d_fr (ls 7 31) (Fr [z0, z1, z2, z3, z4, D b5, D b6, z7, z8, z9, z10, z11, z12, z13, z14, z15, z16, z17, z18, z19, z20, z21, z22, z23, z24, z25, z26, z27, z28, z29, z30, z31, z32, A e33, A c5, A c6, A e36, A e37] zz) ?_
        refine d_one 5 f22r5Op5 (ls 7 63) (fun K hK => ?_)
        refine k_new hK hO (vals .u64 16 (F.dg 0)) 33 (al33 rfl) (fit_rn _) (fun _ _ hO => ⟨hO.row _ (gs h5), hO.row _ (gs h6), trivial⟩) ?_
        intro n9 w7 hO
        exact d_fr _ _ (s0 n9 _ hO)
      refine d_cons 5 f22r5Op5 (ls 7 47) (fun K hK => ?_) ?_
      · skip
        refine k_new hK hO (vals .u64 16 (F.dg 0)) 33 (al33 rfl) (fit_rn _) (fun _ _ hO => ⟨hO.row _ (gs h5), hO.row _ (gs h6), trivial⟩) ?_
        intro n9 w8 hO
        exact d_fr _ _ (s1 n9 _ hO)
      exact AllReadyH.nil
    refine d_cons 5 f22r5Op5 (ls 7 39) (fun K hK => ?_) ?_
    · skip
      refine k_new hK hO (vals .u64 16 (F.dg 0)) 33 (al33 rfl) (fit_rn _) (fun _ _ hO => ⟨hO.row _ (gs h5), hO.row _ (gs h6), trivial⟩) ?_
      intro n9 w9 hO
      exact d_fr _ _ (s2 n9 _ hO)
    exact AllReadyH.nil
  refine d_cons 5 f22r5Op5 (ls 7 38) (fun K hK => ?_) ?_
  · skip
    refine k_new hK hO (vals .u64 16 (F.dg 0)) 33 (al33 rfl) (fit_rn _) (fun _ _ hO => ⟨hO.row _ (gs h5), hO.row _ (gs h6), trivial⟩) ?_
    intro n9 w10 hO
    refine d_one 0 f22r5Op0 (ls 7 39) (fun K hK => ?_)
    refine k_call hK hO (fun _ hO => ⟨hO.row _ (gs h5), hO.row _ (gs h6), trivial⟩) 52 #[] (.agg e33) r33 ?_
    intro w11 hO
    exact d_fr _ _ (s2 n9 _ hO)
  exact AllReadyH.nil
def f22r6Op0 : Oper := ⟨some 38, .call { callee := .value (.func 50), args := #[.const (.int .u64 1)], argTypes := #[24] }, 33, "ref.go:36", #[], none⟩
def f22r6Op1 : Oper := ⟨some 10, .alloc 33, 0, "ref.go:36", #[], none⟩
def f22r6Op2 : Oper := ⟨none, .store 33 (.tmp 10) (.tmp 38), 0, "ref.go:36", #[⟨1, .data⟩, ⟨0, .data⟩, ⟨0, .chain⟩, ⟨0, .phase⟩, ⟨1, .phase⟩], none⟩
def f22r6Ops : Array Oper := #[f22r6Op0, f22r6Op1, f22r6Op2]
set_option maxRecDepth 100000 in
set_option maxHeartbeats 2000000 in
theorem f22r6_r {Q : Exit → Act → World → Prop} {u w : World} {L : List Row} {z0 z1 z2 z3 z4 z5 z6 z7 z8 z9 z10 z11 z12 z13 z14 z15 z16 z17 z18 z19 z20 z21 z22 z23 z24 z25 z26 z27 z28 z29 z30 z31 z32 z33 z34 z35 z36 z37 z38 : Value} {zz : List Value} {e38 : Array Value} (hO : Own u w L) (r38 : ∀ w, Ret 50 #[.int IntKind.u64 1] w (.agg e38)) (fe38_33 : Fit 33 e38) (H : ∀ (n10 : Nat) (w' : World), Own u w' ((n10, e38, 33) :: L) → Q .normal { tmps := List.toArray (z0 :: z1 :: z2 :: z3 :: z4 :: z5 :: z6 :: z7 :: z8 :: z9 :: (.pointer (some ⟨n10, 0, none⟩)) :: z11 :: z12 :: z13 :: z14 :: z15 :: z16 :: z17 :: z18 :: z19 :: z20 :: z21 :: z22 :: z23 :: z24 :: z25 :: z26 :: z27 :: z28 :: z29 :: z30 :: z31 :: z32 :: z33 :: z34 :: z35 :: z36 :: z37 :: (.agg e38) :: zz), defers := [] } w') :
    (Code.region 6 f22r6Ops false).wp Try.prog Q { tmps := List.toArray (z0 :: z1 :: z2 :: z3 :: z4 :: z5 :: z6 :: z7 :: z8 :: z9 :: z10 :: z11 :: z12 :: z13 :: z14 :: z15 :: z16 :: z17 :: z18 :: z19 :: z20 :: z21 :: z22 :: z23 :: z24 :: z25 :: z26 :: z27 :: z28 :: z29 :: z30 :: z31 :: z32 :: z33 :: z34 :: z35 :: z36 :: z37 :: z38 :: zz), defers := [] } w := by
  refine wp_region_list (show wpList _ f22r6Ops _ [f22r6Op0, f22r6Op1, f22r6Op2] _ _ from ?_)
  refine l_call hO 50 #[.int IntKind.u64 1] (.agg e38) r38 ?_
  intro w1 hO
  refine l_new hO (vals .u64 16 (F.dg 0)) 33 (al33 rfl) (fit_rn _) ?_
  intro n10 w2 hO
  refine l_st hO 33 0 rfl e38 fe38_33 ?_
  intro w3 hO
  exact l_fr _ (wpList_nil (H n10 _ hO))
def f22r7Op0 : Oper := ⟨some 39, .load 33 (.tmp 5), 33, "ref.go:37", #[], none⟩
def f22r7Op1 : Oper := ⟨some 40, .load 33 (.tmp 6), 33, "ref.go:37", #[], none⟩
def f22r7Op2 : Oper := ⟨some 41, .call { callee := .value (.func 51), args := #[.tmp 39, .tmp 40], argTypes := #[33, 33] }, 33, "ref.go:37", #[⟨0, .data⟩, ⟨1, .data⟩], none⟩
def f22r7Op3 : Oper := ⟨some 42, .load 33 (.tmp 10), 33, "ref.go:37", #[], none⟩
def f22r7Op4 : Oper := ⟨some 43, .load 33 (.tmp 9), 33, "ref.go:37", #[], none⟩
def f22r7Op5 : Oper := ⟨some 44, .call { callee := .value (.func 51), args := #[.tmp 42, .tmp 43], argTypes := #[33, 33] }, 33, "ref.go:37", #[⟨3, .data⟩, ⟨4, .data⟩, ⟨2, .chain⟩], none⟩
def f22r7Op6 : Oper := ⟨some 45, .call { callee := .value (.func 59), args := #[.tmp 44], argTypes := #[33] }, 33, "ref.go:37", #[⟨5, .data⟩, ⟨5, .chain⟩], none⟩
def f22r7Op7 : Oper := ⟨some 46, .call { callee := .value (.func 48), args := #[.tmp 41, .tmp 45], argTypes := #[33, 33] }, 33, "ref.go:37", #[⟨2, .data⟩, ⟨6, .data⟩, ⟨6, .chain⟩], none⟩
def f22r7Op8 : Oper := ⟨some 11, .alloc 33, 0, "ref.go:37", #[], none⟩
def f22r7Op9 : Oper := ⟨none, .store 33 (.tmp 11) (.tmp 46), 0, "ref.go:37", #[⟨8, .data⟩, ⟨7, .data⟩, ⟨7, .chain⟩, ⟨0, .phase⟩, ⟨1, .phase⟩, ⟨2, .phase⟩, ⟨3, .phase⟩, ⟨4, .phase⟩, ⟨5, .phase⟩, ⟨6, .phase⟩, ⟨7, .phase⟩, ⟨8, .phase⟩], none⟩
def f22r7Ops : Array Oper := #[f22r7Op0, f22r7Op1, f22r7Op2, f22r7Op3, f22r7Op4, f22r7Op5, f22r7Op6, f22r7Op7, f22r7Op8, f22r7Op9]
set_option maxRecDepth 100000 in
set_option maxHeartbeats 2000000 in
theorem f22r7_r {Q : Exit → Act → World → Prop} {u w : World} {L : List Row} {z0 z1 z2 z3 z4 z7 z8 z11 z12 z13 z14 z15 z16 z17 z18 z19 z20 z21 z22 z23 z24 z25 z26 z27 z28 z29 z30 z31 z32 z33 z34 z35 z36 z37 z38 z39 z40 z41 z42 z43 z44 z45 z46 : Value} {zz : List Value} {b5 b6 b9 b10 : Nat} {c5 c6 c9 c10 : Array Value} {e41 e44 e45 e46 : Array Value} (hQ : ∀ c a w n v, Q (.panic c) (a.put (some n) v) w → Q (.panic c) a w) (hO : Own u w L) (i5 : Nat) (h5 : L[i5]? = some (b5, c5, 33)) (i6 : Nat) (h6 : L[i6]? = some (b6, c6, 33)) (i9 : Nat) (h9 : L[i9]? = some (b9, c9, 33)) (i10 : Nat) (h10 : L[i10]? = some (b10, c10, 33)) (r41 : ∀ w, Ret 51 #[.agg c5, .agg c6] w (.agg e41)) (r44 : ∀ w, Ret 51 #[.agg c10, .agg c9] w (.agg e44)) (r45 : ∀ w, Ret 59 #[.agg e44] w (.agg e45)) (r46 : ∀ w, Ret 48 #[.agg e41, .agg e45] w (.agg e46)) (fe46_33 : Fit 33 e46) (H : ∀ (n11 : Nat) (w' : World), Own u w' ((n11, e46, 33) :: L) → Q .normal { tmps := List.toArray (z0 :: z1 :: z2 :: z3 :: z4 :: (.pointer (some ⟨b5, 0, none⟩)) :: (.pointer (some ⟨b6, 0, none⟩)) :: z7 :: z8 :: (.pointer (some ⟨b9, 0, none⟩)) :: (.pointer (some ⟨b10, 0, none⟩)) :: (.pointer (some ⟨n11, 0, none⟩)) :: z12 :: z13 :: z14 :: z15 :: z16 :: z17 :: z18 :: z19 :: z20 :: z21 :: z22 :: z23 :: z24 :: z25 :: z26 :: z27 :: z28 :: z29 :: z30 :: z31 :: z32 :: z33 :: z34 :: z35 :: z36 :: z37 :: z38 :: (.agg c5) :: (.agg c6) :: (.agg e41) :: (.agg c10) :: (.agg c9) :: (.agg e44) :: (.agg e45) :: (.agg e46) :: zz), defers := [] } w') :
    (Code.region 7 f22r7Ops true).wp Try.prog Q { tmps := List.toArray (z0 :: z1 :: z2 :: z3 :: z4 :: (.pointer (some ⟨b5, 0, none⟩)) :: (.pointer (some ⟨b6, 0, none⟩)) :: z7 :: z8 :: (.pointer (some ⟨b9, 0, none⟩)) :: (.pointer (some ⟨b10, 0, none⟩)) :: z11 :: z12 :: z13 :: z14 :: z15 :: z16 :: z17 :: z18 :: z19 :: z20 :: z21 :: z22 :: z23 :: z24 :: z25 :: z26 :: z27 :: z28 :: z29 :: z30 :: z31 :: z32 :: z33 :: z34 :: z35 :: z36 :: z37 :: z38 :: z39 :: z40 :: z41 :: z42 :: z43 :: z44 :: z45 :: z46 :: zz), defers := [] } w := by
  have fc5_33 := hO.fits i5 h5
  have fc6_33 := hO.fits i6 h6
  have fc9_33 := hO.fits i9 h9
  have fc10_33 := hO.fits i10 h10
  have s0 : ∀ (n11 : Nat) (w : World), Own u w ((n11, vals .u64 16 (F.dg 0), 33) :: L) → wpAnyH Try.prog .any f22r7Ops Q (Has [(b5, c5, 33), (b6, c6, 33), (b9, c9, 33), (b10, c10, 33)]) 1 (ls 10 511) (Fr [z0, z1, z2, z3, z4, D b5, D b6, z7, z8, D b9, D b10, D n11, z12, z13, z14, z15, z16, z17, z18, z19, z20, z21, z22, z23, z24, z25, z26, z27, z28, z29, z30, z31, z32, z33, z34, z35, z36, z37, z38, A c5, A c6, A e41, A c10, A c9, A e44, A e45, A e46] zz) w := by
    intro n11 w hO
    refine d_one 9 f22r7Op9 (ls 10 1023) (fun K hK => ?_)
    refine k_st hK hO 33 0 rfl e46 fe46_33 (fun _ hO => ⟨hO.row _ (gs h5), hO.row _ (gs h6), hO.row _ (gs h9), hO.row _ (gs h10), trivial⟩) ?_
    intro w1 hO
    exact wpAnyH_done (by kernel_rfl) (H n11 _ hO) _
  have s1 : ∀ (n11 : Nat) (w : World), Own u w ((n11, vals .u64 16 (F.dg 0), 33) :: L) → wpAnyH Try.prog .any f22r7Ops Q (Has [(b5, c5, 33), (b6, c6, 33), (b9, c9, 33), (b10, c10, 33)]) 2 (ls 10 383) (Fr [z0, z1, z2, z3, z4, D b5, D b6, z7, z8, D b9, D b10, D n11, z12, z13, z14, z15, z16, z17, z18, z19, z20, z21, z22, z23, z24, z25, z26, z27, z28, z29, z30, z31, z32, z33, z34, z35, z36, z37, z38, A c5, A c6, A e41, A c10, A c9, A e44, A e45, z46] zz) w := by
    intro n11 w hO
    refine d_one 7 f22r7Op7 (ls 10 511) (fun K hK => ?_)
    refine k_call hK hO (fun _ hO => ⟨hO.row _ (gs h5), hO.row _ (gs h6), hO.row _ (gs h9), hO.row _ (gs h10), trivial⟩) 48 #[.agg e41, .agg e45] (.agg e46) r46 ?_
    intro w2 hO
    exact d_fr _ _ (s0 n11 _ hO)
  have s2 : ∀ (n11 : Nat) (w : World), Own u w ((n11, vals .u64 16 (F.dg 0), 33) :: L) → wpAnyH Try.prog .any f22r7Ops Q (Has [(b5, c5, 33), (b6, c6, 33), (b9, c9, 33), (b10, c10, 33)]) 3 (ls 10 319) (Fr [z0, z1, z2, z3, z4, D b5, D b6, z7, z8, D b9, D b10, D n11, z12, z13, z14, z15, z16, z17, z18, z19, z20, z21, z22, z23, z24, z25, z26, z27, z28, z29, z30, z31, z32, z33, z34, z35, z36, z37, z38, A c5, A c6, A e41, A c10, A c9, A e44, z45, z46] zz) w := by
    intro n11 w hO
    refine d_one 6 f22r7Op6 (ls 10 383) (fun K hK => ?_)
    refine k_call hK hO (fun _ hO => ⟨hO.row _ (gs h5), hO.row _ (gs h6), hO.row _ (gs h9), hO.row _ (gs h10), trivial⟩) 59 #[.agg e44] (.agg e45) r45 ?_
    intro w3 hO
    exact d_fr _ _ (s1 n11 _ hO)
  have s3 : ∀ (n11 : Nat) (w : World), Own u w ((n11, vals .u64 16 (F.dg 0), 33) :: L) → wpAnyH Try.prog .any f22r7Ops Q (Has [(b5, c5, 33), (b6, c6, 33), (b9, c9, 33), (b10, c10, 33)]) 4 (ls 10 287) (Fr [z0, z1, z2, z3, z4, D b5, D b6, z7, z8, D b9, D b10, D n11, z12, z13, z14, z15, z16, z17, z18, z19, z20, z21, z22, z23, z24, z25, z26, z27, z28, z29, z30, z31, z32, z33, z34, z35, z36, z37, z38, A c5, A c6, A e41, A c10, A c9, z44, z45, z46] zz) w := by
    intro n11 w hO
    refine d_one 5 f22r7Op5 (ls 10 319) (fun K hK => ?_)
    refine k_call hK hO (fun _ hO => ⟨hO.row _ (gs h5), hO.row _ (gs h6), hO.row _ (gs h9), hO.row _ (gs h10), trivial⟩) 51 #[.agg c10, .agg c9] (.agg e44) r44 ?_
    intro w4 hO
    exact d_fr _ _ (s2 n11 _ hO)
  refine wp_region_held_drew (S := Has [(b5, c5, 33), (b6, c6, 33), (b9, c9, 33), (b10, c10, 33)]) (by kernel_rfl) ⟨hO.drew.row _ h5, hO.drew.row _ h6, hO.drew.row _ h9, hO.drew.row _ h10, trivial⟩ (fun hS => ?_)
  replace hO := hO.drew
  refine d_tk 0 f22r7Op0 (.agg c5) hQ (y_l 33 (fun _ h => h.1) fc5_33 Try.underlying33) hS ?_
  refine d_tk 1 f22r7Op1 (.agg c6) hQ (y_l 33 (fun _ h => h.2.1) fc6_33 Try.underlying33) hS ?_
  refine d_tk 3 f22r7Op3 (.agg c10) hQ (y_l 33 (fun _ h => h.2.2.2.1) fc10_33 Try.underlying33) hS ?_
  refine d_fr (ls 10 11) (Fr [z0, z1, z2, z3, z4, D b5, D b6, z7, z8, D b9, D b10, z11, z12, z13, z14, z15, z16, z17, z18, z19, z20, z21, z22, z23, z24, z25, z26, z27, z28, z29, z30, z31, z32, z33, z34, z35, z36, z37, z38, A c5, A c6, z41, A c10, z43, z44, z45, z46] zz) ?_
  refine d_tk 4 f22r7Op4 (.agg c9) hQ (y_l 33 (fun _ h => h.2.2.1) fc9_33 Try.underlying33) hS ?_
  refine d_fr (ls 10 27) (Fr [z0, z1, z2, z3, z4, D b5, D b6, z7, z8, D b9, D b10, z11, z12, z13, z14, z15, z16, z17, z18, z19, z20, z21, z22, z23, z24, z25, z26, z27, z28, z29, z30, z31, z32, z33, z34, z35, z36, z37, z38, A c5, A c6, z41, A c10, A c9, z44, z45, z46] zz) ?_
  refine wpAnyH_ready (rs := [2, 8]) (by kernel_rfl) (by simp) ?_
  refine d_cons 2 f22r7Op2 (ls 10 31) (fun K hK => ?_) ?_
  · skip
    refine k_call hK hO (fun _ hO => ⟨hO.row _ h5, hO.row _ h6, hO.row _ h9, hO.row _ h10, trivial⟩) 51 #[.agg c5, .agg c6] (.agg e41) r41 ?_
    intro w5 hO
    refine wpAnyH_ready (rs := [5, 8]) (by kernel_rfl) (by simp) ?_
    refine d_cons 5 f22r7Op5 (ls 10 63) (fun K hK => ?_) ?_
    · skip
      refine k_call hK hO (fun _ hO => ⟨hO.row _ h5, hO.row _ h6, hO.row _ h9, hO.row _ h10, trivial⟩) 51 #[.agg c10, .agg c9] (.agg e44) r44 ?_
      intro w6 hO
      refine wpAnyH_ready (rs := [6, 8]) (by kernel_rfl) (by simp) ?_
      refine d_cons 6 f22r7Op6 (ls 10 127) (fun K hK => ?_) ?_
      · skip
        refine k_call hK hO (fun _ hO => ⟨hO.row _ h5, hO.row _ h6, hO.row _ h9, hO.row _ h10, trivial⟩) 59 #[.agg e44] (.agg e45) r45 ?_
        intro w7 hO
        refine d_fr (ls 10 127) (Fr [z0, z1, z2, z3, z4, D b5, D b6, z7, z8, D b9, D b10, z11, z12, z13, z14, z15, z16, z17, z18, z19, z20, z21, z22, z23, z24, z25, z26, z27, z28, z29, z30, z31, z32, z33, z34, z35, z36, z37, z38, A c5, A c6, A e41, A c10, A c9, A e44, A e45, z46] zz) ?_
        refine wpAnyH_ready (rs := [7, 8]) (by kernel_rfl) (by simp) ?_
        refine d_cons 7 f22r7Op7 (ls 10 255) (fun K hK => ?_) ?_
        · skip
          refine k_call hK hO (fun _ hO => ⟨hO.row _ h5, hO.row _ h6, hO.row _ h9, hO.row _ h10, trivial⟩) 48 #[.agg e41, .agg e45] (.agg e46) r46 ?_
          intro w8 hO
          refine d_one 8 f22r7Op8 (ls 10 511) (fun K hK => ?_)
          refine k_new hK hO (vals .u64 16 (F.dg 0)) 33 (al33 rfl) (fit_rn _) (fun _ _ hO => ⟨hO.row _ (gs h5), hO.row _ (gs h6), hO.row _ (gs h9), hO.row _ (gs h10), trivial⟩) ?_
          intro n11 w9 hO
          exact d_fr _ _ (s0 n11 _ hO)
        refine d_cons 8 f22r7Op8 (ls 10 383) (fun K hK => ?_) ?_
        · skip
          refine k_new hK hO (vals .u64 16 (F.dg 0)) 33 (al33 rfl) (fit_rn _) (fun _ _ hO => ⟨hO.row _ (gs h5), hO.row _ (gs h6), hO.row _ (gs h9), hO.row _ (gs h10), trivial⟩) ?_
          intro n11 w10 hO
          exact d_fr _ _ (s1 n11 _ hO)
        exact AllReadyH.nil
      refine d_cons 8 f22r7Op8 (ls 10 319) (fun K hK => ?_) ?_
      · skip
        refine k_new hK hO (vals .u64 16 (F.dg 0)) 33 (al33 rfl) (fit_rn _) (fun _ _ hO => ⟨hO.row _ (gs h5), hO.row _ (gs h6), hO.row _ (gs h9), hO.row _ (gs h10), trivial⟩) ?_
        intro n11 w11 hO
        exact d_fr _ _ (s2 n11 _ hO)
      exact AllReadyH.nil
    refine d_cons 8 f22r7Op8 (ls 10 287) (fun K hK => ?_) ?_
    · skip
      refine k_new hK hO (vals .u64 16 (F.dg 0)) 33 (al33 rfl) (fit_rn _) (fun _ _ hO => ⟨hO.row _ (gs h5), hO.row _ (gs h6), hO.row _ (gs h9), hO.row _ (gs h10), trivial⟩) ?_
      intro n11 w12 hO
      exact d_fr _ _ (s3 n11 _ hO)
    exact AllReadyH.nil
  refine d_cons 8 f22r7Op8 (ls 10 283) (fun K hK => ?_) ?_
  · skip
    refine k_new hK hO (vals .u64 16 (F.dg 0)) 33 (al33 rfl) (fit_rn _) (fun _ _ hO => ⟨hO.row _ (gs h5), hO.row _ (gs h6), hO.row _ (gs h9), hO.row _ (gs h10), trivial⟩) ?_
    intro n11 w13 hO
    refine d_one 2 f22r7Op2 (ls 10 287) (fun K hK => ?_)
    refine k_call hK hO (fun _ hO => ⟨hO.row _ (gs h5), hO.row _ (gs h6), hO.row _ (gs h9), hO.row _ (gs h10), trivial⟩) 51 #[.agg c5, .agg c6] (.agg e41) r41 ?_
    intro w14 hO
    exact d_fr _ _ (s3 n11 _ hO)
  exact AllReadyH.nil
def f22r8Op0 : Oper := ⟨some 47, .load 33 (.tmp 7), 33, "ref.go:38", #[], none⟩
def f22r8Op1 : Oper := ⟨some 48, .load 33 (.tmp 8), 33, "ref.go:38", #[], none⟩
def f22r8Op2 : Oper := ⟨some 49, .call { callee := .value (.func 51), args := #[.tmp 47, .tmp 48], argTypes := #[33, 33] }, 33, "ref.go:38", #[⟨0, .data⟩, ⟨1, .data⟩], none⟩
def f22r8Op3 : Oper := ⟨some 50, .load 33 (.tmp 10), 33, "ref.go:38", #[], none⟩
def f22r8Op4 : Oper := ⟨some 51, .load 33 (.tmp 9), 33, "ref.go:38", #[], none⟩
def f22r8Op5 : Oper := ⟨some 52, .call { callee := .value (.func 49), args := #[.tmp 50, .tmp 51], argTypes := #[33, 33] }, 33, "ref.go:38", #[⟨3, .data⟩, ⟨4, .data⟩, ⟨2, .chain⟩], none⟩
def f22r8Op6 : Oper := ⟨some 53, .call { callee := .value (.func 59), args := #[.tmp 52], argTypes := #[33] }, 33, "ref.go:38", #[⟨5, .data⟩, ⟨5, .chain⟩], none⟩
def f22r8Op7 : Oper := ⟨some 54, .call { callee := .value (.func 48), args := #[.tmp 49, .tmp 53], argTypes := #[33, 33] }, 33, "ref.go:38", #[⟨2, .data⟩, ⟨6, .data⟩, ⟨6, .chain⟩], none⟩
def f22r8Op8 : Oper := ⟨some 12, .alloc 33, 0, "ref.go:38", #[], none⟩
def f22r8Op9 : Oper := ⟨none, .store 33 (.tmp 12) (.tmp 54), 0, "ref.go:38", #[⟨8, .data⟩, ⟨7, .data⟩, ⟨7, .chain⟩, ⟨0, .phase⟩, ⟨1, .phase⟩, ⟨2, .phase⟩, ⟨3, .phase⟩, ⟨4, .phase⟩, ⟨5, .phase⟩, ⟨6, .phase⟩, ⟨7, .phase⟩, ⟨8, .phase⟩], none⟩
def f22r8Ops : Array Oper := #[f22r8Op0, f22r8Op1, f22r8Op2, f22r8Op3, f22r8Op4, f22r8Op5, f22r8Op6, f22r8Op7, f22r8Op8, f22r8Op9]
set_option maxRecDepth 100000 in
set_option maxHeartbeats 2000000 in
theorem f22r8_r {Q : Exit → Act → World → Prop} {u w : World} {L : List Row} {z0 z1 z2 z3 z4 z5 z6 z11 z12 z13 z14 z15 z16 z17 z18 z19 z20 z21 z22 z23 z24 z25 z26 z27 z28 z29 z30 z31 z32 z33 z34 z35 z36 z37 z38 z39 z40 z41 z42 z43 z44 z45 z46 z47 z48 z49 z50 z51 z52 z53 z54 : Value} {zz : List Value} {b7 b8 b9 b10 : Nat} {c7 c8 c9 c10 : Array Value} {e49 e52 e53 e54 : Array Value} (hQ : ∀ c a w n v, Q (.panic c) (a.put (some n) v) w → Q (.panic c) a w) (hO : Own u w L) (i7 : Nat) (h7 : L[i7]? = some (b7, c7, 33)) (i8 : Nat) (h8 : L[i8]? = some (b8, c8, 33)) (i9 : Nat) (h9 : L[i9]? = some (b9, c9, 33)) (i10 : Nat) (h10 : L[i10]? = some (b10, c10, 33)) (r49 : ∀ w, Ret 51 #[.agg c7, .agg c8] w (.agg e49)) (r52 : ∀ w, Ret 49 #[.agg c10, .agg c9] w (.agg e52)) (r53 : ∀ w, Ret 59 #[.agg e52] w (.agg e53)) (r54 : ∀ w, Ret 48 #[.agg e49, .agg e53] w (.agg e54)) (fe54_33 : Fit 33 e54) (H : ∀ (n12 : Nat) (w' : World), Own u w' ((n12, e54, 33) :: L) → Q .normal { tmps := List.toArray (z0 :: z1 :: z2 :: z3 :: z4 :: z5 :: z6 :: (.pointer (some ⟨b7, 0, none⟩)) :: (.pointer (some ⟨b8, 0, none⟩)) :: (.pointer (some ⟨b9, 0, none⟩)) :: (.pointer (some ⟨b10, 0, none⟩)) :: z11 :: (.pointer (some ⟨n12, 0, none⟩)) :: z13 :: z14 :: z15 :: z16 :: z17 :: z18 :: z19 :: z20 :: z21 :: z22 :: z23 :: z24 :: z25 :: z26 :: z27 :: z28 :: z29 :: z30 :: z31 :: z32 :: z33 :: z34 :: z35 :: z36 :: z37 :: z38 :: z39 :: z40 :: z41 :: z42 :: z43 :: z44 :: z45 :: z46 :: (.agg c7) :: (.agg c8) :: (.agg e49) :: (.agg c10) :: (.agg c9) :: (.agg e52) :: (.agg e53) :: (.agg e54) :: zz), defers := [] } w') :
    (Code.region 8 f22r8Ops true).wp Try.prog Q { tmps := List.toArray (z0 :: z1 :: z2 :: z3 :: z4 :: z5 :: z6 :: (.pointer (some ⟨b7, 0, none⟩)) :: (.pointer (some ⟨b8, 0, none⟩)) :: (.pointer (some ⟨b9, 0, none⟩)) :: (.pointer (some ⟨b10, 0, none⟩)) :: z11 :: z12 :: z13 :: z14 :: z15 :: z16 :: z17 :: z18 :: z19 :: z20 :: z21 :: z22 :: z23 :: z24 :: z25 :: z26 :: z27 :: z28 :: z29 :: z30 :: z31 :: z32 :: z33 :: z34 :: z35 :: z36 :: z37 :: z38 :: z39 :: z40 :: z41 :: z42 :: z43 :: z44 :: z45 :: z46 :: z47 :: z48 :: z49 :: z50 :: z51 :: z52 :: z53 :: z54 :: zz), defers := [] } w := by
  have fc7_33 := hO.fits i7 h7
  have fc8_33 := hO.fits i8 h8
  have fc9_33 := hO.fits i9 h9
  have fc10_33 := hO.fits i10 h10
  have s0 : ∀ (n12 : Nat) (w : World), Own u w ((n12, vals .u64 16 (F.dg 0), 33) :: L) → wpAnyH Try.prog .any f22r8Ops Q (Has [(b7, c7, 33), (b8, c8, 33), (b9, c9, 33), (b10, c10, 33)]) 1 (ls 10 511) (Fr [z0, z1, z2, z3, z4, z5, z6, D b7, D b8, D b9, D b10, z11, D n12, z13, z14, z15, z16, z17, z18, z19, z20, z21, z22, z23, z24, z25, z26, z27, z28, z29, z30, z31, z32, z33, z34, z35, z36, z37, z38, z39, z40, z41, z42, z43, z44, z45, z46, A c7, A c8, A e49, A c10, A c9, A e52, A e53, A e54] zz) w := by
    intro n12 w hO
    refine d_one 9 f22r8Op9 (ls 10 1023) (fun K hK => ?_)
    refine k_st hK hO 33 0 rfl e54 fe54_33 (fun _ hO => ⟨hO.row _ (gs h7), hO.row _ (gs h8), hO.row _ (gs h9), hO.row _ (gs h10), trivial⟩) ?_
    intro w1 hO
    exact wpAnyH_done (by kernel_rfl) (H n12 _ hO) _
  have s1 : ∀ (n12 : Nat) (w : World), Own u w ((n12, vals .u64 16 (F.dg 0), 33) :: L) → wpAnyH Try.prog .any f22r8Ops Q (Has [(b7, c7, 33), (b8, c8, 33), (b9, c9, 33), (b10, c10, 33)]) 2 (ls 10 383) (Fr [z0, z1, z2, z3, z4, z5, z6, D b7, D b8, D b9, D b10, z11, D n12, z13, z14, z15, z16, z17, z18, z19, z20, z21, z22, z23, z24, z25, z26, z27, z28, z29, z30, z31, z32, z33, z34, z35, z36, z37, z38, z39, z40, z41, z42, z43, z44, z45, z46, A c7, A c8, A e49, A c10, A c9, A e52, A e53, z54] zz) w := by
    intro n12 w hO
    refine d_one 7 f22r8Op7 (ls 10 511) (fun K hK => ?_)
    refine k_call hK hO (fun _ hO => ⟨hO.row _ (gs h7), hO.row _ (gs h8), hO.row _ (gs h9), hO.row _ (gs h10), trivial⟩) 48 #[.agg e49, .agg e53] (.agg e54) r54 ?_
    intro w2 hO
    exact d_fr _ _ (s0 n12 _ hO)
  have s2 : ∀ (n12 : Nat) (w : World), Own u w ((n12, vals .u64 16 (F.dg 0), 33) :: L) → wpAnyH Try.prog .any f22r8Ops Q (Has [(b7, c7, 33), (b8, c8, 33), (b9, c9, 33), (b10, c10, 33)]) 3 (ls 10 319) (Fr [z0, z1, z2, z3, z4, z5, z6, D b7, D b8, D b9, D b10, z11, D n12, z13, z14, z15, z16, z17, z18, z19, z20, z21, z22, z23, z24, z25, z26, z27, z28, z29, z30, z31, z32, z33, z34, z35, z36, z37, z38, z39, z40, z41, z42, z43, z44, z45, z46, A c7, A c8, A e49, A c10, A c9, A e52, z53, z54] zz) w := by
    intro n12 w hO
    refine d_one 6 f22r8Op6 (ls 10 383) (fun K hK => ?_)
    refine k_call hK hO (fun _ hO => ⟨hO.row _ (gs h7), hO.row _ (gs h8), hO.row _ (gs h9), hO.row _ (gs h10), trivial⟩) 59 #[.agg e52] (.agg e53) r53 ?_
    intro w3 hO
    exact d_fr _ _ (s1 n12 _ hO)
  have s3 : ∀ (n12 : Nat) (w : World), Own u w ((n12, vals .u64 16 (F.dg 0), 33) :: L) → wpAnyH Try.prog .any f22r8Ops Q (Has [(b7, c7, 33), (b8, c8, 33), (b9, c9, 33), (b10, c10, 33)]) 4 (ls 10 287) (Fr [z0, z1, z2, z3, z4, z5, z6, D b7, D b8, D b9, D b10, z11, D n12, z13, z14, z15, z16, z17, z18, z19, z20, z21, z22, z23, z24, z25, z26, z27, z28, z29, z30, z31, z32, z33, z34, z35, z36, z37, z38, z39, z40, z41, z42, z43, z44, z45, z46, A c7, A c8, A e49, A c10, A c9, z52, z53, z54] zz) w := by
    intro n12 w hO
    refine d_one 5 f22r8Op5 (ls 10 319) (fun K hK => ?_)
    refine k_call hK hO (fun _ hO => ⟨hO.row _ (gs h7), hO.row _ (gs h8), hO.row _ (gs h9), hO.row _ (gs h10), trivial⟩) 49 #[.agg c10, .agg c9] (.agg e52) r52 ?_
    intro w4 hO
    exact d_fr _ _ (s2 n12 _ hO)
  refine wp_region_held_drew (S := Has [(b7, c7, 33), (b8, c8, 33), (b9, c9, 33), (b10, c10, 33)]) (by kernel_rfl) ⟨hO.drew.row _ h7, hO.drew.row _ h8, hO.drew.row _ h9, hO.drew.row _ h10, trivial⟩ (fun hS => ?_)
  replace hO := hO.drew
  refine d_tk 0 f22r8Op0 (.agg c7) hQ (y_l 33 (fun _ h => h.1) fc7_33 Try.underlying33) hS ?_
  refine d_tk 1 f22r8Op1 (.agg c8) hQ (y_l 33 (fun _ h => h.2.1) fc8_33 Try.underlying33) hS ?_
  refine d_tk 3 f22r8Op3 (.agg c10) hQ (y_l 33 (fun _ h => h.2.2.2.1) fc10_33 Try.underlying33) hS ?_
  refine d_fr (ls 10 11) (Fr [z0, z1, z2, z3, z4, z5, z6, D b7, D b8, D b9, D b10, z11, z12, z13, z14, z15, z16, z17, z18, z19, z20, z21, z22, z23, z24, z25, z26, z27, z28, z29, z30, z31, z32, z33, z34, z35, z36, z37, z38, z39, z40, z41, z42, z43, z44, z45, z46, A c7, A c8, z49, A c10, z51, z52, z53, z54] zz) ?_
  refine d_tk 4 f22r8Op4 (.agg c9) hQ (y_l 33 (fun _ h => h.2.2.1) fc9_33 Try.underlying33) hS ?_
  refine d_fr (ls 10 27) (Fr [z0, z1, z2, z3, z4, z5, z6, D b7, D b8, D b9, D b10, z11, z12, z13, z14, z15, z16, z17, z18, z19, z20, z21, z22, z23, z24, z25, z26, z27, z28, z29, z30, z31, z32, z33, z34, z35, z36, z37, z38, z39, z40, z41, z42, z43, z44, z45, z46, A c7, A c8, z49, A c10, A c9, z52, z53, z54] zz) ?_
  refine wpAnyH_ready (rs := [2, 8]) (by kernel_rfl) (by simp) ?_
  refine d_cons 2 f22r8Op2 (ls 10 31) (fun K hK => ?_) ?_
  · skip
    refine k_call hK hO (fun _ hO => ⟨hO.row _ h7, hO.row _ h8, hO.row _ h9, hO.row _ h10, trivial⟩) 51 #[.agg c7, .agg c8] (.agg e49) r49 ?_
    intro w5 hO
    refine wpAnyH_ready (rs := [5, 8]) (by kernel_rfl) (by simp) ?_
    refine d_cons 5 f22r8Op5 (ls 10 63) (fun K hK => ?_) ?_
    · skip
      refine k_call hK hO (fun _ hO => ⟨hO.row _ h7, hO.row _ h8, hO.row _ h9, hO.row _ h10, trivial⟩) 49 #[.agg c10, .agg c9] (.agg e52) r52 ?_
      intro w6 hO
      refine wpAnyH_ready (rs := [6, 8]) (by kernel_rfl) (by simp) ?_
      refine d_cons 6 f22r8Op6 (ls 10 127) (fun K hK => ?_) ?_
      · skip
        refine k_call hK hO (fun _ hO => ⟨hO.row _ h7, hO.row _ h8, hO.row _ h9, hO.row _ h10, trivial⟩) 59 #[.agg e52] (.agg e53) r53 ?_
        intro w7 hO
        refine d_fr (ls 10 127) (Fr [z0, z1, z2, z3, z4, z5, z6, D b7, D b8, D b9, D b10, z11, z12, z13, z14, z15, z16, z17, z18, z19, z20, z21, z22, z23, z24, z25, z26, z27, z28, z29, z30, z31, z32, z33, z34, z35, z36, z37, z38, z39, z40, z41, z42, z43, z44, z45, z46, A c7, A c8, A e49, A c10, A c9, A e52, A e53, z54] zz) ?_
        refine wpAnyH_ready (rs := [7, 8]) (by kernel_rfl) (by simp) ?_
        refine d_cons 7 f22r8Op7 (ls 10 255) (fun K hK => ?_) ?_
        · skip
          refine k_call hK hO (fun _ hO => ⟨hO.row _ h7, hO.row _ h8, hO.row _ h9, hO.row _ h10, trivial⟩) 48 #[.agg e49, .agg e53] (.agg e54) r54 ?_
          intro w8 hO
          refine d_one 8 f22r8Op8 (ls 10 511) (fun K hK => ?_)
          refine k_new hK hO (vals .u64 16 (F.dg 0)) 33 (al33 rfl) (fit_rn _) (fun _ _ hO => ⟨hO.row _ (gs h7), hO.row _ (gs h8), hO.row _ (gs h9), hO.row _ (gs h10), trivial⟩) ?_
          intro n12 w9 hO
          exact d_fr _ _ (s0 n12 _ hO)
        refine d_cons 8 f22r8Op8 (ls 10 383) (fun K hK => ?_) ?_
        · skip
          refine k_new hK hO (vals .u64 16 (F.dg 0)) 33 (al33 rfl) (fit_rn _) (fun _ _ hO => ⟨hO.row _ (gs h7), hO.row _ (gs h8), hO.row _ (gs h9), hO.row _ (gs h10), trivial⟩) ?_
          intro n12 w10 hO
          exact d_fr _ _ (s1 n12 _ hO)
        exact AllReadyH.nil
      refine d_cons 8 f22r8Op8 (ls 10 319) (fun K hK => ?_) ?_
      · skip
        refine k_new hK hO (vals .u64 16 (F.dg 0)) 33 (al33 rfl) (fit_rn _) (fun _ _ hO => ⟨hO.row _ (gs h7), hO.row _ (gs h8), hO.row _ (gs h9), hO.row _ (gs h10), trivial⟩) ?_
        intro n12 w11 hO
        exact d_fr _ _ (s2 n12 _ hO)
      exact AllReadyH.nil
    refine d_cons 8 f22r8Op8 (ls 10 287) (fun K hK => ?_) ?_
    · skip
      refine k_new hK hO (vals .u64 16 (F.dg 0)) 33 (al33 rfl) (fit_rn _) (fun _ _ hO => ⟨hO.row _ (gs h7), hO.row _ (gs h8), hO.row _ (gs h9), hO.row _ (gs h10), trivial⟩) ?_
      intro n12 w12 hO
      exact d_fr _ _ (s3 n12 _ hO)
    exact AllReadyH.nil
  refine d_cons 8 f22r8Op8 (ls 10 283) (fun K hK => ?_) ?_
  · skip
    refine k_new hK hO (vals .u64 16 (F.dg 0)) 33 (al33 rfl) (fit_rn _) (fun _ _ hO => ⟨hO.row _ (gs h7), hO.row _ (gs h8), hO.row _ (gs h9), hO.row _ (gs h10), trivial⟩) ?_
    intro n12 w13 hO
    refine d_one 2 f22r8Op2 (ls 10 287) (fun K hK => ?_)
    refine k_call hK hO (fun _ hO => ⟨hO.row _ (gs h7), hO.row _ (gs h8), hO.row _ (gs h9), hO.row _ (gs h10), trivial⟩) 51 #[.agg c7, .agg c8] (.agg e49) r49 ?_
    intro w14 hO
    exact d_fr _ _ (s3 n12 _ hO)
  exact AllReadyH.nil
def f22r9Op0 : Oper := ⟨some 55, .load 33 (.tmp 11), 33, "ref.go:39", #[], none⟩
def f22r9Op1 : Oper := ⟨some 56, .load 33 (.tmp 12), 33, "ref.go:39", #[], none⟩
def f22r9Op2 : Oper := ⟨some 57, .build 35 #[(0, .tmp 55), (1, .tmp 56)], 35, "ref.go:39", #[⟨0, .data⟩, ⟨1, .data⟩], none⟩
def f22r9Op3 : Oper := ⟨none, .store 35 (.tmp 4) (.tmp 57), 0, "ref.go:39", #[⟨2, .data⟩, ⟨0, .phase⟩, ⟨1, .phase⟩, ⟨2, .phase⟩], none⟩
def f22r9Ops : Array Oper := #[f22r9Op0, f22r9Op1, f22r9Op2, f22r9Op3]
set_option maxRecDepth 100000 in
set_option maxHeartbeats 2000000 in
theorem f22r9_r {Q : Exit → Act → World → Prop} {u w : World} {L : List Row} {z0 z1 z2 z3 z5 z6 z7 z8 z9 z10 z13 z14 z15 z16 z17 z18 z19 z20 z21 z22 z23 z24 z25 z26 z27 z28 z29 z30 z31 z32 z33 z34 z35 z36 z37 z38 z39 z40 z41 z42 z43 z44 z45 z46 z47 z48 z49 z50 z51 z52 z53 z54 z55 z56 z57 : Value} {b4 b11 b12 : Nat} {c4 c11 c12 : Array Value} {e57 : Array Value} (hO : Own u w L) (i4 : Nat) (h4 : L[i4]? = some (b4, c4, 35)) (i11 : Nat) (h11 : L[i11]? = some (b11, c11, 33)) (i12 : Nat) (h12 : L[i12]? = some (b12, c12, 33)) (q57 : Try.prog.built 35 [(0, .agg c11), (1, .agg c12)] = some e57) (fe57_35 : Fit 35 e57) (H : ∀ (w' : World), Own u w' ((L.set i4 (b4, e57, 35))) → Q .normal { tmps := List.toArray (z0 :: z1 :: z2 :: z3 :: (.pointer (some ⟨b4, 0, none⟩)) :: z5 :: z6 :: z7 :: z8 :: z9 :: z10 :: (.pointer (some ⟨b11, 0, none⟩)) :: (.pointer (some ⟨b12, 0, none⟩)) :: z13 :: z14 :: z15 :: z16 :: z17 :: z18 :: z19 :: z20 :: z21 :: z22 :: z23 :: z24 :: z25 :: z26 :: z27 :: z28 :: z29 :: z30 :: z31 :: z32 :: z33 :: z34 :: z35 :: z36 :: z37 :: z38 :: z39 :: z40 :: z41 :: z42 :: z43 :: z44 :: z45 :: z46 :: z47 :: z48 :: z49 :: z50 :: z51 :: z52 :: z53 :: z54 :: (.agg c11) :: (.agg c12) :: (.agg e57) :: []), defers := [] } w') :
    (Code.region 9 f22r9Ops false).wp Try.prog Q { tmps := List.toArray (z0 :: z1 :: z2 :: z3 :: (.pointer (some ⟨b4, 0, none⟩)) :: z5 :: z6 :: z7 :: z8 :: z9 :: z10 :: (.pointer (some ⟨b11, 0, none⟩)) :: (.pointer (some ⟨b12, 0, none⟩)) :: z13 :: z14 :: z15 :: z16 :: z17 :: z18 :: z19 :: z20 :: z21 :: z22 :: z23 :: z24 :: z25 :: z26 :: z27 :: z28 :: z29 :: z30 :: z31 :: z32 :: z33 :: z34 :: z35 :: z36 :: z37 :: z38 :: z39 :: z40 :: z41 :: z42 :: z43 :: z44 :: z45 :: z46 :: z47 :: z48 :: z49 :: z50 :: z51 :: z52 :: z53 :: z54 :: z55 :: z56 :: z57 :: []), defers := [] } w := by
  refine wp_region_list (show wpList _ f22r9Ops _ [f22r9Op0, f22r9Op1, f22r9Op2, f22r9Op3] _ _ from ?_)
  refine l_ld hO 33 i11 h11 Try.underlying33 ?_
  refine l_ld hO 33 i12 h12 Try.underlying33 ?_
  refine l_val (.agg e57) (run_bd 35 _ rfl [(0, .agg c11), (1, .agg c12)] (by kernel_rfl) e57 q57 _) ?_
  refine l_fr (Fr [z0, z1, z2, z3, D b4, z5, z6, z7, z8, z9, z10, D b11, D b12, z13, z14, z15, z16, z17, z18, z19, z20, z21, z22, z23, z24, z25, z26, z27, z28, z29, z30, z31, z32, z33, z34, z35, z36, z37, z38, z39, z40, z41, z42, z43, z44, z45, z46, z47, z48, z49, z50, z51, z52, z53, z54, A c11, A c12, A e57] []) ?_
  refine l_st hO 35 i4 h4 e57 fe57_35 ?_
  intro w1 hO
  exact l_fr _ (wpList_nil (H  _ hO))
set_option maxRecDepth 100000 in
set_option maxHeartbeats 4000000 in
theorem radd_p {P Q : Nat × Nat} (hP : Ok7 P) (hQ : Ok7 Q) (w : World) : Ret 22 #[.agg (rp P), .agg (rp Q)] w (.agg (rp (add7 P Q))) := by
  go_enter Try.func22, Try.ntmps22
  have hO := Own.start w
  go_upto_region 0 with (fail)
  refine f22r0_r hO (fit_rp _ _) (fit_rp _ _) ?_
  intro n2 n3 n4 w1 hO
  replace hO : Own w w1 [(n4, qn [0, 0], 35), (n3, rp Q, 35), (n2, rp P, 35)] := hO
  go_upto_region 1 with (fail)
  refine f22r1_r hO 2 rfl 1 rfl (part_rp0 _ _) (part_rp1 _ _) (rmul_c _ _ hP.x hQ.y) (fit_rn _) ?_
  intro n5 w2 hO
  replace hO : Own w w2 [(n5, vals .u64 16 (F.dg (mm P.1 Q.2)), 33), (n4, qn [0, 0], 35), (n3, rp Q, 35), (n2, rp P, 35)] := hO
  go_upto_region 2 with (fail)
  refine f22r2_r hO 3 rfl 2 rfl (part_rp1 _ _) (part_rp0 _ _) (rmul_c _ _ hP.y hQ.x) (fit_rn _) ?_
  intro n6 w3 hO
  replace hO : Own w w3 [(n6, vals .u64 16 (F.dg (mm P.2 Q.1)), 33), (n5, vals .u64 16 (F.dg (mm P.1 Q.2)), 33), (n4, qn [0, 0], 35), (n3, rp Q, 35), (n2, rp P, 35)] := hO
  go_upto_region 3 with (fail)
  refine f22r3_r hO 4 rfl 3 rfl (part_rp1 _ _) (part_rp1 _ _) (rmul_c _ _ hP.y hQ.y) (fit_rn _) ?_
  intro n7 w4 hO
  replace hO : Own w w4 [(n7, vals .u64 16 (F.dg (mm P.2 Q.2)), 33), (n6, vals .u64 16 (F.dg (mm P.2 Q.1)), 33), (n5, vals .u64 16 (F.dg (mm P.1 Q.2)), 33), (n4, qn [0, 0], 35), (n3, rp Q, 35), (n2, rp P, 35)] := hO
  go_upto_region 4 with (fail)
  refine f22r4_r hO 5 rfl 4 rfl (part_rp0 _ _) (part_rp0 _ _) (rmul_c _ _ hP.x hQ.x) (fit_rn _) ?_
  intro n8 w5 hO
  replace hO : Own w w5 [(n8, vals .u64 16 (F.dg (mm P.1 Q.1)), 33), (n7, vals .u64 16 (F.dg (mm P.2 Q.2)), 33), (n6, vals .u64 16 (F.dg (mm P.2 Q.1)), 33), (n5, vals .u64 16 (F.dg (mm P.1 Q.2)), 33), (n4, qn [0, 0], 35), (n3, rp Q, 35), (n2, rp P, 35)] := hO
  go_upto_region 5 with (fail)
  refine f22r5_r (fun _ _ _ _ _ h => h) hO 3 rfl 2 rfl rd_c (rmul_c _ _ (mm_lt _ _) (mm_lt _ _)) (rmul_c _ _ d7_lt (mm_lt _ _)) (fit_rn _) ?_
  intro n9 w6 hO
  replace hO : Own w w6 [(n9, vals .u64 16 (F.dg (mm d7N (mm (mm P.1 Q.2) (mm P.2 Q.1)))), 33), (n8, vals .u64 16 (F.dg (mm P.1 Q.1)), 33), (n7, vals .u64 16 (F.dg (mm P.2 Q.2)), 33), (n6, vals .u64 16 (F.dg (mm P.2 Q.1)), 33), (n5, vals .u64 16 (F.dg (mm P.1 Q.2)), 33), (n4, qn [0, 0], 35), (n3, rp Q, 35), (n2, rp P, 35)] := hO
  go_upto_region 6 with (fail)
  refine f22r6_r hO (rof_c 1 (by omega)) (fit_rn _) ?_
  intro n10 w7 hO
  replace hO : Own w w7 [(n10, vals .u64 16 (F.dg 1), 33), (n9, vals .u64 16 (F.dg (mm d7N (mm (mm P.1 Q.2) (mm P.2 Q.1)))), 33), (n8, vals .u64 16 (F.dg (mm P.1 Q.1)), 33), (n7, vals .u64 16 (F.dg (mm P.2 Q.2)), 33), (n6, vals .u64 16 (F.dg (mm P.2 Q.1)), 33), (n5, vals .u64 16 (F.dg (mm P.1 Q.2)), 33), (n4, qn [0, 0], 35), (n3, rp Q, 35), (n2, rp P, 35)] := hO
  go_upto_region 7 with (fail)
  refine f22r7_r (fun _ _ _ _ _ h => h) hO 5 rfl 4 rfl 1 rfl 0 rfl (radd_c _ _ (mm_lt _ _) (mm_lt _ _)) (radd_c _ _ (of_lt (by omega)) (mm_lt _ _)) (rinv_c _ (am_lt _ _)) (rmul_c _ _ (am_lt _ _) (iN_lt _)) (fit_rn _) ?_
  intro n11 w8 hO
  replace hO : Own w w8 [(n11, vals .u64 16 (F.dg (mm (am (mm P.1 Q.2) (mm P.2 Q.1)) (iN (am 1 (mm d7N (mm (mm P.1 Q.2) (mm P.2 Q.1))))))), 33), (n10, vals .u64 16 (F.dg 1), 33), (n9, vals .u64 16 (F.dg (mm d7N (mm (mm P.1 Q.2) (mm P.2 Q.1)))), 33), (n8, vals .u64 16 (F.dg (mm P.1 Q.1)), 33), (n7, vals .u64 16 (F.dg (mm P.2 Q.2)), 33), (n6, vals .u64 16 (F.dg (mm P.2 Q.1)), 33), (n5, vals .u64 16 (F.dg (mm P.1 Q.2)), 33), (n4, qn [0, 0], 35), (n3, rp Q, 35), (n2, rp P, 35)] := hO
  go_upto_region 8 with (fail)
  refine f22r8_r (fun _ _ _ _ _ h => h) hO 4 rfl 3 rfl 2 rfl 1 rfl (radd_c _ _ (mm_lt _ _) (mm_lt _ _)) (rsub_c _ _ (of_lt (by omega)) (mm_lt _ _)) (rinv_c _ (sm_lt _ _)) (rmul_c _ _ (am_lt _ _) (iN_lt _)) (fit_rn _) ?_
  intro n12 w9 hO
  replace hO : Own w w9 [(n12, vals .u64 16 (F.dg (mm (am (mm P.2 Q.2) (mm P.1 Q.1)) (iN (sm 1 (mm d7N (mm (mm P.1 Q.2) (mm P.2 Q.1))))))), 33), (n11, vals .u64 16 (F.dg (mm (am (mm P.1 Q.2) (mm P.2 Q.1)) (iN (am 1 (mm d7N (mm (mm P.1 Q.2) (mm P.2 Q.1))))))), 33), (n10, vals .u64 16 (F.dg 1), 33), (n9, vals .u64 16 (F.dg (mm d7N (mm (mm P.1 Q.2) (mm P.2 Q.1)))), 33), (n8, vals .u64 16 (F.dg (mm P.1 Q.1)), 33), (n7, vals .u64 16 (F.dg (mm P.2 Q.2)), 33), (n6, vals .u64 16 (F.dg (mm P.2 Q.1)), 33), (n5, vals .u64 16 (F.dg (mm P.1 Q.2)), 33), (n4, qn [0, 0], 35), (n3, rp Q, 35), (n2, rp P, 35)] := hO
  go_upto_region 9 with (fail)
  refine f22r9_r hO 8 rfl 1 rfl 0 rfl (bd_rp _ _) (fit_rp _ _) ?_
  intro w10 hO
  replace hO : Own w w10 [(n12, vals .u64 16 (F.dg (mm (am (mm P.2 Q.2) (mm P.1 Q.1)) (iN (sm 1 (mm d7N (mm (mm P.1 Q.2) (mm P.2 Q.1))))))), 33), (n11, vals .u64 16 (F.dg (mm (am (mm P.1 Q.2) (mm P.2 Q.1)) (iN (am 1 (mm d7N (mm (mm P.1 Q.2) (mm P.2 Q.1))))))), 33), (n10, vals .u64 16 (F.dg 1), 33), (n9, vals .u64 16 (F.dg (mm d7N (mm (mm P.1 Q.2) (mm P.2 Q.1)))), 33), (n8, vals .u64 16 (F.dg (mm P.1 Q.1)), 33), (n7, vals .u64 16 (F.dg (mm P.2 Q.2)), 33), (n6, vals .u64 16 (F.dg (mm P.2 Q.1)), 33), (n5, vals .u64 16 (F.dg (mm P.1 Q.2)), 33), (n4, qn [mm (am (mm P.1 Q.2) (mm P.2 Q.1)) (iN (am 1 (mm d7N (mm (mm P.1 Q.2) (mm P.2 Q.1))))), mm (am (mm P.2 Q.2) (mm P.1 Q.1)) (iN (sm 1 (mm d7N (mm (mm P.1 Q.2) (mm P.2 Q.1)))))], 35), (n3, rp Q, 35), (n2, rp P, 35)] := hO
  go_wp2_with fail
  refine bodyPost_ret (v := .agg (qn [mm (am (mm P.1 Q.2) (mm P.2 Q.1)) (iN (am 1 (mm d7N (mm (mm P.1 Q.2) (mm P.2 Q.1))))), mm (am (mm P.2 Q.2) (mm P.1 Q.1)) (iN (sm 1 (mm d7N (mm (mm P.1 Q.2) (mm P.2 Q.1)))))])) (results_cell_row Try.results22 _ _ n4 35 _ (0, 0) _ rfl (hO.row 8 rfl) Try.underlying35 rfl (fit_rp _ _).size) rfl ⟨by rw [add7_eq]; rfl, hO.low⟩
def f24r0Op0 : Oper := ⟨some 1, .box 35 (.tmp 0), 0, "ref.go:22", #[], none⟩
def f24r0Op1 : Oper := ⟨some 2, .assign (.const (.bool false)), 4, "ref.go:22", #[], none⟩
def f24r0Ops : Array Oper := #[f24r0Op0, f24r0Op1]
set_option maxRecDepth 100000 in
set_option maxHeartbeats 2000000 in
theorem f24r0_r {Q : Exit → Act → World → Prop} {u w : World} {L : List Row} {z1 z2 : Value} {zz : List Value} {e0 : Array Value} (hO : Own u w L) (fe0_35 : Fit 35 e0) (H : ∀ (n1 : Nat) (w' : World), Own u w' ((n1, e0, 35) :: L) → Q .normal { tmps := List.toArray ((.agg e0) :: (.pointer (some ⟨n1, 0, none⟩)) :: (.bool false) :: zz), defers := [] } w') :
    (Code.region 0 f24r0Ops false).wp Try.prog Q { tmps := List.toArray ((.agg e0) :: z1 :: z2 :: zz), defers := [] } w := by
  refine wp_region_list (show wpList _ f24r0Ops _ [f24r0Op0, f24r0Op1] _ _ from ?_)
  refine l_new hO (e0) 35 (run_box 35 _ rfl _ (by kernel_rfl)) fe0_35 ?_
  intro n1 w1 hO
  refine l_val (.bool false) (by kernel_rfl) ?_
  exact l_fr _ (wpList_nil (H n1 _ hO))
def f24r1Op0 : Oper := ⟨some 6, .fieldAddr 35 (.tmp 1) 0, 0, "ref.go:23", #[], none⟩
def f24r1Op1 : Oper := ⟨some 7, .load 33 (.tmp 6), 33, "ref.go:23", #[⟨0, .data⟩], none⟩
def f24r1Op2 : Oper := ⟨some 8, .fieldAddr 35 (.tmp 1) 0, 0, "ref.go:23", #[], none⟩
def f24r1Op3 : Oper := ⟨some 9, .load 33 (.tmp 8), 33, "ref.go:23", #[⟨2, .data⟩], none⟩
def f24r1Op4 : Oper := ⟨some 10, .call { callee := .value (.func 48), args := #[.tmp 7, .tmp 9], argTypes := #[33, 33] }, 33, "ref.go:23", #[⟨1, .data⟩, ⟨3, .data⟩], none⟩
def f24r1Op5 : Oper := ⟨some 3, .alloc 33, 0, "ref.go:23", #[], none⟩
def f24r1Op6 : Oper := ⟨none, .store 33 (.tmp 3) (.tmp 10), 0, "ref.go:23", #[⟨5, .data⟩, ⟨4, .data⟩, ⟨4, .chain⟩, ⟨0, .phase⟩, ⟨1, .phase⟩, ⟨2, .phase⟩, ⟨3, .phase⟩, ⟨4, .phase⟩, ⟨5, .phase⟩], none⟩
def f24r1Ops : Array Oper := #[f24r1Op0, f24r1Op1, f24r1Op2, f24r1Op3, f24r1Op4, f24r1Op5, f24r1Op6]
set_option maxRecDepth 100000 in
set_option maxHeartbeats 2000000 in
theorem f24r1_r {Q : Exit → Act → World → Prop} {u w : World} {L : List Row} {z0 z2 z3 z4 z5 z6 z7 z8 z9 z10 : Value} {zz : List Value} {b1 : Nat} {c1 : Array Value} {e7 e9 e10 : Array Value} (hO : Own u w L) (i1 : Nat) (h1 : L[i1]? = some (b1, c1, 35)) (q7 : Part c1 0 33 e7) (q9 : Part c1 0 33 e9) (r10 : ∀ w, Ret 48 #[.agg e7, .agg e9] w (.agg e10)) (fe10_33 : Fit 33 e10) (H : ∀ (n3 : Nat) (w' : World), Own u w' ((n3, e10, 33) :: L) → Q .normal { tmps := List.toArray (z0 :: (.pointer (some ⟨b1, 0, none⟩)) :: z2 :: (.pointer (some ⟨n3, 0, none⟩)) :: z4 :: z5 :: (.pointer (some ⟨b1, 0, none⟩)) :: (.agg e7) :: (.pointer (some ⟨b1, 0, none⟩)) :: (.agg e9) :: (.agg e10) :: zz), defers := [] } w') :
    (Code.region 1 f24r1Ops false).wp Try.prog Q { tmps := List.toArray (z0 :: (.pointer (some ⟨b1, 0, none⟩)) :: z2 :: z3 :: z4 :: z5 :: z6 :: z7 :: z8 :: z9 :: z10 :: zz), defers := [] } w := by
  refine wp_region_list (show wpList _ f24r1Ops _ [f24r1Op0, f24r1Op1, f24r1Op2, f24r1Op3, f24r1Op4, f24r1Op5, f24r1Op6] _ _ from ?_)
  refine l_val (.pointer (some ⟨b1, 0, none⟩)) (by kernel_rfl) ?_
  refine l_part hO 33 i1 h1 q7 Try.underlying33 ?_
  refine l_val (.pointer (some ⟨b1, 0, none⟩)) (by kernel_rfl) ?_
  refine l_fr (Fr [z0, D b1, z2, z3, z4, z5, .pointer (some ⟨b1, 0, none⟩), A e7, .pointer (some ⟨b1, 0, none⟩), z9, z10] zz) ?_
  refine l_part hO 33 i1 h1 q9 Try.underlying33 ?_
  refine l_call hO 48 #[.agg e7, .agg e9] (.agg e10) r10 ?_
  intro w1 hO
  refine l_new hO (vals .u64 16 (F.dg 0)) 33 (al33 rfl) (fit_rn _) ?_
  intro n3 w2 hO
  refine l_fr (Fr [z0, D b1, z2, D n3, z4, z5, .pointer (some ⟨b1, 0, none⟩), A e7, .pointer (some ⟨b1, 0, none⟩), A e9, A e10] zz) ?_
  refine l_st hO 33 0 rfl e10 fe10_33 ?_
  intro w3 hO
  exact l_fr _ (wpList_nil (H n3 _ hO))
def f24r2Op0 : Oper := ⟨some 11, .fieldAddr 35 (.tmp 1) 1, 0, "ref.go:24", #[], none⟩
def f24r2Op1 : Oper := ⟨some 12, .load 33 (.tmp 11), 33, "ref.go:24", #[⟨0, .data⟩], none⟩
def f24r2Op2 : Oper := ⟨some 13, .fieldAddr 35 (.tmp 1) 1, 0, "ref.go:24", #[], none⟩
def f24r2Op3 : Oper := ⟨some 14, .load 33 (.tmp 13), 33, "ref.go:24", #[⟨2, .data⟩], none⟩
def f24r2Op4 : Oper := ⟨some 15, .call { callee := .value (.func 48), args := #[.tmp 12, .tmp 14], argTypes := #[33, 33] }, 33, "ref.go:24", #[⟨1, .data⟩, ⟨3, .data⟩], none⟩
def f24r2Op5 : Oper := ⟨some 4, .alloc 33, 0, "ref.go:24", #[], none⟩
def f24r2Op6 : Oper := ⟨none, .store 33 (.tmp 4) (.tmp 15), 0, "ref.go:24", #[⟨5, .data⟩, ⟨4, .data⟩, ⟨4, .chain⟩, ⟨0, .phase⟩, ⟨1, .phase⟩, ⟨2, .phase⟩, ⟨3, .phase⟩, ⟨4, .phase⟩, ⟨5, .phase⟩], none⟩
def f24r2Ops : Array Oper := #[f24r2Op0, f24r2Op1, f24r2Op2, f24r2Op3, f24r2Op4, f24r2Op5, f24r2Op6]
set_option maxRecDepth 100000 in
set_option maxHeartbeats 2000000 in
theorem f24r2_r {Q : Exit → Act → World → Prop} {u w : World} {L : List Row} {z0 z2 z3 z4 z5 z6 z7 z8 z9 z10 z11 z12 z13 z14 z15 : Value} {zz : List Value} {b1 : Nat} {c1 : Array Value} {e12 e14 e15 : Array Value} (hO : Own u w L) (i1 : Nat) (h1 : L[i1]? = some (b1, c1, 35)) (q12 : Part c1 16 33 e12) (q14 : Part c1 16 33 e14) (r15 : ∀ w, Ret 48 #[.agg e12, .agg e14] w (.agg e15)) (fe15_33 : Fit 33 e15) (H : ∀ (n4 : Nat) (w' : World), Own u w' ((n4, e15, 33) :: L) → Q .normal { tmps := List.toArray (z0 :: (.pointer (some ⟨b1, 0, none⟩)) :: z2 :: z3 :: (.pointer (some ⟨n4, 0, none⟩)) :: z5 :: z6 :: z7 :: z8 :: z9 :: z10 :: (.pointer (some ⟨b1, 16, none⟩)) :: (.agg e12) :: (.pointer (some ⟨b1, 16, none⟩)) :: (.agg e14) :: (.agg e15) :: zz), defers := [] } w') :
    (Code.region 2 f24r2Ops false).wp Try.prog Q { tmps := List.toArray (z0 :: (.pointer (some ⟨b1, 0, none⟩)) :: z2 :: z3 :: z4 :: z5 :: z6 :: z7 :: z8 :: z9 :: z10 :: z11 :: z12 :: z13 :: z14 :: z15 :: zz), defers := [] } w := by
  refine wp_region_list (show wpList _ f24r2Ops _ [f24r2Op0, f24r2Op1, f24r2Op2, f24r2Op3, f24r2Op4, f24r2Op5, f24r2Op6] _ _ from ?_)
  refine l_val (.pointer (some ⟨b1, 16, none⟩)) (by kernel_rfl) ?_
  refine l_part hO 33 i1 h1 q12 Try.underlying33 ?_
  refine l_val (.pointer (some ⟨b1, 16, none⟩)) (by kernel_rfl) ?_
  refine l_fr (Fr [z0, D b1, z2, z3, z4, z5, z6, z7, z8, z9, z10, .pointer (some ⟨b1, 16, none⟩), A e12, .pointer (some ⟨b1, 16, none⟩), z14, z15] zz) ?_
  refine l_part hO 33 i1 h1 q14 Try.underlying33 ?_
  refine l_call hO 48 #[.agg e12, .agg e14] (.agg e15) r15 ?_
  intro w1 hO
  refine l_new hO (vals .u64 16 (F.dg 0)) 33 (al33 rfl) (fit_rn _) ?_
  intro n4 w2 hO
  refine l_fr (Fr [z0, D b1, z2, z3, D n4, z5, z6, z7, z8, z9, z10, .pointer (some ⟨b1, 16, none⟩), A e12, .pointer (some ⟨b1, 16, none⟩), A e14, A e15] zz) ?_
  refine l_st hO 33 0 rfl e15 fe15_33 ?_
  intro w3 hO
  exact l_fr _ (wpList_nil (H n4 _ hO))
def f24r3Op0 : Oper := ⟨some 16, .call { callee := .value (.func 50), args := #[.const (.int .u64 1)], argTypes := #[24] }, 33, "ref.go:25", #[], none⟩
def f24r3Op1 : Oper := ⟨some 17, .call { callee := .value (.func 52), args := #[], argTypes := #[] }, 33, "ref.go:25", #[⟨0, .chain⟩], none⟩
def f24r3Op2 : Oper := ⟨some 18, .load 33 (.tmp 3), 33, "ref.go:25", #[], none⟩
def f24r3Op3 : Oper := ⟨some 19, .load 33 (.tmp 4), 33, "ref.go:25", #[], none⟩
def f24r3Op4 : Oper := ⟨some 20, .call { callee := .value (.func 48), args := #[.tmp 18, .tmp 19], argTypes := #[33, 33] }, 33, "ref.go:25", #[⟨2, .data⟩, ⟨3, .data⟩, ⟨1, .chain⟩], none⟩
def f24r3Op5 : Oper := ⟨some 21, .call { callee := .value (.func 48), args := #[.tmp 17, .tmp 20], argTypes := #[33, 33] }, 33, "ref.go:25", #[⟨1, .data⟩, ⟨4, .data⟩, ⟨4, .chain⟩], none⟩
def f24r3Op6 : Oper := ⟨some 22, .call { callee := .value (.func 51), args := #[.tmp 16, .tmp 21], argTypes := #[33, 33] }, 33, "ref.go:25", #[⟨0, .data⟩, ⟨5, .data⟩, ⟨5, .chain⟩], none⟩
def f24r3Op7 : Oper := ⟨some 5, .alloc 33, 0, "ref.go:25", #[], none⟩
def f24r3Op8 : Oper := ⟨none, .store 33 (.tmp 5) (.tmp 22), 0, "ref.go:25", #[⟨7, .data⟩, ⟨6, .data⟩, ⟨6, .chain⟩, ⟨0, .phase⟩, ⟨1, .phase⟩, ⟨2, .phase⟩, ⟨3, .phase⟩, ⟨4, .phase⟩, ⟨5, .phase⟩, ⟨6, .phase⟩, ⟨7, .phase⟩], none⟩
def f24r3Ops : Array Oper := #[f24r3Op0, f24r3Op1, f24r3Op2, f24r3Op3, f24r3Op4, f24r3Op5, f24r3Op6, f24r3Op7, f24r3Op8]
set_option maxRecDepth 100000 in
set_option maxHeartbeats 2000000 in
theorem f24r3_r {Q : Exit → Act → World → Prop} {u w : World} {L : List Row} {z0 z1 z2 z5 z6 z7 z8 z9 z10 z11 z12 z13 z14 z15 z16 z17 z18 z19 z20 z21 z22 : Value} {zz : List Value} {b3 b4 : Nat} {c3 c4 : Array Value} {e16 e17 e20 e21 e22 : Array Value} (hQ : ∀ c a w n v, Q (.panic c) (a.put (some n) v) w → Q (.panic c) a w) (hO : Own u w L) (i3 : Nat) (h3 : L[i3]? = some (b3, c3, 33)) (i4 : Nat) (h4 : L[i4]? = some (b4, c4, 33)) (r16 : ∀ w, Ret 50 #[.int IntKind.u64 1] w (.agg e16)) (r17 : ∀ w, Ret 52 #[] w (.agg e17)) (r20 : ∀ w, Ret 48 #[.agg c3, .agg c4] w (.agg e20)) (r21 : ∀ w, Ret 48 #[.agg e17, .agg e20] w (.agg e21)) (r22 : ∀ w, Ret 51 #[.agg e16, .agg e21] w (.agg e22)) (fe22_33 : Fit 33 e22) (H : ∀ (n5 : Nat) (w' : World), Own u w' ((n5, e22, 33) :: L) → Q .normal { tmps := List.toArray (z0 :: z1 :: z2 :: (.pointer (some ⟨b3, 0, none⟩)) :: (.pointer (some ⟨b4, 0, none⟩)) :: (.pointer (some ⟨n5, 0, none⟩)) :: z6 :: z7 :: z8 :: z9 :: z10 :: z11 :: z12 :: z13 :: z14 :: z15 :: (.agg e16) :: (.agg e17) :: (.agg c3) :: (.agg c4) :: (.agg e20) :: (.agg e21) :: (.agg e22) :: zz), defers := [] } w') :
    (Code.region 3 f24r3Ops true).wp Try.prog Q { tmps := List.toArray (z0 :: z1 :: z2 :: (.pointer (some ⟨b3, 0, none⟩)) :: (.pointer (some ⟨b4, 0, none⟩)) :: z5 :: z6 :: z7 :: z8 :: z9 :: z10 :: z11 :: z12 :: z13 :: z14 :: z15 :: z16 :: z17 :: z18 :: z19 :: z20 :: z21 :: z22 :: zz), defers := [] } w := by
  have fc3_33 := hO.fits i3 h3
  have fc4_33 := hO.fits i4 h4
  have s0 : ∀ (n5 : Nat) (w : World), Own u w ((n5, vals .u64 16 (F.dg 0), 33) :: L) → wpAnyH Try.prog .any f24r3Ops Q (Has [(b3, c3, 33), (b4, c4, 33)]) 1 (ls 9 255) (Fr [z0, z1, z2, D b3, D b4, D n5, z6, z7, z8, z9, z10, z11, z12, z13, z14, z15, A e16, A e17, A c3, A c4, A e20, A e21, A e22] zz) w := by
    intro n5 w hO
    refine d_one 8 f24r3Op8 (ls 9 511) (fun K hK => ?_)
    refine k_st hK hO 33 0 rfl e22 fe22_33 (fun _ hO => ⟨hO.row _ (gs h3), hO.row _ (gs h4), trivial⟩) ?_
    intro w1 hO
    exact wpAnyH_done (by kernel_rfl) (H n5 _ hO) _
  have s1 : ∀ (n5 : Nat) (w : World), Own u w ((n5, vals .u64 16 (F.dg 0), 33) :: L) → wpAnyH Try.prog .any f24r3Ops Q (Has [(b3, c3, 33), (b4, c4, 33)]) 2 (ls 9 191) (Fr [z0, z1, z2, D b3, D b4, D n5, z6, z7, z8, z9, z10, z11, z12, z13, z14, z15, A e16, A e17, A c3, A c4, A e20, A e21, z22] zz) w := by
    intro n5 w hO
    refine d_one 6 f24r3Op6 (ls 9 255) (fun K hK => ?_)
    refine k_call hK hO (fun _ hO => ⟨hO.row _ (gs h3), hO.row _ (gs h4), trivial⟩) 51 #[.agg e16, .agg e21] (.agg e22) r22 ?_
    intro w2 hO
    exact d_fr _ _ (s0 n5 _ hO)
  have s2 : ∀ (n5 : Nat) (w : World), Own u w ((n5, vals .u64 16 (F.dg 0), 33) :: L) → wpAnyH Try.prog .any f24r3Ops Q (Has [(b3, c3, 33), (b4, c4, 33)]) 3 (ls 9 159) (Fr [z0, z1, z2, D b3, D b4, D n5, z6, z7, z8, z9, z10, z11, z12, z13, z14, z15, A e16, A e17, A c3, A c4, A e20, z21, z22] zz) w := by
    intro n5 w hO
    refine d_one 5 f24r3Op5 (ls 9 191) (fun K hK => ?_)
    refine k_call hK hO (fun _ hO => ⟨hO.row _ (gs h3), hO.row _ (gs h4), trivial⟩) 48 #[.agg e17, .agg e20] (.agg e21) r21 ?_
    intro w3 hO
    exact d_fr _ _ (s1 n5 _ hO)
  have s3 : ∀ (n5 : Nat) (w : World), Own u w ((n5, vals .u64 16 (F.dg 0), 33) :: L) → wpAnyH Try.prog .any f24r3Ops Q (Has [(b3, c3, 33), (b4, c4, 33)]) 4 (ls 9 143) (Fr [z0, z1, z2, D b3, D b4, D n5, z6, z7, z8, z9, z10, z11, z12, z13, z14, z15, A e16, A e17, A c3, A c4, z20, z21, z22] zz) w := by
    intro n5 w hO
    refine d_one 4 f24r3Op4 (ls 9 159) (fun K hK => ?_)
    refine k_call hK hO (fun _ hO => ⟨hO.row _ (gs h3), hO.row _ (gs h4), trivial⟩) 48 #[.agg c3, .agg c4] (.agg e20) r20 ?_
    intro w4 hO
    exact d_fr _ _ (s2 n5 _ hO)
  have s4 : ∀ (n5 : Nat) (w : World), Own u w ((n5, vals .u64 16 (F.dg 0), 33) :: L) → wpAnyH Try.prog .any f24r3Ops Q (Has [(b3, c3, 33), (b4, c4, 33)]) 5 (ls 9 141) (Fr [z0, z1, z2, D b3, D b4, D n5, z6, z7, z8, z9, z10, z11, z12, z13, z14, z15, A e16, z17, A c3, A c4, z20, z21, z22] zz) w := by
    intro n5 w hO
    refine d_one 1 f24r3Op1 (ls 9 143) (fun K hK => ?_)
    refine k_call hK hO (fun _ hO => ⟨hO.row _ (gs h3), hO.row _ (gs h4), trivial⟩) 52 #[] (.agg e17) r17 ?_
    intro w5 hO
    exact d_fr _ _ (s3 n5 _ hO)
  refine wp_region_held_drew (S := Has [(b3, c3, 33), (b4, c4, 33)]) (by kernel_rfl) ⟨hO.drew.row _ h3, hO.drew.row _ h4, trivial⟩ (fun hS => ?_)
  replace hO := hO.drew
  refine d_tk 2 f24r3Op2 (.agg c3) hQ (y_l 33 (fun _ h => h.1) fc3_33 Try.underlying33) hS ?_
  refine d_tk 3 f24r3Op3 (.agg c4) hQ (y_l 33 (fun _ h => h.2.1) fc4_33 Try.underlying33) hS ?_
  refine d_fr (ls 9 12) (Fr [z0, z1, z2, D b3, D b4, z5, z6, z7, z8, z9, z10, z11, z12, z13, z14, z15, z16, z17, A c3, A c4, z20, z21, z22] zz) ?_
  refine wpAnyH_ready (rs := [0, 7]) (by kernel_rfl) (by simp) ?_
  refine d_cons 0 f24r3Op0 (ls 9 13) (fun K hK => ?_) ?_
  · skip
    refine k_call hK hO (fun _ hO => ⟨hO.row _ h3, hO.row _ h4, trivial⟩) 50 #[.int IntKind.u64 1] (.agg e16) r16 ?_
    intro w6 hO
    refine wpAnyH_ready (rs := [1, 7]) (by kernel_rfl) (by simp) ?_
    refine d_cons 1 f24r3Op1 (ls 9 15) (fun K hK => ?_) ?_
    · skip
      refine k_call hK hO (fun _ hO => ⟨hO.row _ h3, hO.row _ h4, trivial⟩) 52 #[] (.agg e17) r17 ?_
      intro w7 hO
      refine wpAnyH_ready (rs := [4, 7]) (by kernel_rfl) (by simp) ?_
      refine d_cons 4 f24r3Op4 (ls 9 31) (fun K hK => ?_) ?_
      · skip
        refine k_call hK hO (fun _ hO => ⟨hO.row _ h3, hO.row _ h4, trivial⟩) 48 #[.agg c3, .agg c4] (.agg e20) r20 ?_
        intro w8 hO
        refine d_fr (ls 9 31) (Fr [z0, z1, z2, D b3, D b4, z5, z6, z7, z8, z9, z10, z11, z12, z13, z14, z15, A e16, A e17, A c3, A c4, A e20, z21, z22] zz) ?_
        refine wpAnyH_ready (rs := [5, 7]) (by kernel_rfl) (by simp) ?_
        refine d_cons 5 f24r3Op5 (ls 9 63) (fun K hK => ?_) ?_
        · skip
          refine k_call hK hO (fun _ hO => ⟨hO.row _ h3, hO.row _ h4, trivial⟩) 48 #[.agg e17, .agg e20] (.agg e21) r21 ?_
          intro w9 hO
          refine wpAnyH_ready (rs := [6, 7]) (by kernel_rfl) (by simp) ?_
          refine d_cons 6 f24r3Op6 (ls 9 127) (fun K hK => ?_) ?_
          · skip
            refine k_call hK hO (fun _ hO => ⟨hO.row _ h3, hO.row _ h4, trivial⟩) 51 #[.agg e16, .agg e21] (.agg e22) r22 ?_
            intro w10 hO
            refine d_one 7 f24r3Op7 (ls 9 255) (fun K hK => ?_)
            refine k_new hK hO (vals .u64 16 (F.dg 0)) 33 (al33 rfl) (fit_rn _) (fun _ _ hO => ⟨hO.row _ (gs h3), hO.row _ (gs h4), trivial⟩) ?_
            intro n5 w11 hO
            exact d_fr _ _ (s0 n5 _ hO)
          refine d_cons 7 f24r3Op7 (ls 9 191) (fun K hK => ?_) ?_
          · skip
            refine k_new hK hO (vals .u64 16 (F.dg 0)) 33 (al33 rfl) (fit_rn _) (fun _ _ hO => ⟨hO.row _ (gs h3), hO.row _ (gs h4), trivial⟩) ?_
            intro n5 w12 hO
            exact d_fr _ _ (s1 n5 _ hO)
          exact AllReadyH.nil
        refine d_cons 7 f24r3Op7 (ls 9 159) (fun K hK => ?_) ?_
        · skip
          refine k_new hK hO (vals .u64 16 (F.dg 0)) 33 (al33 rfl) (fit_rn _) (fun _ _ hO => ⟨hO.row _ (gs h3), hO.row _ (gs h4), trivial⟩) ?_
          intro n5 w13 hO
          exact d_fr _ _ (s2 n5 _ hO)
        exact AllReadyH.nil
      refine d_cons 7 f24r3Op7 (ls 9 143) (fun K hK => ?_) ?_
      · skip
        refine k_new hK hO (vals .u64 16 (F.dg 0)) 33 (al33 rfl) (fit_rn _) (fun _ _ hO => ⟨hO.row _ (gs h3), hO.row _ (gs h4), trivial⟩) ?_
        intro n5 w14 hO
        exact d_fr _ _ (s3 n5 _ hO)
      exact AllReadyH.nil
    refine d_cons 7 f24r3Op7 (ls 9 141) (fun K hK => ?_) ?_
    · skip
      refine k_new hK hO (vals .u64 16 (F.dg 0)) 33 (al33 rfl) (fit_rn _) (fun _ _ hO => ⟨hO.row _ (gs h3), hO.row _ (gs h4), trivial⟩) ?_
      intro n5 w15 hO
      exact d_fr _ _ (s4 n5 _ hO)
    exact AllReadyH.nil
  refine d_cons 7 f24r3Op7 (ls 9 140) (fun K hK => ?_) ?_
  · skip
    refine k_new hK hO (vals .u64 16 (F.dg 0)) 33 (al33 rfl) (fit_rn _) (fun _ _ hO => ⟨hO.row _ (gs h3), hO.row _ (gs h4), trivial⟩) ?_
    intro n5 w16 hO
    refine d_one 0 f24r3Op0 (ls 9 141) (fun K hK => ?_)
    refine k_call hK hO (fun _ hO => ⟨hO.row _ (gs h3), hO.row _ (gs h4), trivial⟩) 50 #[.int IntKind.u64 1] (.agg e16) r16 ?_
    intro w17 hO
    exact d_fr _ _ (s4 n5 _ hO)
  exact AllReadyH.nil
def f24r4Op0 : Oper := ⟨some 23, .load 33 (.tmp 4), 33, "ref.go:26", #[], none⟩
def f24r4Op1 : Oper := ⟨some 24, .load 33 (.tmp 3), 33, "ref.go:26", #[], none⟩
def f24r4Op2 : Oper := ⟨some 25, .call { callee := .value (.func 49), args := #[.tmp 23, .tmp 24], argTypes := #[33, 33] }, 33, "ref.go:26", #[⟨0, .data⟩, ⟨1, .data⟩], none⟩
def f24r4Op3 : Oper := ⟨some 26, .load 33 (.tmp 5), 33, "ref.go:26", #[], none⟩
def f24r4Op4 : Oper := ⟨some 27, .binOp .eql 33 (.tmp 25) (.tmp 26) 33, 4, "ref.go:26", #[⟨2, .data⟩, ⟨3, .data⟩], none⟩
def f24r4Op5 : Oper := ⟨some 2, .assign (.tmp 27), 4, "ref.go:26", #[⟨4, .data⟩, ⟨2, .chain⟩, ⟨0, .phase⟩, ⟨1, .phase⟩, ⟨2, .phase⟩, ⟨3, .phase⟩, ⟨4, .phase⟩], none⟩
def f24r4Ops : Array Oper := #[f24r4Op0, f24r4Op1, f24r4Op2, f24r4Op3, f24r4Op4, f24r4Op5]
set_option maxRecDepth 100000 in
set_option maxHeartbeats 2000000 in
theorem f24r4_r {Q : Exit → Act → World → Prop} {u w : World} {L : List Row} {z0 z1 z2 z6 z7 z8 z9 z10 z11 z12 z13 z14 z15 z16 z17 z18 z19 z20 z21 z22 z23 z24 z25 z26 z27 : Value} {b3 b4 b5 : Nat} {c3 c4 c5 : Array Value} {e25 : Array Value} (hQ : ∀ c a w n v, Q (.panic c) (a.put (some n) v) w → Q (.panic c) a w) (hO : Own u w L) (i3 : Nat) (h3 : L[i3]? = some (b3, c3, 33)) (i4 : Nat) (h4 : L[i4]? = some (b4, c4, 33)) (i5 : Nat) (h5 : L[i5]? = some (b5, c5, 33)) (r25 : ∀ w, Ret 49 #[.agg c4, .agg c3] w (.agg e25)) (k27 : ∀ (a : Act) (w : World), a.eval (.tmp 25) = .agg e25 → a.eval (.tmp 26) = .agg c5 → (execOp a.eval f24r4Op4).run Try.prog w = .ok (.value (.bool true)) w) (H : ∀ (w' : World), Own u w' (L) → Q .normal { tmps := List.toArray (z0 :: z1 :: (.bool true) :: (.pointer (some ⟨b3, 0, none⟩)) :: (.pointer (some ⟨b4, 0, none⟩)) :: (.pointer (some ⟨b5, 0, none⟩)) :: z6 :: z7 :: z8 :: z9 :: z10 :: z11 :: z12 :: z13 :: z14 :: z15 :: z16 :: z17 :: z18 :: z19 :: z20 :: z21 :: z22 :: (.agg c4) :: (.agg c3) :: (.agg e25) :: (.agg c5) :: (.bool true) :: []), defers := [] } w') :
    (Code.region 4 f24r4Ops true).wp Try.prog Q { tmps := List.toArray (z0 :: z1 :: z2 :: (.pointer (some ⟨b3, 0, none⟩)) :: (.pointer (some ⟨b4, 0, none⟩)) :: (.pointer (some ⟨b5, 0, none⟩)) :: z6 :: z7 :: z8 :: z9 :: z10 :: z11 :: z12 :: z13 :: z14 :: z15 :: z16 :: z17 :: z18 :: z19 :: z20 :: z21 :: z22 :: z23 :: z24 :: z25 :: z26 :: z27 :: []), defers := [] } w := by
  have fc3_33 := hO.fits i3 h3
  have fc4_33 := hO.fits i4 h4
  have fc5_33 := hO.fits i5 h5
  refine wp_region_held_drew (S := Has [(b3, c3, 33), (b4, c4, 33), (b5, c5, 33)]) (by kernel_rfl) ⟨hO.drew.row _ h3, hO.drew.row _ h4, hO.drew.row _ h5, trivial⟩ (fun hS => ?_)
  replace hO := hO.drew
  refine d_tk 0 f24r4Op0 (.agg c4) hQ (y_l 33 (fun _ h => h.2.1) fc4_33 Try.underlying33) hS ?_
  refine d_tk 1 f24r4Op1 (.agg c3) hQ (y_l 33 (fun _ h => h.1) fc3_33 Try.underlying33) hS ?_
  refine d_tk 3 f24r4Op3 (.agg c5) hQ (y_l 33 (fun _ h => h.2.2.1) fc5_33 Try.underlying33) hS ?_
  refine d_fr (ls 6 11) (Fr [z0, z1, z2, D b3, D b4, D b5, z6, z7, z8, z9, z10, z11, z12, z13, z14, z15, z16, z17, z18, z19, z20, z21, z22, A c4, A c3, z25, A c5, z27] []) ?_
  refine d_one 2 f24r4Op2 (ls 6 15) (fun K hK => ?_)
  refine k_call hK hO (fun _ hO => ⟨hO.row _ h3, hO.row _ h4, hO.row _ h5, trivial⟩) 49 #[.agg c4, .agg c3] (.agg e25) r25 ?_
  intro w1 hO
  have hS : Has [(b3, c3, 33), (b4, c4, 33), (b5, c5, 33)] _ := ⟨hO.row _ h3, hO.row _ h4, hO.row _ h5, trivial⟩
  refine d_tk 4 f24r4Op4 (.bool true) hQ (y_val (fun _ => k27 _ _ (by kernel_rfl) (by kernel_rfl))) hS ?_
  refine d_tk 5 f24r4Op5 (.bool true) hQ (y_val (fun _ => by kernel_rfl)) hS ?_
  exact d_fr (ls 6 63) _ (wpAnyH_done (by kernel_rfl) (H  _ hO) _)
set_option maxRecDepth 100000 in
set_option maxHeartbeats 4000000 in
theorem ron_p {P : Nat × Nat} (hP : Ok7 P) (w : World) : Ret 24 #[.agg (rp P)] w (.bool true) := by
  go_enter Try.func24, Try.ntmps24
  have hO := Own.start w
  go_upto_region 0 with (fail)
  refine f24r0_r hO (fit_rp _ _) ?_
  intro n1 w1 hO
  replace hO : Own w w1 [(n1, rp P, 35)] := hO
  go_upto_region 1 with (fail)
  refine f24r1_r hO 0 rfl (part_rp0 _ _) (part_rp0 _ _) (rmul_c _ _ hP.x hP.x) (fit_rn _) ?_
  intro n3 w2 hO
  replace hO : Own w w2 [(n3, vals .u64 16 (F.dg (mm P.1 P.1)), 33), (n1, rp P, 35)] := hO
  go_upto_region 2 with (fail)
  refine f24r2_r hO 1 rfl (part_rp1 _ _) (part_rp1 _ _) (rmul_c _ _ hP.y hP.y) (fit_rn _) ?_
  intro n4 w3 hO
  replace hO : Own w w3 [(n4, vals .u64 16 (F.dg (mm P.2 P.2)), 33), (n3, vals .u64 16 (F.dg (mm P.1 P.1)), 33), (n1, rp P, 35)] := hO
  go_upto_region 3 with (fail)
  refine f24r3_r (fun _ _ _ _ _ h => h) hO 1 rfl 0 rfl (rof_c 1 (by omega)) rd_c (rmul_c _ _ (mm_lt _ _) (mm_lt _ _)) (rmul_c _ _ d7_lt (mm_lt _ _)) (radd_c _ _ (of_lt (by omega)) (mm_lt _ _)) (fit_rn _) ?_
  intro n5 w4 hO
  replace hO : Own w w4 [(n5, vals .u64 16 (F.dg (am 1 (mm d7N (mm (mm P.1 P.1) (mm P.2 P.2))))), 33), (n4, vals .u64 16 (F.dg (mm P.2 P.2)), 33), (n3, vals .u64 16 (F.dg (mm P.1 P.1)), 33), (n1, rp P, 35)] := hO
  go_upto_region 4 with (fail)
  refine f24r4_r (fun _ _ _ _ _ h => h) hO 2 rfl 1 rfl 0 rfl (rsub_c _ _ (mm_lt _ _) (mm_lt _ _)) (fun a w h1 h2 => eqlN_c _ _ _ _ true (lt256 (sm_lt _ _)) (lt256 (am_lt _ _)) (decide_eq_true (on_num hP)) w rfl h1 h2) ?_
  intro w5 hO
  replace hO : Own w w5 [(n5, vals .u64 16 (F.dg (am 1 (mm d7N (mm (mm P.1 P.1) (mm P.2 P.2))))), 33), (n4, vals .u64 16 (F.dg (mm P.2 P.2)), 33), (n3, vals .u64 16 (F.dg (mm P.1 P.1)), 33), (n1, rp P, 35)] := hO
  go_wp2_with fail
  refine bodyPost_ret (v := .bool true) (results_tmp Try.results24 _ _ _) rfl ⟨rfl, hO.low⟩
def f23r0Op0 : Oper := ⟨some 1, .box 35 (.tmp 0), 0, "ref.go:46", #[], none⟩
def f23r0Op1 : Oper := ⟨some 2, .alloc 22, 0, "ref.go:46", #[], none⟩
def f23r0Ops : Array Oper := #[f23r0Op0, f23r0Op1]
set_option maxRecDepth 100000 in
set_option maxHeartbeats 2000000 in
theorem f23r0_r {Q : Exit → Act → World → Prop} {u w : World} {L : List Row} {z1 z2 : Value} {zz : List Value} {e0 : Array Value} (hO : Own u w L) (fe0_35 : Fit 35 e0) (H : ∀ (n1 : Nat) (n2 : Nat) (w' : World), Own u w' ((n2, vals .u8 32 (fun _ => 0), 22) :: (n1, e0, 35) :: L) → Q .normal { tmps := List.toArray ((.agg e0) :: (.pointer (some ⟨n1, 0, none⟩)) :: (.pointer (some ⟨n2, 0, none⟩)) :: zz), defers := [] } w') :
    (Code.region 0 f23r0Ops false).wp Try.prog Q { tmps := List.toArray ((.agg e0) :: z1 :: z2 :: zz), defers := [] } w := by
  refine wp_region_list (show wpList _ f23r0Ops _ [f23r0Op0, f23r0Op1] _ _ from ?_)
  refine l_new hO (e0) 35 (run_box 35 _ rfl _ (by kernel_rfl)) fe0_35 ?_
  intro n1 w1 hO
  refine l_new hO (vals .u8 32 (fun _ => 0)) 22 (al22 rfl) (fit_by _) ?_
  intro n2 w2 hO
  exact l_fr _ (wpList_nil (H n1 n2 _ hO))
def f23r1Op0 : Oper := ⟨some 4, .fieldAddr 35 (.tmp 1) 1, 0, "ref.go:47", #[], none⟩
def f23r1Op1 : Oper := ⟨some 5, .load 33 (.tmp 4), 33, "ref.go:47", #[⟨0, .data⟩], none⟩
def f23r1Op2 : Oper := ⟨some 6, .call { callee := .value (.func 17), args := #[.tmp 5], argTypes := #[33] }, 22, "ref.go:47", #[⟨1, .data⟩], none⟩
def f23r1Op3 : Oper := ⟨some 3, .alloc 22, 0, "ref.go:47", #[], none⟩
def f23r1Op4 : Oper := ⟨none, .store 22 (.tmp 3) (.tmp 6), 0, "ref.go:47", #[⟨3, .data⟩, ⟨2, .data⟩, ⟨2, .chain⟩, ⟨0, .phase⟩, ⟨1, .phase⟩, ⟨2, .phase⟩, ⟨3, .phase⟩], none⟩
def f23r1Ops : Array Oper := #[f23r1Op0, f23r1Op1, f23r1Op2, f23r1Op3, f23r1Op4]
set_option maxRecDepth 100000 in
set_option maxHeartbeats 2000000 in
theorem f23r1_r {Q : Exit → Act → World → Prop} {u w : World} {L : List Row} {z0 z2 z3 z4 z5 z6 : Value} {zz : List Value} {b1 : Nat} {c1 : Array Value} {e5 e6 : Array Value} (hO : Own u w L) (i1 : Nat) (h1 : L[i1]? = some (b1, c1, 35)) (q5 : Part c1 16 33 e5) (r6 : ∀ w, Ret 17 #[.agg e5] w (.agg e6)) (fe6_22 : Fit 22 e6) (H : ∀ (n3 : Nat) (w' : World), Own u w' ((n3, e6, 22) :: L) → Q .normal { tmps := List.toArray (z0 :: (.pointer (some ⟨b1, 0, none⟩)) :: z2 :: (.pointer (some ⟨n3, 0, none⟩)) :: (.pointer (some ⟨b1, 16, none⟩)) :: (.agg e5) :: (.agg e6) :: zz), defers := [] } w') :
    (Code.region 1 f23r1Ops false).wp Try.prog Q { tmps := List.toArray (z0 :: (.pointer (some ⟨b1, 0, none⟩)) :: z2 :: z3 :: z4 :: z5 :: z6 :: zz), defers := [] } w := by
  refine wp_region_list (show wpList _ f23r1Ops _ [f23r1Op0, f23r1Op1, f23r1Op2, f23r1Op3, f23r1Op4] _ _ from ?_)
  refine l_val (.pointer (some ⟨b1, 16, none⟩)) (by kernel_rfl) ?_
  refine l_part hO 33 i1 h1 q5 Try.underlying33 ?_
  refine l_call hO 17 #[.agg e5] (.agg e6) r6 ?_
  intro w1 hO
  refine l_fr (Fr [z0, D b1, z2, z3, .pointer (some ⟨b1, 16, none⟩), A e5, A e6] zz) ?_
  refine l_new hO (vals .u8 32 (fun _ => 0)) 22 (al22 rfl) (fit_by _) ?_
  intro n3 w2 hO
  refine l_st hO 22 0 rfl e6 fe6_22 ?_
  intro w3 hO
  exact l_fr _ (wpList_nil (H n3 _ hO))
def f23r2aOp0 : Oper := ⟨some 7, .fieldAddr 35 (.tmp 1) 0, 0, "ref.go:48", #[], none⟩
def f23r2aOp1 : Oper := ⟨some 8, .indexAddr 33 (.tmp 7) (.const (.int .i64 0)), 0, "ref.go:48", #[⟨0, .data⟩], none⟩
def f23r2aOp2 : Oper := ⟨some 9, .load 24 (.tmp 8), 24, "ref.go:48", #[⟨1, .data⟩], none⟩
def f23r2aOp3 : Oper := ⟨some 10, .binOp .rem 24 (.tmp 9) (.const (.int .u64 2)) 24, 24, "ref.go:48", #[⟨2, .data⟩], none⟩
def f23r2aOp4 : Oper := ⟨some 11, .binOp .eql 24 (.tmp 10) (.const (.int .u64 1)) 24, 4, "ref.go:48", #[⟨3, .data⟩], none⟩
def f23r2aOps : Array Oper := #[f23r2aOp0, f23r2aOp1, f23r2aOp2, f23r2aOp3, f23r2aOp4]
set_option maxRecDepth 100000 in
set_option maxHeartbeats 2000000 in
theorem f23r2a_r {Q : Exit → Act → World → Prop} {u w : World} {L : List Row} {z0 z2 z3 z4 z5 z6 z7 z8 z9 z10 z11 : Value} {zz : List Value} {b1 : Nat} {c1 : Array Value} {g9 g10 : Nat} (hO : Own u w L) (i1 : Nat) (h1 : L[i1]? = some (b1, c1, 35)) (v9 : c1[0]? = some (.int .u64 ((g9 : Nat) : Int))) (k10 : ∀ (a : Act) (w : World), a.eval (.tmp 9) = .int .u64 ((g9 : Nat) : Int) → (execOp a.eval f23r2aOp3).run Try.prog w = .ok (.value (.int .u64 ((g10 : Nat) : Int))) w) (k11 : ∀ (a : Act) (w : World), a.eval (.tmp 10) = .int .u64 ((g10 : Nat) : Int) → (execOp a.eval f23r2aOp4).run Try.prog w = .ok (.value (.bool true)) w) (H : ∀ (w' : World), Own u w' (L) → Q .normal { tmps := List.toArray (z0 :: (.pointer (some ⟨b1, 0, none⟩)) :: z2 :: z3 :: z4 :: z5 :: z6 :: (.pointer (some ⟨b1, 0, none⟩)) :: (.pointer (some ⟨b1, 0, none⟩)) :: (.int .u64 ((g9 : Nat) : Int)) :: (.int .u64 ((g10 : Nat) : Int)) :: (.bool true) :: zz), defers := [] } w') :
    (Code.region 2 f23r2aOps false).wp Try.prog Q { tmps := List.toArray (z0 :: (.pointer (some ⟨b1, 0, none⟩)) :: z2 :: z3 :: z4 :: z5 :: z6 :: z7 :: z8 :: z9 :: z10 :: z11 :: zz), defers := [] } w := by
  refine wp_region_list (show wpList _ f23r2aOps _ [f23r2aOp0, f23r2aOp1, f23r2aOp2, f23r2aOp3, f23r2aOp4] _ _ from ?_)
  refine l_val (.pointer (some ⟨b1, 0, none⟩)) (by kernel_rfl) ?_
  refine l_val (.pointer (some ⟨b1, 0, none⟩)) (by kernel_rfl) ?_
  refine l_c64 hO i1 h1 v9 ?_
  refine l_fr (Fr [z0, D b1, z2, z3, z4, z5, z6, .pointer (some ⟨b1, 0, none⟩), .pointer (some ⟨b1, 0, none⟩), .int .u64 ((g9 : Nat) : Int), z10, z11] zz) ?_
  refine l_val (.int .u64 ((g10 : Nat) : Int)) (k10 _ _ (by kernel_rfl)) ?_
  refine l_val (.bool true) (k11 _ _ (by kernel_rfl)) ?_
  exact l_fr _ (wpList_nil (H  _ hO))
def f23r2bOp0 : Oper := ⟨some 7, .fieldAddr 35 (.tmp 1) 0, 0, "ref.go:48", #[], none⟩
def f23r2bOp1 : Oper := ⟨some 8, .indexAddr 33 (.tmp 7) (.const (.int .i64 0)), 0, "ref.go:48", #[⟨0, .data⟩], none⟩
def f23r2bOp2 : Oper := ⟨some 9, .load 24 (.tmp 8), 24, "ref.go:48", #[⟨1, .data⟩], none⟩
def f23r2bOp3 : Oper := ⟨some 10, .binOp .rem 24 (.tmp 9) (.const (.int .u64 2)) 24, 24, "ref.go:48", #[⟨2, .data⟩], none⟩
def f23r2bOp4 : Oper := ⟨some 11, .binOp .eql 24 (.tmp 10) (.const (.int .u64 1)) 24, 4, "ref.go:48", #[⟨3, .data⟩], none⟩
def f23r2bOps : Array Oper := #[f23r2bOp0, f23r2bOp1, f23r2bOp2, f23r2bOp3, f23r2bOp4]
set_option maxRecDepth 100000 in
set_option maxHeartbeats 2000000 in
theorem f23r2b_r {Q : Exit → Act → World → Prop} {u w : World} {L : List Row} {z0 z2 z3 z4 z5 z6 z7 z8 z9 z10 z11 : Value} {zz : List Value} {b1 : Nat} {c1 : Array Value} {g9 g10 : Nat} (hO : Own u w L) (i1 : Nat) (h1 : L[i1]? = some (b1, c1, 35)) (v9 : c1[0]? = some (.int .u64 ((g9 : Nat) : Int))) (k10 : ∀ (a : Act) (w : World), a.eval (.tmp 9) = .int .u64 ((g9 : Nat) : Int) → (execOp a.eval f23r2bOp3).run Try.prog w = .ok (.value (.int .u64 ((g10 : Nat) : Int))) w) (k11 : ∀ (a : Act) (w : World), a.eval (.tmp 10) = .int .u64 ((g10 : Nat) : Int) → (execOp a.eval f23r2bOp4).run Try.prog w = .ok (.value (.bool false)) w) (H : ∀ (w' : World), Own u w' (L) → Q .normal { tmps := List.toArray (z0 :: (.pointer (some ⟨b1, 0, none⟩)) :: z2 :: z3 :: z4 :: z5 :: z6 :: (.pointer (some ⟨b1, 0, none⟩)) :: (.pointer (some ⟨b1, 0, none⟩)) :: (.int .u64 ((g9 : Nat) : Int)) :: (.int .u64 ((g10 : Nat) : Int)) :: (.bool false) :: zz), defers := [] } w') :
    (Code.region 2 f23r2bOps false).wp Try.prog Q { tmps := List.toArray (z0 :: (.pointer (some ⟨b1, 0, none⟩)) :: z2 :: z3 :: z4 :: z5 :: z6 :: z7 :: z8 :: z9 :: z10 :: z11 :: zz), defers := [] } w := by
  refine wp_region_list (show wpList _ f23r2bOps _ [f23r2bOp0, f23r2bOp1, f23r2bOp2, f23r2bOp3, f23r2bOp4] _ _ from ?_)
  refine l_val (.pointer (some ⟨b1, 0, none⟩)) (by kernel_rfl) ?_
  refine l_val (.pointer (some ⟨b1, 0, none⟩)) (by kernel_rfl) ?_
  refine l_c64 hO i1 h1 v9 ?_
  refine l_fr (Fr [z0, D b1, z2, z3, z4, z5, z6, .pointer (some ⟨b1, 0, none⟩), .pointer (some ⟨b1, 0, none⟩), .int .u64 ((g9 : Nat) : Int), z10, z11] zz) ?_
  refine l_val (.int .u64 ((g10 : Nat) : Int)) (k10 _ _ (by kernel_rfl)) ?_
  refine l_val (.bool false) (k11 _ _ (by kernel_rfl)) ?_
  exact l_fr _ (wpList_nil (H  _ hO))
def f23r3Op0 : Oper := ⟨some 12, .indexAddr 22 (.tmp 3) (.const (.int .i64 31)), 0, "ref.go:49", #[], none⟩
def f23r3Op1 : Oper := ⟨some 13, .load 5 (.tmp 12), 5, "ref.go:49", #[⟨0, .data⟩], none⟩
def f23r3Op2 : Oper := ⟨some 14, .binOp .or 5 (.tmp 13) (.const (.int .u8 128)) 5, 5, "ref.go:49", #[⟨1, .data⟩], none⟩
def f23r3Op3 : Oper := ⟨some 15, .indexAddr 22 (.tmp 3) (.const (.int .i64 31)), 0, "ref.go:49", #[⟨0, .phase⟩, ⟨1, .phase⟩, ⟨2, .phase⟩], none⟩
def f23r3Op4 : Oper := ⟨none, .store 5 (.tmp 15) (.tmp 14), 0, "ref.go:49", #[⟨3, .data⟩, ⟨2, .data⟩, ⟨0, .phase⟩, ⟨1, .phase⟩, ⟨2, .phase⟩], none⟩
def f23r3Ops : Array Oper := #[f23r3Op0, f23r3Op1, f23r3Op2, f23r3Op3, f23r3Op4]
set_option maxRecDepth 100000 in
set_option maxHeartbeats 2000000 in
theorem f23r3_r {Q : Exit → Act → World → Prop} {u w : World} {L : List Row} {z0 z1 z2 z4 z5 z6 z7 z8 z9 z10 z11 z12 z13 z14 z15 : Value} {zz : List Value} {b3 : Nat} {c3 : Array Value} {e904 : Array Value} {g13 g14 : Nat} (hO : Own u w L) (i3 : Nat) (h3 : L[i3]? = some (b3, c3, 22)) (v13 : c3[31]? = some (.int .u8 ((g13 : Nat) : Int))) (k14 : ∀ (a : Act) (w : World), a.eval (.tmp 13) = .int .u8 ((g13 : Nat) : Int) → (execOp a.eval f23r3Op2).run Try.prog w = .ok (.value (.int .u8 ((g14 : Nat) : Int))) w) (s4 : c3.setIfInBounds 31 (.int .u8 ((g14 : Nat) : Int)) = e904) (fe904_22 : Fit 22 e904) (H : ∀ (w' : World), Own u w' ((L.set i3 (b3, e904, 22))) → Q .normal { tmps := List.toArray (z0 :: z1 :: z2 :: (.pointer (some ⟨b3, 0, none⟩)) :: z4 :: z5 :: z6 :: z7 :: z8 :: z9 :: z10 :: z11 :: (.pointer (some ⟨b3, 31, none⟩)) :: (.int .u8 ((g13 : Nat) : Int)) :: (.int .u8 ((g14 : Nat) : Int)) :: (.pointer (some ⟨b3, 31, none⟩)) :: zz), defers := [] } w') :
    (Code.region 3 f23r3Ops false).wp Try.prog Q { tmps := List.toArray (z0 :: z1 :: z2 :: (.pointer (some ⟨b3, 0, none⟩)) :: z4 :: z5 :: z6 :: z7 :: z8 :: z9 :: z10 :: z11 :: z12 :: z13 :: z14 :: z15 :: zz), defers := [] } w := by
  refine wp_region_list (show wpList _ f23r3Ops _ [f23r3Op0, f23r3Op1, f23r3Op2, f23r3Op3, f23r3Op4] _ _ from ?_)
  refine l_val (.pointer (some ⟨b3, 31, none⟩)) (by kernel_rfl) ?_
  refine l_c8 hO i3 h3 v13 ?_
  refine l_val (.int .u8 ((g14 : Nat) : Int)) (k14 _ _ (by kernel_rfl)) ?_
  refine l_fr (Fr [z0, z1, z2, D b3, z4, z5, z6, z7, z8, z9, z10, z11, .pointer (some ⟨b3, 31, none⟩), .int .u8 ((g13 : Nat) : Int), .int .u8 ((g14 : Nat) : Int), z15] zz) ?_
  refine l_val (.pointer (some ⟨b3, 31, none⟩)) (by kernel_rfl) ?_
  refine l_stc hO i3 h3 g14 v13 s4 fe904_22 ?_
  intro w1 hO
  exact l_fr _ (wpList_nil (H  _ hO))
def f23r4Op0 : Oper := ⟨some 16, .load 22 (.tmp 3), 22, "ref.go:51", #[], none⟩
def f23r4Op1 : Oper := ⟨none, .store 22 (.tmp 2) (.tmp 16), 0, "ref.go:51", #[⟨0, .data⟩, ⟨0, .phase⟩], none⟩
def f23r4Ops : Array Oper := #[f23r4Op0, f23r4Op1]
set_option maxRecDepth 100000 in
set_option maxHeartbeats 2000000 in
theorem f23r4_r {Q : Exit → Act → World → Prop} {u w : World} {L : List Row} {z0 z1 z4 z5 z6 z7 z8 z9 z10 z11 z12 z13 z14 z15 z16 : Value} {b2 b3 : Nat} {c2 c3 : Array Value} (hO : Own u w L) (i2 : Nat) (h2 : L[i2]? = some (b2, c2, 22)) (i3 : Nat) (h3 : L[i3]? = some (b3, c3, 22)) (H : ∀ (w' : World), Own u w' ((L.set i2 (b2, c3, 22))) → Q .normal { tmps := List.toArray (z0 :: z1 :: (.pointer (some ⟨b2, 0, none⟩)) :: (.pointer (some ⟨b3, 0, none⟩)) :: z4 :: z5 :: z6 :: z7 :: z8 :: z9 :: z10 :: z11 :: z12 :: z13 :: z14 :: z15 :: (.agg c3) :: []), defers := [] } w') :
    (Code.region 4 f23r4Ops false).wp Try.prog Q { tmps := List.toArray (z0 :: z1 :: (.pointer (some ⟨b2, 0, none⟩)) :: (.pointer (some ⟨b3, 0, none⟩)) :: z4 :: z5 :: z6 :: z7 :: z8 :: z9 :: z10 :: z11 :: z12 :: z13 :: z14 :: z15 :: z16 :: []), defers := [] } w := by
  refine wp_region_list (show wpList _ f23r4Ops _ [f23r4Op0, f23r4Op1] _ _ from ?_)
  have fc3_22 := hO.fits i3 h3
  refine l_ld hO 22 i3 h3 Try.underlying22 ?_
  refine l_st hO 22 i2 h2 c3 fc3_22 ?_
  intro w1 hO
  exact l_fr _ (wpList_nil (H  _ hO))
theorem rem_run23a (a : Act) (w : World) (g : Nat) (h0 : a.eval (.tmp 9) = .int .u64 ((g : Nat) : Int)) : (execOp a.eval f23r2aOp3).run Try.prog w = .ok (.value (.int .u64 ((g % 2 : Nat) : Int))) w := by
  unfold execOp f23r2aOp3
  simp only [h0]
  have e0 : a.eval (.const (.int .u64 2)) = .int .u64 2 := rfl
  have e : IntKind.u64.wrap (((g : Nat) : Int).tmod 2) = ((g % 2 : Nat) : Int) := by rw [Int.tmod_eq_emod_of_nonneg (by omega), wrap_u64']; omega
  have e2 : ((g : Nat) : Int).tmod 2 = ((g % 2 : Nat) : Int) := by rw [Int.tmod_eq_emod_of_nonneg (by omega)]; omega
  go_simp
theorem eql_run23a (a : Act) (w : World) (g : Nat) (hg : g = 1) (h0 : a.eval (.tmp 10) = .int .u64 ((g : Nat) : Int)) : (execOp a.eval f23r2aOp4).run Try.prog w = .ok (.value (.bool true)) w := by
  unfold execOp f23r2aOp4
  simp only [h0]
  have e0 : a.eval (.const (.int .u64 1)) = .int .u64 1 := rfl
  have e : (((g : Nat) : Int) == 1) = true := by rw [Bool.eq_iff_iff]; simp; omega
  go_simp
theorem rem_run23b (a : Act) (w : World) (g : Nat) (h0 : a.eval (.tmp 9) = .int .u64 ((g : Nat) : Int)) : (execOp a.eval f23r2bOp3).run Try.prog w = .ok (.value (.int .u64 ((g % 2 : Nat) : Int))) w := by
  unfold execOp f23r2bOp3
  simp only [h0]
  have e0 : a.eval (.const (.int .u64 2)) = .int .u64 2 := rfl
  have e : IntKind.u64.wrap (((g : Nat) : Int).tmod 2) = ((g % 2 : Nat) : Int) := by rw [Int.tmod_eq_emod_of_nonneg (by omega), wrap_u64']; omega
  have e2 : ((g : Nat) : Int).tmod 2 = ((g % 2 : Nat) : Int) := by rw [Int.tmod_eq_emod_of_nonneg (by omega)]; omega
  go_simp
theorem eql_run23b (a : Act) (w : World) (g : Nat) (hg : ¬ g = 1) (h0 : a.eval (.tmp 10) = .int .u64 ((g : Nat) : Int)) : (execOp a.eval f23r2bOp4).run Try.prog w = .ok (.value (.bool false)) w := by
  unfold execOp f23r2bOp4
  simp only [h0]
  have e0 : a.eval (.const (.int .u64 1)) = .int .u64 1 := rfl
  have e : (((g : Nat) : Int) == 1) = false := by rw [Bool.eq_iff_iff]; simp; omega
  go_simp
theorem or_run23 (a : Act) (w : World) (g : Nat) (hg : g < 256) (h0 : a.eval (.tmp 13) = .int .u8 ((g : Nat) : Int)) : (execOp a.eval f23r3Op2).run Try.prog w = .ok (.value (.int .u8 ((g % 128 + 128 : Nat) : Int))) w := by
  unfold execOp f23r3Op2
  simp only [h0]
  have e0 : a.eval (.const (.int .u8 128)) = .int .u8 128 := rfl
  have e := or8_128 g hg
  go_simp
set_option maxRecDepth 100000 in
set_option maxHeartbeats 4000000 in
theorem rbytes_p {P : Nat × Nat} (hP : Ok7 P) (w : World) : Ret 23 #[.agg (rp P)] w (.agg (vals .u8 32 (byt (num7 P)))) := by
  go_enter Try.func23, Try.ntmps23
  have hO := Own.start w
  go_upto_region 0 with (fail)
  refine f23r0_r hO (fit_rp _ _) ?_
  intro n1 n2 w1 hO
  replace hO : Own w w1 [(n2, vals .u8 32 (fun _ => 0), 22), (n1, rp P, 35)] := hO
  go_upto_region 1 with (fail)
  refine f23r1_r hO 1 rfl (part_rp1 _ _) (rbytes_c _) (fit_by _) ?_
  intro n3 w2 hO
  replace hO : Own w w2 [(n3, vals .u8 32 (byt P.2), 22), (n2, vals .u8 32 (fun _ => 0), 22), (n1, rp P, 35)] := hO
  have hdg := dg_zero_odd P.1
  by_cases hodd : P.1 % 2 = 1
  · skip
    have hd1 : F.dg P.1 0 % 2 = 1 := by rw [hdg]; exact hodd
    have Hd := hide hd1
    have hb := bytes_odd hP hodd
    have Hb := hide hb
    clear hd1 hdg hodd hb
    go_upto_region 2 with (fail)
    refine f23r2a_r hO 2 rfl (by kernel_rfl) (fun a w h => rem_run23a a w _ h) (fun a w h => eql_run23a a w _ Hd.out h) ?_
    intro w3 hO
    replace hO : Own w w3 [(n3, vals .u8 32 (byt P.2), 22), (n2, vals .u8 32 (fun _ => 0), 22), (n1, rp P, 35)] := hO
    go_upto_region 3 with (fail)
    refine f23r3_r hO 0 rfl (get_by _ 31 (by omega)) (fun a w h => or_run23 a w _ (byt_lt _ _) h) (set_by _ _ _) (fit_by _) ?_
    intro w4 hO
    replace hO : Own w w4 [(n3, vals .u8 32 (fun j => if j = 31 then byt P.2 31 % 128 + 128 else (byt P.2) j), 22), (n2, vals .u8 32 (fun _ => 0), 22), (n1, rp P, 35)] := hO
    rw [Hb.out] at hO
    go_upto_region 4 with (fail)
    refine f23r4_r hO 1 rfl 0 rfl ?_
    intro w5 hO
    replace hO : Own w w5 [(n3, vals .u8 32 (byt (num7 P)), 22), (n2, vals .u8 32 (byt (num7 P)), 22), (n1, rp P, 35)] := hO
    go_wp2_with fail
    refine bodyPost_ret (v := .agg (vals .u8 32 (byt (num7 P)))) (results_cell_row Try.results23 _ _ n2 22 _ (0, 0) _ rfl (hO.row 1 rfl) Try.underlying22 rfl (fit_by _).size) rfl ⟨rfl, hO.low⟩
  · skip
    have hd1 : ¬ F.dg P.1 0 % 2 = 1 := by rw [hdg]; exact hodd
    have Hd := hide hd1
    have he := bytes_even hodd
    have He := hide he
    clear hd1 hdg hodd he
    go_upto_region 2 with (fail)
    refine f23r2b_r hO 2 rfl (by kernel_rfl) (fun a w h => rem_run23b a w _ h) (fun a w h => eql_run23b a w _ Hd.out h) ?_
    intro w3 hO
    replace hO : Own w w3 [(n3, vals .u8 32 (byt P.2), 22), (n2, vals .u8 32 (fun _ => 0), 22), (n1, rp P, 35)] := hO
    replace hO : Own w w3 [(n3, vals .u8 32 (byt (num7 P)), 22), (n2, vals .u8 32 (fun _ => 0), 22), (n1, rp P, 35)] := by rw [He.out]; exact hO
    go_upto_region 4 with (fail)
    refine f23r4_r hO 1 rfl 0 rfl ?_
    intro w4 hO
    replace hO : Own w w4 [(n3, vals .u8 32 (byt (num7 P)), 22), (n2, vals .u8 32 (byt (num7 P)), 22), (n1, rp P, 35)] := hO
    go_wp2_with fail
    refine bodyPost_ret (v := .agg (vals .u8 32 (byt (num7 P)))) (results_cell_row Try.results23 _ _ n2 22 _ (0, 0) _ rfl (hO.row 1 rfl) Try.underlying22 rfl (fit_by _).size) rfl ⟨rfl, hO.low⟩
def f60r0Op0 : Oper := ⟨some 3, .box 91 (.tmp 0), 0, "ref.go:86", #[], none⟩
def f60r0Op1 : Oper := ⟨some 4, .box 91 (.tmp 1), 0, "ref.go:86", #[], none⟩
def f60r0Op2 : Oper := ⟨some 5, .box 33 (.tmp 2), 0, "ref.go:86", #[], none⟩
def f60r0Op3 : Oper := ⟨some 6, .alloc 91, 0, "ref.go:86", #[], none⟩
def f60r0Ops : Array Oper := #[f60r0Op0, f60r0Op1, f60r0Op2, f60r0Op3]
set_option maxRecDepth 100000 in
set_option maxHeartbeats 2000000 in
theorem f60r0_r {Q : Exit → Act → World → Prop} {u w : World} {L : List Row} {z3 z4 z5 z6 : Value} {zz : List Value} {e0 e1 e2 : Array Value} (hO : Own u w L) (fe0_91 : Fit 91 e0) (fe1_91 : Fit 91 e1) (fe2_33 : Fit 33 e2) (H : ∀ (n3 : Nat) (n4 : Nat) (n5 : Nat) (n6 : Nat) (w' : World), Own u w' ((n6, qn [0, 0, 0, 0], 91) :: (n5, e2, 33) :: (n4, e1, 91) :: (n3, e0, 91) :: L) → Q .normal { tmps := List.toArray ((.agg e0) :: (.agg e1) :: (.agg e2) :: (.pointer (some ⟨n3, 0, none⟩)) :: (.pointer (some ⟨n4, 0, none⟩)) :: (.pointer (some ⟨n5, 0, none⟩)) :: (.pointer (some ⟨n6, 0, none⟩)) :: zz), defers := [] } w') :
    (Code.region 0 f60r0Ops false).wp Try.prog Q { tmps := List.toArray ((.agg e0) :: (.agg e1) :: (.agg e2) :: z3 :: z4 :: z5 :: z6 :: zz), defers := [] } w := by
  refine wp_region_list (show wpList _ f60r0Ops _ [f60r0Op0, f60r0Op1, f60r0Op2, f60r0Op3] _ _ from ?_)
  refine l_new hO (e0) 91 (run_box 91 _ rfl _ (by kernel_rfl)) fe0_91 ?_
  intro n3 w1 hO
  refine l_new hO (e1) 91 (run_box 91 _ rfl _ (by kernel_rfl)) fe1_91 ?_
  intro n4 w2 hO
  refine l_new hO (e2) 33 (run_box 33 _ rfl _ (by kernel_rfl)) fe2_33 ?_
  intro n5 w3 hO
  refine l_fr (Fr [A e0, A e1, A e2, D n3, D n4, D n5, z6] zz) ?_
  refine l_new hO (qn [0, 0, 0, 0]) 91 (al91 rfl) (fit_wd _ _ _ _) ?_
  intro n6 w4 hO
  exact l_fr _ (wpList_nil (H n3 n4 n5 n6 _ hO))
def f60r1Op0 : Oper := ⟨some 16, .fieldAddr 91 (.tmp 3) 1, 0, "ref.go:87", #[], none⟩
def f60r1Op1 : Oper := ⟨some 17, .load 33 (.tmp 16), 33, "ref.go:87", #[⟨0, .data⟩], none⟩
def f60r1Op2 : Oper := ⟨some 18, .fieldAddr 91 (.tmp 3) 0, 0, "ref.go:87", #[], none⟩
def f60r1Op3 : Oper := ⟨some 19, .load 33 (.tmp 18), 33, "ref.go:87", #[⟨2, .data⟩], none⟩
def f60r1Op4 : Oper := ⟨some 20, .call { callee := .value (.func 49), args := #[.tmp 17, .tmp 19], argTypes := #[33, 33] }, 33, "ref.go:87", #[⟨1, .data⟩, ⟨3, .data⟩], none⟩
def f60r1Op5 : Oper := ⟨some 21, .fieldAddr 91 (.tmp 4) 1, 0, "ref.go:87", #[], none⟩
def f60r1Op6 : Oper := ⟨some 22, .load 33 (.tmp 21), 33, "ref.go:87", #[⟨5, .data⟩], none⟩
def f60r1Op7 : Oper := ⟨some 23, .fieldAddr 91 (.tmp 4) 0, 0, "ref.go:87", #[], none⟩
def f60r1Op8 : Oper := ⟨some 24, .load 33 (.tmp 23), 33, "ref.go:87", #[⟨7, .data⟩], none⟩
def f60r1Op9 : Oper := ⟨some 25, .call { callee := .value (.func 49), args := #[.tmp 22, .tmp 24], argTypes := #[33, 33] }, 33, "ref.go:87", #[⟨6, .data⟩, ⟨8, .data⟩, ⟨4, .chain⟩], none⟩
def f60r1Op10 : Oper := ⟨some 26, .call { callee := .value (.func 48), args := #[.tmp 20, .tmp 25], argTypes := #[33, 33] }, 33, "ref.go:87", #[⟨4, .data⟩, ⟨9, .data⟩, ⟨9, .chain⟩], none⟩
def f60r1Op11 : Oper := ⟨some 7, .alloc 33, 0, "ref.go:87", #[], none⟩
def f60r1Op12 : Oper := ⟨none, .store 33 (.tmp 7) (.tmp 26), 0, "ref.go:87", #[⟨11, .data⟩, ⟨10, .data⟩, ⟨10, .chain⟩, ⟨0, .phase⟩, ⟨1, .phase⟩, ⟨2, .phase⟩, ⟨3, .phase⟩, ⟨4, .phase⟩, ⟨5, .phase⟩, ⟨6, .phase⟩, ⟨7, .phase⟩, ⟨8, .phase⟩, ⟨9, .phase⟩, ⟨10, .phase⟩, ⟨11, .phase⟩], none⟩
def f60r1Ops : Array Oper := #[f60r1Op0, f60r1Op1, f60r1Op2, f60r1Op3, f60r1Op4, f60r1Op5, f60r1Op6, f60r1Op7, f60r1Op8, f60r1Op9, f60r1Op10, f60r1Op11, f60r1Op12]
set_option maxRecDepth 100000 in
set_option maxHeartbeats 2000000 in
theorem f60r1_r {Q : Exit → Act → World → Prop} {u w : World} {L : List Row} {z0 z1 z2 z5 z6 z7 z8 z9 z10 z11 z12 z13 z14 z15 z16 z17 z18 z19 z20 z21 z22 z23 z24 z25 z26 : Value} {zz : List Value} {b3 b4 : Nat} {c3 c4 : Array Value} {e17 e19 e20 e22 e24 e25 e26 : Array Value} (hQ : ∀ c a w n v, Q (.panic c) (a.put (some n) v) w → Q (.panic c) a w) (hO : Own u w L) (i3 : Nat) (h3 : L[i3]? = some (b3, c3, 91)) (i4 : Nat) (h4 : L[i4]? = some (b4, c4, 91)) (q17 : Part c3 16 33 e17) (q19 : Part c3 0 33 e19) (r20 : ∀ w, Ret 49 #[.agg e17, .agg e19] w (.agg e20)) (q22 : Part c4 16 33 e22) (q24 : Part c4 0 33 e24) (r25 : ∀ w, Ret 49 #[.agg e22, .agg e24] w (.agg e25)) (r26 : ∀ w, Ret 48 #[.agg e20, .agg e25] w (.agg e26)) (fe26_33 : Fit 33 e26) (H : ∀ (n7 : Nat) (w' : World), Own u w' ((n7, e26, 33) :: L) → Q .normal { tmps := List.toArray (z0 :: z1 :: z2 :: (.pointer (some ⟨b3, 0, none⟩)) :: (.pointer (some ⟨b4, 0, none⟩)) :: z5 :: z6 :: (.pointer (some ⟨n7, 0, none⟩)) :: z8 :: z9 :: z10 :: z11 :: z12 :: z13 :: z14 :: z15 :: (.pointer (some ⟨b3, 16, none⟩)) :: (.agg e17) :: (.pointer (some ⟨b3, 0, none⟩)) :: (.agg e19) :: (.agg e20) :: (.pointer (some ⟨b4, 16, none⟩)) :: (.agg e22) :: (.pointer (some ⟨b4, 0, none⟩)) :: (.agg e24) :: (.agg e25) :: (.agg e26) :: zz), defers := [] } w') :
    (Code.region 1 f60r1Ops true).wp Try.prog Q { tmps := List.toArray (z0 :: z1 :: z2 :: (.pointer (some ⟨b3, 0, none⟩)) :: (.pointer (some ⟨b4, 0, none⟩)) :: z5 :: z6 :: z7 :: z8 :: z9 :: z10 :: z11 :: z12 :: z13 :: z14 :: z15 :: z16 :: z17 :: z18 :: z19 :: z20 :: z21 :: z22 :: z23 :: z24 :: z25 :: z26 :: zz), defers := [] } w := by
  have s0 : ∀ (n7 : Nat) (w : World), Own u w ((n7, vals .u64 16 (F.dg 0), 33) :: L) → wpAnyH Try.prog .any f60r1Ops Q (Has [(b3, c3, 91), (b4, c4, 91)]) 1 (ls 13 4095) (Fr [z0, z1, z2, D b3, D b4, z5, z6, D n7, z8, z9, z10, z11, z12, z13, z14, z15, .pointer (some ⟨b3, 16, none⟩), A e17, .pointer (some ⟨b3, 0, none⟩), A e19, A e20, .pointer (some ⟨b4, 16, none⟩), A e22, .pointer (some ⟨b4, 0, none⟩), A e24, A e25, A e26] zz) w := by
    intro n7 w hO
    refine d_one 12 f60r1Op12 (ls 13 8191) (fun K hK => ?_)
    refine k_st hK hO 33 0 rfl e26 fe26_33 (fun _ hO => ⟨hO.row _ (gs h3), hO.row _ (gs h4), trivial⟩) ?_
    intro w1 hO
    exact wpAnyH_done (by kernel_rfl) (H n7 _ hO) _
  have s1 : ∀ (n7 : Nat) (w : World), Own u w ((n7, vals .u64 16 (F.dg 0), 33) :: L) → wpAnyH Try.prog .any f60r1Ops Q (Has [(b3, c3, 91), (b4, c4, 91)]) 2 (ls 13 3071) (Fr [z0, z1, z2, D b3, D b4, z5, z6, D n7, z8, z9, z10, z11, z12, z13, z14, z15, .pointer (some ⟨b3, 16, none⟩), A e17, .pointer (some ⟨b3, 0, none⟩), A e19, A e20, .pointer (some ⟨b4, 16, none⟩), A e22, .pointer (some ⟨b4, 0, none⟩), A e24, A e25, z26] zz) w := by
    intro n7 w hO
    refine d_one 10 f60r1Op10 (ls 13 4095) (fun K hK => ?_)
    refine k_call hK hO (fun _ hO => ⟨hO.row _ (gs h3), hO.row _ (gs h4), trivial⟩) 48 #[.agg e20, .agg e25] (.agg e26) r26 ?_
    intro w2 hO
    exact d_fr _ _ (s0 n7 _ hO)
  have s2 : ∀ (n7 : Nat) (w : World), Own u w ((n7, vals .u64 16 (F.dg 0), 33) :: L) → wpAnyH Try.prog .any f60r1Ops Q (Has [(b3, c3, 91), (b4, c4, 91)]) 3 (ls 13 2559) (Fr [z0, z1, z2, D b3, D b4, z5, z6, D n7, z8, z9, z10, z11, z12, z13, z14, z15, .pointer (some ⟨b3, 16, none⟩), A e17, .pointer (some ⟨b3, 0, none⟩), A e19, A e20, .pointer (some ⟨b4, 16, none⟩), A e22, .pointer (some ⟨b4, 0, none⟩), A e24, z25, z26] zz) w := by
    intro n7 w hO
    refine d_one 9 f60r1Op9 (ls 13 3071) (fun K hK => ?_)
    refine k_call hK hO (fun _ hO => ⟨hO.row _ (gs h3), hO.row _ (gs h4), trivial⟩) 49 #[.agg e22, .agg e24] (.agg e25) r25 ?_
    intro w3 hO
    exact d_fr _ _ (s1 n7 _ hO)
  refine wp_region_held_drew (S := Has [(b3, c3, 91), (b4, c4, 91)]) (by kernel_rfl) ⟨hO.drew.row _ h3, hO.drew.row _ h4, trivial⟩ (fun hS => ?_)
  replace hO := hO.drew
  refine d_tk 0 f60r1Op0 (.pointer (some ⟨b3, 16, none⟩)) hQ (y_val (fun _ => by kernel_rfl)) hS ?_
  refine d_tk 1 f60r1Op1 (.agg e17) hQ (y_p 33 (fun _ h => h.1) q17 Try.underlying33) hS ?_
  refine d_tk 2 f60r1Op2 (.pointer (some ⟨b3, 0, none⟩)) hQ (y_val (fun _ => by kernel_rfl)) hS ?_
  refine d_fr (ls 13 7) (Fr [z0, z1, z2, D b3, D b4, z5, z6, z7, z8, z9, z10, z11, z12, z13, z14, z15, .pointer (some ⟨b3, 16, none⟩), A e17, .pointer (some ⟨b3, 0, none⟩), z19, z20, z21, z22, z23, z24, z25, z26] zz) ?_
  refine d_tk 3 f60r1Op3 (.agg e19) hQ (y_p 33 (fun _ h => h.1) q19 Try.underlying33) hS ?_
  refine d_tk 5 f60r1Op5 (.pointer (some ⟨b4, 16, none⟩)) hQ (y_val (fun _ => by kernel_rfl)) hS ?_
  refine d_tk 6 f60r1Op6 (.agg e22) hQ (y_p 33 (fun _ h => h.2.1) q22 Try.underlying33) hS ?_
  refine d_fr (ls 13 111) (Fr [z0, z1, z2, D b3, D b4, z5, z6, z7, z8, z9, z10, z11, z12, z13, z14, z15, .pointer (some ⟨b3, 16, none⟩), A e17, .pointer (some ⟨b3, 0, none⟩), A e19, z20, .pointer (some ⟨b4, 16, none⟩), A e22, z23, z24, z25, z26] zz) ?_
  refine d_tk 7 f60r1Op7 (.pointer (some ⟨b4, 0, none⟩)) hQ (y_val (fun _ => by kernel_rfl)) hS ?_
  refine d_tk 8 f60r1Op8 (.agg e24) hQ (y_p 33 (fun _ h => h.2.1) q24 Try.underlying33) hS ?_
  refine d_fr (ls 13 495) (Fr [z0, z1, z2, D b3, D b4, z5, z6, z7, z8, z9, z10, z11, z12, z13, z14, z15, .pointer (some ⟨b3, 16, none⟩), A e17, .pointer (some ⟨b3, 0, none⟩), A e19, z20, .pointer (some ⟨b4, 16, none⟩), A e22, .pointer (some ⟨b4, 0, none⟩), A e24, z25, z26] zz) ?_
  refine wpAnyH_ready (rs := [4, 11]) (by kernel_rfl) (by simp) ?_
  refine d_cons 4 f60r1Op4 (ls 13 511) (fun K hK => ?_) ?_
  · skip
    refine k_call hK hO (fun _ hO => ⟨hO.row _ h3, hO.row _ h4, trivial⟩) 49 #[.agg e17, .agg e19] (.agg e20) r20 ?_
    intro w4 hO
    refine wpAnyH_ready (rs := [9, 11]) (by kernel_rfl) (by simp) ?_
    refine d_cons 9 f60r1Op9 (ls 13 1023) (fun K hK => ?_) ?_
    · skip
      refine k_call hK hO (fun _ hO => ⟨hO.row _ h3, hO.row _ h4, trivial⟩) 49 #[.agg e22, .agg e24] (.agg e25) r25 ?_
      intro w5 hO
      refine wpAnyH_ready (rs := [10, 11]) (by kernel_rfl) (by simp) ?_
      refine d_cons 10 f60r1Op10 (ls 13 2047) (fun K hK => ?_) ?_
      · skip
        refine k_call hK hO (fun _ hO => ⟨hO.row _ h3, hO.row _ h4, trivial⟩) 48 #[.agg e20, .agg e25] (.agg e26) r26 ?_
        intro w6 hO
        refine d_fr (ls 13 2047) (Fr [z0, z1, z2, D b3, D b4, z5, z6, z7, z8, z9, z10, z11, z12, z13, z14, z15, .pointer (some ⟨b3, 16, none⟩), A e17, .pointer (some ⟨b3, 0, none⟩), A e19, A e20, .pointer (some ⟨b4, 16, none⟩), A e22, .pointer (some ⟨b4, 0, none⟩), A e24, A e25, A e26] zz) ?_
        refine d_one 11 f60r1Op11 (ls 13 4095) (fun K hK => ?_)
        refine k_new hK hO (vals .u64 16 (F.dg 0)) 33 (al33 rfl) (fit_rn _) (fun _ _ hO => ⟨hO.row _ (gs h3), hO.row _ (gs h4), trivial⟩) ?_
        intro n7 w7 hO
        exact d_fr _ _ (s0 n7 _ hO)
      refine d_cons 11 f60r1Op11 (ls 13 3071) (fun K hK => ?_) ?_
      · skip
        refine k_new hK hO (vals .u64 16 (F.dg 0)) 33 (al33 rfl) (fit_rn _) (fun _ _ hO => ⟨hO.row _ (gs h3), hO.row _ (gs h4), trivial⟩) ?_
        intro n7 w8 hO
        exact d_fr _ _ (s1 n7 _ hO)
      exact AllReadyH.nil
    refine d_cons 11 f60r1Op11 (ls 13 2559) (fun K hK => ?_) ?_
    · skip
      refine k_new hK hO (vals .u64 16 (F.dg 0)) 33 (al33 rfl) (fit_rn _) (fun _ _ hO => ⟨hO.row _ (gs h3), hO.row _ (gs h4), trivial⟩) ?_
      intro n7 w9 hO
      exact d_fr _ _ (s2 n7 _ hO)
    exact AllReadyH.nil
  refine d_cons 11 f60r1Op11 (ls 13 2543) (fun K hK => ?_) ?_
  · skip
    refine k_new hK hO (vals .u64 16 (F.dg 0)) 33 (al33 rfl) (fit_rn _) (fun _ _ hO => ⟨hO.row _ (gs h3), hO.row _ (gs h4), trivial⟩) ?_
    intro n7 w10 hO
    refine d_one 4 f60r1Op4 (ls 13 2559) (fun K hK => ?_)
    refine k_call hK hO (fun _ hO => ⟨hO.row _ (gs h3), hO.row _ (gs h4), trivial⟩) 49 #[.agg e17, .agg e19] (.agg e20) r20 ?_
    intro w11 hO
    exact d_fr _ _ (s2 n7 _ hO)
  exact AllReadyH.nil
def f60r2Op0 : Oper := ⟨some 27, .fieldAddr 91 (.tmp 3) 1, 0, "ref.go:88", #[], none⟩
def f60r2Op1 : Oper := ⟨some 28, .load 33 (.tmp 27), 33, "ref.go:88", #[⟨0, .data⟩], none⟩
def f60r2Op2 : Oper := ⟨some 29, .fieldAddr 91 (.tmp 3) 0, 0, "ref.go:88", #[], none⟩
def f60r2Op3 : Oper := ⟨some 30, .load 33 (.tmp 29), 33, "ref.go:88", #[⟨2, .data⟩], none⟩
def f60r2Op4 : Oper := ⟨some 31, .call { callee := .value (.func 51), args := #[.tmp 28, .tmp 30], argTypes := #[33, 33] }, 33, "ref.go:88", #[⟨1, .data⟩, ⟨3, .data⟩], none⟩
def f60r2Op5 : Oper := ⟨some 32, .fieldAddr 91 (.tmp 4) 1, 0, "ref.go:88", #[], none⟩
def f60r2Op6 : Oper := ⟨some 33, .load 33 (.tmp 32), 33, "ref.go:88", #[⟨5, .data⟩], none⟩
def f60r2Op7 : Oper := ⟨some 34, .fieldAddr 91 (.tmp 4) 0, 0, "ref.go:88", #[], none⟩
def f60r2Op8 : Oper := ⟨some 35, .load 33 (.tmp 34), 33, "ref.go:88", #[⟨7, .data⟩], none⟩
def f60r2Op9 : Oper := ⟨some 36, .call { callee := .value (.func 51), args := #[.tmp 33, .tmp 35], argTypes := #[33, 33] }, 33, "ref.go:88", #[⟨6, .data⟩, ⟨8, .data⟩, ⟨4, .chain⟩], none⟩
def f60r2Op10 : Oper := ⟨some 37, .call { callee := .value (.func 48), args := #[.tmp 31, .tmp 36], argTypes := #[33, 33] }, 33, "ref.go:88", #[⟨4, .data⟩, ⟨9, .data⟩, ⟨9, .chain⟩], none⟩
def f60r2Op11 : Oper := ⟨some 8, .alloc 33, 0, "ref.go:88", #[], none⟩
def f60r2Op12 : Oper := ⟨none, .store 33 (.tmp 8) (.tmp 37), 0, "ref.go:88", #[⟨11, .data⟩, ⟨10, .data⟩, ⟨10, .chain⟩, ⟨0, .phase⟩, ⟨1, .phase⟩, ⟨2, .phase⟩, ⟨3, .phase⟩, ⟨4, .phase⟩, ⟨5, .phase⟩, ⟨6, .phase⟩, ⟨7, .phase⟩, ⟨8, .phase⟩, ⟨9, .phase⟩, ⟨10, .phase⟩, ⟨11, .phase⟩], none⟩
def f60r2Ops : Array Oper := #[f60r2Op0, f60r2Op1, f60r2Op2, f60r2Op3, f60r2Op4, f60r2Op5, f60r2Op6, f60r2Op7, f60r2Op8, f60r2Op9, f60r2Op10, f60r2Op11, f60r2Op12]
set_option maxRecDepth 100000 in
set_option maxHeartbeats 2000000 in
theorem f60r2_r {Q : Exit → Act → World → Prop} {u w : World} {L : List Row} {z0 z1 z2 z5 z6 z7 z8 z9 z10 z11 z12 z13 z14 z15 z16 z17 z18 z19 z20 z21 z22 z23 z24 z25 z26 z27 z28 z29 z30 z31 z32 z33 z34 z35 z36 z37 : Value} {zz : List Value} {b3 b4 : Nat} {c3 c4 : Array Value} {e28 e30 e31 e33 e35 e36 e37 : Array Value} (hQ : ∀ c a w n v, Q (.panic c) (a.put (some n) v) w → Q (.panic c) a w) (hO : Own u w L) (i3 : Nat) (h3 : L[i3]? = some (b3, c3, 91)) (i4 : Nat) (h4 : L[i4]? = some (b4, c4, 91)) (q28 : Part c3 16 33 e28) (q30 : Part c3 0 33 e30) (r31 : ∀ w, Ret 51 #[.agg e28, .agg e30] w (.agg e31)) (q33 : Part c4 16 33 e33) (q35 : Part c4 0 33 e35) (r36 : ∀ w, Ret 51 #[.agg e33, .agg e35] w (.agg e36)) (r37 : ∀ w, Ret 48 #[.agg e31, .agg e36] w (.agg e37)) (fe37_33 : Fit 33 e37) (H : ∀ (n8 : Nat) (w' : World), Own u w' ((n8, e37, 33) :: L) → Q .normal { tmps := List.toArray (z0 :: z1 :: z2 :: (.pointer (some ⟨b3, 0, none⟩)) :: (.pointer (some ⟨b4, 0, none⟩)) :: z5 :: z6 :: z7 :: (.pointer (some ⟨n8, 0, none⟩)) :: z9 :: z10 :: z11 :: z12 :: z13 :: z14 :: z15 :: z16 :: z17 :: z18 :: z19 :: z20 :: z21 :: z22 :: z23 :: z24 :: z25 :: z26 :: (.pointer (some ⟨b3, 16, none⟩)) :: (.agg e28) :: (.pointer (some ⟨b3, 0, none⟩)) :: (.agg e30) :: (.agg e31) :: (.pointer (some ⟨b4, 16, none⟩)) :: (.agg e33) :: (.pointer (some ⟨b4, 0, none⟩)) :: (.agg e35) :: (.agg e36) :: (.agg e37) :: zz), defers := [] } w') :
    (Code.region 2 f60r2Ops true).wp Try.prog Q { tmps := List.toArray (z0 :: z1 :: z2 :: (.pointer (some ⟨b3, 0, none⟩)) :: (.pointer (some ⟨b4, 0, none⟩)) :: z5 :: z6 :: z7 :: z8 :: z9 :: z10 :: z11 :: z12 :: z13 :: z14 :: z15 :: z16 :: z17 :: z18 :: z19 :: z20 :: z21 :: z22 :: z23 :: z24 :: z25 :: z26 :: z27 :: z28 :: z29 :: z30 :: z31 :: z32 :: z33 :: z34 :: z35 :: z36 :: z37 :: zz), defers := [] } w := by
  have s0 : ∀ (n8 : Nat) (w : World), Own u w ((n8, vals .u64 16 (F.dg 0), 33) :: L) → wpAnyH Try.prog .any f60r2Ops Q (Has [(b3, c3, 91), (b4, c4, 91)]) 1 (ls 13 4095) (Fr [z0, z1, z2, D b3, D b4, z5, z6, z7, D n8, z9, z10, z11, z12, z13, z14, z15, z16, z17, z18, z19, z20, z21, z22, z23, z24, z25, z26, .pointer (some ⟨b3, 16, none⟩), A e28, .pointer (some ⟨b3, 0, none⟩), A e30, A e31, .pointer (some ⟨b4, 16, none⟩), A e33, .pointer (some ⟨b4, 0, none⟩), A e35, A e36, A e37] zz) w := by
    intro n8 w hO
    refine d_one 12 f60r2Op12 (ls 13 8191) (fun K hK => ?_)
    refine k_st hK hO 33 0 rfl e37 fe37_33 (fun _ hO => ⟨hO.row _ (gs h3), hO.row _ (gs h4), trivial⟩) ?_
    intro w1 hO
    exact wpAnyH_done (by kernel_rfl) (H n8 _ hO) _
  have s1 : ∀ (n8 : Nat) (w : World), Own u w ((n8, vals .u64 16 (F.dg 0), 33) :: L) → wpAnyH Try.prog .any f60r2Ops Q (Has [(b3, c3, 91), (b4, c4, 91)]) 2 (ls 13 3071) (Fr [z0, z1, z2, D b3, D b4, z5, z6, z7, D n8, z9, z10, z11, z12, z13, z14, z15, z16, z17, z18, z19, z20, z21, z22, z23, z24, z25, z26, .pointer (some ⟨b3, 16, none⟩), A e28, .pointer (some ⟨b3, 0, none⟩), A e30, A e31, .pointer (some ⟨b4, 16, none⟩), A e33, .pointer (some ⟨b4, 0, none⟩), A e35, A e36, z37] zz) w := by
    intro n8 w hO
    refine d_one 10 f60r2Op10 (ls 13 4095) (fun K hK => ?_)
    refine k_call hK hO (fun _ hO => ⟨hO.row _ (gs h3), hO.row _ (gs h4), trivial⟩) 48 #[.agg e31, .agg e36] (.agg e37) r37 ?_
    intro w2 hO
    exact d_fr _ _ (s0 n8 _ hO)
  have s2 : ∀ (n8 : Nat) (w : World), Own u w ((n8, vals .u64 16 (F.dg 0), 33) :: L) → wpAnyH Try.prog .any f60r2Ops Q (Has [(b3, c3, 91), (b4, c4, 91)]) 3 (ls 13 2559) (Fr [z0, z1, z2, D b3, D b4, z5, z6, z7, D n8, z9, z10, z11, z12, z13, z14, z15, z16, z17, z18, z19, z20, z21, z22, z23, z24, z25, z26, .pointer (some ⟨b3, 16, none⟩), A e28, .pointer (some ⟨b3, 0, none⟩), A e30, A e31, .pointer (some ⟨b4, 16, none⟩), A e33, .pointer (some ⟨b4, 0, none⟩), A e35, z36, z37] zz) w := by
    intro n8 w hO
    refine d_one 9 f60r2Op9 (ls 13 3071) (fun K hK => ?_)
    refine k_call hK hO (fun _ hO => ⟨hO.row _ (gs h3), hO.row _ (gs h4), trivial⟩) 51 #[.agg e33, .agg e35] (.agg e36) r36 ?_
    intro w3 hO
    exact d_fr _ _ (s1 n8 _ hO)
  refine wp_region_held_drew (S := Has [(b3, c3, 91), (b4, c4, 91)]) (by kernel_rfl) ⟨hO.drew.row _ h3, hO.drew.row _ h4, trivial⟩ (fun hS => ?_)
  replace hO := hO.drew
  refine d_tk 0 f60r2Op0 (.pointer (some ⟨b3, 16, none⟩)) hQ (y_val (fun _ => by kernel_rfl)) hS ?_
  refine d_tk 1 f60r2Op1 (.agg e28) hQ (y_p 33 (fun _ h => h.1) q28 Try.underlying33) hS ?_
  refine d_tk 2 f60r2Op2 (.pointer (some ⟨b3, 0, none⟩)) hQ (y_val (fun _ => by kernel_rfl)) hS ?_
  refine d_fr (ls 13 7) (Fr [z0, z1, z2, D b3, D b4, z5, z6, z7, z8, z9, z10, z11, z12, z13, z14, z15, z16, z17, z18, z19, z20, z21, z22, z23, z24, z25, z26, .pointer (some ⟨b3, 16, none⟩), A e28, .pointer (some ⟨b3, 0, none⟩), z30, z31, z32, z33, z34, z35, z36, z37] zz) ?_
  refine d_tk 3 f60r2Op3 (.agg e30) hQ (y_p 33 (fun _ h => h.1) q30 Try.underlying33) hS ?_
  refine d_tk 5 f60r2Op5 (.pointer (some ⟨b4, 16, none⟩)) hQ (y_val (fun _ => by kernel_rfl)) hS ?_
  refine d_tk 6 f60r2Op6 (.agg e33) hQ (y_p 33 (fun _ h => h.2.1) q33 Try.underlying33) hS ?_
  refine d_fr (ls 13 111) (Fr [z0, z1, z2, D b3, D b4, z5, z6, z7, z8, z9, z10, z11, z12, z13, z14, z15, z16, z17, z18, z19, z20, z21, z22, z23, z24, z25, z26, .pointer (some ⟨b3, 16, none⟩), A e28, .pointer (some ⟨b3, 0, none⟩), A e30, z31, .pointer (some ⟨b4, 16, none⟩), A e33, z34, z35, z36, z37] zz) ?_
  refine d_tk 7 f60r2Op7 (.pointer (some ⟨b4, 0, none⟩)) hQ (y_val (fun _ => by kernel_rfl)) hS ?_
  refine d_tk 8 f60r2Op8 (.agg e35) hQ (y_p 33 (fun _ h => h.2.1) q35 Try.underlying33) hS ?_
  refine d_fr (ls 13 495) (Fr [z0, z1, z2, D b3, D b4, z5, z6, z7, z8, z9, z10, z11, z12, z13, z14, z15, z16, z17, z18, z19, z20, z21, z22, z23, z24, z25, z26, .pointer (some ⟨b3, 16, none⟩), A e28, .pointer (some ⟨b3, 0, none⟩), A e30, z31, .pointer (some ⟨b4, 16, none⟩), A e33, .pointer (some ⟨b4, 0, none⟩), A e35, z36, z37] zz) ?_
  refine wpAnyH_ready (rs := [4, 11]) (by kernel_rfl) (by simp) ?_
  refine d_cons 4 f60r2Op4 (ls 13 511) (fun K hK => ?_) ?_
  · skip
    refine k_call hK hO (fun _ hO => ⟨hO.row _ h3, hO.row _ h4, trivial⟩) 51 #[.agg e28, .agg e30] (.agg e31) r31 ?_
    intro w4 hO
    refine wpAnyH_ready (rs := [9, 11]) (by kernel_rfl) (by simp) ?_
    refine d_cons 9 f60r2Op9 (ls 13 1023) (fun K hK => ?_) ?_
    · skip
      refine k_call hK hO (fun _ hO => ⟨hO.row _ h3, hO.row _ h4, trivial⟩) 51 #[.agg e33, .agg e35] (.agg e36) r36 ?_
      intro w5 hO
      refine wpAnyH_ready (rs := [10, 11]) (by kernel_rfl) (by simp) ?_
      refine d_cons 10 f60r2Op10 (ls 13 2047) (fun K hK => ?_) ?_
      · skip
        refine k_call hK hO (fun _ hO => ⟨hO.row _ h3, hO.row _ h4, trivial⟩) 48 #[.agg e31, .agg e36] (.agg e37) r37 ?_
        intro w6 hO
        refine d_fr (ls 13 2047) (Fr [z0, z1, z2, D b3, D b4, z5, z6, z7, z8, z9, z10, z11, z12, z13, z14, z15, z16, z17, z18, z19, z20, z21, z22, z23, z24, z25, z26, .pointer (some ⟨b3, 16, none⟩), A e28, .pointer (some ⟨b3, 0, none⟩), A e30, A e31, .pointer (some ⟨b4, 16, none⟩), A e33, .pointer (some ⟨b4, 0, none⟩), A e35, A e36, A e37] zz) ?_
        refine d_one 11 f60r2Op11 (ls 13 4095) (fun K hK => ?_)
        refine k_new hK hO (vals .u64 16 (F.dg 0)) 33 (al33 rfl) (fit_rn _) (fun _ _ hO => ⟨hO.row _ (gs h3), hO.row _ (gs h4), trivial⟩) ?_
        intro n8 w7 hO
        exact d_fr _ _ (s0 n8 _ hO)
      refine d_cons 11 f60r2Op11 (ls 13 3071) (fun K hK => ?_) ?_
      · skip
        refine k_new hK hO (vals .u64 16 (F.dg 0)) 33 (al33 rfl) (fit_rn _) (fun _ _ hO => ⟨hO.row _ (gs h3), hO.row _ (gs h4), trivial⟩) ?_
        intro n8 w8 hO
        exact d_fr _ _ (s1 n8 _ hO)
      exact AllReadyH.nil
    refine d_cons 11 f60r2Op11 (ls 13 2559) (fun K hK => ?_) ?_
    · skip
      refine k_new hK hO (vals .u64 16 (F.dg 0)) 33 (al33 rfl) (fit_rn _) (fun _ _ hO => ⟨hO.row _ (gs h3), hO.row _ (gs h4), trivial⟩) ?_
      intro n8 w9 hO
      exact d_fr _ _ (s2 n8 _ hO)
    exact AllReadyH.nil
  refine d_cons 11 f60r2Op11 (ls 13 2543) (fun K hK => ?_) ?_
  · skip
    refine k_new hK hO (vals .u64 16 (F.dg 0)) 33 (al33 rfl) (fit_rn _) (fun _ _ hO => ⟨hO.row _ (gs h3), hO.row _ (gs h4), trivial⟩) ?_
    intro n8 w10 hO
    refine d_one 4 f60r2Op4 (ls 13 2559) (fun K hK => ?_)
    refine k_call hK hO (fun _ hO => ⟨hO.row _ (gs h3), hO.row _ (gs h4), trivial⟩) 51 #[.agg e28, .agg e30] (.agg e31) r31 ?_
    intro w11 hO
    exact d_fr _ _ (s2 n8 _ hO)
  exact AllReadyH.nil
def f60r3Op0 : Oper := ⟨some 38, .fieldAddr 91 (.tmp 3) 3, 0, "ref.go:89", #[], none⟩
def f60r3Op1 : Oper := ⟨some 39, .load 33 (.tmp 38), 33, "ref.go:89", #[⟨0, .data⟩], none⟩
def f60r3Op2 : Oper := ⟨some 40, .load 33 (.tmp 5), 33, "ref.go:89", #[], none⟩
def f60r3Op3 : Oper := ⟨some 41, .call { callee := .value (.func 48), args := #[.tmp 39, .tmp 40], argTypes := #[33, 33] }, 33, "ref.go:89", #[⟨1, .data⟩, ⟨2, .data⟩], none⟩
def f60r3Op4 : Oper := ⟨some 42, .fieldAddr 91 (.tmp 4) 3, 0, "ref.go:89", #[], none⟩
def f60r3Op5 : Oper := ⟨some 43, .load 33 (.tmp 42), 33, "ref.go:89", #[⟨4, .data⟩], none⟩
def f60r3Op6 : Oper := ⟨some 44, .call { callee := .value (.func 48), args := #[.tmp 41, .tmp 43], argTypes := #[33, 33] }, 33, "ref.go:89", #[⟨3, .data⟩, ⟨5, .data⟩, ⟨3, .chain⟩], none⟩
def f60r3Op7 : Oper := ⟨some 9, .alloc 33, 0, "ref.go:89", #[], none⟩
def f60r3Op8 : Oper := ⟨none, .store 33 (.tmp 9) (.tmp 44), 0, "ref.go:89", #[⟨7, .data⟩, ⟨6, .data⟩, ⟨6, .chain⟩, ⟨0, .phase⟩, ⟨1, .phase⟩, ⟨2, .phase⟩, ⟨3, .phase⟩, ⟨4, .phase⟩, ⟨5, .phase⟩, ⟨6, .phase⟩, ⟨7, .phase⟩], none⟩
def f60r3Ops : Array Oper := #[f60r3Op0, f60r3Op1, f60r3Op2, f60r3Op3, f60r3Op4, f60r3Op5, f60r3Op6, f60r3Op7, f60r3Op8]
set_option maxRecDepth 100000 in
set_option maxHeartbeats 2000000 in
theorem f60r3_r {Q : Exit → Act → World → Prop} {u w : World} {L : List Row} {z0 z1 z2 z6 z7 z8 z9 z10 z11 z12 z13 z14 z15 z16 z17 z18 z19 z20 z21 z22 z23 z24 z25 z26 z27 z28 z29 z30 z31 z32 z33 z34 z35 z36 z37 z38 z39 z40 z41 z42 z43 z44 : Value} {zz : List Value} {b3 b4 b5 : Nat} {c3 c4 c5 : Array Value} {e39 e41 e43 e44 : Array Value} (hQ : ∀ c a w n v, Q (.panic c) (a.put (some n) v) w → Q (.panic c) a w) (hO : Own u w L) (i3 : Nat) (h3 : L[i3]? = some (b3, c3, 91)) (i4 : Nat) (h4 : L[i4]? = some (b4, c4, 91)) (i5 : Nat) (h5 : L[i5]? = some (b5, c5, 33)) (q39 : Part c3 48 33 e39) (r41 : ∀ w, Ret 48 #[.agg e39, .agg c5] w (.agg e41)) (q43 : Part c4 48 33 e43) (r44 : ∀ w, Ret 48 #[.agg e41, .agg e43] w (.agg e44)) (fe44_33 : Fit 33 e44) (H : ∀ (n9 : Nat) (w' : World), Own u w' ((n9, e44, 33) :: L) → Q .normal { tmps := List.toArray (z0 :: z1 :: z2 :: (.pointer (some ⟨b3, 0, none⟩)) :: (.pointer (some ⟨b4, 0, none⟩)) :: (.pointer (some ⟨b5, 0, none⟩)) :: z6 :: z7 :: z8 :: (.pointer (some ⟨n9, 0, none⟩)) :: z10 :: z11 :: z12 :: z13 :: z14 :: z15 :: z16 :: z17 :: z18 :: z19 :: z20 :: z21 :: z22 :: z23 :: z24 :: z25 :: z26 :: z27 :: z28 :: z29 :: z30 :: z31 :: z32 :: z33 :: z34 :: z35 :: z36 :: z37 :: (.pointer (some ⟨b3, 48, none⟩)) :: (.agg e39) :: (.agg c5) :: (.agg e41) :: (.pointer (some ⟨b4, 48, none⟩)) :: (.agg e43) :: (.agg e44) :: zz), defers := [] } w') :
    (Code.region 3 f60r3Ops true).wp Try.prog Q { tmps := List.toArray (z0 :: z1 :: z2 :: (.pointer (some ⟨b3, 0, none⟩)) :: (.pointer (some ⟨b4, 0, none⟩)) :: (.pointer (some ⟨b5, 0, none⟩)) :: z6 :: z7 :: z8 :: z9 :: z10 :: z11 :: z12 :: z13 :: z14 :: z15 :: z16 :: z17 :: z18 :: z19 :: z20 :: z21 :: z22 :: z23 :: z24 :: z25 :: z26 :: z27 :: z28 :: z29 :: z30 :: z31 :: z32 :: z33 :: z34 :: z35 :: z36 :: z37 :: z38 :: z39 :: z40 :: z41 :: z42 :: z43 :: z44 :: zz), defers := [] } w := by
  have fc5_33 := hO.fits i5 h5
  have s0 : ∀ (n9 : Nat) (w : World), Own u w ((n9, vals .u64 16 (F.dg 0), 33) :: L) → wpAnyH Try.prog .any f60r3Ops Q (Has [(b3, c3, 91), (b4, c4, 91), (b5, c5, 33)]) 1 (ls 9 255) (Fr [z0, z1, z2, D b3, D b4, D b5, z6, z7, z8, D n9, z10, z11, z12, z13, z14, z15, z16, z17, z18, z19, z20, z21, z22, z23, z24, z25, z26, z27, z28, z29, z30, z31, z32, z33, z34, z35, z36, z37, .pointer (some ⟨b3, 48, none⟩), A e39, A c5, A e41, .pointer (some ⟨b4, 48, none⟩), A e43, A e44] zz) w := by
    intro n9 w hO
    refine d_one 8 f60r3Op8 (ls 9 511) (fun K hK => ?_)
    refine k_st hK hO 33 0 rfl e44 fe44_33 (fun _ hO => ⟨hO.row _ (gs h3), hO.row _ (gs h4), hO.row _ (gs h5), trivial⟩) ?_
    intro w1 hO
    exact wpAnyH_done (by kernel_rfl) (H n9 _ hO) _
  have s1 : ∀ (n9 : Nat) (w : World), Own u w ((n9, vals .u64 16 (F.dg 0), 33) :: L) → wpAnyH Try.prog .any f60r3Ops Q (Has [(b3, c3, 91), (b4, c4, 91), (b5, c5, 33)]) 2 (ls 9 191) (Fr [z0, z1, z2, D b3, D b4, D b5, z6, z7, z8, D n9, z10, z11, z12, z13, z14, z15, z16, z17, z18, z19, z20, z21, z22, z23, z24, z25, z26, z27, z28, z29, z30, z31, z32, z33, z34, z35, z36, z37, .pointer (some ⟨b3, 48, none⟩), A e39, A c5, A e41, .pointer (some ⟨b4, 48, none⟩), A e43, z44] zz) w := by
    intro n9 w hO
    refine d_one 6 f60r3Op6 (ls 9 255) (fun K hK => ?_)
    refine k_call hK hO (fun _ hO => ⟨hO.row _ (gs h3), hO.row _ (gs h4), hO.row _ (gs h5), trivial⟩) 48 #[.agg e41, .agg e43] (.agg e44) r44 ?_
    intro w2 hO
    exact d_fr _ _ (s0 n9 _ hO)
  refine wp_region_held_drew (S := Has [(b3, c3, 91), (b4, c4, 91), (b5, c5, 33)]) (by kernel_rfl) ⟨hO.drew.row _ h3, hO.drew.row _ h4, hO.drew.row _ h5, trivial⟩ (fun hS => ?_)
  replace hO := hO.drew
  refine d_tk 0 f60r3Op0 (.pointer (some ⟨b3, 48, none⟩)) hQ (y_val (fun _ => by kernel_rfl)) hS ?_
  refine d_tk 1 f60r3Op1 (.agg e39) hQ (y_p 33 (fun _ h => h.1) q39 Try.underlying33) hS ?_
  refine d_tk 2 f60r3Op2 (.agg c5) hQ (y_l 33 (fun _ h => h.2.2.1) fc5_33 Try.underlying33) hS ?_
  refine d_fr (ls 9 7) (Fr [z0, z1, z2, D b3, D b4, D b5, z6, z7, z8, z9, z10, z11, z12, z13, z14, z15, z16, z17, z18, z19, z20, z21, z22, z23, z24, z25, z26, z27, z28, z29, z30, z31, z32, z33, z34, z35, z36, z37, .pointer (some ⟨b3, 48, none⟩), A e39, A c5, z41, z42, z43, z44] zz) ?_
  refine d_tk 4 f60r3Op4 (.pointer (some ⟨b4, 48, none⟩)) hQ (y_val (fun _ => by kernel_rfl)) hS ?_
  refine d_tk 5 f60r3Op5 (.agg e43) hQ (y_p 33 (fun _ h => h.2.1) q43 Try.underlying33) hS ?_
  refine d_fr (ls 9 55) (Fr [z0, z1, z2, D b3, D b4, D b5, z6, z7, z8, z9, z10, z11, z12, z13, z14, z15, z16, z17, z18, z19, z20, z21, z22, z23, z24, z25, z26, z27, z28, z29, z30, z31, z32, z33, z34, z35, z36, z37, .pointer (some ⟨b3, 48, none⟩), A e39, A c5, z41, .pointer (some ⟨b4, 48, none⟩), A e43, z44] zz) ?_
  refine wpAnyH_ready (rs := [3, 7]) (by kernel_rfl) (by simp) ?_
  refine d_cons 3 f60r3Op3 (ls 9 63) (fun K hK => ?_) ?_
  · skip
    refine k_call hK hO (fun _ hO => ⟨hO.row _ h3, hO.row _ h4, hO.row _ h5, trivial⟩) 48 #[.agg e39, .agg c5] (.agg e41) r41 ?_
    intro w3 hO
    refine wpAnyH_ready (rs := [6, 7]) (by kernel_rfl) (by simp) ?_
    refine d_cons 6 f60r3Op6 (ls 9 127) (fun K hK => ?_) ?_
    · skip
      refine k_call hK hO (fun _ hO => ⟨hO.row _ h3, hO.row _ h4, hO.row _ h5, trivial⟩) 48 #[.agg e41, .agg e43] (.agg e44) r44 ?_
      intro w4 hO
      refine d_one 7 f60r3Op7 (ls 9 255) (fun K hK => ?_)
      refine k_new hK hO (vals .u64 16 (F.dg 0)) 33 (al33 rfl) (fit_rn _) (fun _ _ hO => ⟨hO.row _ (gs h3), hO.row _ (gs h4), hO.row _ (gs h5), trivial⟩) ?_
      intro n9 w5 hO
      exact d_fr _ _ (s0 n9 _ hO)
    refine d_cons 7 f60r3Op7 (ls 9 191) (fun K hK => ?_) ?_
    · skip
      refine k_new hK hO (vals .u64 16 (F.dg 0)) 33 (al33 rfl) (fit_rn _) (fun _ _ hO => ⟨hO.row _ (gs h3), hO.row _ (gs h4), hO.row _ (gs h5), trivial⟩) ?_
      intro n9 w6 hO
      exact d_fr _ _ (s1 n9 _ hO)
    exact AllReadyH.nil
  refine d_cons 7 f60r3Op7 (ls 9 183) (fun K hK => ?_) ?_
  · skip
    refine k_new hK hO (vals .u64 16 (F.dg 0)) 33 (al33 rfl) (fit_rn _) (fun _ _ hO => ⟨hO.row _ (gs h3), hO.row _ (gs h4), hO.row _ (gs h5), trivial⟩) ?_
    intro n9 w7 hO
    refine d_one 3 f60r3Op3 (ls 9 191) (fun K hK => ?_)
    refine k_call hK hO (fun _ hO => ⟨hO.row _ (gs h3), hO.row _ (gs h4), hO.row _ (gs h5), trivial⟩) 48 #[.agg e39, .agg c5] (.agg e41) r41 ?_
    intro w8 hO
    exact d_fr _ _ (s1 n9 _ hO)
  exact AllReadyH.nil
def f60r4Op0 : Oper := ⟨some 45, .fieldAddr 91 (.tmp 3) 2, 0, "ref.go:90", #[], none⟩
def f60r4Op1 : Oper := ⟨some 46, .load 33 (.tmp 45), 33, "ref.go:90", #[⟨0, .data⟩], none⟩
def f60r4Op2 : Oper := ⟨some 47, .fieldAddr 91 (.tmp 4) 2, 0, "ref.go:90", #[], none⟩
def f60r4Op3 : Oper := ⟨some 48, .load 33 (.tmp 47), 33, "ref.go:90", #[⟨2, .data⟩], none⟩
def f60r4Op4 : Oper := ⟨some 49, .call { callee := .value (.func 48), args := #[.tmp 46, .tmp 48], argTypes := #[33, 33] }, 33, "ref.go:90", #[⟨1, .data⟩, ⟨3, .data⟩], none⟩
def f60r4Op5 : Oper := ⟨some 10, .alloc 33, 0, "ref.go:90", #[], none⟩
def f60r4Op6 : Oper := ⟨none, .store 33 (.tmp 10) (.tmp 49), 0, "ref.go:90", #[⟨5, .data⟩, ⟨4, .data⟩, ⟨4, .chain⟩, ⟨0, .phase⟩, ⟨1, .phase⟩, ⟨2, .phase⟩, ⟨3, .phase⟩, ⟨4, .phase⟩, ⟨5, .phase⟩], none⟩
def f60r4Ops : Array Oper := #[f60r4Op0, f60r4Op1, f60r4Op2, f60r4Op3, f60r4Op4, f60r4Op5, f60r4Op6]
set_option maxRecDepth 100000 in
set_option maxHeartbeats 2000000 in
theorem f60r4_r {Q : Exit → Act → World → Prop} {u w : World} {L : List Row} {z0 z1 z2 z5 z6 z7 z8 z9 z10 z11 z12 z13 z14 z15 z16 z17 z18 z19 z20 z21 z22 z23 z24 z25 z26 z27 z28 z29 z30 z31 z32 z33 z34 z35 z36 z37 z38 z39 z40 z41 z42 z43 z44 z45 z46 z47 z48 z49 : Value} {zz : List Value} {b3 b4 : Nat} {c3 c4 : Array Value} {e46 e48 e49 : Array Value} (hO : Own u w L) (i3 : Nat) (h3 : L[i3]? = some (b3, c3, 91)) (i4 : Nat) (h4 : L[i4]? = some (b4, c4, 91)) (q46 : Part c3 32 33 e46) (q48 : Part c4 32 33 e48) (r49 : ∀ w, Ret 48 #[.agg e46, .agg e48] w (.agg e49)) (fe49_33 : Fit 33 e49) (H : ∀ (n10 : Nat) (w' : World), Own u w' ((n10, e49, 33) :: L) → Q .normal { tmps := List.toArray (z0 :: z1 :: z2 :: (.pointer (some ⟨b3, 0, none⟩)) :: (.pointer (some ⟨b4, 0, none⟩)) :: z5 :: z6 :: z7 :: z8 :: z9 :: (.pointer (some ⟨n10, 0, none⟩)) :: z11 :: z12 :: z13 :: z14 :: z15 :: z16 :: z17 :: z18 :: z19 :: z20 :: z21 :: z22 :: z23 :: z24 :: z25 :: z26 :: z27 :: z28 :: z29 :: z30 :: z31 :: z32 :: z33 :: z34 :: z35 :: z36 :: z37 :: z38 :: z39 :: z40 :: z41 :: z42 :: z43 :: z44 :: (.pointer (some ⟨b3, 32, none⟩)) :: (.agg e46) :: (.pointer (some ⟨b4, 32, none⟩)) :: (.agg e48) :: (.agg e49) :: zz), defers := [] } w') :
    (Code.region 4 f60r4Ops false).wp Try.prog Q { tmps := List.toArray (z0 :: z1 :: z2 :: (.pointer (some ⟨b3, 0, none⟩)) :: (.pointer (some ⟨b4, 0, none⟩)) :: z5 :: z6 :: z7 :: z8 :: z9 :: z10 :: z11 :: z12 :: z13 :: z14 :: z15 :: z16 :: z17 :: z18 :: z19 :: z20 :: z21 :: z22 :: z23 :: z24 :: z25 :: z26 :: z27 :: z28 :: z29 :: z30 :: z31 :: z32 :: z33 :: z34 :: z35 :: z36 :: z37 :: z38 :: z39 :: z40 :: z41 :: z42 :: z43 :: z44 :: z45 :: z46 :: z47 :: z48 :: z49 :: zz), defers := [] } w := by
  refine wp_region_list (show wpList _ f60r4Ops _ [f60r4Op0, f60r4Op1, f60r4Op2, f60r4Op3, f60r4Op4, f60r4Op5, f60r4Op6] _ _ from ?_)
  refine l_val (.pointer (some ⟨b3, 32, none⟩)) (by kernel_rfl) ?_
  refine l_part hO 33 i3 h3 q46 Try.underlying33 ?_
  refine l_val (.pointer (some ⟨b4, 32, none⟩)) (by kernel_rfl) ?_
  refine l_fr (Fr [z0, z1, z2, D b3, D b4, z5, z6, z7, z8, z9, z10, z11, z12, z13, z14, z15, z16, z17, z18, z19, z20, z21, z22, z23, z24, z25, z26, z27, z28, z29, z30, z31, z32, z33, z34, z35, z36, z37, z38, z39, z40, z41, z42, z43, z44, .pointer (some ⟨b3, 32, none⟩), A e46, .pointer (some ⟨b4, 32, none⟩), z48, z49] zz) ?_
  refine l_part hO 33 i4 h4 q48 Try.underlying33 ?_
  refine l_call hO 48 #[.agg e46, .agg e48] (.agg e49) r49 ?_
  intro w1 hO
  refine l_new hO (vals .u64 16 (F.dg 0)) 33 (al33 rfl) (fit_rn _) ?_
  intro n10 w2 hO
  refine l_fr (Fr [z0, z1, z2, D b3, D b4, z5, z6, z7, z8, z9, D n10, z11, z12, z13, z14, z15, z16, z17, z18, z19, z20, z21, z22, z23, z24, z25, z26, z27, z28, z29, z30, z31, z32, z33, z34, z35, z36, z37, z38, z39, z40, z41, z42, z43, z44, .pointer (some ⟨b3, 32, none⟩), A e46, .pointer (some ⟨b4, 32, none⟩), A e48, A e49] zz) ?_
  refine l_st hO 33 0 rfl e49 fe49_33 ?_
  intro w3 hO
  exact l_fr _ (wpList_nil (H n10 _ hO))
def f60r5Op0 : Oper := ⟨some 50, .load 33 (.tmp 10), 33, "ref.go:91", #[], none⟩
def f60r5Op1 : Oper := ⟨some 51, .load 33 (.tmp 10), 33, "ref.go:91", #[], none⟩
def f60r5Op2 : Oper := ⟨some 52, .call { callee := .value (.func 51), args := #[.tmp 50, .tmp 51], argTypes := #[33, 33] }, 33, "ref.go:91", #[⟨0, .data⟩, ⟨1, .data⟩], none⟩
def f60r5Op3 : Oper := ⟨some 11, .alloc 33, 0, "ref.go:91", #[], none⟩
def f60r5Op4 : Oper := ⟨none, .store 33 (.tmp 11) (.tmp 52), 0, "ref.go:91", #[⟨3, .data⟩, ⟨2, .data⟩, ⟨2, .chain⟩, ⟨0, .phase⟩, ⟨1, .phase⟩, ⟨2, .phase⟩, ⟨3, .phase⟩], none⟩
def f60r5Ops : Array Oper := #[f60r5Op0, f60r5Op1, f60r5Op2, f60r5Op3, f60r5Op4]
set_option maxRecDepth 100000 in
set_option maxHeartbeats 2000000 in
theorem f60r5_r {Q : Exit → Act → World → Prop} {u w : World} {L : List Row} {z0 z1 z2 z3 z4 z5 z6 z7 z8 z9 z11 z12 z13 z14 z15 z16 z17 z18 z19 z20 z21 z22 z23 z24 z25 z26 z27 z28 z29 z30 z31 z32 z33 z34 z35 z36 z37 z38 z39 z40 z41 z42 z43 z44 z45 z46 z47 z48 z49 z50 z51 z52 : Value} {zz : List Value} {b10 : Nat} {c10 : Array Value} {e52 : Array Value} (hO : Own u w L) (i10 : Nat) (h10 : L[i10]? = some (b10, c10, 33)) (r52 : ∀ w, Ret 51 #[.agg c10, .agg c10] w (.agg e52)) (fe52_33 : Fit 33 e52) (H : ∀ (n11 : Nat) (w' : World), Own u w' ((n11, e52, 33) :: L) → Q .normal { tmps := List.toArray (z0 :: z1 :: z2 :: z3 :: z4 :: z5 :: z6 :: z7 :: z8 :: z9 :: (.pointer (some ⟨b10, 0, none⟩)) :: (.pointer (some ⟨n11, 0, none⟩)) :: z12 :: z13 :: z14 :: z15 :: z16 :: z17 :: z18 :: z19 :: z20 :: z21 :: z22 :: z23 :: z24 :: z25 :: z26 :: z27 :: z28 :: z29 :: z30 :: z31 :: z32 :: z33 :: z34 :: z35 :: z36 :: z37 :: z38 :: z39 :: z40 :: z41 :: z42 :: z43 :: z44 :: z45 :: z46 :: z47 :: z48 :: z49 :: (.agg c10) :: (.agg c10) :: (.agg e52) :: zz), defers := [] } w') :
    (Code.region 5 f60r5Ops false).wp Try.prog Q { tmps := List.toArray (z0 :: z1 :: z2 :: z3 :: z4 :: z5 :: z6 :: z7 :: z8 :: z9 :: (.pointer (some ⟨b10, 0, none⟩)) :: z11 :: z12 :: z13 :: z14 :: z15 :: z16 :: z17 :: z18 :: z19 :: z20 :: z21 :: z22 :: z23 :: z24 :: z25 :: z26 :: z27 :: z28 :: z29 :: z30 :: z31 :: z32 :: z33 :: z34 :: z35 :: z36 :: z37 :: z38 :: z39 :: z40 :: z41 :: z42 :: z43 :: z44 :: z45 :: z46 :: z47 :: z48 :: z49 :: z50 :: z51 :: z52 :: zz), defers := [] } w := by
  refine wp_region_list (show wpList _ f60r5Ops _ [f60r5Op0, f60r5Op1, f60r5Op2, f60r5Op3, f60r5Op4] _ _ from ?_)
  refine l_ld hO 33 i10 h10 Try.underlying33 ?_
  refine l_ld hO 33 i10 h10 Try.underlying33 ?_
  refine l_call hO 51 #[.agg c10, .agg c10] (.agg e52) r52 ?_
  intro w1 hO
  refine l_fr (Fr [z0, z1, z2, z3, z4, z5, z6, z7, z8, z9, D b10, z11, z12, z13, z14, z15, z16, z17, z18, z19, z20, z21, z22, z23, z24, z25, z26, z27, z28, z29, z30, z31, z32, z33, z34, z35, z36, z37, z38, z39, z40, z41, z42, z43, z44, z45, z46, z47, z48, z49, A c10, A c10, A e52] zz) ?_
  refine l_new hO (vals .u64 16 (F.dg 0)) 33 (al33 rfl) (fit_rn _) ?_
  intro n11 w2 hO
  refine l_st hO 33 0 rfl e52 fe52_33 ?_
  intro w3 hO
  exact l_fr _ (wpList_nil (H n11 _ hO))
def f60r6Op0 : Oper := ⟨some 53, .load 33 (.tmp 8), 33, "ref.go:92", #[], none⟩
def f60r6Op1 : Oper := ⟨some 54, .load 33 (.tmp 7), 33, "ref.go:92", #[], none⟩
def f60r6Op2 : Oper := ⟨some 55, .call { callee := .value (.func 49), args := #[.tmp 53, .tmp 54], argTypes := #[33, 33] }, 33, "ref.go:92", #[⟨0, .data⟩, ⟨1, .data⟩], none⟩
def f60r6Op3 : Oper := ⟨some 12, .alloc 33, 0, "ref.go:92", #[], none⟩
def f60r6Op4 : Oper := ⟨none, .store 33 (.tmp 12) (.tmp 55), 0, "ref.go:92", #[⟨3, .data⟩, ⟨2, .data⟩, ⟨2, .chain⟩, ⟨0, .phase⟩, ⟨1, .phase⟩, ⟨2, .phase⟩, ⟨3, .phase⟩], none⟩
def f60r6Ops : Array Oper := #[f60r6Op0, f60r6Op1, f60r6Op2, f60r6Op3, f60r6Op4]
set_option maxRecDepth 100000 in
set_option maxHeartbeats 2000000 in
theorem f60r6_r {Q : Exit → Act → World → Prop} {u w : World} {L : List Row} {z0 z1 z2 z3 z4 z5 z6 z9 z10 z11 z12 z13 z14 z15 z16 z17 z18 z19 z20 z21 z22 z23 z24 z25 z26 z27 z28 z29 z30 z31 z32 z33 z34 z35 z36 z37 z38 z39 z40 z41 z42 z43 z44 z45 z46 z47 z48 z49 z50 z51 z52 z53 z54 z55 : Value} {zz : List Value} {b7 b8 : Nat} {c7 c8 : Array Value} {e55 : Array Value} (hO : Own u w L) (i7 : Nat) (h7 : L[i7]? = some (b7, c7, 33)) (i8 : Nat) (h8 : L[i8]? = some (b8, c8, 33)) (r55 : ∀ w, Ret 49 #[.agg c8, .agg c7] w (.agg e55)) (fe55_33 : Fit 33 e55) (H : ∀ (n12 : Nat) (w' : World), Own u w' ((n12, e55, 33) :: L) → Q .normal { tmps := List.toArray (z0 :: z1 :: z2 :: z3 :: z4 :: z5 :: z6 :: (.pointer (some ⟨b7, 0, none⟩)) :: (.pointer (some ⟨b8, 0, none⟩)) :: z9 :: z10 :: z11 :: (.pointer (some ⟨n12, 0, none⟩)) :: z13 :: z14 :: z15 :: z16 :: z17 :: z18 :: z19 :: z20 :: z21 :: z22 :: z23 :: z24 :: z25 :: z26 :: z27 :: z28 :: z29 :: z30 :: z31 :: z32 :: z33 :: z34 :: z35 :: z36 :: z37 :: z38 :: z39 :: z40 :: z41 :: z42 :: z43 :: z44 :: z45 :: z46 :: z47 :: z48 :: z49 :: z50 :: z51 :: z52 :: (.agg c8) :: (.agg c7) :: (.agg e55) :: zz), defers := [] } w') :
    (Code.region 6 f60r6Ops false).wp Try.prog Q { tmps := List.toArray (z0 :: z1 :: z2 :: z3 :: z4 :: z5 :: z6 :: (.pointer (some ⟨b7, 0, none⟩)) :: (.pointer (some ⟨b8, 0, none⟩)) :: z9 :: z10 :: z11 :: z12 :: z13 :: z14 :: z15 :: z16 :: z17 :: z18 :: z19 :: z20 :: z21 :: z22 :: z23 :: z24 :: z25 :: z26 :: z27 :: z28 :: z29 :: z30 :: z31 :: z32 :: z33 :: z34 :: z35 :: z36 :: z37 :: z38 :: z39 :: z40 :: z41 :: z42 :: z43 :: z44 :: z45 :: z46 :: z47 :: z48 :: z49 :: z50 :: z51 :: z52 :: z53 :: z54 :: z55 :: zz), defers := [] } w := by
  refine wp_region_list (show wpList _ f60r6Ops _ [f60r6Op0, f60r6Op1, f60r6Op2, f60r6Op3, f60r6Op4] _ _ from ?_)
  refine l_ld hO 33 i8 h8 Try.underlying33 ?_
  refine l_ld hO 33 i7 h7 Try.underlying33 ?_
  refine l_call hO 49 #[.agg c8, .agg c7] (.agg e55) r55 ?_
  intro w1 hO
  refine l_fr (Fr [z0, z1, z2, z3, z4, z5, z6, D b7, D b8, z9, z10, z11, z12, z13, z14, z15, z16, z17, z18, z19, z20, z21, z22, z23, z24, z25, z26, z27, z28, z29, z30, z31, z32, z33, z34, z35, z36, z37, z38, z39, z40, z41, z42, z43, z44, z45, z46, z47, z48, z49, z50, z51, z52, A c8, A c7, A e55] zz) ?_
  refine l_new hO (vals .u64 16 (F.dg 0)) 33 (al33 rfl) (fit_rn _) ?_
  intro n12 w2 hO
  refine l_st hO 33 0 rfl e55 fe55_33 ?_
  intro w3 hO
  exact l_fr _ (wpList_nil (H n12 _ hO))
def f60r7Op0 : Oper := ⟨some 56, .load 33 (.tmp 11), 33, "ref.go:93", #[], none⟩
def f60r7Op1 : Oper := ⟨some 57, .load 33 (.tmp 9), 33, "ref.go:93", #[], none⟩
def f60r7Op2 : Oper := ⟨some 58, .call { callee := .value (.func 49), args := #[.tmp 56, .tmp 57], argTypes := #[33, 33] }, 33, "ref.go:93", #[⟨0, .data⟩, ⟨1, .data⟩], none⟩
def f60r7Op3 : Oper := ⟨some 13, .alloc 33, 0, "ref.go:93", #[], none⟩
def f60r7Op4 : Oper := ⟨none, .store 33 (.tmp 13) (.tmp 58), 0, "ref.go:93", #[⟨3, .data⟩, ⟨2, .data⟩, ⟨2, .chain⟩, ⟨0, .phase⟩, ⟨1, .phase⟩, ⟨2, .phase⟩, ⟨3, .phase⟩], none⟩
def f60r7Ops : Array Oper := #[f60r7Op0, f60r7Op1, f60r7Op2, f60r7Op3, f60r7Op4]
set_option maxRecDepth 100000 in
set_option maxHeartbeats 2000000 in
theorem f60r7_r {Q : Exit → Act → World → Prop} {u w : World} {L : List Row} {z0 z1 z2 z3 z4 z5 z6 z7 z8 z10 z12 z13 z14 z15 z16 z17 z18 z19 z20 z21 z22 z23 z24 z25 z26 z27 z28 z29 z30 z31 z32 z33 z34 z35 z36 z37 z38 z39 z40 z41 z42 z43 z44 z45 z46 z47 z48 z49 z50 z51 z52 z53 z54 z55 z56 z57 z58 : Value} {zz : List Value} {b9 b11 : Nat} {c9 c11 : Array Value} {e58 : Array Value} (hO : Own u w L) (i9 : Nat) (h9 : L[i9]? = some (b9, c9, 33)) (i11 : Nat) (h11 : L[i11]? = some (b11, c11, 33)) (r58 : ∀ w, Ret 49 #[.agg c11, .agg c9] w (.agg e58)) (fe58_33 : Fit 33 e58) (H : ∀ (n13 : Nat) (w' : World), Own u w' ((n13, e58, 33) :: L) → Q .normal { tmps := List.toArray (z0 :: z1 :: z2 :: z3 :: z4 :: z5 :: z6 :: z7 :: z8 :: (.pointer (some ⟨b9, 0, none⟩)) :: z10 :: (.pointer (some ⟨b11, 0, none⟩)) :: z12 :: (.pointer (some ⟨n13, 0, none⟩)) :: z14 :: z15 :: z16 :: z17 :: z18 :: z19 :: z20 :: z21 :: z22 :: z23 :: z24 :: z25 :: z26 :: z27 :: z28 :: z29 :: z30 :: z31 :: z32 :: z33 :: z34 :: z35 :: z36 :: z37 :: z38 :: z39 :: z40 :: z41 :: z42 :: z43 :: z44 :: z45 :: z46 :: z47 :: z48 :: z49 :: z50 :: z51 :: z52 :: z53 :: z54 :: z55 :: (.agg c11) :: (.agg c9) :: (.agg e58) :: zz), defers := [] } w') :
    (Code.region 7 f60r7Ops false).wp Try.prog Q { tmps := List.toArray (z0 :: z1 :: z2 :: z3 :: z4 :: z5 :: z6 :: z7 :: z8 :: (.pointer (some ⟨b9, 0, none⟩)) :: z10 :: (.pointer (some ⟨b11, 0, none⟩)) :: z12 :: z13 :: z14 :: z15 :: z16 :: z17 :: z18 :: z19 :: z20 :: z21 :: z22 :: z23 :: z24 :: z25 :: z26 :: z27 :: z28 :: z29 :: z30 :: z31 :: z32 :: z33 :: z34 :: z35 :: z36 :: z37 :: z38 :: z39 :: z40 :: z41 :: z42 :: z43 :: z44 :: z45 :: z46 :: z47 :: z48 :: z49 :: z50 :: z51 :: z52 :: z53 :: z54 :: z55 :: z56 :: z57 :: z58 :: zz), defers := [] } w := by
  refine wp_region_list (show wpList _ f60r7Ops _ [f60r7Op0, f60r7Op1, f60r7Op2, f60r7Op3, f60r7Op4] _ _ from ?_)
  refine l_ld hO 33 i11 h11 Try.underlying33 ?_
  refine l_ld hO 33 i9 h9 Try.underlying33 ?_
  refine l_call hO 49 #[.agg c11, .agg c9] (.agg e58) r58 ?_
  intro w1 hO
  refine l_fr (Fr [z0, z1, z2, z3, z4, z5, z6, z7, z8, D b9, z10, D b11, z12, z13, z14, z15, z16, z17, z18, z19, z20, z21, z22, z23, z24, z25, z26, z27, z28, z29, z30, z31, z32, z33, z34, z35, z36, z37, z38, z39, z40, z41, z42, z43, z44, z45, z46, z47, z48, z49, z50, z51, z52, z53, z54, z55, A c11, A c9, A e58] zz) ?_
  refine l_new hO (vals .u64 16 (F.dg 0)) 33 (al33 rfl) (fit_rn _) ?_
  intro n13 w2 hO
  refine l_st hO 33 0 rfl e58 fe58_33 ?_
  intro w3 hO
  exact l_fr _ (wpList_nil (H n13 _ hO))
def f60r8Op0 : Oper := ⟨some 59, .load 33 (.tmp 11), 33, "ref.go:94", #[], none⟩
def f60r8Op1 : Oper := ⟨some 60, .load 33 (.tmp 9), 33, "ref.go:94", #[], none⟩
def f60r8Op2 : Oper := ⟨some 61, .call { callee := .value (.func 51), args := #[.tmp 59, .tmp 60], argTypes := #[33, 33] }, 33, "ref.go:94", #[⟨0, .data⟩, ⟨1, .data⟩], none⟩
def f60r8Op3 : Oper := ⟨some 14, .alloc 33, 0, "ref.go:94", #[], none⟩
def f60r8Op4 : Oper := ⟨none, .store 33 (.tmp 14) (.tmp 61), 0, "ref.go:94", #[⟨3, .data⟩, ⟨2, .data⟩, ⟨2, .chain⟩, ⟨0, .phase⟩, ⟨1, .phase⟩, ⟨2, .phase⟩, ⟨3, .phase⟩], none⟩
def f60r8Ops : Array Oper := #[f60r8Op0, f60r8Op1, f60r8Op2, f60r8Op3, f60r8Op4]
set_option maxRecDepth 100000 in
set_option maxHeartbeats 2000000 in
theorem f60r8_r {Q : Exit → Act → World → Prop} {u w : World} {L : List Row} {z0 z1 z2 z3 z4 z5 z6 z7 z8 z10 z12 z13 z14 z15 z16 z17 z18 z19 z20 z21 z22 z23 z24 z25 z26 z27 z28 z29 z30 z31 z32 z33 z34 z35 z36 z37 z38 z39 z40 z41 z42 z43 z44 z45 z46 z47 z48 z49 z50 z51 z52 z53 z54 z55 z56 z57 z58 z59 z60 z61 : Value} {zz : List Value} {b9 b11 : Nat} {c9 c11 : Array Value} {e61 : Array Value} (hO : Own u w L) (i9 : Nat) (h9 : L[i9]? = some (b9, c9, 33)) (i11 : Nat) (h11 : L[i11]? = some (b11, c11, 33)) (r61 : ∀ w, Ret 51 #[.agg c11, .agg c9] w (.agg e61)) (fe61_33 : Fit 33 e61) (H : ∀ (n14 : Nat) (w' : World), Own u w' ((n14, e61, 33) :: L) → Q .normal { tmps := List.toArray (z0 :: z1 :: z2 :: z3 :: z4 :: z5 :: z6 :: z7 :: z8 :: (.pointer (some ⟨b9, 0, none⟩)) :: z10 :: (.pointer (some ⟨b11, 0, none⟩)) :: z12 :: z13 :: (.pointer (some ⟨n14, 0, none⟩)) :: z15 :: z16 :: z17 :: z18 :: z19 :: z20 :: z21 :: z22 :: z23 :: z24 :: z25 :: z26 :: z27 :: z28 :: z29 :: z30 :: z31 :: z32 :: z33 :: z34 :: z35 :: z36 :: z37 :: z38 :: z39 :: z40 :: z41 :: z42 :: z43 :: z44 :: z45 :: z46 :: z47 :: z48 :: z49 :: z50 :: z51 :: z52 :: z53 :: z54 :: z55 :: z56 :: z57 :: z58 :: (.agg c11) :: (.agg c9) :: (.agg e61) :: zz), defers := [] } w') :
    (Code.region 8 f60r8Ops false).wp Try.prog Q { tmps := List.toArray (z0 :: z1 :: z2 :: z3 :: z4 :: z5 :: z6 :: z7 :: z8 :: (.pointer (some ⟨b9, 0, none⟩)) :: z10 :: (.pointer (some ⟨b11, 0, none⟩)) :: z12 :: z13 :: z14 :: z15 :: z16 :: z17 :: z18 :: z19 :: z20 :: z21 :: z22 :: z23 :: z24 :: z25 :: z26 :: z27 :: z28 :: z29 :: z30 :: z31 :: z32 :: z33 :: z34 :: z35 :: z36 :: z37 :: z38 :: z39 :: z40 :: z41 :: z42 :: z43 :: z44 :: z45 :: z46 :: z47 :: z48 :: z49 :: z50 :: z51 :: z52 :: z53 :: z54 :: z55 :: z56 :: z57 :: z58 :: z59 :: z60 :: z61 :: zz), defers := [] } w := by
  refine wp_region_list (show wpList _ f60r8Ops _ [f60r8Op0, f60r8Op1, f60r8Op2, f60r8Op3, f60r8Op4] _ _ from ?_)
  refine l_ld hO 33 i11 h11 Try.underlying33 ?_
  refine l_ld hO 33 i9 h9 Try.underlying33 ?_
  refine l_call hO 51 #[.agg c11, .agg c9] (.agg e61) r61 ?_
  intro w1 hO
  refine l_fr (Fr [z0, z1, z2, z3, z4, z5, z6, z7, z8, D b9, z10, D b11, z12, z13, z14, z15, z16, z17, z18, z19, z20, z21, z22, z23, z24, z25, z26, z27, z28, z29, z30, z31, z32, z33, z34, z35, z36, z37, z38, z39, z40, z41, z42, z43, z44, z45, z46, z47, z48, z49, z50, z51, z52, z53, z54, z55, z56, z57, z58, A c11, A c9, A e61] zz) ?_
  refine l_new hO (vals .u64 16 (F.dg 0)) 33 (al33 rfl) (fit_rn _) ?_
  intro n14 w2 hO
  refine l_st hO 33 0 rfl e61 fe61_33 ?_
  intro w3 hO
  exact l_fr _ (wpList_nil (H n14 _ hO))
def f60r9Op0 : Oper := ⟨some 62, .load 33 (.tmp 8), 33, "ref.go:95", #[], none⟩
def f60r9Op1 : Oper := ⟨some 63, .load 33 (.tmp 7), 33, "ref.go:95", #[], none⟩
def f60r9Op2 : Oper := ⟨some 64, .call { callee := .value (.func 51), args := #[.tmp 62, .tmp 63], argTypes := #[33, 33] }, 33, "ref.go:95", #[⟨0, .data⟩, ⟨1, .data⟩], none⟩
def f60r9Op3 : Oper := ⟨some 15, .alloc 33, 0, "ref.go:95", #[], none⟩
def f60r9Op4 : Oper := ⟨none, .store 33 (.tmp 15) (.tmp 64), 0, "ref.go:95", #[⟨3, .data⟩, ⟨2, .data⟩, ⟨2, .chain⟩, ⟨0, .phase⟩, ⟨1, .phase⟩, ⟨2, .phase⟩, ⟨3, .phase⟩], none⟩
def f60r9Ops : Array Oper := #[f60r9Op0, f60r9Op1, f60r9Op2, f60r9Op3, f60r9Op4]
set_option maxRecDepth 100000 in
set_option maxHeartbeats 2000000 in
theorem f60r9_r {Q : Exit → Act → World → Prop} {u w : World} {L : List Row} {z0 z1 z2 z3 z4 z5 z6 z9 z10 z11 z12 z13 z14 z15 z16 z17 z18 z19 z20 z21 z22 z23 z24 z25 z26 z27 z28 z29 z30 z31 z32 z33 z34 z35 z36 z37 z38 z39 z40 z41 z42 z43 z44 z45 z46 z47 z48 z49 z50 z51 z52 z53 z54 z55 z56 z57 z58 z59 z60 z61 z62 z63 z64 : Value} {zz : List Value} {b7 b8 : Nat} {c7 c8 : Array Value} {e64 : Array Value} (hO : Own u w L) (i7 : Nat) (h7 : L[i7]? = some (b7, c7, 33)) (i8 : Nat) (h8 : L[i8]? = some (b8, c8, 33)) (r64 : ∀ w, Ret 51 #[.agg c8, .agg c7] w (.agg e64)) (fe64_33 : Fit 33 e64) (H : ∀ (n15 : Nat) (w' : World), Own u w' ((n15, e64, 33) :: L) → Q .normal { tmps := List.toArray (z0 :: z1 :: z2 :: z3 :: z4 :: z5 :: z6 :: (.pointer (some ⟨b7, 0, none⟩)) :: (.pointer (some ⟨b8, 0, none⟩)) :: z9 :: z10 :: z11 :: z12 :: z13 :: z14 :: (.pointer (some ⟨n15, 0, none⟩)) :: z16 :: z17 :: z18 :: z19 :: z20 :: z21 :: z22 :: z23 :: z24 :: z25 :: z26 :: z27 :: z28 :: z29 :: z30 :: z31 :: z32 :: z33 :: z34 :: z35 :: z36 :: z37 :: z38 :: z39 :: z40 :: z41 :: z42 :: z43 :: z44 :: z45 :: z46 :: z47 :: z48 :: z49 :: z50 :: z51 :: z52 :: z53 :: z54 :: z55 :: z56 :: z57 :: z58 :: z59 :: z60 :: z61 :: (.agg c8) :: (.agg c7) :: (.agg e64) :: zz), defers := [] } w') :
    (Code.region 9 f60r9Ops false).wp Try.prog Q { tmps := List.toArray (z0 :: z1 :: z2 :: z3 :: z4 :: z5 :: z6 :: (.pointer (some ⟨b7, 0, none⟩)) :: (.pointer (some ⟨b8, 0, none⟩)) :: z9 :: z10 :: z11 :: z12 :: z13 :: z14 :: z15 :: z16 :: z17 :: z18 :: z19 :: z20 :: z21 :: z22 :: z23 :: z24 :: z25 :: z26 :: z27 :: z28 :: z29 :: z30 :: z31 :: z32 :: z33 :: z34 :: z35 :: z36 :: z37 :: z38 :: z39 :: z40 :: z41 :: z42 :: z43 :: z44 :: z45 :: z46 :: z47 :: z48 :: z49 :: z50 :: z51 :: z52 :: z53 :: z54 :: z55 :: z56 :: z57 :: z58 :: z59 :: z60 :: z61 :: z62 :: z63 :: z64 :: zz), defers := [] } w := by
  refine wp_region_list (show wpList _ f60r9Ops _ [f60r9Op0, f60r9Op1, f60r9Op2, f60r9Op3, f60r9Op4] _ _ from ?_)
  refine l_ld hO 33 i8 h8 Try.underlying33 ?_
  refine l_ld hO 33 i7 h7 Try.underlying33 ?_
  refine l_call hO 51 #[.agg c8, .agg c7] (.agg e64) r64 ?_
  intro w1 hO
  refine l_fr (Fr [z0, z1, z2, z3, z4, z5, z6, D b7, D b8, z9, z10, z11, z12, z13, z14, z15, z16, z17, z18, z19, z20, z21, z22, z23, z24, z25, z26, z27, z28, z29, z30, z31, z32, z33, z34, z35, z36, z37, z38, z39, z40, z41, z42, z43, z44, z45, z46, z47, z48, z49, z50, z51, z52, z53, z54, z55, z56, z57, z58, z59, z60, z61, A c8, A c7, A e64] zz) ?_
  refine l_new hO (vals .u64 16 (F.dg 0)) 33 (al33 rfl) (fit_rn _) ?_
  intro n15 w2 hO
  refine l_st hO 33 0 rfl e64 fe64_33 ?_
  intro w3 hO
  exact l_fr _ (wpList_nil (H n15 _ hO))
def f60r10Op0 : Oper := ⟨some 65, .load 33 (.tmp 12), 33, "ref.go:96", #[], none⟩
def f60r10Op1 : Oper := ⟨some 66, .load 33 (.tmp 13), 33, "ref.go:96", #[], none⟩
def f60r10Op2 : Oper := ⟨some 67, .call { callee := .value (.func 48), args := #[.tmp 65, .tmp 66], argTypes := #[33, 33] }, 33, "ref.go:96", #[⟨0, .data⟩, ⟨1, .data⟩], none⟩
def f60r10Op3 : Oper := ⟨some 68, .load 33 (.tmp 14), 33, "ref.go:96", #[], none⟩
def f60r10Op4 : Oper := ⟨some 69, .load 33 (.tmp 15), 33, "ref.go:96", #[], none⟩
def f60r10Op5 : Oper := ⟨some 70, .call { callee := .value (.func 48), args := #[.tmp 68, .tmp 69], argTypes := #[33, 33] }, 33, "ref.go:96", #[⟨3, .data⟩, ⟨4, .data⟩, ⟨2, .chain⟩], none⟩
def f60r10Op6 : Oper := ⟨some 71, .load 33 (.tmp 13), 33, "ref.go:96", #[], none⟩
def f60r10Op7 : Oper := ⟨some 72, .load 33 (.tmp 14), 33, "ref.go:96", #[], none⟩
def f60r10Op8 : Oper := ⟨some 73, .call { callee := .value (.func 48), args := #[.tmp 71, .tmp 72], argTypes := #[33, 33] }, 33, "ref.go:96", #[⟨6, .data⟩, ⟨7, .data⟩, ⟨5, .chain⟩], none⟩
def f60r10Op9 : Oper := ⟨some 74, .load 33 (.tmp 12), 33, "ref.go:96", #[], none⟩
def f60r10Op10 : Oper := ⟨some 75, .load 33 (.tmp 15), 33, "ref.go:96", #[], none⟩
def f60r10Op11 : Oper := ⟨some 76, .call { callee := .value (.func 48), args := #[.tmp 74, .tmp 75], argTypes := #[33, 33] }, 33, "ref.go:96", #[⟨9, .data⟩, ⟨10, .data⟩, ⟨8, .chain⟩], none⟩
def f60r10Op12 : Oper := ⟨some 77, .build 91 #[(0, .tmp 67), (1, .tmp 70), (2, .tmp 73), (3, .tmp 76)], 91, "ref.go:96", #[⟨2, .data⟩, ⟨5, .data⟩, ⟨8, .data⟩, ⟨11, .data⟩], none⟩
def f60r10Op13 : Oper := ⟨none, .store 91 (.tmp 6) (.tmp 77), 0, "ref.go:96", #[⟨12, .data⟩, ⟨11, .chain⟩, ⟨0, .phase⟩, ⟨1, .phase⟩, ⟨2, .phase⟩, ⟨3, .phase⟩, ⟨4, .phase⟩, ⟨5, .phase⟩, ⟨6, .phase⟩, ⟨7, .phase⟩, ⟨8, .phase⟩, ⟨9, .phase⟩, ⟨10, .phase⟩, ⟨11, .phase⟩, ⟨12, .phase⟩], none⟩
def f60r10Ops : Array Oper := #[f60r10Op0, f60r10Op1, f60r10Op2, f60r10Op3, f60r10Op4, f60r10Op5, f60r10Op6, f60r10Op7, f60r10Op8, f60r10Op9, f60r10Op10, f60r10Op11, f60r10Op12, f60r10Op13]
set_option maxRecDepth 100000 in
set_option maxHeartbeats 2000000 in
theorem f60r10_r {Q : Exit → Act → World → Prop} {u w : World} {L : List Row} {z0 z1 z2 z3 z4 z5 z7 z8 z9 z10 z11 z16 z17 z18 z19 z20 z21 z22 z23 z24 z25 z26 z27 z28 z29 z30 z31 z32 z33 z34 z35 z36 z37 z38 z39 z40 z41 z42 z43 z44 z45 z46 z47 z48 z49 z50 z51 z52 z53 z54 z55 z56 z57 z58 z59 z60 z61 z62 z63 z64 z65 z66 z67 z68 z69 z70 z71 z72 z73 z74 z75 z76 z77 : Value} {b6 b12 b13 b14 b15 : Nat} {c6 c12 c13 c14 c15 : Array Value} {e67 e70 e73 e76 e77 : Array Value} (hQ : ∀ c a w n v, Q (.panic c) (a.put (some n) v) w → Q (.panic c) a w) (hO : Own u w L) (i6 : Nat) (h6 : L[i6]? = some (b6, c6, 91)) (i12 : Nat) (h12 : L[i12]? = some (b12, c12, 33)) (i13 : Nat) (h13 : L[i13]? = some (b13, c13, 33)) (i14 : Nat) (h14 : L[i14]? = some (b14, c14, 33)) (i15 : Nat) (h15 : L[i15]? = some (b15, c15, 33)) (e6_12 : i6 ≠ i12) (e6_13 : i6 ≠ i13) (e6_14 : i6 ≠ i14) (e6_15 : i6 ≠ i15) (r67 : ∀ w, Ret 48 #[.agg c12, .agg c13] w (.agg e67)) (r70 : ∀ w, Ret 48 #[.agg c14, .agg c15] w (.agg e70)) (r73 : ∀ w, Ret 48 #[.agg c13, .agg c14] w (.agg e73)) (r76 : ∀ w, Ret 48 #[.agg c12, .agg c15] w (.agg e76)) (q77 : Try.prog.built 91 [(0, .agg e67), (1, .agg e70), (2, .agg e73), (3, .agg e76)] = some e77) (fe77_91 : Fit 91 e77) (H : ∀ (w' : World), Own u w' ((L.set i6 (b6, e77, 91))) → Q .normal { tmps := List.toArray (z0 :: z1 :: z2 :: z3 :: z4 :: z5 :: (.pointer (some ⟨b6, 0, none⟩)) :: z7 :: z8 :: z9 :: z10 :: z11 :: (.pointer (some ⟨b12, 0, none⟩)) :: (.pointer (some ⟨b13, 0, none⟩)) :: (.pointer (some ⟨b14, 0, none⟩)) :: (.pointer (some ⟨b15, 0, none⟩)) :: z16 :: z17 :: z18 :: z19 :: z20 :: z21 :: z22 :: z23 :: z24 :: z25 :: z26 :: z27 :: z28 :: z29 :: z30 :: z31 :: z32 :: z33 :: z34 :: z35 :: z36 :: z37 :: z38 :: z39 :: z40 :: z41 :: z42 :: z43 :: z44 :: z45 :: z46 :: z47 :: z48 :: z49 :: z50 :: z51 :: z52 :: z53 :: z54 :: z55 :: z56 :: z57 :: z58 :: z59 :: z60 :: z61 :: z62 :: z63 :: z64 :: (.agg c12) :: (.agg c13) :: (.agg e67) :: (.agg c14) :: (.agg c15) :: (.agg e70) :: (.agg c13) :: (.agg c14) :: (.agg e73) :: (.agg c12) :: (.agg c15) :: (.agg e76) :: (.agg e77) :: []), defers := [] } w') :
    (Code.region 10 f60r10Ops true).wp Try.prog Q { tmps := List.toArray (z0 :: z1 :: z2 :: z3 :: z4 :: z5 :: (.pointer (some ⟨b6, 0, none⟩)) :: z7 :: z8 :: z9 :: z10 :: z11 :: (.pointer (some ⟨b12, 0, none⟩)) :: (.pointer (some ⟨b13, 0, none⟩)) :: (.pointer (some ⟨b14, 0, none⟩)) :: (.pointer (some ⟨b15, 0, none⟩)) :: z16 :: z17 :: z18 :: z19 :: z20 :: z21 :: z22 :: z23 :: z24 :: z25 :: z26 :: z27 :: z28 :: z29 :: z30 :: z31 :: z32 :: z33 :: z34 :: z35 :: z36 :: z37 :: z38 :: z39 :: z40 :: z41 :: z42 :: z43 :: z44 :: z45 :: z46 :: z47 :: z48 :: z49 :: z50 :: z51 :: z52 :: z53 :: z54 :: z55 :: z56 :: z57 :: z58 :: z59 :: z60 :: z61 :: z62 :: z63 :: z64 :: z65 :: z66 :: z67 :: z68 :: z69 :: z70 :: z71 :: z72 :: z73 :: z74 :: z75 :: z76 :: z77 :: []), defers := [] } w := by
  have fc12_33 := hO.fits i12 h12
  have fc13_33 := hO.fits i13 h13
  have fc14_33 := hO.fits i14 h14
  have fc15_33 := hO.fits i15 h15
  refine wp_region_held_drew (S := Has [(b12, c12, 33), (b13, c13, 33), (b14, c14, 33), (b15, c15, 33)]) (by kernel_rfl) ⟨hO.drew.row _ h12, hO.drew.row _ h13, hO.drew.row _ h14, hO.drew.row _ h15, trivial⟩ (fun hS => ?_)
  replace hO := hO.drew
  refine d_tk 0 f60r10Op0 (.agg c12) hQ (y_l 33 (fun _ h => h.1) fc12_33 Try.underlying33) hS ?_
  refine d_tk 1 f60r10Op1 (.agg c13) hQ (y_l 33 (fun _ h => h.2.1) fc13_33 Try.underlying33) hS ?_
  refine d_tk 3 f60r10Op3 (.agg c14) hQ (y_l 33 (fun _ h => h.2.2.1) fc14_33 Try.underlying33) hS ?_
  refine d_fr (ls 14 11) (Fr [z0, z1, z2, z3, z4, z5, D b6, z7, z8, z9, z10, z11, D b12, D b13, D b14, D b15, z16, z17, z18, z19, z20, z21, z22, z23, z24, z25, z26, z27, z28, z29, z30, z31, z32, z33, z34, z35, z36, z37, z38, z39, z40, z41, z42, z43, z44, z45, z46, z47, z48, z49, z50, z51, z52, z53, z54, z55, z56, z57, z58, z59, z60, z61, z62, z63, z64, A c12, A c13, z67, A c14, z69, z70, z71, z72, z73, z74, z75, z76, z77] []) ?_
  refine d_tk 4 f60r10Op4 (.agg c15) hQ (y_l 33 (fun _ h => h.2.2.2.1) fc15_33 Try.underlying33) hS ?_
  refine d_tk 6 f60r10Op6 (.agg c13) hQ (y_l 33 (fun _ h => h.2.1) fc13_33 Try.underlying33) hS ?_
  refine d_tk 7 f60r10Op7 (.agg c14) hQ (y_l 33 (fun _ h => h.2.2.1) fc14_33 Try.underlying33) hS ?_
  refine d_fr (ls 14 219) (Fr [z0, z1, z2, z3, z4, z5, D b6, z7, z8, z9, z10, z11, D b12, D b13, D b14, D b15, z16, z17, z18, z19, z20, z21, z22, z23, z24, z25, z26, z27, z28, z29, z30, z31, z32, z33, z34, z35, z36, z37, z38, z39, z40, z41, z42, z43, z44, z45, z46, z47, z48, z49, z50, z51, z52, z53, z54, z55, z56, z57, z58, z59, z60, z61, z62, z63, z64, A c12, A c13, z67, A c14, A c15, z70, A c13, A c14, z73, z74, z75, z76, z77] []) ?_
  refine d_tk 9 f60r10Op9 (.agg c12) hQ (y_l 33 (fun _ h => h.1) fc12_33 Try.underlying33) hS ?_
  refine d_tk 10 f60r10Op10 (.agg c15) hQ (y_l 33 (fun _ h => h.2.2.2.1) fc15_33 Try.underlying33) hS ?_
  refine d_fr (ls 14 1755) (Fr [z0, z1, z2, z3, z4, z5, D b6, z7, z8, z9, z10, z11, D b12, D b13, D b14, D b15, z16, z17, z18, z19, z20, z21, z22, z23, z24, z25, z26, z27, z28, z29, z30, z31, z32, z33, z34, z35, z36, z37, z38, z39, z40, z41, z42, z43, z44, z45, z46, z47, z48, z49, z50, z51, z52, z53, z54, z55, z56, z57, z58, z59, z60, z61, z62, z63, z64, A c12, A c13, z67, A c14, A c15, z70, A c13, A c14, z73, A c12, A c15, z76, z77] []) ?_
  refine d_one 2 f60r10Op2 (ls 14 1759) (fun K hK => ?_)
  refine k_call hK hO (fun _ hO => ⟨hO.row _ h12, hO.row _ h13, hO.row _ h14, hO.row _ h15, trivial⟩) 48 #[.agg c12, .agg c13] (.agg e67) r67 ?_
  intro w1 hO
  refine d_one 5 f60r10Op5 (ls 14 1791) (fun K hK => ?_)
  refine k_call hK hO (fun _ hO => ⟨hO.row _ h12, hO.row _ h13, hO.row _ h14, hO.row _ h15, trivial⟩) 48 #[.agg c14, .agg c15] (.agg e70) r70 ?_
  intro w2 hO
  refine d_one 8 f60r10Op8 (ls 14 2047) (fun K hK => ?_)
  refine k_call hK hO (fun _ hO => ⟨hO.row _ h12, hO.row _ h13, hO.row _ h14, hO.row _ h15, trivial⟩) 48 #[.agg c13, .agg c14] (.agg e73) r73 ?_
  intro w3 hO
  refine d_fr (ls 14 2047) (Fr [z0, z1, z2, z3, z4, z5, D b6, z7, z8, z9, z10, z11, D b12, D b13, D b14, D b15, z16, z17, z18, z19, z20, z21, z22, z23, z24, z25, z26, z27, z28, z29, z30, z31, z32, z33, z34, z35, z36, z37, z38, z39, z40, z41, z42, z43, z44, z45, z46, z47, z48, z49, z50, z51, z52, z53, z54, z55, z56, z57, z58, z59, z60, z61, z62, z63, z64, A c12, A c13, A e67, A c14, A c15, A e70, A c13, A c14, A e73, A c12, A c15, z76, z77] []) ?_
  refine d_one 11 f60r10Op11 (ls 14 4095) (fun K hK => ?_)
  refine k_call hK hO (fun _ hO => ⟨hO.row _ h12, hO.row _ h13, hO.row _ h14, hO.row _ h15, trivial⟩) 48 #[.agg c12, .agg c15] (.agg e76) r76 ?_
  intro w4 hO
  have hS : Has [(b12, c12, 33), (b13, c13, 33), (b14, c14, 33), (b15, c15, 33)] _ := ⟨hO.row _ h12, hO.row _ h13, hO.row _ h14, hO.row _ h15, trivial⟩
  refine d_tk 12 f60r10Op12 (.agg e77) hQ (y_val (run_bd 91 _ rfl [(0, .agg e67), (1, .agg e70), (2, .agg e73), (3, .agg e76)] (by kernel_rfl) e77 q77)) hS ?_
  refine d_one 13 f60r10Op13 (ls 14 16383) (fun K hK => ?_)
  refine k_st hK hO 91 i6 h6 e77 fe77_91 (fun _ hO => ⟨hO.row _ (get_set h12 e6_12), hO.row _ (get_set h13 e6_13), hO.row _ (get_set h14 e6_14), hO.row _ (get_set h15 e6_15), trivial⟩) ?_
  intro w5 hO
  exact d_fr (ls 14 16383) _ (wpAnyH_done (by kernel_rfl) (H  _ hO) _)
set_option maxRecDepth 100000 in
set_option maxHeartbeats 4000000 in
theorem rsum_p {P Q : Nat × Nat} {p q : Q4} (hp : Rp P p) (hq : Rp Q q) (w : World) : Ret 60 #[.agg (wq p), .agg (wq q), .agg (vals .u64 16 (F.dg dd7))] w (.agg (wq (sum4 p q))) := by
  go_enter Try.func60, Try.ntmps60
  have hO := Own.start w
  go_upto_region 0 with (fail)
  refine f60r0_r hO (fit_wd _ _ _ _) (fit_wd _ _ _ _) (fit_rn _) ?_
  intro n3 n4 n5 n6 w1 hO
  replace hO : Own w w1 [(n6, qn [0, 0, 0, 0], 91), (n5, vals .u64 16 (F.dg dd7), 33), (n4, wq q, 91), (n3, wq p, 91)] := hO
  go_upto_region 1 with (fail)
  refine f60r1_r (fun _ _ _ _ _ h => h) hO 3 rfl 2 rfl (part_wd1 _ _ _ _) (part_wd0 _ _ _ _) (rsub_c _ _ hp.y hp.x) (part_wd1 _ _ _ _) (part_wd0 _ _ _ _) (rsub_c _ _ hq.y hq.x) (rmul_c _ _ (sm_lt _ _) (sm_lt _ _)) (fit_rn _) ?_
  intro n7 w2 hO
  replace hO : Own w w2 [(n7, vals .u64 16 (F.dg (mm (sm p.2.1 p.1) (sm q.2.1 q.1))), 33), (n6, qn [0, 0, 0, 0], 91), (n5, vals .u64 16 (F.dg dd7), 33), (n4, wq q, 91), (n3, wq p, 91)] := hO
  go_upto_region 2 with (fail)
  refine f60r2_r (fun _ _ _ _ _ h => h) hO 4 rfl 3 rfl (part_wd1 _ _ _ _) (part_wd0 _ _ _ _) (radd_c _ _ hp.y hp.x) (part_wd1 _ _ _ _) (part_wd0 _ _ _ _) (radd_c _ _ hq.y hq.x) (rmul_c _ _ (am_lt _ _) (am_lt _ _)) (fit_rn _) ?_
  intro n8 w3 hO
  replace hO : Own w w3 [(n8, vals .u64 16 (F.dg (mm (am p.2.1 p.1) (am q.2.1 q.1))), 33), (n7, vals .u64 16 (F.dg (mm (sm p.2.1 p.1) (sm q.2.1 q.1))), 33), (n6, qn [0, 0, 0, 0], 91), (n5, vals .u64 16 (F.dg dd7), 33), (n4, wq q, 91), (n3, wq p, 91)] := hO
  go_upto_region 3 with (fail)
  refine f60r3_r (fun _ _ _ _ _ h => h) hO 5 rfl 4 rfl 3 rfl (part_wd3 _ _ _ _) (rmul_c _ _ hp.t (am_lt _ _)) (part_wd3 _ _ _ _) (rmul_c _ _ (mm_lt _ _) hq.t) (fit_rn _) ?_
  intro n9 w4 hO
  replace hO : Own w w4 [(n9, vals .u64 16 (F.dg (mm (mm p.2.2.2 dd7) q.2.2.2)), 33), (n8, vals .u64 16 (F.dg (mm (am p.2.1 p.1) (am q.2.1 q.1))), 33), (n7, vals .u64 16 (F.dg (mm (sm p.2.1 p.1) (sm q.2.1 q.1))), 33), (n6, qn [0, 0, 0, 0], 91), (n5, vals .u64 16 (F.dg dd7), 33), (n4, wq q, 91), (n3, wq p, 91)] := hO
  go_upto_region 4 with (fail)
  refine f60r4_r hO 6 rfl 5 rfl (part_wd2 _ _ _ _) (part_wd2 _ _ _ _) (rmul_c _ _ hp.z hq.z) (fit_rn _) ?_
  intro n10 w5 hO
  replace hO : Own w w5 [(n10, vals .u64 16 (F.dg (mm p.2.2.1 q.2.2.1)), 33), (n9, vals .u64 16 (F.dg (mm (mm p.2.2.2 dd7) q.2.2.2)), 33), (n8, vals .u64 16 (F.dg (mm (am p.2.1 p.1) (am q.2.1 q.1))), 33), (n7, vals .u64 16 (F.dg (mm (sm p.2.1 p.1) (sm q.2.1 q.1))), 33), (n6, qn [0, 0, 0, 0], 91), (n5, vals .u64 16 (F.dg dd7), 33), (n4, wq q, 91), (n3, wq p, 91)] := hO
  go_upto_region 5 with (fail)
  refine f60r5_r hO 0 rfl (radd_c _ _ (mm_lt _ _) (mm_lt _ _)) (fit_rn _) ?_
  intro n11 w6 hO
  replace hO : Own w w6 [(n11, vals .u64 16 (F.dg (am (mm p.2.2.1 q.2.2.1) (mm p.2.2.1 q.2.2.1))), 33), (n10, vals .u64 16 (F.dg (mm p.2.2.1 q.2.2.1)), 33), (n9, vals .u64 16 (F.dg (mm (mm p.2.2.2 dd7) q.2.2.2)), 33), (n8, vals .u64 16 (F.dg (mm (am p.2.1 p.1) (am q.2.1 q.1))), 33), (n7, vals .u64 16 (F.dg (mm (sm p.2.1 p.1) (sm q.2.1 q.1))), 33), (n6, qn [0, 0, 0, 0], 91), (n5, vals .u64 16 (F.dg dd7), 33), (n4, wq q, 91), (n3, wq p, 91)] := hO
  go_upto_region 6 with (fail)
  refine f60r6_r hO 4 rfl 3 rfl (rsub_c _ _ (mm_lt _ _) (mm_lt _ _)) (fit_rn _) ?_
  intro n12 w7 hO
  replace hO : Own w w7 [(n12, vals .u64 16 (F.dg (sm (mm (am p.2.1 p.1) (am q.2.1 q.1)) (mm (sm p.2.1 p.1) (sm q.2.1 q.1)))), 33), (n11, vals .u64 16 (F.dg (am (mm p.2.2.1 q.2.2.1) (mm p.2.2.1 q.2.2.1))), 33), (n10, vals .u64 16 (F.dg (mm p.2.2.1 q.2.2.1)), 33), (n9, vals .u64 16 (F.dg (mm (mm p.2.2.2 dd7) q.2.2.2)), 33), (n8, vals .u64 16 (F.dg (mm (am p.2.1 p.1) (am q.2.1 q.1))), 33), (n7, vals .u64 16 (F.dg (mm (sm p.2.1 p.1) (sm q.2.1 q.1))), 33), (n6, qn [0, 0, 0, 0], 91), (n5, vals .u64 16 (F.dg dd7), 33), (n4, wq q, 91), (n3, wq p, 91)] := hO
  go_upto_region 7 with (fail)
  refine f60r7_r hO 3 rfl 1 rfl (rsub_c _ _ (am_lt _ _) (mm_lt _ _)) (fit_rn _) ?_
  intro n13 w8 hO
  replace hO : Own w w8 [(n13, vals .u64 16 (F.dg (sm (am (mm p.2.2.1 q.2.2.1) (mm p.2.2.1 q.2.2.1)) (mm (mm p.2.2.2 dd7) q.2.2.2))), 33), (n12, vals .u64 16 (F.dg (sm (mm (am p.2.1 p.1) (am q.2.1 q.1)) (mm (sm p.2.1 p.1) (sm q.2.1 q.1)))), 33), (n11, vals .u64 16 (F.dg (am (mm p.2.2.1 q.2.2.1) (mm p.2.2.1 q.2.2.1))), 33), (n10, vals .u64 16 (F.dg (mm p.2.2.1 q.2.2.1)), 33), (n9, vals .u64 16 (F.dg (mm (mm p.2.2.2 dd7) q.2.2.2)), 33), (n8, vals .u64 16 (F.dg (mm (am p.2.1 p.1) (am q.2.1 q.1))), 33), (n7, vals .u64 16 (F.dg (mm (sm p.2.1 p.1) (sm q.2.1 q.1))), 33), (n6, qn [0, 0, 0, 0], 91), (n5, vals .u64 16 (F.dg dd7), 33), (n4, wq q, 91), (n3, wq p, 91)] := hO
  go_upto_region 8 with (fail)
  refine f60r8_r hO 4 rfl 2 rfl (radd_c _ _ (am_lt _ _) (mm_lt _ _)) (fit_rn _) ?_
  intro n14 w9 hO
  replace hO : Own w w9 [(n14, vals .u64 16 (F.dg (am (am (mm p.2.2.1 q.2.2.1) (mm p.2.2.1 q.2.2.1)) (mm (mm p.2.2.2 dd7) q.2.2.2))), 33), (n13, vals .u64 16 (F.dg (sm (am (mm p.2.2.1 q.2.2.1) (mm p.2.2.1 q.2.2.1)) (mm (mm p.2.2.2 dd7) q.2.2.2))), 33), (n12, vals .u64 16 (F.dg (sm (mm (am p.2.1 p.1) (am q.2.1 q.1)) (mm (sm p.2.1 p.1) (sm q.2.1 q.1)))), 33), (n11, vals .u64 16 (F.dg (am (mm p.2.2.1 q.2.2.1) (mm p.2.2.1 q.2.2.1))), 33), (n10, vals .u64 16 (F.dg (mm p.2.2.1 q.2.2.1)), 33), (n9, vals .u64 16 (F.dg (mm (mm p.2.2.2 dd7) q.2.2.2)), 33), (n8, vals .u64 16 (F.dg (mm (am p.2.1 p.1) (am q.2.1 q.1))), 33), (n7, vals .u64 16 (F.dg (mm (sm p.2.1 p.1) (sm q.2.1 q.1))), 33), (n6, qn [0, 0, 0, 0], 91), (n5, vals .u64 16 (F.dg dd7), 33), (n4, wq q, 91), (n3, wq p, 91)] := hO
  go_upto_region 9 with (fail)
  refine f60r9_r hO 7 rfl 6 rfl (radd_c _ _ (mm_lt _ _) (mm_lt _ _)) (fit_rn _) ?_
  intro n15 w10 hO
  replace hO : Own w w10 [(n15, vals .u64 16 (F.dg (am (mm (am p.2.1 p.1) (am q.2.1 q.1)) (mm (sm p.2.1 p.1) (sm q.2.1 q.1)))), 33), (n14, vals .u64 16 (F.dg (am (am (mm p.2.2.1 q.2.2.1) (mm p.2.2.1 q.2.2.1)) (mm (mm p.2.2.2 dd7) q.2.2.2))), 33), (n13, vals .u64 16 (F.dg (sm (am (mm p.2.2.1 q.2.2.1) (mm p.2.2.1 q.2.2.1)) (mm (mm p.2.2.2 dd7) q.2.2.2))), 33), (n12, vals .u64 16 (F.dg (sm (mm (am p.2.1 p.1) (am q.2.1 q.1)) (mm (sm p.2.1 p.1) (sm q.2.1 q.1)))), 33), (n11, vals .u64 16 (F.dg (am (mm p.2.2.1 q.2.2.1) (mm p.2.2.1 q.2.2.1))), 33), (n10, vals .u64 16 (F.dg (mm p.2.2.1 q.2.2.1)), 33), (n9, vals .u64 16 (F.dg (mm (mm p.2.2.2 dd7) q.2.2.2)), 33), (n8, vals .u64 16 (F.dg (mm (am p.2.1 p.1) (am q.2.1 q.1))), 33), (n7, vals .u64 16 (F.dg (mm (sm p.2.1 p.1) (sm q.2.1 q.1))), 33), (n6, qn [0, 0, 0, 0], 91), (n5, vals .u64 16 (F.dg dd7), 33), (n4, wq q, 91), (n3, wq p, 91)] := hO
  go_upto_region 10 with (fail)
  refine f60r10_r (fun _ _ _ _ _ h => h) hO 9 rfl 3 rfl 2 rfl 1 rfl 0 rfl (by decide) (by decide) (by decide) (by decide) (rmul_c _ _ (sm_lt _ _) (sm_lt _ _)) (rmul_c _ _ (am_lt _ _) (am_lt _ _)) (rmul_c _ _ (sm_lt _ _) (am_lt _ _)) (rmul_c _ _ (sm_lt _ _) (am_lt _ _)) (bd_wd _ _ _ _) (fit_wd _ _ _ _) ?_
  intro w11 hO
  replace hO : Own w w11 [(n15, vals .u64 16 (F.dg (am (mm (am p.2.1 p.1) (am q.2.1 q.1)) (mm (sm p.2.1 p.1) (sm q.2.1 q.1)))), 33), (n14, vals .u64 16 (F.dg (am (am (mm p.2.2.1 q.2.2.1) (mm p.2.2.1 q.2.2.1)) (mm (mm p.2.2.2 dd7) q.2.2.2))), 33), (n13, vals .u64 16 (F.dg (sm (am (mm p.2.2.1 q.2.2.1) (mm p.2.2.1 q.2.2.1)) (mm (mm p.2.2.2 dd7) q.2.2.2))), 33), (n12, vals .u64 16 (F.dg (sm (mm (am p.2.1 p.1) (am q.2.1 q.1)) (mm (sm p.2.1 p.1) (sm q.2.1 q.1)))), 33), (n11, vals .u64 16 (F.dg (am (mm p.2.2.1 q.2.2.1) (mm p.2.2.1 q.2.2.1))), 33), (n10, vals .u64 16 (F.dg (mm p.2.2.1 q.2.2.1)), 33), (n9, vals .u64 16 (F.dg (mm (mm p.2.2.2 dd7) q.2.2.2)), 33), (n8, vals .u64 16 (F.dg (mm (am p.2.1 p.1) (am q.2.1 q.1))), 33), (n7, vals .u64 16 (F.dg (mm (sm p.2.1 p.1) (sm q.2.1 q.1))), 33), (n6, qn [mm (sm (mm (am p.2.1 p.1) (am q.2.1 q.1)) (mm (sm p.2.1 p.1) (sm q.2.1 q.1))) (sm (am (mm p.2.2.1 q.2.2.1) (mm p.2.2.1 q.2.2.1)) (mm (mm p.2.2.2 dd7) q.2.2.2)), mm (am (am (mm p.2.2.1 q.2.2.1) (mm p.2.2.1 q.2.2.1)) (mm (mm p.2.2.2 dd7) q.2.2.2)) (am (mm (am p.2.1 p.1) (am q.2.1 q.1)) (mm (sm p.2.1 p.1) (sm q.2.1 q.1))), mm (sm (am (mm p.2.2.1 q.2.2.1) (mm p.2.2.1 q.2.2.1)) (mm (mm p.2.2.2 dd7) q.2.2.2)) (am (am (mm p.2.2.1 q.2.2.1) (mm p.2.2.1 q.2.2.1)) (mm (mm p.2.2.2 dd7) q.2.2.2)), mm (sm (mm (am p.2.1 p.1) (am q.2.1 q.1)) (mm (sm p.2.1 p.1) (sm q.2.1 q.1))) (am (mm (am p.2.1 p.1) (am q.2.1 q.1)) (mm (sm p.2.1 p.1) (sm q.2.1 q.1)))], 91), (n5, vals .u64 16 (F.dg dd7), 33), (n4, wq q, 91), (n3, wq p, 91)] := hO
  go_wp2_with fail
  refine bodyPost_ret (v := .agg (qn [mm (sm (mm (am p.2.1 p.1) (am q.2.1 q.1)) (mm (sm p.2.1 p.1) (sm q.2.1 q.1))) (sm (am (mm p.2.2.1 q.2.2.1) (mm p.2.2.1 q.2.2.1)) (mm (mm p.2.2.2 dd7) q.2.2.2)), mm (am (am (mm p.2.2.1 q.2.2.1) (mm p.2.2.1 q.2.2.1)) (mm (mm p.2.2.2 dd7) q.2.2.2)) (am (mm (am p.2.1 p.1) (am q.2.1 q.1)) (mm (sm p.2.1 p.1) (sm q.2.1 q.1))), mm (sm (am (mm p.2.2.1 q.2.2.1) (mm p.2.2.1 q.2.2.1)) (mm (mm p.2.2.2 dd7) q.2.2.2)) (am (am (mm p.2.2.1 q.2.2.1) (mm p.2.2.1 q.2.2.1)) (mm (mm p.2.2.2 dd7) q.2.2.2)), mm (sm (mm (am p.2.1 p.1) (am q.2.1 q.1)) (mm (sm p.2.1 p.1) (sm q.2.1 q.1))) (am (mm (am p.2.1 p.1) (am q.2.1 q.1)) (mm (sm p.2.1 p.1) (sm q.2.1 q.1)))])) (results_cell_row Try.results60 _ _ n6 91 _ (0, 0) _ rfl (hO.row 9 rfl) Try.underlying91 rfl (fit_wd _ _ _ _).size) rfl ⟨rfl, hO.low⟩
end Go.Proofs.Ytalnkcijebdpbaa

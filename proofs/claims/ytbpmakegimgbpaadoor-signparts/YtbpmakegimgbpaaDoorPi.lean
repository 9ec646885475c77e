/- Walks: Decode. Thirty-two bytes; no other condition. -/
import Derived.Test.YtbpmakegimgbpaaDoorPh
namespace Go.Proofs.YtbpmakegimgbpaaDoor
set_option maxRecDepth 100000
open F Go.RowKit

/-- A list of operations, kept shut. -/
structure WL (ops : Array Oper) (Q : Exit → Act → World → Prop) (l : List Oper) (a : Act) (w : World) : Prop where
  out : wpList Tryd.prog ops Q l a w
section
variable {o : Oper} {a : Act} {u w : World} {L : List Row} {Q : Exit → Act → World → Prop} {ops : Array Oper} {rest : List Oper}
theorem g_fr {l : List Oper} (a' : Act) (h : WL ops Q l a' w) (ha : a = a' := by kernel_rfl) : WL ops Q l a w := ha ▸ h
theorem g_skip (h : WL ops Q rest (a.put o.dst undef) w) (hg : Region.wanted o (yielded ops a.tmps) = false := by kernel_rfl) : WL ops Q (o :: rest) a w := ⟨l_skip h.out hg⟩
theorem g_val (v : Value) (hrun : (execOp a.eval o).run Tryd.prog w = .ok (.value v) w) (h : WL ops Q rest (a.put o.dst v) w) (hg : Region.wanted o (yielded ops a.tmps) = true := by kernel_rfl) : WL ops Q (o :: rest) a w := ⟨l_val v hrun h.out hg⟩
theorem g_call (hO : Own u w L) (f : FuncId) (args : Array Value) (v : Value) (hc : ∀ w, Ret f args w v) (h : ∀ w', Own u w' L → WL ops Q rest (a.put o.dst v) w')
    (hrun : (execOp a.eval o).run Tryd.prog w = .ok (.enter f args) w := by kernel_rfl) (hg : Region.wanted o (yielded ops a.tmps) = true := by kernel_rfl) : WL ops Q (o :: rest) a w := ⟨l_call hO f args v hc (fun w' h' => (h w' h').out) hrun hg⟩
theorem g_ld (hO : Own u w L) (ty : TypeId) {x : Operand} (i : Nat) {b : Nat} {c : Array Value} (hi : L[i]? = some (b, c, ty)) {d : TypeDesc} (hu : Tryd.prog.underlying ty = some d)
    (h : WL ops Q rest (a.put o.dst (.agg c)) w) (ho : o.op = .load ty x := by rfl) (hx : a.eval x = .pointer (some ⟨b, 0, none⟩) := by kernel_rfl) (hd : d.isRow = true := by rfl) (hg : Region.wanted o (yielded ops a.tmps) = true := by kernel_rfl) : WL ops Q (o :: rest) a w := ⟨l_ld hO ty i hi hu h.out ho hx hd hg⟩
end
def sameB (f g : Nat → Nat) : Bool := (List.range 32).all fun i => f i == g i
theorem sameB_iff (f g : Nat → Nat) : sameB f g = true ↔ ∀ i, i < 32 → f i = g i := by
  unfold sameB; rw [List.all_eq_true]; simp
theorem eqB (f g : Nat → Nat) (w : World) : (Op.equalIn 10000 22 (.agg (vals .u8 32 f)) (.agg (vals .u8 32 g))).run Tryd.prog w = .ok (sameB f g) w := run_equal_vals (P := Tryd.prog) w 9998 22 5 32 .u8 Tryd.underlying22 Tryd.underlying5 size5 f g
theorem neq_c {ρ : Operand → Value} {o : Oper} (x y : Operand) (f g : Nat → Nat) (b : Bool) (hb : sameB f g = b) (w : World) (ho : o.op = .binOp .neq 22 x y 22) (hx : ρ x = .agg (vals .u8 32 f)) (hy : ρ y = .agg (vals .u8 32 g)) : (execOp ρ o).run Tryd.prog w = .ok (.value (.bool (!b))) w := by
  have h := eqB f g
  rw [hb] at h
  unfold execOp
  simp only [ho, hx, hy]
  go_simp
theorem eql_c {ρ : Operand → Value} {o : Oper} (x y : Operand) (f g : Nat → Nat) (b : Bool) (hb : sameB f g = b) (w : World) (ho : o.op = .binOp .eql 22 x y 22) (hx : ρ x = .agg (vals .u8 32 f)) (hy : ρ y = .agg (vals .u8 32 g)) : (execOp ρ o).run Tryd.prog w = .ok (.value (.bool b)) w := by
  have h := eqB f g
  rw [hb] at h
  unfold execOp
  simp only [ho, hx, hy]
  go_simp
theorem same_num {f g : Nat → Nat} (hf : ∀ i, f i < 256) (hg : ∀ i, g i < 256) : sameB f g = decide (nb f 32 = nb g 32) := by
  rw [Bool.eq_iff_iff, sameB_iff, decide_eq_true_eq]
  constructor
  · intro h; exact nb_congr f g 32 h
  · intro h i hi
    rw [← byt_nb f hf 32 i hi, ← byt_nb g hg 32 i hi, h]
theorem nb_byt32 {n : Nat} (hn : n < 2 ^ 256) : nb (byt n) 32 = n := by rw [nb_byt, Nat.mod_eq_of_lt hn]
theorem nb_cob (f : Nat → Nat) (hf : ∀ i, f i < 256) : nb (cob f) 32 = nb f 32 % 2 ^ 255 := by
  have e1 : nb (cob f) 32 = nb (cob f) 31 + cob f 31 * 2 ^ (8 * 31) := rfl
  have e2 : nb f 32 = nb f 31 + f 31 * 2 ^ (8 * 31) := rfl
  have e3 : nb (cob f) 31 = nb f 31 := nb_congr _ _ 31 fun j hj => by unfold cob; rw [if_neg (by omega)]
  have e4 : cob f 31 = f 31 % 128 := by unfold cob; rw [if_pos rfl]
  have h1 : nb f 31 < 2 ^ (8 * 31) := nb_lt f hf 31
  rw [e1, e2, e3, e4]
  generalize nb f 31 = A at *
  generalize f 31 = B at *
  omega
/-- What Decode tells: a point, and whether there is one. -/
def decR (n : Nat) : (Nat × Nat) × Bool := match dec7 n with
  | some P => (P, true)
  | none => (zero7, false)
theorem decR_ok (n : Nat) (hn : n < 2 ^ 256) : Ok7 (decR n).1 := by
  unfold decR
  cases h : dec7 n with
  | none => exact ok_zero7
  | some P => exact (dec7_ok n hn P h).1
theorem odd_bit7 (n : Nat) : n.testBit 255 = decide (n / 2 ^ 255 % 2 = 1) := Nat.testBit_eq_decide_div_mod_eq
theorem dec_big {n : Nat} (h : pP ≤ n % 2 ^ 255) : decR n = (zero7, false) := by unfold decR dec7; rw [if_pos h]
theorem dec_bad {n : Nat} (h : n % 2 ^ 255 < pP) (hk : false = rOk (u7 (n % 2 ^ 255)) (v7 (n % 2 ^ 255))) : decR n = (zero7, false) := by unfold decR dec7; rw [if_neg (by omega), if_pos (Or.inl hk.symm)]
theorem dec_flat {n X : Nat} (h : n % 2 ^ 255 < pP) (hX : X = rVal (u7 (n % 2 ^ 255)) (v7 (n % 2 ^ 255))) (h0 : X = 0) (ho : true = n.testBit 255) : decR n = (zero7, false) := by
  rw [odd_bit7] at ho
  unfold decR dec7
  rw [if_neg (by omega), if_pos (Or.inr ⟨by rw [← hX]; exact h0, of_decide_eq_true ho.symm⟩)]
theorem dec_even {n X : Nat} (h : n % 2 ^ 255 < pP) (hX : X = rVal (u7 (n % 2 ^ 255)) (v7 (n % 2 ^ 255))) (hk : true = rOk (u7 (n % 2 ^ 255)) (v7 (n % 2 ^ 255))) (ho : false = n.testBit 255) : decR n = ((X, n % 2 ^ 255), true) := by
  rw [odd_bit7] at ho
  have ho' := of_decide_eq_false ho.symm
  unfold decR dec7
  rw [if_neg (by omega), if_neg (by rw [← hk]; simp [ho']), if_neg ho', ← hX]
theorem dec_odd {n X : Nat} (h : n % 2 ^ 255 < pP) (hX : X = rVal (u7 (n % 2 ^ 255)) (v7 (n % 2 ^ 255))) (hk : true = rOk (u7 (n % 2 ^ 255)) (v7 (n % 2 ^ 255))) (h0 : ¬ X = 0) (ho : true = n.testBit 255) : decR n = ((ng X, n % 2 ^ 255), true) := by
  rw [odd_bit7] at ho
  have ho' := of_decide_eq_true ho.symm
  unfold decR dec7
  rw [if_neg (by omega), if_neg (by rw [← hk, ← hX]; simp [h0]), if_pos ho', ← hX]
def f12r0Op0 : Oper := ⟨some 1, .box 22 (.tmp 0), 0, "edwards.go:32", #[], none⟩
def f12r0Op1 : Oper := ⟨some 2, .alloc 41, 0, "edwards.go:32", #[], none⟩
def f12r0Op2 : Oper := ⟨some 3, .assign (.const (.bool false)), 4, "edwards.go:32", #[], none⟩
def f12r0Ops : Array Oper := #[f12r0Op0, f12r0Op1, f12r0Op2]
set_option maxHeartbeats 2000000 in
theorem f12r0_r {Q : Exit → Act → World → Prop} {u w : World} {L : List Row} {z1 z2 z3 : Value} {zz : List Value} {e0 : Array Value} (hO : Own u w L) (fe0_22 : Fit 22 e0) (H : ∀ (n1 : Nat) (n2 : Nat) (w' : World), Own u w' ((n2, ps [0, 0], 41) :: (n1, e0, 22) :: L) → Q .normal { tmps := List.toArray ((.agg e0) :: (.pointer (some ⟨n1, 0, none⟩)) :: (.pointer (some ⟨n2, 0, none⟩)) :: (.bool false) :: zz), defers := [] } w') :
    (Code.region 0 f12r0Ops false).wp Tryd.prog Q { tmps := List.toArray ((.agg e0) :: z1 :: z2 :: z3 :: zz), defers := [] } w := by
  refine wp_region_list (show wpList _ f12r0Ops _ [f12r0Op0, f12r0Op1, f12r0Op2] _ _ from ?_)
  refine l_new hO (e0) 22 (run_box 22 _ rfl _ (by kernel_rfl)) fe0_22 ?_
  intro n1 w1 hO
  refine l_new hO (ps [0, 0]) 41 (al29 rfl) (fit_pt _ _) ?_
  intro n2 w2 hO
  refine l_val (.bool false) (by kernel_rfl) ?_
  exact l_fr _ (wpList_nil (H n1 n2 _ hO))
def f12r1Op0 : Oper := ⟨some 9, .load 22 (.tmp 1), 22, "edwards.go:33", #[], none⟩
def f12r1Op1 : Oper := ⟨some 10, .call { callee := .value (.func 29), args := #[.tmp 9, .const (.int .i64 255)], argTypes := #[22, 3] }, 4, "edwards.go:33", #[⟨0, .data⟩], none⟩
def f12r1Op2 : Oper := ⟨some 4, .assign (.tmp 10), 4, "edwards.go:33", #[⟨1, .data⟩, ⟨1, .chain⟩, ⟨0, .phase⟩, ⟨1, .phase⟩], none⟩
def f12r1Ops : Array Oper := #[f12r1Op0, f12r1Op1, f12r1Op2]
set_option maxHeartbeats 2000000 in
theorem f12r1_r {Q : Exit → Act → World → Prop} {u w : World} {L : List Row} {z0 z2 z3 z4 z5 z6 z7 z8 z9 z10 : Value} {zz : List Value} {b1 : Nat} {c1 : Array Value} {p10 : Bool} (hO : Own u w L) (i1 : Nat) (h1 : L[i1]? = some (b1, c1, 22)) (r10 : ∀ w, Ret 29 #[.agg c1, .int IntKind.i64 255] w (.bool p10)) (H : ∀ (w' : World), Own u w' (L) → Q .normal { tmps := List.toArray (z0 :: (.pointer (some ⟨b1, 0, none⟩)) :: z2 :: z3 :: (.bool p10) :: z5 :: z6 :: z7 :: z8 :: (.agg c1) :: (.bool p10) :: zz), defers := [] } w') :
    (Code.region 1 f12r1Ops false).wp Tryd.prog Q { tmps := List.toArray (z0 :: (.pointer (some ⟨b1, 0, none⟩)) :: z2 :: z3 :: z4 :: z5 :: z6 :: z7 :: z8 :: z9 :: z10 :: zz), defers := [] } w := by
  refine wp_region_list (show wpList _ f12r1Ops _ [f12r1Op0, f12r1Op1, f12r1Op2] _ _ from ?_)
  refine l_ld hO 22 i1 h1 Tryd.underlying22 ?_
  refine l_call hO 29 #[.agg c1, .int IntKind.i64 255] (.bool p10) r10 ?_
  intro w1 hO
  refine l_val (.bool p10) (by kernel_rfl) ?_
  exact l_fr _ (wpList_nil (H  _ hO))
def f12r2Op0 : Oper := ⟨some 11, .indexAddr 22 (.tmp 1) (.const (.int .i64 31)), 0, "edwards.go:34", #[], none⟩
def f12r2Op1 : Oper := ⟨some 12, .load 5 (.tmp 11), 5, "edwards.go:34", #[⟨0, .data⟩], none⟩
def f12r2Op2 : Oper := ⟨some 13, .binOp .and 5 (.tmp 12) (.const (.int .u8 127)) 5, 5, "edwards.go:34", #[⟨1, .data⟩], none⟩
def f12r2Op3 : Oper := ⟨some 14, .indexAddr 22 (.tmp 1) (.const (.int .i64 31)), 0, "edwards.go:34", #[⟨0, .phase⟩, ⟨1, .phase⟩, ⟨2, .phase⟩], none⟩
def f12r2Op4 : Oper := ⟨none, .store 5 (.tmp 14) (.tmp 13), 0, "edwards.go:34", #[⟨3, .data⟩, ⟨2, .data⟩, ⟨0, .phase⟩, ⟨1, .phase⟩, ⟨2, .phase⟩], none⟩
def f12r2Ops : Array Oper := #[f12r2Op0, f12r2Op1, f12r2Op2, f12r2Op3, f12r2Op4]
set_option maxHeartbeats 2000000 in
theorem f12r2_r {Q : Exit → Act → World → Prop} {u w : World} {L : List Row} {z0 z2 z3 z4 z5 z6 z7 z8 z9 z10 z11 z12 z13 z14 : Value} {zz : List Value} {b1 : Nat} {c1 : Array Value} {e904 : Array Value} {g12 g13 : Nat} (hO : Own u w L) (i1 : Nat) (h1 : L[i1]? = some (b1, c1, 22)) (v12 : c1[31]? = some (.int .u8 ((g12 : Nat) : Int))) (k13 : ∀ (a : Act) (w : World), a.eval (.tmp 12) = .int .u8 ((g12 : Nat) : Int) → (execOp a.eval f12r2Op2).run Tryd.prog w = .ok (.value (.int .u8 ((g13 : Nat) : Int))) w) (s4 : c1.setIfInBounds 31 (.int .u8 ((g13 : Nat) : Int)) = e904) (fe904_22 : Fit 22 e904) (H : ∀ (w' : World), Own u w' ((L.set i1 (b1, e904, 22))) → Q .normal { tmps := List.toArray (z0 :: (.pointer (some ⟨b1, 0, none⟩)) :: z2 :: z3 :: z4 :: z5 :: z6 :: z7 :: z8 :: z9 :: z10 :: (.pointer (some ⟨b1, 31, none⟩)) :: (.int .u8 ((g12 : Nat) : Int)) :: (.int .u8 ((g13 : Nat) : Int)) :: (.pointer (some ⟨b1, 31, none⟩)) :: zz), defers := [] } w') :
    (Code.region 2 f12r2Ops false).wp Tryd.prog Q { tmps := List.toArray (z0 :: (.pointer (some ⟨b1, 0, none⟩)) :: z2 :: z3 :: z4 :: z5 :: z6 :: z7 :: z8 :: z9 :: z10 :: z11 :: z12 :: z13 :: z14 :: zz), defers := [] } w := by
  refine wp_region_list (show wpList _ f12r2Ops _ [f12r2Op0, f12r2Op1, f12r2Op2, f12r2Op3, f12r2Op4] _ _ from ?_)
  refine l_val (.pointer (some ⟨b1, 31, none⟩)) (by kernel_rfl) ?_
  refine l_c8 hO i1 h1 v12 ?_
  refine l_val (.int .u8 ((g13 : Nat) : Int)) (k13 _ _ (by kernel_rfl)) ?_
  refine l_fr (Fr [z0, D b1, z2, z3, z4, z5, z6, z7, z8, z9, z10, .pointer (some ⟨b1, 31, none⟩), .int .u8 ((g12 : Nat) : Int), .int .u8 ((g13 : Nat) : Int), z14] zz) ?_
  refine l_val (.pointer (some ⟨b1, 31, none⟩)) (by kernel_rfl) ?_
  refine l_stc hO i1 h1 g13 v12 s4 fe904_22 ?_
  intro w1 hO
  exact l_fr _ (wpList_nil (H  _ hO))
def f12r3Op0 : Oper := ⟨some 15, .load 22 (.tmp 1), 22, "edwards.go:35", #[], none⟩
def f12r3Op1 : Oper := ⟨some 16, .call { callee := .value (.func 30), args := #[.tmp 15], argTypes := #[22] }, 39, "edwards.go:35", #[⟨0, .data⟩], none⟩
def f12r3Op2 : Oper := ⟨some 5, .alloc 39, 0, "edwards.go:35", #[], none⟩
def f12r3Op3 : Oper := ⟨none, .store 39 (.tmp 5) (.tmp 16), 0, "edwards.go:35", #[⟨2, .data⟩, ⟨1, .data⟩, ⟨1, .chain⟩, ⟨0, .phase⟩, ⟨1, .phase⟩, ⟨2, .phase⟩], none⟩
def f12r3Ops : Array Oper := #[f12r3Op0, f12r3Op1, f12r3Op2, f12r3Op3]
set_option maxHeartbeats 2000000 in
theorem f12r3_r {Q : Exit → Act → World → Prop} {u w : World} {L : List Row} {z0 z2 z3 z4 z5 z6 z7 z8 z9 z10 z11 z12 z13 z14 z15 z16 : Value} {zz : List Value} {b1 : Nat} {c1 : Array Value} {e16 : Array Value} (hO : Own u w L) (i1 : Nat) (h1 : L[i1]? = some (b1, c1, 22)) (r16 : ∀ w, Ret 30 #[.agg c1] w (.agg e16)) (fe16_27 : Fit 39 e16) (H : ∀ (n5 : Nat) (w' : World), Own u w' ((n5, e16, 39) :: L) → Q .normal { tmps := List.toArray (z0 :: (.pointer (some ⟨b1, 0, none⟩)) :: z2 :: z3 :: z4 :: (.pointer (some ⟨n5, 0, none⟩)) :: z6 :: z7 :: z8 :: z9 :: z10 :: z11 :: z12 :: z13 :: z14 :: (.agg c1) :: (.agg e16) :: zz), defers := [] } w') :
    (Code.region 3 f12r3Ops false).wp Tryd.prog Q { tmps := List.toArray (z0 :: (.pointer (some ⟨b1, 0, none⟩)) :: z2 :: z3 :: z4 :: z5 :: z6 :: z7 :: z8 :: z9 :: z10 :: z11 :: z12 :: z13 :: z14 :: z15 :: z16 :: zz), defers := [] } w := by
  refine wp_region_list (show wpList _ f12r3Ops _ [f12r3Op0, f12r3Op1, f12r3Op2, f12r3Op3] _ _ from ?_)
  refine l_ld hO 22 i1 h1 Tryd.underlying22 ?_
  refine l_call hO 30 #[.agg c1] (.agg e16) r16 ?_
  intro w1 hO
  refine l_new hO (arr 4 (limb 0)) 39 (al27 rfl) (fit_fe _) ?_
  intro n5 w2 hO
  refine l_fr (Fr [z0, D b1, z2, z3, z4, D n5, z6, z7, z8, z9, z10, z11, z12, z13, z14, A c1, A e16] zz) ?_
  refine l_st hO 39 0 rfl e16 fe16_27 ?_
  intro w3 hO
  exact l_fr _ (wpList_nil (H n5 _ hO))
def f12r4aOp0 : Oper := ⟨some 17, .load 39 (.tmp 5), 39, "edwards.go:37", #[], none⟩
def f12r4aOp1 : Oper := ⟨some 18, .call { callee := .value (.func 31), args := #[.tmp 17], argTypes := #[39] }, 22, "edwards.go:37", #[⟨0, .data⟩], none⟩
def f12r4aOp2 : Oper := ⟨some 19, .load 22 (.tmp 1), 22, "edwards.go:37", #[], none⟩
def f12r4aOp3 : Oper := ⟨some 20, .binOp .neq 22 (.tmp 18) (.tmp 19) 22, 4, "edwards.go:37", #[⟨1, .data⟩, ⟨2, .data⟩], none⟩
def f12r4aOps : Array Oper := #[f12r4aOp0, f12r4aOp1, f12r4aOp2, f12r4aOp3]
set_option maxHeartbeats 2000000 in
theorem f12r4a_r {Q : Exit → Act → World → Prop} {u w : World} {L : List Row} {z0 z2 z3 z4 z6 z7 z8 z9 z10 z11 z12 z13 z14 z15 z16 z17 z18 z19 z20 : Value} {zz : List Value} {b1 b5 : Nat} {c1 c5 : Array Value} {e18 : Array Value} (hQ : ∀ c a w n v, Q (.panic c) (a.put (some n) v) w → Q (.panic c) a w) (hO : Own u w L) (i1 : Nat) (h1 : L[i1]? = some (b1, c1, 22)) (i5 : Nat) (h5 : L[i5]? = some (b5, c5, 39)) (r18 : ∀ w, Ret 31 #[.agg c5] w (.agg e18)) (k20 : ∀ (a : Act) (w : World), a.eval (.tmp 18) = .agg e18 → a.eval (.tmp 19) = .agg c1 → (execOp a.eval f12r4aOp3).run Tryd.prog w = .ok (.value (.bool true)) w) (H : ∀ (w' : World), Own u w' (L) → Q .normal { tmps := List.toArray (z0 :: (.pointer (some ⟨b1, 0, none⟩)) :: z2 :: z3 :: z4 :: (.pointer (some ⟨b5, 0, none⟩)) :: z6 :: z7 :: z8 :: z9 :: z10 :: z11 :: z12 :: z13 :: z14 :: z15 :: z16 :: (.agg c5) :: (.agg e18) :: (.agg c1) :: (.bool true) :: zz), defers := [] } w') :
    (Code.region 4 f12r4aOps true).wp Tryd.prog Q { tmps := List.toArray (z0 :: (.pointer (some ⟨b1, 0, none⟩)) :: z2 :: z3 :: z4 :: (.pointer (some ⟨b5, 0, none⟩)) :: z6 :: z7 :: z8 :: z9 :: z10 :: z11 :: z12 :: z13 :: z14 :: z15 :: z16 :: z17 :: z18 :: z19 :: z20 :: zz), defers := [] } w := by
  have fc1_22 := hO.fits i1 h1
  have fc5_27 := hO.fits i5 h5
  refine wp_region_held_drew (S := Has [(b1, c1, 22), (b5, c5, 39)]) (by kernel_rfl) ⟨hO.drew.row _ h1, hO.drew.row _ h5, trivial⟩ (fun hS => ?_)
  replace hO := hO.drew
  refine d_tk 0 f12r4aOp0 (.agg c5) hQ (y_l 39 (fun _ h => h.2.1) fc5_27 Tryd.underlying39) hS ?_
  refine d_tk 2 f12r4aOp2 (.agg c1) hQ (y_l 22 (fun _ h => h.1) fc1_22 Tryd.underlying22) hS ?_
  refine d_fr (ls 4 5) (Fr [z0, D b1, z2, z3, z4, D b5, z6, z7, z8, z9, z10, z11, z12, z13, z14, z15, z16, A c5, z18, A c1, z20] zz) ?_
  refine d_one 1 f12r4aOp1 (ls 4 7) (fun K hK => ?_)
  refine k_call hK hO (fun _ hO => ⟨hO.row _ h1, hO.row _ h5, trivial⟩) 31 #[.agg c5] (.agg e18) r18 ?_
  intro w1 hO
  have hS : Has [(b1, c1, 22), (b5, c5, 39)] _ := ⟨hO.row _ h1, hO.row _ h5, trivial⟩
  refine d_tk 3 f12r4aOp3 (.bool true) hQ (y_val (fun _ => k20 _ _ (by kernel_rfl) (by kernel_rfl))) hS ?_
  exact d_fr (ls 4 15) _ (wpAnyH_done (by kernel_rfl) (H  _ hO) _)
def f12r4bOp0 : Oper := ⟨some 17, .load 39 (.tmp 5), 39, "edwards.go:37", #[], none⟩
def f12r4bOp1 : Oper := ⟨some 18, .call { callee := .value (.func 31), args := #[.tmp 17], argTypes := #[39] }, 22, "edwards.go:37", #[⟨0, .data⟩], none⟩
def f12r4bOp2 : Oper := ⟨some 19, .load 22 (.tmp 1), 22, "edwards.go:37", #[], none⟩
def f12r4bOp3 : Oper := ⟨some 20, .binOp .neq 22 (.tmp 18) (.tmp 19) 22, 4, "edwards.go:37", #[⟨1, .data⟩, ⟨2, .data⟩], none⟩
def f12r4bOps : Array Oper := #[f12r4bOp0, f12r4bOp1, f12r4bOp2, f12r4bOp3]
set_option maxHeartbeats 2000000 in
theorem f12r4b_r {Q : Exit → Act → World → Prop} {u w : World} {L : List Row} {z0 z2 z3 z4 z6 z7 z8 z9 z10 z11 z12 z13 z14 z15 z16 z17 z18 z19 z20 : Value} {zz : List Value} {b1 b5 : Nat} {c1 c5 : Array Value} {e18 : Array Value} (hQ : ∀ c a w n v, Q (.panic c) (a.put (some n) v) w → Q (.panic c) a w) (hO : Own u w L) (i1 : Nat) (h1 : L[i1]? = some (b1, c1, 22)) (i5 : Nat) (h5 : L[i5]? = some (b5, c5, 39)) (r18 : ∀ w, Ret 31 #[.agg c5] w (.agg e18)) (k20 : ∀ (a : Act) (w : World), a.eval (.tmp 18) = .agg e18 → a.eval (.tmp 19) = .agg c1 → (execOp a.eval f12r4bOp3).run Tryd.prog w = .ok (.value (.bool false)) w) (H : ∀ (w' : World), Own u w' (L) → Q .normal { tmps := List.toArray (z0 :: (.pointer (some ⟨b1, 0, none⟩)) :: z2 :: z3 :: z4 :: (.pointer (some ⟨b5, 0, none⟩)) :: z6 :: z7 :: z8 :: z9 :: z10 :: z11 :: z12 :: z13 :: z14 :: z15 :: z16 :: (.agg c5) :: (.agg e18) :: (.agg c1) :: (.bool false) :: zz), defers := [] } w') :
    (Code.region 4 f12r4bOps true).wp Tryd.prog Q { tmps := List.toArray (z0 :: (.pointer (some ⟨b1, 0, none⟩)) :: z2 :: z3 :: z4 :: (.pointer (some ⟨b5, 0, none⟩)) :: z6 :: z7 :: z8 :: z9 :: z10 :: z11 :: z12 :: z13 :: z14 :: z15 :: z16 :: z17 :: z18 :: z19 :: z20 :: zz), defers := [] } w := by
  have fc1_22 := hO.fits i1 h1
  have fc5_27 := hO.fits i5 h5
  refine wp_region_held_drew (S := Has [(b1, c1, 22), (b5, c5, 39)]) (by kernel_rfl) ⟨hO.drew.row _ h1, hO.drew.row _ h5, trivial⟩ (fun hS => ?_)
  replace hO := hO.drew
  refine d_tk 0 f12r4bOp0 (.agg c5) hQ (y_l 39 (fun _ h => h.2.1) fc5_27 Tryd.underlying39) hS ?_
  refine d_tk 2 f12r4bOp2 (.agg c1) hQ (y_l 22 (fun _ h => h.1) fc1_22 Tryd.underlying22) hS ?_
  refine d_fr (ls 4 5) (Fr [z0, D b1, z2, z3, z4, D b5, z6, z7, z8, z9, z10, z11, z12, z13, z14, z15, z16, A c5, z18, A c1, z20] zz) ?_
  refine d_one 1 f12r4bOp1 (ls 4 7) (fun K hK => ?_)
  refine k_call hK hO (fun _ hO => ⟨hO.row _ h1, hO.row _ h5, trivial⟩) 31 #[.agg c5] (.agg e18) r18 ?_
  intro w1 hO
  have hS : Has [(b1, c1, 22), (b5, c5, 39)] _ := ⟨hO.row _ h1, hO.row _ h5, trivial⟩
  refine d_tk 3 f12r4bOp3 (.bool false) hQ (y_val (fun _ => k20 _ _ (by kernel_rfl) (by kernel_rfl))) hS ?_
  exact d_fr (ls 4 15) _ (wpAnyH_done (by kernel_rfl) (H  _ hO) _)
def f12r5Op0 : Oper := ⟨some 21, .build 41 #[], 41, "edwards.go:38", #[], none⟩
def f12r5Op1 : Oper := ⟨none, .store 41 (.tmp 2) (.tmp 21), 0, "edwards.go:38", #[⟨0, .data⟩, ⟨0, .phase⟩], none⟩
def f12r5Op2 : Oper := ⟨some 3, .assign (.const (.bool false)), 4, "edwards.go:38", #[⟨1, .chain⟩, ⟨0, .phase⟩, ⟨1, .phase⟩], none⟩
def f12r5Ops : Array Oper := #[f12r5Op0, f12r5Op1, f12r5Op2]
set_option maxHeartbeats 2000000 in
theorem f12r5_r {Q : Exit → Act → World → Prop} {u w : World} {L : List Row} {z0 z1 z3 z4 z5 z6 z7 z8 z9 z10 z11 z12 z13 z14 z15 z16 z17 z18 z19 z20 z21 : Value} {zz : List Value} {b2 : Nat} {c2 : Array Value} {e21 : Array Value} (hO : Own u w L) (i2 : Nat) (h2 : L[i2]? = some (b2, c2, 41)) (q21 : Tryd.prog.built 41 [] = some e21) (fe21_29 : Fit 41 e21) (H : ∀ (w' : World), Own u w' ((L.set i2 (b2, e21, 41))) → Q .normal { tmps := List.toArray (z0 :: z1 :: (.pointer (some ⟨b2, 0, none⟩)) :: (.bool false) :: z4 :: z5 :: z6 :: z7 :: z8 :: z9 :: z10 :: z11 :: z12 :: z13 :: z14 :: z15 :: z16 :: z17 :: z18 :: z19 :: z20 :: (.agg e21) :: zz), defers := [] } w') :
    (Code.region 5 f12r5Ops false).wp Tryd.prog Q { tmps := List.toArray (z0 :: z1 :: (.pointer (some ⟨b2, 0, none⟩)) :: z3 :: z4 :: z5 :: z6 :: z7 :: z8 :: z9 :: z10 :: z11 :: z12 :: z13 :: z14 :: z15 :: z16 :: z17 :: z18 :: z19 :: z20 :: z21 :: zz), defers := [] } w := by
  refine wp_region_list (show wpList _ f12r5Ops _ [f12r5Op0, f12r5Op1, f12r5Op2] _ _ from ?_)
  refine l_val (.agg e21) (run_bd 41 _ rfl [] (by kernel_rfl) e21 q21 _) ?_
  refine l_st hO 41 i2 h2 e21 fe21_29 ?_
  intro w1 hO
  refine l_val (.bool false) (by kernel_rfl) ?_
  exact l_fr _ (wpList_nil (H  _ hO))
def f12r6Op0 : Oper := ⟨some 22, .load 39 (.tmp 5), 39, "edwards.go:40", #[], none⟩
def f12r6Op1 : Oper := ⟨some 23, .call { callee := .value (.func 32), args := #[.tmp 22], argTypes := #[39] }, 39, "edwards.go:40", #[⟨0, .data⟩], none⟩
def f12r6Op2 : Oper := ⟨some 6, .alloc 39, 0, "edwards.go:40", #[], none⟩
def f12r6Op3 : Oper := ⟨none, .store 39 (.tmp 6) (.tmp 23), 0, "edwards.go:40", #[⟨2, .data⟩, ⟨1, .data⟩, ⟨1, .chain⟩, ⟨0, .phase⟩, ⟨1, .phase⟩, ⟨2, .phase⟩], none⟩
def f12r6Ops : Array Oper := #[f12r6Op0, f12r6Op1, f12r6Op2, f12r6Op3]
set_option maxHeartbeats 2000000 in
theorem f12r6_r {Q : Exit → Act → World → Prop} {u w : World} {L : List Row} {z0 z1 z2 z3 z4 z6 z7 z8 z9 z10 z11 z12 z13 z14 z15 z16 z17 z18 z19 z20 z21 z22 z23 : Value} {zz : List Value} {b5 : Nat} {c5 : Array Value} {e23 : Array Value} (hO : Own u w L) (i5 : Nat) (h5 : L[i5]? = some (b5, c5, 39)) (r23 : ∀ w, Ret 32 #[.agg c5] w (.agg e23)) (fe23_27 : Fit 39 e23) (H : ∀ (n6 : Nat) (w' : World), Own u w' ((n6, e23, 39) :: L) → Q .normal { tmps := List.toArray (z0 :: z1 :: z2 :: z3 :: z4 :: (.pointer (some ⟨b5, 0, none⟩)) :: (.pointer (some ⟨n6, 0, none⟩)) :: z7 :: z8 :: z9 :: z10 :: z11 :: z12 :: z13 :: z14 :: z15 :: z16 :: z17 :: z18 :: z19 :: z20 :: z21 :: (.agg c5) :: (.agg e23) :: zz), defers := [] } w') :
    (Code.region 6 f12r6Ops false).wp Tryd.prog Q { tmps := List.toArray (z0 :: z1 :: z2 :: z3 :: z4 :: (.pointer (some ⟨b5, 0, none⟩)) :: z6 :: z7 :: z8 :: z9 :: z10 :: z11 :: z12 :: z13 :: z14 :: z15 :: z16 :: z17 :: z18 :: z19 :: z20 :: z21 :: z22 :: z23 :: zz), defers := [] } w := by
  refine wp_region_list (show wpList _ f12r6Ops _ [f12r6Op0, f12r6Op1, f12r6Op2, f12r6Op3] _ _ from ?_)
  refine l_ld hO 39 i5 h5 Tryd.underlying39 ?_
  refine l_call hO 32 #[.agg c5] (.agg e23) r23 ?_
  intro w1 hO
  refine l_new hO (arr 4 (limb 0)) 39 (al27 rfl) (fit_fe _) ?_
  intro n6 w2 hO
  refine l_fr (Fr [z0, z1, z2, z3, z4, D b5, D n6, z7, z8, z9, z10, z11, z12, z13, z14, z15, z16, z17, z18, z19, z20, z21, A c5, A e23] zz) ?_
  refine l_st hO 39 0 rfl e23 fe23_27 ?_
  intro w3 hO
  exact l_fr _ (wpList_nil (H n6 _ hO))
def f12r7Op0 : Oper := ⟨some 25, .load 39 (.tmp 6), 39, "edwards.go:42", #[], none⟩
def f12r7Op1 : Oper := ⟨some 26, .call { callee := .value (.func 35), args := #[], argTypes := #[] }, 39, "edwards.go:42", #[], none⟩
def f12r7Op2 : Oper := ⟨some 27, .call { callee := .value (.func 34), args := #[.tmp 25, .tmp 26], argTypes := #[39, 39] }, 39, "edwards.go:42", #[⟨0, .data⟩, ⟨1, .data⟩, ⟨1, .chain⟩], none⟩
def f12r7Op3 : Oper := ⟨some 28, .call { callee := .value (.func 38), args := #[], argTypes := #[] }, 39, "edwards.go:42", #[⟨2, .chain⟩], none⟩
def f12r7Op4 : Oper := ⟨some 29, .load 39 (.tmp 6), 39, "edwards.go:42", #[], none⟩
def f12r7Op5 : Oper := ⟨some 30, .call { callee := .value (.func 37), args := #[.tmp 28, .tmp 29], argTypes := #[39, 39] }, 39, "edwards.go:42", #[⟨3, .data⟩, ⟨4, .data⟩, ⟨3, .chain⟩], none⟩
def f12r7Op6 : Oper := ⟨some 31, .call { callee := .value (.func 35), args := #[], argTypes := #[] }, 39, "edwards.go:42", #[⟨5, .chain⟩], none⟩
def f12r7Op7 : Oper := ⟨some 32, .call { callee := .value (.func 36), args := #[.tmp 30, .tmp 31], argTypes := #[39, 39] }, 39, "edwards.go:42", #[⟨5, .data⟩, ⟨6, .data⟩, ⟨6, .chain⟩], none⟩
def f12r7Op8 : Oper := ⟨some 33, .call { callee := .value (.func 33), args := #[.tmp 27, .tmp 32], argTypes := #[39, 39] }, 63, "edwards.go:42", #[⟨2, .data⟩, ⟨7, .data⟩, ⟨7, .chain⟩], none⟩
def f12r7Op9 : Oper := ⟨some 24, .move (.tmp 33), 63, "edwards.go:42", #[⟨8, .data⟩], none⟩
def f12r7Op10 : Oper := ⟨some 34, .extract (.tmp 24) 0, 39, "edwards.go:42", #[⟨9, .data⟩], none⟩
def f12r7Op11 : Oper := ⟨some 35, .extract (.tmp 24) 1, 4, "edwards.go:42", #[⟨9, .data⟩, ⟨13, .gcOnly .lateStores⟩], none⟩
def f12r7Op12 : Oper := ⟨some 7, .alloc 39, 0, "edwards.go:42", #[], none⟩
def f12r7Op13 : Oper := ⟨none, .store 39 (.tmp 7) (.tmp 34), 0, "edwards.go:42", #[⟨12, .data⟩, ⟨10, .data⟩, ⟨8, .chain⟩, ⟨0, .phase⟩, ⟨1, .phase⟩, ⟨2, .phase⟩, ⟨3, .phase⟩, ⟨4, .phase⟩, ⟨5, .phase⟩, ⟨6, .phase⟩, ⟨7, .phase⟩, ⟨8, .phase⟩, ⟨9, .phase⟩, ⟨10, .phase⟩, ⟨11, .textOnly .lateStores⟩, ⟨12, .phase⟩], none⟩
def f12r7Op14 : Oper := ⟨some 8, .assign (.tmp 35), 4, "edwards.go:42", #[⟨11, .data⟩, ⟨13, .chain⟩, ⟨0, .phase⟩, ⟨1, .phase⟩, ⟨2, .phase⟩, ⟨3, .phase⟩, ⟨4, .phase⟩, ⟨5, .phase⟩, ⟨6, .phase⟩, ⟨7, .phase⟩, ⟨8, .phase⟩, ⟨9, .phase⟩, ⟨10, .phase⟩, ⟨11, .phase⟩, ⟨12, .phase⟩, ⟨13, .phase⟩], none⟩
def f12r7Ops : Array Oper := #[f12r7Op0, f12r7Op1, f12r7Op2, f12r7Op3, f12r7Op4, f12r7Op5, f12r7Op6, f12r7Op7, f12r7Op8, f12r7Op9, f12r7Op10, f12r7Op11, f12r7Op12, f12r7Op13, f12r7Op14]
set_option maxHeartbeats 2000000 in
theorem f12r7_r {Q : Exit → Act → World → Prop} {u w : World} {L : List Row} {z0 z1 z2 z3 z4 z5 z7 z8 z9 z10 z11 z12 z13 z14 z15 z16 z17 z18 z19 z20 z21 z22 z23 z24 z25 z26 z27 z28 z29 z30 z31 z32 z33 z34 z35 : Value} {zz : List Value} {b6 : Nat} {c6 : Array Value} {e26 e27 e28 e30 e31 e32 e33a : Array Value} {p33b : Bool} (hQ : ∀ c a w n v, Q (.panic c) (a.put (some n) v) w → Q (.panic c) a w) (hO : Own u w L) (i6 : Nat) (h6 : L[i6]? = some (b6, c6, 39)) (r26 : ∀ w, Ret 35 #[] w (.agg e26)) (r27 : ∀ w, Ret 34 #[.agg c6, .agg e26] w (.agg e27)) (r28 : ∀ w, Ret 38 #[] w (.agg e28)) (r30 : ∀ w, Ret 37 #[.agg e28, .agg c6] w (.agg e30)) (r31 : ∀ w, Ret 35 #[] w (.agg e31)) (r32 : ∀ w, Ret 36 #[.agg e30, .agg e31] w (.agg e32)) (r33 : ∀ w, Ret 33 #[.agg e27, .agg e32] w (.tuple #[.agg e33a, .bool p33b])) (fe33a_27 : Fit 39 e33a) (H : ∀ (n7 : Nat) (w' : World), Own u w' ((n7, e33a, 39) :: L) → Q .normal { tmps := List.toArray (z0 :: z1 :: z2 :: z3 :: z4 :: z5 :: (.pointer (some ⟨b6, 0, none⟩)) :: (.pointer (some ⟨n7, 0, none⟩)) :: (.bool p33b) :: z9 :: z10 :: z11 :: z12 :: z13 :: z14 :: z15 :: z16 :: z17 :: z18 :: z19 :: z20 :: z21 :: z22 :: z23 :: (.tuple #[.agg e33a, .bool p33b]) :: (.agg c6) :: (.agg e26) :: (.agg e27) :: (.agg e28) :: (.agg c6) :: (.agg e30) :: (.agg e31) :: (.agg e32) :: (.tuple #[.agg e33a, .bool p33b]) :: (.agg e33a) :: (.bool p33b) :: zz), defers := [] } w') :
    (Code.region 7 f12r7Ops true).wp Tryd.prog Q { tmps := List.toArray (z0 :: z1 :: z2 :: z3 :: z4 :: z5 :: (.pointer (some ⟨b6, 0, none⟩)) :: z7 :: z8 :: z9 :: z10 :: z11 :: z12 :: z13 :: z14 :: z15 :: z16 :: z17 :: z18 :: z19 :: z20 :: z21 :: z22 :: z23 :: z24 :: z25 :: z26 :: z27 :: z28 :: z29 :: z30 :: z31 :: z32 :: z33 :: z34 :: z35 :: zz), defers := [] } w := by
  have fc6_27 := hO.fits i6 h6
  have s0 : ∀ (n7 : Nat) (w : World), Own u w ((n7, arr 4 (limb 0), 39) :: L) → wpAnyH Tryd.prog .any f12r7Ops Q (Has [(b6, c6, 39)]) 2 (ls 15 8191) (Fr [z0, z1, z2, z3, z4, z5, D b6, D n7, z8, z9, z10, z11, z12, z13, z14, z15, z16, z17, z18, z19, z20, z21, z22, z23, .tuple #[.agg e33a, .bool p33b], A c6, A e26, A e27, A e28, A c6, A e30, A e31, A e32, .tuple #[.agg e33a, .bool p33b], A e33a, .bool p33b] zz) w := by
    intro n7 w hO
    refine d_one 13 f12r7Op13 (ls 15 16383) (fun K hK => ?_)
    refine k_st hK hO 39 0 rfl e33a fe33a_27 (fun _ hO => ⟨hO.row _ (gs h6), trivial⟩) ?_
    intro w1 hO
    replace hO : Own u w1 ((n7, e33a, 39) :: L) := hO
    have hS : Has [(b6, c6, 39)] _ := ⟨hO.row _ (gs h6), trivial⟩
    refine d_tk 14 f12r7Op14 (.bool p33b) hQ (y_val (fun _ => by kernel_rfl)) hS ?_
    exact d_fr (ls 15 32767) _ (wpAnyH_done (by kernel_rfl) (H n7 _ hO) _)
  have s1 : ∀ (n7 : Nat) (w : World), Own u w ((n7, arr 4 (limb 0), 39) :: L) → wpAnyH Tryd.prog .any f12r7Ops Q (Has [(b6, c6, 39)]) 6 (ls 15 4351) (Fr [z0, z1, z2, z3, z4, z5, D b6, D n7, z8, z9, z10, z11, z12, z13, z14, z15, z16, z17, z18, z19, z20, z21, z22, z23, z24, A c6, A e26, A e27, A e28, A c6, A e30, A e31, A e32, z33, z34, z35] zz) w := by
    intro n7 w hO
    refine d_one 8 f12r7Op8 (ls 15 4607) (fun K hK => ?_)
    refine k_call hK hO (fun _ hO => ⟨hO.row _ (gs h6), trivial⟩) 33 #[.agg e27, .agg e32] (.tuple #[.agg e33a, .bool p33b]) r33 ?_
    intro w2 hO
    have hS : Has [(b6, c6, 39)] _ := ⟨hO.row _ (gs h6), trivial⟩
    refine d_tk 9 f12r7Op9 (.tuple #[.agg e33a, .bool p33b]) hQ (y_val (fun _ => by kernel_rfl)) hS ?_
    refine d_tk 10 f12r7Op10 (.agg e33a) hQ (y_val (fun _ => by kernel_rfl)) hS ?_
    refine d_tk 11 f12r7Op11 (.bool p33b) hQ (y_val (fun _ => by kernel_rfl)) hS ?_
    exact d_fr _ _ (s0 n7 _ hO)
  have s2 : ∀ (n7 : Nat) (w : World), Own u w ((n7, arr 4 (limb 0), 39) :: L) → wpAnyH Tryd.prog .any f12r7Ops Q (Has [(b6, c6, 39)]) 7 (ls 15 4223) (Fr [z0, z1, z2, z3, z4, z5, D b6, D n7, z8, z9, z10, z11, z12, z13, z14, z15, z16, z17, z18, z19, z20, z21, z22, z23, z24, A c6, A e26, A e27, A e28, A c6, A e30, A e31, z32, z33, z34, z35] zz) w := by
    intro n7 w hO
    refine d_one 7 f12r7Op7 (ls 15 4351) (fun K hK => ?_)
    refine k_call hK hO (fun _ hO => ⟨hO.row _ (gs h6), trivial⟩) 36 #[.agg e30, .agg e31] (.agg e32) r32 ?_
    intro w3 hO
    exact d_fr _ _ (s1 n7 _ hO)
  have s3 : ∀ (n7 : Nat) (w : World), Own u w ((n7, arr 4 (limb 0), 39) :: L) → wpAnyH Tryd.prog .any f12r7Ops Q (Has [(b6, c6, 39)]) 8 (ls 15 4159) (Fr [z0, z1, z2, z3, z4, z5, D b6, D n7, z8, z9, z10, z11, z12, z13, z14, z15, z16, z17, z18, z19, z20, z21, z22, z23, z24, A c6, A e26, A e27, A e28, A c6, A e30, z31, z32, z33, z34, z35] zz) w := by
    intro n7 w hO
    refine d_one 6 f12r7Op6 (ls 15 4223) (fun K hK => ?_)
    refine k_call hK hO (fun _ hO => ⟨hO.row _ (gs h6), trivial⟩) 35 #[] (.agg e31) r31 ?_
    intro w4 hO
    exact d_fr _ _ (s2 n7 _ hO)
  have s4 : ∀ (n7 : Nat) (w : World), Own u w ((n7, arr 4 (limb 0), 39) :: L) → wpAnyH Tryd.prog .any f12r7Ops Q (Has [(b6, c6, 39)]) 9 (ls 15 4127) (Fr [z0, z1, z2, z3, z4, z5, D b6, D n7, z8, z9, z10, z11, z12, z13, z14, z15, z16, z17, z18, z19, z20, z21, z22, z23, z24, A c6, A e26, A e27, A e28, A c6, z30, z31, z32, z33, z34, z35] zz) w := by
    intro n7 w hO
    refine d_one 5 f12r7Op5 (ls 15 4159) (fun K hK => ?_)
    refine k_call hK hO (fun _ hO => ⟨hO.row _ (gs h6), trivial⟩) 37 #[.agg e28, .agg c6] (.agg e30) r30 ?_
    intro w5 hO
    exact d_fr _ _ (s3 n7 _ hO)
  have s5 : ∀ (n7 : Nat) (w : World), Own u w ((n7, arr 4 (limb 0), 39) :: L) → wpAnyH Tryd.prog .any f12r7Ops Q (Has [(b6, c6, 39)]) 10 (ls 15 4119) (Fr [z0, z1, z2, z3, z4, z5, D b6, D n7, z8, z9, z10, z11, z12, z13, z14, z15, z16, z17, z18, z19, z20, z21, z22, z23, z24, A c6, A e26, A e27, z28, A c6, z30, z31, z32, z33, z34, z35] zz) w := by
    intro n7 w hO
    refine d_one 3 f12r7Op3 (ls 15 4127) (fun K hK => ?_)
    refine k_call hK hO (fun _ hO => ⟨hO.row _ (gs h6), trivial⟩) 38 #[] (.agg e28) r28 ?_
    intro w6 hO
    exact d_fr _ _ (s4 n7 _ hO)
  have s6 : ∀ (n7 : Nat) (w : World), Own u w ((n7, arr 4 (limb 0), 39) :: L) → wpAnyH Tryd.prog .any f12r7Ops Q (Has [(b6, c6, 39)]) 11 (ls 15 4115) (Fr [z0, z1, z2, z3, z4, z5, D b6, D n7, z8, z9, z10, z11, z12, z13, z14, z15, z16, z17, z18, z19, z20, z21, z22, z23, z24, A c6, A e26, z27, z28, A c6, z30, z31, z32, z33, z34, z35] zz) w := by
    intro n7 w hO
    refine d_one 2 f12r7Op2 (ls 15 4119) (fun K hK => ?_)
    refine k_call hK hO (fun _ hO => ⟨hO.row _ (gs h6), trivial⟩) 34 #[.agg c6, .agg e26] (.agg e27) r27 ?_
    intro w7 hO
    exact d_fr _ _ (s5 n7 _ hO)
  refine wp_region_held_drew (S := Has [(b6, c6, 39)]) (by kernel_rfl) ⟨hO.drew.row _ h6, trivial⟩ (fun hS => ?_)
  replace hO := hO.drew
  refine d_tk 0 f12r7Op0 (.agg c6) hQ (y_l 39 (fun _ h => h.1) fc6_27 Tryd.underlying39) hS ?_
  refine d_tk 4 f12r7Op4 (.agg c6) hQ (y_l 39 (fun _ h => h.1) fc6_27 Tryd.underlying39) hS ?_
  refine d_fr (ls 15 17) (Fr [z0, z1, z2, z3, z4, z5, D b6, z7, z8, z9, z10, z11, z12, z13, z14, z15, z16, z17, z18, z19, z20, z21, z22, z23, z24, A c6, z26, z27, z28, A c6, z30, z31, z32, z33, z34, z35] zz) ?_
  refine wpAnyH_ready (rs := [1, 12]) (by kernel_rfl) (by simp) ?_
  refine d_cons 1 f12r7Op1 (ls 15 19) (fun K hK => ?_) ?_
  · skip
    refine k_call hK hO (fun _ hO => ⟨hO.row _ h6, trivial⟩) 35 #[] (.agg e26) r26 ?_
    intro w8 hO
    refine wpAnyH_ready (rs := [2, 12]) (by kernel_rfl) (by simp) ?_
    refine d_cons 2 f12r7Op2 (ls 15 23) (fun K hK => ?_) ?_
    · skip
      refine k_call hK hO (fun _ hO => ⟨hO.row _ h6, trivial⟩) 34 #[.agg c6, .agg e26] (.agg e27) r27 ?_
      intro w9 hO
      refine wpAnyH_ready (rs := [3, 12]) (by kernel_rfl) (by simp) ?_
      refine d_cons 3 f12r7Op3 (ls 15 31) (fun K hK => ?_) ?_
      · skip
        refine k_call hK hO (fun _ hO => ⟨hO.row _ h6, trivial⟩) 38 #[] (.agg e28) r28 ?_
        intro w10 hO
        refine d_fr (ls 15 31) (Fr [z0, z1, z2, z3, z4, z5, D b6, z7, z8, z9, z10, z11, z12, z13, z14, z15, z16, z17, z18, z19, z20, z21, z22, z23, z24, A c6, A e26, A e27, A e28, A c6, z30, z31, z32, z33, z34, z35] zz) ?_
        refine wpAnyH_ready (rs := [5, 12]) (by kernel_rfl) (by simp) ?_
        refine d_cons 5 f12r7Op5 (ls 15 63) (fun K hK => ?_) ?_
        · skip
          refine k_call hK hO (fun _ hO => ⟨hO.row _ h6, trivial⟩) 37 #[.agg e28, .agg c6] (.agg e30) r30 ?_
          intro w11 hO
          refine wpAnyH_ready (rs := [6, 12]) (by kernel_rfl) (by simp) ?_
          refine d_cons 6 f12r7Op6 (ls 15 127) (fun K hK => ?_) ?_
          · skip
            refine k_call hK hO (fun _ hO => ⟨hO.row _ h6, trivial⟩) 35 #[] (.agg e31) r31 ?_
            intro w12 hO
            refine wpAnyH_ready (rs := [7, 12]) (by kernel_rfl) (by simp) ?_
            refine d_cons 7 f12r7Op7 (ls 15 255) (fun K hK => ?_) ?_
            · skip
              refine k_call hK hO (fun _ hO => ⟨hO.row _ h6, trivial⟩) 36 #[.agg e30, .agg e31] (.agg e32) r32 ?_
              intro w13 hO
              refine d_fr (ls 15 255) (Fr [z0, z1, z2, z3, z4, z5, D b6, z7, z8, z9, z10, z11, z12, z13, z14, z15, z16, z17, z18, z19, z20, z21, z22, z23, z24, A c6, A e26, A e27, A e28, A c6, A e30, A e31, A e32, z33, z34, z35] zz) ?_
              refine wpAnyH_ready (rs := [8, 12]) (by kernel_rfl) (by simp) ?_
              refine d_cons 8 f12r7Op8 (ls 15 511) (fun K hK => ?_) ?_
              · skip
                refine k_call hK hO (fun _ hO => ⟨hO.row _ h6, trivial⟩) 33 #[.agg e27, .agg e32] (.tuple #[.agg e33a, .bool p33b]) r33 ?_
                intro w14 hO
                have hS : Has [(b6, c6, 39)] _ := ⟨hO.row _ h6, trivial⟩
                refine d_tk 9 f12r7Op9 (.tuple #[.agg e33a, .bool p33b]) hQ (y_val (fun _ => by kernel_rfl)) hS ?_
                refine d_tk 10 f12r7Op10 (.agg e33a) hQ (y_val (fun _ => by kernel_rfl)) hS ?_
                refine d_tk 11 f12r7Op11 (.bool p33b) hQ (y_val (fun _ => by kernel_rfl)) hS ?_
                refine d_fr (ls 15 4095) (Fr [z0, z1, z2, z3, z4, z5, D b6, z7, z8, z9, z10, z11, z12, z13, z14, z15, z16, z17, z18, z19, z20, z21, z22, z23, .tuple #[.agg e33a, .bool p33b], A c6, A e26, A e27, A e28, A c6, A e30, A e31, A e32, .tuple #[.agg e33a, .bool p33b], A e33a, .bool p33b] zz) ?_
                refine d_one 12 f12r7Op12 (ls 15 8191) (fun K hK => ?_)
                refine k_new hK hO (arr 4 (limb 0)) 39 (al27 rfl) (fit_fe _) (fun _ _ hO => ⟨hO.row _ (gs h6), trivial⟩) ?_
                intro n7 w15 hO
                exact d_fr _ _ (s0 n7 _ hO)
              refine d_cons 12 f12r7Op12 (ls 15 4351) (fun K hK => ?_) ?_
              · skip
                refine k_new hK hO (arr 4 (limb 0)) 39 (al27 rfl) (fit_fe _) (fun _ _ hO => ⟨hO.row _ (gs h6), trivial⟩) ?_
                intro n7 w16 hO
                exact d_fr _ _ (s1 n7 _ hO)
              exact AllReadyH.nil
            refine d_cons 12 f12r7Op12 (ls 15 4223) (fun K hK => ?_) ?_
            · skip
              refine k_new hK hO (arr 4 (limb 0)) 39 (al27 rfl) (fit_fe _) (fun _ _ hO => ⟨hO.row _ (gs h6), trivial⟩) ?_
              intro n7 w17 hO
              exact d_fr _ _ (s2 n7 _ hO)
            exact AllReadyH.nil
          refine d_cons 12 f12r7Op12 (ls 15 4159) (fun K hK => ?_) ?_
          · skip
            refine k_new hK hO (arr 4 (limb 0)) 39 (al27 rfl) (fit_fe _) (fun _ _ hO => ⟨hO.row _ (gs h6), trivial⟩) ?_
            intro n7 w18 hO
            exact d_fr _ _ (s3 n7 _ hO)
          exact AllReadyH.nil
        refine d_cons 12 f12r7Op12 (ls 15 4127) (fun K hK => ?_) ?_
        · skip
          refine k_new hK hO (arr 4 (limb 0)) 39 (al27 rfl) (fit_fe _) (fun _ _ hO => ⟨hO.row _ (gs h6), trivial⟩) ?_
          intro n7 w19 hO
          exact d_fr _ _ (s4 n7 _ hO)
        exact AllReadyH.nil
      refine d_cons 12 f12r7Op12 (ls 15 4119) (fun K hK => ?_) ?_
      · skip
        refine k_new hK hO (arr 4 (limb 0)) 39 (al27 rfl) (fit_fe _) (fun _ _ hO => ⟨hO.row _ (gs h6), trivial⟩) ?_
        intro n7 w20 hO
        exact d_fr _ _ (s5 n7 _ hO)
      exact AllReadyH.nil
    refine d_cons 12 f12r7Op12 (ls 15 4115) (fun K hK => ?_) ?_
    · skip
      refine k_new hK hO (arr 4 (limb 0)) 39 (al27 rfl) (fit_fe _) (fun _ _ hO => ⟨hO.row _ (gs h6), trivial⟩) ?_
      intro n7 w21 hO
      exact d_fr _ _ (s6 n7 _ hO)
    exact AllReadyH.nil
  refine d_cons 12 f12r7Op12 (ls 15 4113) (fun K hK => ?_) ?_
  · skip
    refine k_new hK hO (arr 4 (limb 0)) 39 (al27 rfl) (fit_fe _) (fun _ _ hO => ⟨hO.row _ (gs h6), trivial⟩) ?_
    intro n7 w22 hO
    refine d_one 1 f12r7Op1 (ls 15 4115) (fun K hK => ?_)
    refine k_call hK hO (fun _ hO => ⟨hO.row _ (gs h6), trivial⟩) 35 #[] (.agg e26) r26 ?_
    intro w23 hO
    exact d_fr _ _ (s6 n7 _ hO)
  exact AllReadyH.nil
def f12r8AOp0 : Oper := ⟨some 36, .move (.tmp 8), 4, "edwards.go:43", #[], none⟩
def f12r8AOp1 : Oper := ⟨some 37, .unOp .not 4 (.tmp 36), 4, "edwards.go:43", #[⟨0, .data⟩], none⟩
def f12r8AOp2 : Oper := ⟨some 38, .move (.tmp 37), 4, "edwards.go:43", #[⟨1, .data⟩], none⟩
def f12r8AOp3 : Oper := ⟨some 39, .move (.tmp 4), 4, "edwards.go:43", #[⟨2, .guard⟩], some (2, false)⟩
def f12r8AOp4 : Oper := ⟨some 40, .move (.tmp 39), 4, "edwards.go:43", #[⟨3, .data⟩, ⟨2, .chain⟩, ⟨2, .guard⟩], some (2, false)⟩
def f12r8AOp5 : Oper := ⟨some 41, .load 39 (.tmp 7), 39, "edwards.go:43", #[⟨4, .guard⟩], some (4, true)⟩
def f12r8AOp6 : Oper := ⟨some 42, .build 39 #[], 39, "edwards.go:43", #[⟨4, .guard⟩], some (4, true)⟩
def f12r8AOp7 : Oper := ⟨some 43, .call { callee := .value (.func 39), args := #[.tmp 41, .tmp 42], argTypes := #[39, 39] }, 4, "edwards.go:43", #[⟨5, .data⟩, ⟨6, .data⟩, ⟨4, .chain⟩, ⟨4, .guard⟩], some (4, true)⟩
def f12r8AOp8 : Oper := ⟨some 44, .pick (.tmp 40) (.tmp 43) (.const (.bool false)), 4, "edwards.go:43", #[⟨4, .data⟩, ⟨7, .data⟩, ⟨2, .guard⟩], some (2, false)⟩
def f12r8AOp9 : Oper := ⟨some 45, .pick (.tmp 38) (.const (.bool true)) (.tmp 44), 4, "edwards.go:43", #[⟨2, .data⟩, ⟨8, .data⟩], none⟩
def f12r8AOps : Array Oper := #[f12r8AOp0, f12r8AOp1, f12r8AOp2, f12r8AOp3, f12r8AOp4, f12r8AOp5, f12r8AOp6, f12r8AOp7, f12r8AOp8, f12r8AOp9]
set_option maxHeartbeats 2000000 in
theorem f12r8A_r {Q : Exit → Act → World → Prop} {u w : World} {L : List Row} {z0 z1 z2 z3 z4 z5 z6 z9 z10 z11 z12 z13 z14 z15 z16 z17 z18 z19 z20 z21 z22 z23 z24 z25 z26 z27 z28 z29 z30 z31 z32 z33 z34 z35 z36 z37 z38 z39 z40 z41 z42 z43 z44 z45 : Value} {zz : List Value} {b7 : Nat} (hO : Own u w L) (H : ∀ (w' : World), Own u w' (L) → Q .normal { tmps := List.toArray (z0 :: z1 :: z2 :: z3 :: z4 :: z5 :: z6 :: (.pointer (some ⟨b7, 0, none⟩)) :: (.bool false) :: z9 :: z10 :: z11 :: z12 :: z13 :: z14 :: z15 :: z16 :: z17 :: z18 :: z19 :: z20 :: z21 :: z22 :: z23 :: z24 :: z25 :: z26 :: z27 :: z28 :: z29 :: z30 :: z31 :: z32 :: z33 :: z34 :: z35 :: (.bool false) :: (.bool true) :: (.bool true) :: undef :: undef :: undef :: undef :: undef :: undef :: (.bool true) :: zz), defers := [] } w') :
    (Code.region 8 f12r8AOps false).wp Tryd.prog Q { tmps := List.toArray (z0 :: z1 :: z2 :: z3 :: z4 :: z5 :: z6 :: (.pointer (some ⟨b7, 0, none⟩)) :: (.bool false) :: z9 :: z10 :: z11 :: z12 :: z13 :: z14 :: z15 :: z16 :: z17 :: z18 :: z19 :: z20 :: z21 :: z22 :: z23 :: z24 :: z25 :: z26 :: z27 :: z28 :: z29 :: z30 :: z31 :: z32 :: z33 :: z34 :: z35 :: z36 :: z37 :: z38 :: z39 :: z40 :: z41 :: z42 :: z43 :: z44 :: z45 :: zz), defers := [] } w := by
  refine wp_region_list (show wpList _ f12r8AOps _ [f12r8AOp0, f12r8AOp1, f12r8AOp2, f12r8AOp3, f12r8AOp4, f12r8AOp5, f12r8AOp6, f12r8AOp7, f12r8AOp8, f12r8AOp9] _ _ from WL.out ?_)
  refine g_val (.bool false) (by kernel_rfl) ?_
  refine g_fr (Fr [z0, z1, z2, z3, z4, z5, z6, D b7, .bool false, z9, z10, z11, z12, z13, z14, z15, z16, z17, z18, z19, z20, z21, z22, z23, z24, z25, z26, z27, z28, z29, z30, z31, z32, z33, z34, z35, .bool false, z37, z38, z39, z40, z41, z42, z43, z44, z45] zz) ?_
  refine g_val (.bool true) (by kernel_rfl) ?_
  refine g_fr (Fr [z0, z1, z2, z3, z4, z5, z6, D b7, .bool false, z9, z10, z11, z12, z13, z14, z15, z16, z17, z18, z19, z20, z21, z22, z23, z24, z25, z26, z27, z28, z29, z30, z31, z32, z33, z34, z35, .bool false, .bool true, z38, z39, z40, z41, z42, z43, z44, z45] zz) ?_
  refine g_val (.bool true) (by kernel_rfl) ?_
  refine g_fr (Fr [z0, z1, z2, z3, z4, z5, z6, D b7, .bool false, z9, z10, z11, z12, z13, z14, z15, z16, z17, z18, z19, z20, z21, z22, z23, z24, z25, z26, z27, z28, z29, z30, z31, z32, z33, z34, z35, .bool false, .bool true, .bool true, z39, z40, z41, z42, z43, z44, z45] zz) ?_
  refine g_skip ?_
  refine g_fr (Fr [z0, z1, z2, z3, z4, z5, z6, D b7, .bool false, z9, z10, z11, z12, z13, z14, z15, z16, z17, z18, z19, z20, z21, z22, z23, z24, z25, z26, z27, z28, z29, z30, z31, z32, z33, z34, z35, .bool false, .bool true, .bool true, undef, z40, z41, z42, z43, z44, z45] zz) ?_
  refine g_skip ?_
  refine g_fr (Fr [z0, z1, z2, z3, z4, z5, z6, D b7, .bool false, z9, z10, z11, z12, z13, z14, z15, z16, z17, z18, z19, z20, z21, z22, z23, z24, z25, z26, z27, z28, z29, z30, z31, z32, z33, z34, z35, .bool false, .bool true, .bool true, undef, undef, z41, z42, z43, z44, z45] zz) ?_
  refine g_skip ?_
  refine g_fr (Fr [z0, z1, z2, z3, z4, z5, z6, D b7, .bool false, z9, z10, z11, z12, z13, z14, z15, z16, z17, z18, z19, z20, z21, z22, z23, z24, z25, z26, z27, z28, z29, z30, z31, z32, z33, z34, z35, .bool false, .bool true, .bool true, undef, undef, undef, z42, z43, z44, z45] zz) ?_
  refine g_skip ?_
  refine g_fr (Fr [z0, z1, z2, z3, z4, z5, z6, D b7, .bool false, z9, z10, z11, z12, z13, z14, z15, z16, z17, z18, z19, z20, z21, z22, z23, z24, z25, z26, z27, z28, z29, z30, z31, z32, z33, z34, z35, .bool false, .bool true, .bool true, undef, undef, undef, undef, z43, z44, z45] zz) ?_
  refine g_skip ?_
  refine g_fr (Fr [z0, z1, z2, z3, z4, z5, z6, D b7, .bool false, z9, z10, z11, z12, z13, z14, z15, z16, z17, z18, z19, z20, z21, z22, z23, z24, z25, z26, z27, z28, z29, z30, z31, z32, z33, z34, z35, .bool false, .bool true, .bool true, undef, undef, undef, undef, undef, z44, z45] zz) ?_
  refine g_skip ?_
  refine g_fr (Fr [z0, z1, z2, z3, z4, z5, z6, D b7, .bool false, z9, z10, z11, z12, z13, z14, z15, z16, z17, z18, z19, z20, z21, z22, z23, z24, z25, z26, z27, z28, z29, z30, z31, z32, z33, z34, z35, .bool false, .bool true, .bool true, undef, undef, undef, undef, undef, undef, z45] zz) ?_
  refine g_val (.bool true) (by kernel_rfl) ?_
  exact g_fr _ ⟨wpList_nil (H  _ hO)⟩
def f12r8BOp0 : Oper := ⟨some 36, .move (.tmp 8), 4, "edwards.go:43", #[], none⟩
def f12r8BOp1 : Oper := ⟨some 37, .unOp .not 4 (.tmp 36), 4, "edwards.go:43", #[⟨0, .data⟩], none⟩
def f12r8BOp2 : Oper := ⟨some 38, .move (.tmp 37), 4, "edwards.go:43", #[⟨1, .data⟩], none⟩
def f12r8BOp3 : Oper := ⟨some 39, .move (.tmp 4), 4, "edwards.go:43", #[⟨2, .guard⟩], some (2, false)⟩
def f12r8BOp4 : Oper := ⟨some 40, .move (.tmp 39), 4, "edwards.go:43", #[⟨3, .data⟩, ⟨2, .chain⟩, ⟨2, .guard⟩], some (2, false)⟩
def f12r8BOp5 : Oper := ⟨some 41, .load 39 (.tmp 7), 39, "edwards.go:43", #[⟨4, .guard⟩], some (4, true)⟩
def f12r8BOp6 : Oper := ⟨some 42, .build 39 #[], 39, "edwards.go:43", #[⟨4, .guard⟩], some (4, true)⟩
def f12r8BOp7 : Oper := ⟨some 43, .call { callee := .value (.func 39), args := #[.tmp 41, .tmp 42], argTypes := #[39, 39] }, 4, "edwards.go:43", #[⟨5, .data⟩, ⟨6, .data⟩, ⟨4, .chain⟩, ⟨4, .guard⟩], some (4, true)⟩
def f12r8BOp8 : Oper := ⟨some 44, .pick (.tmp 40) (.tmp 43) (.const (.bool false)), 4, "edwards.go:43", #[⟨4, .data⟩, ⟨7, .data⟩, ⟨2, .guard⟩], some (2, false)⟩
def f12r8BOp9 : Oper := ⟨some 45, .pick (.tmp 38) (.const (.bool true)) (.tmp 44), 4, "edwards.go:43", #[⟨2, .data⟩, ⟨8, .data⟩], none⟩
def f12r8BOps : Array Oper := #[f12r8BOp0, f12r8BOp1, f12r8BOp2, f12r8BOp3, f12r8BOp4, f12r8BOp5, f12r8BOp6, f12r8BOp7, f12r8BOp8, f12r8BOp9]
set_option maxHeartbeats 2000000 in
theorem f12r8B_r {Q : Exit → Act → World → Prop} {u w : World} {L : List Row} {z0 z1 z2 z3 z5 z6 z9 z10 z11 z12 z13 z14 z15 z16 z17 z18 z19 z20 z21 z22 z23 z24 z25 z26 z27 z28 z29 z30 z31 z32 z33 z34 z35 z36 z37 z38 z39 z40 z41 z42 z43 z44 z45 : Value} {zz : List Value} {b7 : Nat} (hO : Own u w L) (H : ∀ (w' : World), Own u w' (L) → Q .normal { tmps := List.toArray (z0 :: z1 :: z2 :: z3 :: (.bool false) :: z5 :: z6 :: (.pointer (some ⟨b7, 0, none⟩)) :: (.bool true) :: z9 :: z10 :: z11 :: z12 :: z13 :: z14 :: z15 :: z16 :: z17 :: z18 :: z19 :: z20 :: z21 :: z22 :: z23 :: z24 :: z25 :: z26 :: z27 :: z28 :: z29 :: z30 :: z31 :: z32 :: z33 :: z34 :: z35 :: (.bool true) :: (.bool false) :: (.bool false) :: (.bool false) :: (.bool false) :: undef :: undef :: undef :: (.bool false) :: (.bool false) :: zz), defers := [] } w') :
    (Code.region 8 f12r8BOps false).wp Tryd.prog Q { tmps := List.toArray (z0 :: z1 :: z2 :: z3 :: (.bool false) :: z5 :: z6 :: (.pointer (some ⟨b7, 0, none⟩)) :: (.bool true) :: z9 :: z10 :: z11 :: z12 :: z13 :: z14 :: z15 :: z16 :: z17 :: z18 :: z19 :: z20 :: z21 :: z22 :: z23 :: z24 :: z25 :: z26 :: z27 :: z28 :: z29 :: z30 :: z31 :: z32 :: z33 :: z34 :: z35 :: z36 :: z37 :: z38 :: z39 :: z40 :: z41 :: z42 :: z43 :: z44 :: z45 :: zz), defers := [] } w := by
  refine wp_region_list (show wpList _ f12r8BOps _ [f12r8BOp0, f12r8BOp1, f12r8BOp2, f12r8BOp3, f12r8BOp4, f12r8BOp5, f12r8BOp6, f12r8BOp7, f12r8BOp8, f12r8BOp9] _ _ from WL.out ?_)
  refine g_val (.bool true) (by kernel_rfl) ?_
  refine g_fr (Fr [z0, z1, z2, z3, .bool false, z5, z6, D b7, .bool true, z9, z10, z11, z12, z13, z14, z15, z16, z17, z18, z19, z20, z21, z22, z23, z24, z25, z26, z27, z28, z29, z30, z31, z32, z33, z34, z35, .bool true, z37, z38, z39, z40, z41, z42, z43, z44, z45] zz) ?_
  refine g_val (.bool false) (by kernel_rfl) ?_
  refine g_fr (Fr [z0, z1, z2, z3, .bool false, z5, z6, D b7, .bool true, z9, z10, z11, z12, z13, z14, z15, z16, z17, z18, z19, z20, z21, z22, z23, z24, z25, z26, z27, z28, z29, z30, z31, z32, z33, z34, z35, .bool true, .bool false, z38, z39, z40, z41, z42, z43, z44, z45] zz) ?_
  refine g_val (.bool false) (by kernel_rfl) ?_
  refine g_fr (Fr [z0, z1, z2, z3, .bool false, z5, z6, D b7, .bool true, z9, z10, z11, z12, z13, z14, z15, z16, z17, z18, z19, z20, z21, z22, z23, z24, z25, z26, z27, z28, z29, z30, z31, z32, z33, z34, z35, .bool true, .bool false, .bool false, z39, z40, z41, z42, z43, z44, z45] zz) ?_
  refine g_val (.bool false) (by kernel_rfl) ?_
  refine g_fr (Fr [z0, z1, z2, z3, .bool false, z5, z6, D b7, .bool true, z9, z10, z11, z12, z13, z14, z15, z16, z17, z18, z19, z20, z21, z22, z23, z24, z25, z26, z27, z28, z29, z30, z31, z32, z33, z34, z35, .bool true, .bool false, .bool false, .bool false, z40, z41, z42, z43, z44, z45] zz) ?_
  refine g_val (.bool false) (by kernel_rfl) ?_
  refine g_fr (Fr [z0, z1, z2, z3, .bool false, z5, z6, D b7, .bool true, z9, z10, z11, z12, z13, z14, z15, z16, z17, z18, z19, z20, z21, z22, z23, z24, z25, z26, z27, z28, z29, z30, z31, z32, z33, z34, z35, .bool true, .bool false, .bool false, .bool false, .bool false, z41, z42, z43, z44, z45] zz) ?_
  refine g_skip ?_
  refine g_fr (Fr [z0, z1, z2, z3, .bool false, z5, z6, D b7, .bool true, z9, z10, z11, z12, z13, z14, z15, z16, z17, z18, z19, z20, z21, z22, z23, z24, z25, z26, z27, z28, z29, z30, z31, z32, z33, z34, z35, .bool true, .bool false, .bool false, .bool false, .bool false, undef, z42, z43, z44, z45] zz) ?_
  refine g_skip ?_
  refine g_fr (Fr [z0, z1, z2, z3, .bool false, z5, z6, D b7, .bool true, z9, z10, z11, z12, z13, z14, z15, z16, z17, z18, z19, z20, z21, z22, z23, z24, z25, z26, z27, z28, z29, z30, z31, z32, z33, z34, z35, .bool true, .bool false, .bool false, .bool false, .bool false, undef, undef, z43, z44, z45] zz) ?_
  refine g_skip ?_
  refine g_fr (Fr [z0, z1, z2, z3, .bool false, z5, z6, D b7, .bool true, z9, z10, z11, z12, z13, z14, z15, z16, z17, z18, z19, z20, z21, z22, z23, z24, z25, z26, z27, z28, z29, z30, z31, z32, z33, z34, z35, .bool true, .bool false, .bool false, .bool false, .bool false, undef, undef, undef, z44, z45] zz) ?_
  refine g_val (.bool false) (by kernel_rfl) ?_
  refine g_fr (Fr [z0, z1, z2, z3, .bool false, z5, z6, D b7, .bool true, z9, z10, z11, z12, z13, z14, z15, z16, z17, z18, z19, z20, z21, z22, z23, z24, z25, z26, z27, z28, z29, z30, z31, z32, z33, z34, z35, .bool true, .bool false, .bool false, .bool false, .bool false, undef, undef, undef, .bool false, z45] zz) ?_
  refine g_val (.bool false) (by kernel_rfl) ?_
  exact g_fr _ ⟨wpList_nil (H  _ hO)⟩
def f12r8COp0 : Oper := ⟨some 36, .move (.tmp 8), 4, "edwards.go:43", #[], none⟩
def f12r8COp1 : Oper := ⟨some 37, .unOp .not 4 (.tmp 36), 4, "edwards.go:43", #[⟨0, .data⟩], none⟩
def f12r8COp2 : Oper := ⟨some 38, .move (.tmp 37), 4, "edwards.go:43", #[⟨1, .data⟩], none⟩
def f12r8COp3 : Oper := ⟨some 39, .move (.tmp 4), 4, "edwards.go:43", #[⟨2, .guard⟩], some (2, false)⟩
def f12r8COp4 : Oper := ⟨some 40, .move (.tmp 39), 4, "edwards.go:43", #[⟨3, .data⟩, ⟨2, .chain⟩, ⟨2, .guard⟩], some (2, false)⟩
def f12r8COp5 : Oper := ⟨some 41, .load 39 (.tmp 7), 39, "edwards.go:43", #[⟨4, .guard⟩], some (4, true)⟩
def f12r8COp6 : Oper := ⟨some 42, .build 39 #[], 39, "edwards.go:43", #[⟨4, .guard⟩], some (4, true)⟩
def f12r8COp7 : Oper := ⟨some 43, .call { callee := .value (.func 39), args := #[.tmp 41, .tmp 42], argTypes := #[39, 39] }, 4, "edwards.go:43", #[⟨5, .data⟩, ⟨6, .data⟩, ⟨4, .chain⟩, ⟨4, .guard⟩], some (4, true)⟩
def f12r8COp8 : Oper := ⟨some 44, .pick (.tmp 40) (.tmp 43) (.const (.bool false)), 4, "edwards.go:43", #[⟨4, .data⟩, ⟨7, .data⟩, ⟨2, .guard⟩], some (2, false)⟩
def f12r8COp9 : Oper := ⟨some 45, .pick (.tmp 38) (.const (.bool true)) (.tmp 44), 4, "edwards.go:43", #[⟨2, .data⟩, ⟨8, .data⟩], none⟩
def f12r8COps : Array Oper := #[f12r8COp0, f12r8COp1, f12r8COp2, f12r8COp3, f12r8COp4, f12r8COp5, f12r8COp6, f12r8COp7, f12r8COp8, f12r8COp9]
set_option maxHeartbeats 2000000 in
theorem f12r8C_r {Q : Exit → Act → World → Prop} {u w : World} {L : List Row} {z0 z1 z2 z3 z5 z6 z9 z10 z11 z12 z13 z14 z15 z16 z17 z18 z19 z20 z21 z22 z23 z24 z25 z26 z27 z28 z29 z30 z31 z32 z33 z34 z35 z36 z37 z38 z39 z40 z41 z42 z43 z44 z45 : Value} {zz : List Value} {b7 : Nat} {c7 : Array Value} {e42 : Array Value} (hO : Own u w L) (i7 : Nat) (h7 : L[i7]? = some (b7, c7, 39)) (q42 : Tryd.prog.built 39 [] = some e42) (r43 : ∀ w, Ret 39 #[.agg c7, .agg e42] w (.bool true)) (H : ∀ (w' : World), Own u w' (L) → Q .normal { tmps := List.toArray (z0 :: z1 :: z2 :: z3 :: (.bool true) :: z5 :: z6 :: (.pointer (some ⟨b7, 0, none⟩)) :: (.bool true) :: z9 :: z10 :: z11 :: z12 :: z13 :: z14 :: z15 :: z16 :: z17 :: z18 :: z19 :: z20 :: z21 :: z22 :: z23 :: z24 :: z25 :: z26 :: z27 :: z28 :: z29 :: z30 :: z31 :: z32 :: z33 :: z34 :: z35 :: (.bool true) :: (.bool false) :: (.bool false) :: (.bool true) :: (.bool true) :: (.agg c7) :: (.agg e42) :: (.bool true) :: (.bool true) :: (.bool true) :: zz), defers := [] } w') :
    (Code.region 8 f12r8COps false).wp Tryd.prog Q { tmps := List.toArray (z0 :: z1 :: z2 :: z3 :: (.bool true) :: z5 :: z6 :: (.pointer (some ⟨b7, 0, none⟩)) :: (.bool true) :: z9 :: z10 :: z11 :: z12 :: z13 :: z14 :: z15 :: z16 :: z17 :: z18 :: z19 :: z20 :: z21 :: z22 :: z23 :: z24 :: z25 :: z26 :: z27 :: z28 :: z29 :: z30 :: z31 :: z32 :: z33 :: z34 :: z35 :: z36 :: z37 :: z38 :: z39 :: z40 :: z41 :: z42 :: z43 :: z44 :: z45 :: zz), defers := [] } w := by
  refine wp_region_list (show wpList _ f12r8COps _ [f12r8COp0, f12r8COp1, f12r8COp2, f12r8COp3, f12r8COp4, f12r8COp5, f12r8COp6, f12r8COp7, f12r8COp8, f12r8COp9] _ _ from WL.out ?_)
  refine g_val (.bool true) (by kernel_rfl) ?_
  refine g_fr (Fr [z0, z1, z2, z3, .bool true, z5, z6, D b7, .bool true, z9, z10, z11, z12, z13, z14, z15, z16, z17, z18, z19, z20, z21, z22, z23, z24, z25, z26, z27, z28, z29, z30, z31, z32, z33, z34, z35, .bool true, z37, z38, z39, z40, z41, z42, z43, z44, z45] zz) ?_
  refine g_val (.bool false) (by kernel_rfl) ?_
  refine g_fr (Fr [z0, z1, z2, z3, .bool true, z5, z6, D b7, .bool true, z9, z10, z11, z12, z13, z14, z15, z16, z17, z18, z19, z20, z21, z22, z23, z24, z25, z26, z27, z28, z29, z30, z31, z32, z33, z34, z35, .bool true, .bool false, z38, z39, z40, z41, z42, z43, z44, z45] zz) ?_
  refine g_val (.bool false) (by kernel_rfl) ?_
  refine g_fr (Fr [z0, z1, z2, z3, .bool true, z5, z6, D b7, .bool true, z9, z10, z11, z12, z13, z14, z15, z16, z17, z18, z19, z20, z21, z22, z23, z24, z25, z26, z27, z28, z29, z30, z31, z32, z33, z34, z35, .bool true, .bool false, .bool false, z39, z40, z41, z42, z43, z44, z45] zz) ?_
  refine g_val (.bool true) (by kernel_rfl) ?_
  refine g_fr (Fr [z0, z1, z2, z3, .bool true, z5, z6, D b7, .bool true, z9, z10, z11, z12, z13, z14, z15, z16, z17, z18, z19, z20, z21, z22, z23, z24, z25, z26, z27, z28, z29, z30, z31, z32, z33, z34, z35, .bool true, .bool false, .bool false, .bool true, z40, z41, z42, z43, z44, z45] zz) ?_
  refine g_val (.bool true) (by kernel_rfl) ?_
  refine g_fr (Fr [z0, z1, z2, z3, .bool true, z5, z6, D b7, .bool true, z9, z10, z11, z12, z13, z14, z15, z16, z17, z18, z19, z20, z21, z22, z23, z24, z25, z26, z27, z28, z29, z30, z31, z32, z33, z34, z35, .bool true, .bool false, .bool false, .bool true, .bool true, z41, z42, z43, z44, z45] zz) ?_
  refine g_ld hO 39 i7 h7 Tryd.underlying39 ?_
  refine g_fr (Fr [z0, z1, z2, z3, .bool true, z5, z6, D b7, .bool true, z9, z10, z11, z12, z13, z14, z15, z16, z17, z18, z19, z20, z21, z22, z23, z24, z25, z26, z27, z28, z29, z30, z31, z32, z33, z34, z35, .bool true, .bool false, .bool false, .bool true, .bool true, A c7, z42, z43, z44, z45] zz) ?_
  refine g_val (.agg e42) (run_bd 39 _ rfl [] (by kernel_rfl) e42 q42 _) ?_
  refine g_fr (Fr [z0, z1, z2, z3, .bool true, z5, z6, D b7, .bool true, z9, z10, z11, z12, z13, z14, z15, z16, z17, z18, z19, z20, z21, z22, z23, z24, z25, z26, z27, z28, z29, z30, z31, z32, z33, z34, z35, .bool true, .bool false, .bool false, .bool true, .bool true, A c7, A e42, z43, z44, z45] zz) ?_
  refine g_call hO 39 #[.agg c7, .agg e42] (.bool true) r43 ?_
  intro w1 hO
  refine g_fr (Fr [z0, z1, z2, z3, .bool true, z5, z6, D b7, .bool true, z9, z10, z11, z12, z13, z14, z15, z16, z17, z18, z19, z20, z21, z22, z23, z24, z25, z26, z27, z28, z29, z30, z31, z32, z33, z34, z35, .bool true, .bool false, .bool false, .bool true, .bool true, A c7, A e42, .bool true, z44, z45] zz) ?_
  refine g_val (.bool true) (by kernel_rfl) ?_
  refine g_fr (Fr [z0, z1, z2, z3, .bool true, z5, z6, D b7, .bool true, z9, z10, z11, z12, z13, z14, z15, z16, z17, z18, z19, z20, z21, z22, z23, z24, z25, z26, z27, z28, z29, z30, z31, z32, z33, z34, z35, .bool true, .bool false, .bool false, .bool true, .bool true, A c7, A e42, .bool true, .bool true, z45] zz) ?_
  refine g_val (.bool true) (by kernel_rfl) ?_
  exact g_fr _ ⟨wpList_nil (H  _ hO)⟩
def f12r8DOp0 : Oper := ⟨some 36, .move (.tmp 8), 4, "edwards.go:43", #[], none⟩
def f12r8DOp1 : Oper := ⟨some 37, .unOp .not 4 (.tmp 36), 4, "edwards.go:43", #[⟨0, .data⟩], none⟩
def f12r8DOp2 : Oper := ⟨some 38, .move (.tmp 37), 4, "edwards.go:43", #[⟨1, .data⟩], none⟩
def f12r8DOp3 : Oper := ⟨some 39, .move (.tmp 4), 4, "edwards.go:43", #[⟨2, .guard⟩], some (2, false)⟩
def f12r8DOp4 : Oper := ⟨some 40, .move (.tmp 39), 4, "edwards.go:43", #[⟨3, .data⟩, ⟨2, .chain⟩, ⟨2, .guard⟩], some (2, false)⟩
def f12r8DOp5 : Oper := ⟨some 41, .load 39 (.tmp 7), 39, "edwards.go:43", #[⟨4, .guard⟩], some (4, true)⟩
def f12r8DOp6 : Oper := ⟨some 42, .build 39 #[], 39, "edwards.go:43", #[⟨4, .guard⟩], some (4, true)⟩
def f12r8DOp7 : Oper := ⟨some 43, .call { callee := .value (.func 39), args := #[.tmp 41, .tmp 42], argTypes := #[39, 39] }, 4, "edwards.go:43", #[⟨5, .data⟩, ⟨6, .data⟩, ⟨4, .chain⟩, ⟨4, .guard⟩], some (4, true)⟩
def f12r8DOp8 : Oper := ⟨some 44, .pick (.tmp 40) (.tmp 43) (.const (.bool false)), 4, "edwards.go:43", #[⟨4, .data⟩, ⟨7, .data⟩, ⟨2, .guard⟩], some (2, false)⟩
def f12r8DOp9 : Oper := ⟨some 45, .pick (.tmp 38) (.const (.bool true)) (.tmp 44), 4, "edwards.go:43", #[⟨2, .data⟩, ⟨8, .data⟩], none⟩
def f12r8DOps : Array Oper := #[f12r8DOp0, f12r8DOp1, f12r8DOp2, f12r8DOp3, f12r8DOp4, f12r8DOp5, f12r8DOp6, f12r8DOp7, f12r8DOp8, f12r8DOp9]
set_option maxHeartbeats 2000000 in
theorem f12r8D_r {Q : Exit → Act → World → Prop} {u w : World} {L : List Row} {z0 z1 z2 z3 z5 z6 z9 z10 z11 z12 z13 z14 z15 z16 z17 z18 z19 z20 z21 z22 z23 z24 z25 z26 z27 z28 z29 z30 z31 z32 z33 z34 z35 z36 z37 z38 z39 z40 z41 z42 z43 z44 z45 : Value} {zz : List Value} {b7 : Nat} {c7 : Array Value} {e42 : Array Value} (hO : Own u w L) (i7 : Nat) (h7 : L[i7]? = some (b7, c7, 39)) (q42 : Tryd.prog.built 39 [] = some e42) (r43 : ∀ w, Ret 39 #[.agg c7, .agg e42] w (.bool false)) (H : ∀ (w' : World), Own u w' (L) → Q .normal { tmps := List.toArray (z0 :: z1 :: z2 :: z3 :: (.bool true) :: z5 :: z6 :: (.pointer (some ⟨b7, 0, none⟩)) :: (.bool true) :: z9 :: z10 :: z11 :: z12 :: z13 :: z14 :: z15 :: z16 :: z17 :: z18 :: z19 :: z20 :: z21 :: z22 :: z23 :: z24 :: z25 :: z26 :: z27 :: z28 :: z29 :: z30 :: z31 :: z32 :: z33 :: z34 :: z35 :: (.bool true) :: (.bool false) :: (.bool false) :: (.bool true) :: (.bool true) :: (.agg c7) :: (.agg e42) :: (.bool false) :: (.bool false) :: (.bool false) :: zz), defers := [] } w') :
    (Code.region 8 f12r8DOps false).wp Tryd.prog Q { tmps := List.toArray (z0 :: z1 :: z2 :: z3 :: (.bool true) :: z5 :: z6 :: (.pointer (some ⟨b7, 0, none⟩)) :: (.bool true) :: z9 :: z10 :: z11 :: z12 :: z13 :: z14 :: z15 :: z16 :: z17 :: z18 :: z19 :: z20 :: z21 :: z22 :: z23 :: z24 :: z25 :: z26 :: z27 :: z28 :: z29 :: z30 :: z31 :: z32 :: z33 :: z34 :: z35 :: z36 :: z37 :: z38 :: z39 :: z40 :: z41 :: z42 :: z43 :: z44 :: z45 :: zz), defers := [] } w := by
  refine wp_region_list (show wpList _ f12r8DOps _ [f12r8DOp0, f12r8DOp1, f12r8DOp2, f12r8DOp3, f12r8DOp4, f12r8DOp5, f12r8DOp6, f12r8DOp7, f12r8DOp8, f12r8DOp9] _ _ from WL.out ?_)
  refine g_val (.bool true) (by kernel_rfl) ?_
  refine g_fr (Fr [z0, z1, z2, z3, .bool true, z5, z6, D b7, .bool true, z9, z10, z11, z12, z13, z14, z15, z16, z17, z18, z19, z20, z21, z22, z23, z24, z25, z26, z27, z28, z29, z30, z31, z32, z33, z34, z35, .bool true, z37, z38, z39, z40, z41, z42, z43, z44, z45] zz) ?_
  refine g_val (.bool false) (by kernel_rfl) ?_
  refine g_fr (Fr [z0, z1, z2, z3, .bool true, z5, z6, D b7, .bool true, z9, z10, z11, z12, z13, z14, z15, z16, z17, z18, z19, z20, z21, z22, z23, z24, z25, z26, z27, z28, z29, z30, z31, z32, z33, z34, z35, .bool true, .bool false, z38, z39, z40, z41, z42, z43, z44, z45] zz) ?_
  refine g_val (.bool false) (by kernel_rfl) ?_
  refine g_fr (Fr [z0, z1, z2, z3, .bool true, z5, z6, D b7, .bool true, z9, z10, z11, z12, z13, z14, z15, z16, z17, z18, z19, z20, z21, z22, z23, z24, z25, z26, z27, z28, z29, z30, z31, z32, z33, z34, z35, .bool true, .bool false, .bool false, z39, z40, z41, z42, z43, z44, z45] zz) ?_
  refine g_val (.bool true) (by kernel_rfl) ?_
  refine g_fr (Fr [z0, z1, z2, z3, .bool true, z5, z6, D b7, .bool true, z9, z10, z11, z12, z13, z14, z15, z16, z17, z18, z19, z20, z21, z22, z23, z24, z25, z26, z27, z28, z29, z30, z31, z32, z33, z34, z35, .bool true, .bool false, .bool false, .bool true, z40, z41, z42, z43, z44, z45] zz) ?_
  refine g_val (.bool true) (by kernel_rfl) ?_
  refine g_fr (Fr [z0, z1, z2, z3, .bool true, z5, z6, D b7, .bool true, z9, z10, z11, z12, z13, z14, z15, z16, z17, z18, z19, z20, z21, z22, z23, z24, z25, z26, z27, z28, z29, z30, z31, z32, z33, z34, z35, .bool true, .bool false, .bool false, .bool true, .bool true, z41, z42, z43, z44, z45] zz) ?_
  refine g_ld hO 39 i7 h7 Tryd.underlying39 ?_
  refine g_fr (Fr [z0, z1, z2, z3, .bool true, z5, z6, D b7, .bool true, z9, z10, z11, z12, z13, z14, z15, z16, z17, z18, z19, z20, z21, z22, z23, z24, z25, z26, z27, z28, z29, z30, z31, z32, z33, z34, z35, .bool true, .bool false, .bool false, .bool true, .bool true, A c7, z42, z43, z44, z45] zz) ?_
  refine g_val (.agg e42) (run_bd 39 _ rfl [] (by kernel_rfl) e42 q42 _) ?_
  refine g_fr (Fr [z0, z1, z2, z3, .bool true, z5, z6, D b7, .bool true, z9, z10, z11, z12, z13, z14, z15, z16, z17, z18, z19, z20, z21, z22, z23, z24, z25, z26, z27, z28, z29, z30, z31, z32, z33, z34, z35, .bool true, .bool false, .bool false, .bool true, .bool true, A c7, A e42, z43, z44, z45] zz) ?_
  refine g_call hO 39 #[.agg c7, .agg e42] (.bool false) r43 ?_
  intro w1 hO
  refine g_fr (Fr [z0, z1, z2, z3, .bool true, z5, z6, D b7, .bool true, z9, z10, z11, z12, z13, z14, z15, z16, z17, z18, z19, z20, z21, z22, z23, z24, z25, z26, z27, z28, z29, z30, z31, z32, z33, z34, z35, .bool true, .bool false, .bool false, .bool true, .bool true, A c7, A e42, .bool false, z44, z45] zz) ?_
  refine g_val (.bool false) (by kernel_rfl) ?_
  refine g_fr (Fr [z0, z1, z2, z3, .bool true, z5, z6, D b7, .bool true, z9, z10, z11, z12, z13, z14, z15, z16, z17, z18, z19, z20, z21, z22, z23, z24, z25, z26, z27, z28, z29, z30, z31, z32, z33, z34, z35, .bool true, .bool false, .bool false, .bool true, .bool true, A c7, A e42, .bool false, .bool false, z45] zz) ?_
  refine g_val (.bool false) (by kernel_rfl) ?_
  exact g_fr _ ⟨wpList_nil (H  _ hO)⟩
def f12r9Op0 : Oper := ⟨some 46, .build 41 #[], 41, "edwards.go:44", #[], none⟩
def f12r9Op1 : Oper := ⟨none, .store 41 (.tmp 2) (.tmp 46), 0, "edwards.go:44", #[⟨0, .data⟩, ⟨0, .phase⟩], none⟩
def f12r9Op2 : Oper := ⟨some 3, .assign (.const (.bool false)), 4, "edwards.go:44", #[⟨1, .chain⟩, ⟨0, .phase⟩, ⟨1, .phase⟩], none⟩
def f12r9Ops : Array Oper := #[f12r9Op0, f12r9Op1, f12r9Op2]
set_option maxHeartbeats 2000000 in
theorem f12r9_r {Q : Exit → Act → World → Prop} {u w : World} {L : List Row} {z0 z1 z3 z4 z5 z6 z7 z8 z9 z10 z11 z12 z13 z14 z15 z16 z17 z18 z19 z20 z21 z22 z23 z24 z25 z26 z27 z28 z29 z30 z31 z32 z33 z34 z35 z36 z37 z38 z39 z40 z41 z42 z43 z44 z45 z46 : Value} {zz : List Value} {b2 : Nat} {c2 : Array Value} {e46 : Array Value} (hO : Own u w L) (i2 : Nat) (h2 : L[i2]? = some (b2, c2, 41)) (q46 : Tryd.prog.built 41 [] = some e46) (fe46_29 : Fit 41 e46) (H : ∀ (w' : World), Own u w' ((L.set i2 (b2, e46, 41))) → Q .normal { tmps := List.toArray (z0 :: z1 :: (.pointer (some ⟨b2, 0, none⟩)) :: (.bool false) :: z4 :: z5 :: z6 :: z7 :: z8 :: z9 :: z10 :: z11 :: z12 :: z13 :: z14 :: z15 :: z16 :: z17 :: z18 :: z19 :: z20 :: z21 :: z22 :: z23 :: z24 :: z25 :: z26 :: z27 :: z28 :: z29 :: z30 :: z31 :: z32 :: z33 :: z34 :: z35 :: z36 :: z37 :: z38 :: z39 :: z40 :: z41 :: z42 :: z43 :: z44 :: z45 :: (.agg e46) :: zz), defers := [] } w') :
    (Code.region 9 f12r9Ops false).wp Tryd.prog Q { tmps := List.toArray (z0 :: z1 :: (.pointer (some ⟨b2, 0, none⟩)) :: z3 :: z4 :: z5 :: z6 :: z7 :: z8 :: z9 :: z10 :: z11 :: z12 :: z13 :: z14 :: z15 :: z16 :: z17 :: z18 :: z19 :: z20 :: z21 :: z22 :: z23 :: z24 :: z25 :: z26 :: z27 :: z28 :: z29 :: z30 :: z31 :: z32 :: z33 :: z34 :: z35 :: z36 :: z37 :: z38 :: z39 :: z40 :: z41 :: z42 :: z43 :: z44 :: z45 :: z46 :: zz), defers := [] } w := by
  refine wp_region_list (show wpList _ f12r9Ops _ [f12r9Op0, f12r9Op1, f12r9Op2] _ _ from ?_)
  refine l_val (.agg e46) (run_bd 41 _ rfl [] (by kernel_rfl) e46 q46 _) ?_
  refine l_st hO 41 i2 h2 e46 fe46_29 ?_
  intro w1 hO
  refine l_val (.bool false) (by kernel_rfl) ?_
  exact l_fr _ (wpList_nil (H  _ hO))
def f12r10Op0 : Oper := ⟨some 47, .load 39 (.tmp 7), 39, "edwards.go:46", #[], none⟩
def f12r10Op1 : Oper := ⟨some 48, .call { callee := .value (.func 42), args := #[.tmp 47], argTypes := #[39] }, 39, "edwards.go:46", #[⟨0, .data⟩], none⟩
def f12r10Op2 : Oper := ⟨some 49, .load 39 (.tmp 7), 39, "edwards.go:46", #[], none⟩
def f12r10Op3 : Oper := ⟨some 50, .move (.tmp 4), 4, "edwards.go:46", #[], none⟩
def f12r10Op4 : Oper := ⟨some 51, .call { callee := .value (.func 41), args := #[.tmp 48, .tmp 49, .tmp 50], argTypes := #[39, 39, 4] }, 39, "edwards.go:46", #[⟨1, .data⟩, ⟨2, .data⟩, ⟨3, .data⟩, ⟨1, .chain⟩], none⟩
def f12r10Op5 : Oper := ⟨some 52, .load 39 (.tmp 5), 39, "edwards.go:46", #[], none⟩
def f12r10Op6 : Oper := ⟨some 53, .call { callee := .value (.func 40), args := #[.tmp 51, .tmp 52], argTypes := #[39, 39] }, 41, "edwards.go:46", #[⟨4, .data⟩, ⟨5, .data⟩, ⟨4, .chain⟩], none⟩
def f12r10Op7 : Oper := ⟨none, .store 41 (.tmp 2) (.tmp 53), 0, "edwards.go:46", #[⟨6, .data⟩, ⟨6, .chain⟩, ⟨0, .phase⟩, ⟨1, .phase⟩, ⟨2, .phase⟩, ⟨3, .phase⟩, ⟨4, .phase⟩, ⟨5, .phase⟩, ⟨6, .phase⟩], none⟩
def f12r10Op8 : Oper := ⟨some 3, .assign (.const (.bool true)), 4, "edwards.go:46", #[⟨7, .chain⟩, ⟨0, .phase⟩, ⟨1, .phase⟩, ⟨2, .phase⟩, ⟨3, .phase⟩, ⟨4, .phase⟩, ⟨5, .phase⟩, ⟨6, .phase⟩, ⟨7, .phase⟩], none⟩
def f12r10Ops : Array Oper := #[f12r10Op0, f12r10Op1, f12r10Op2, f12r10Op3, f12r10Op4, f12r10Op5, f12r10Op6, f12r10Op7, f12r10Op8]
set_option maxHeartbeats 2000000 in
theorem f12r10_r {Q : Exit → Act → World → Prop} {u w : World} {L : List Row} {z0 z1 z3 z6 z8 z9 z10 z11 z12 z13 z14 z15 z16 z17 z18 z19 z20 z21 z22 z23 z24 z25 z26 z27 z28 z29 z30 z31 z32 z33 z34 z35 z36 z37 z38 z39 z40 z41 z42 z43 z44 z45 z46 z47 z48 z49 z50 z51 z52 z53 : Value} {x4 : Value} {b2 b5 b7 : Nat} {c2 c5 c7 : Array Value} {e48 e51 e53 : Array Value} (hQ : ∀ c a w n v, Q (.panic c) (a.put (some n) v) w → Q (.panic c) a w) (hO : Own u w L) (i2 : Nat) (h2 : L[i2]? = some (b2, c2, 41)) (i5 : Nat) (h5 : L[i5]? = some (b5, c5, 39)) (i7 : Nat) (h7 : L[i7]? = some (b7, c7, 39)) (e2_5 : i2 ≠ i5) (e2_7 : i2 ≠ i7) (r48 : ∀ w, Ret 42 #[.agg c7] w (.agg e48)) (r51 : ∀ w, Ret 41 #[.agg e48, .agg c7, x4] w (.agg e51)) (r53 : ∀ w, Ret 40 #[.agg e51, .agg c5] w (.agg e53)) (fe53_29 : Fit 41 e53) (H : ∀ (w' : World), Own u w' ((L.set i2 (b2, e53, 41))) → Q .normal { tmps := List.toArray (z0 :: z1 :: (.pointer (some ⟨b2, 0, none⟩)) :: (.bool true) :: x4 :: (.pointer (some ⟨b5, 0, none⟩)) :: z6 :: (.pointer (some ⟨b7, 0, none⟩)) :: z8 :: z9 :: z10 :: z11 :: z12 :: z13 :: z14 :: z15 :: z16 :: z17 :: z18 :: z19 :: z20 :: z21 :: z22 :: z23 :: z24 :: z25 :: z26 :: z27 :: z28 :: z29 :: z30 :: z31 :: z32 :: z33 :: z34 :: z35 :: z36 :: z37 :: z38 :: z39 :: z40 :: z41 :: z42 :: z43 :: z44 :: z45 :: z46 :: (.agg c7) :: (.agg e48) :: (.agg c7) :: x4 :: (.agg e51) :: (.agg c5) :: (.agg e53) :: []), defers := [] } w') :
    (Code.region 10 f12r10Ops true).wp Tryd.prog Q { tmps := List.toArray (z0 :: z1 :: (.pointer (some ⟨b2, 0, none⟩)) :: z3 :: x4 :: (.pointer (some ⟨b5, 0, none⟩)) :: z6 :: (.pointer (some ⟨b7, 0, none⟩)) :: z8 :: z9 :: z10 :: z11 :: z12 :: z13 :: z14 :: z15 :: z16 :: z17 :: z18 :: z19 :: z20 :: z21 :: z22 :: z23 :: z24 :: z25 :: z26 :: z27 :: z28 :: z29 :: z30 :: z31 :: z32 :: z33 :: z34 :: z35 :: z36 :: z37 :: z38 :: z39 :: z40 :: z41 :: z42 :: z43 :: z44 :: z45 :: z46 :: z47 :: z48 :: z49 :: z50 :: z51 :: z52 :: z53 :: []), defers := [] } w := by
  have fc5_27 := hO.fits i5 h5
  have fc7_27 := hO.fits i7 h7
  refine wp_region_held_drew (S := Has [(b5, c5, 39), (b7, c7, 39)]) (by kernel_rfl) ⟨hO.drew.row _ h5, hO.drew.row _ h7, trivial⟩ (fun hS => ?_)
  replace hO := hO.drew
  refine d_tk 0 f12r10Op0 (.agg c7) hQ (y_l 39 (fun _ h => h.2.1) fc7_27 Tryd.underlying39) hS ?_
  refine d_tk 2 f12r10Op2 (.agg c7) hQ (y_l 39 (fun _ h => h.2.1) fc7_27 Tryd.underlying39) hS ?_
  refine d_tk 3 f12r10Op3 (x4) hQ (y_val (fun _ => by kernel_rfl)) hS ?_
  refine d_fr (ls 9 13) (Fr [z0, z1, D b2, z3, x4, D b5, z6, D b7, z8, z9, z10, z11, z12, z13, z14, z15, z16, z17, z18, z19, z20, z21, z22, z23, z24, z25, z26, z27, z28, z29, z30, z31, z32, z33, z34, z35, z36, z37, z38, z39, z40, z41, z42, z43, z44, z45, z46, A c7, z48, A c7, x4, z51, z52, z53] []) ?_
  refine d_tk 5 f12r10Op5 (.agg c5) hQ (y_l 39 (fun _ h => h.1) fc5_27 Tryd.underlying39) hS ?_
  refine d_fr (ls 9 45) (Fr [z0, z1, D b2, z3, x4, D b5, z6, D b7, z8, z9, z10, z11, z12, z13, z14, z15, z16, z17, z18, z19, z20, z21, z22, z23, z24, z25, z26, z27, z28, z29, z30, z31, z32, z33, z34, z35, z36, z37, z38, z39, z40, z41, z42, z43, z44, z45, z46, A c7, z48, A c7, x4, z51, A c5, z53] []) ?_
  refine d_one 1 f12r10Op1 (ls 9 47) (fun K hK => ?_)
  refine k_call hK hO (fun _ hO => ⟨hO.row _ h5, hO.row _ h7, trivial⟩) 42 #[.agg c7] (.agg e48) r48 ?_
  intro w1 hO
  refine d_one 4 f12r10Op4 (ls 9 63) (fun K hK => ?_)
  refine k_call hK hO (fun _ hO => ⟨hO.row _ h5, hO.row _ h7, trivial⟩) 41 #[.agg e48, .agg c7, x4] (.agg e51) r51 ?_
  intro w2 hO
  refine d_one 6 f12r10Op6 (ls 9 127) (fun K hK => ?_)
  refine k_call hK hO (fun _ hO => ⟨hO.row _ h5, hO.row _ h7, trivial⟩) 40 #[.agg e51, .agg c5] (.agg e53) r53 ?_
  intro w3 hO
  refine d_fr (ls 9 127) (Fr [z0, z1, D b2, z3, x4, D b5, z6, D b7, z8, z9, z10, z11, z12, z13, z14, z15, z16, z17, z18, z19, z20, z21, z22, z23, z24, z25, z26, z27, z28, z29, z30, z31, z32, z33, z34, z35, z36, z37, z38, z39, z40, z41, z42, z43, z44, z45, z46, A c7, A e48, A c7, x4, A e51, A c5, A e53] []) ?_
  refine d_one 7 f12r10Op7 (ls 9 255) (fun K hK => ?_)
  refine k_st hK hO 41 i2 h2 e53 fe53_29 (fun _ hO => ⟨hO.row _ (get_set h5 e2_5), hO.row _ (get_set h7 e2_7), trivial⟩) ?_
  intro w4 hO
  replace hO : Own u w4 ((L.set i2 (b2, e53, 41))) := hO
  have hS : Has [(b5, c5, 39), (b7, c7, 39)] _ := ⟨hO.row _ (get_set h5 e2_5), hO.row _ (get_set h7 e2_7), trivial⟩
  refine d_tk 8 f12r10Op8 (.bool true) hQ (y_val (fun _ => by kernel_rfl)) hS ?_
  exact d_fr (ls 9 511) _ (wpAnyH_done (by kernel_rfl) (H  _ hO) _)
theorem and_run12 (a : Act) (w : World) (g : Nat) (hg : g < 256) (h0 : a.eval (.tmp 12) = .int .u8 ((g : Nat) : Int)) : (execOp a.eval f12r2Op2).run Tryd.prog w = .ok (.value (.int .u8 ((g % 128 : Nat) : Int))) w := by
  unfold execOp f12r2Op2
  simp only [h0]
  have e0 : a.eval (.const (.int .u8 127)) = .int .u8 127 := rfl
  have e := and8_127 g hg
  go_simp
set_option maxHeartbeats 4000000 in
theorem decode_p (f : Nat → Nat) (hf : ∀ i, f i < 256) (w : World) : Ret 13 #[.agg (vals .u8 32 f)] w (.tuple #[.agg (pt (decR (nb f 32)).1), .bool (decR (nb f 32)).2]) := by
  go_enter Tryd.func13, Tryd.ntmps13
  have hO := Own.start w
  obtain ⟨n, hn⟩ : ∃ n, n = nb f 32 := ⟨_, rfl⟩
  obtain ⟨odd, hodd⟩ : ∃ b, b = n.testBit 255 := ⟨_, rfl⟩
  have hbit := bitOf_c f 255 hf (by omega)
  rw [← hn, ← hodd] at hbit
  have hm : nb (cob f) 32 = n % 2 ^ 255 := by rw [hn]; exact nb_cob f hf
  have hm2 : n % 2 ^ 255 < 2 ^ 256 := by omega
  obtain ⟨m, em⟩ : ∃ m, m = n % 2 ^ 255 := ⟨_, rfl⟩
  rw [← em] at hm hm2
  have Hn := hide hn
  have Ho := hide hodd
  have Hb := hide hbit
  have Hm := hide hm
  have Em := hide em
  rw [← hn]
  clear hn hodd hbit hm em
  go_upto_region 0 with (fail)
  refine f12r0_r hO (fit_by _) ?_
  intro n1 n2 w1 hO
  replace hO : Own w w1 [(n2, ps [0, 0], 41), (n1, vals .u8 32 f, 22)] := hO
  go_upto_region 1 with (fail)
  refine f12r1_r hO 1 rfl Hb.out ?_
  intro w2 hO
  replace hO : Own w w2 [(n2, ps [0, 0], 41), (n1, vals .u8 32 f, 22)] := hO
  go_upto_region 2 with (fail)
  refine f12r2_r hO 1 rfl (get_by _ 31 (by omega)) (fun a w h => and_run12 a w _ (hf 31) h) (set_by _ _ _) (fit_by _) ?_
  intro w3 hO
  replace hO : Own w w3 [(n2, ps [0, 0], 41), (n1, vals .u8 32 (fun j => if j = 31 then f 31 % 128 else f j), 22)] := hO
  replace hO : Own w w3 [(n2, ps [0, 0], 41), (n1, vals .u8 32 (cob f), 22)] := hO
  have hl := load_c (cob f) (cob_lt f hf)
  rw [Hm.out] at hl
  have Hl := hide hl
  clear hl
  go_upto_region 3 with (fail)
  refine f12r3_r hO 1 rfl Hl.out (fit_fe _) ?_
  intro n5 w4 hO
  replace hO : Own w w4 [(n5, arr 4 (limb (m % pP)), 39), (n2, ps [0, 0], 41), (n1, vals .u8 32 (cob f), 22)] := hO
  go_upto_region 4 with (fail)
  by_cases hbig : pP ≤ m
  · skip
    have hs : sameB (byt (m % pP)) (cob f) = false := by rw [same_num (byt_lt _) (cob_lt f hf), nb_byt32 (Nat.lt_of_le_of_lt (Nat.mod_le _ _) hm2), Hm.out]; exact decide_eq_false (by have := Nat.mod_lt m pP_pos; omega)
    refine f12r4a_r (fun _ _ _ _ _ h => h) hO 2 rfl 0 rfl (bytes_c _) (fun a w h1 h2 => neq_c _ _ _ _ false hs w rfl h1 h2) ?_
    intro w5 hO
    replace hO : Own w w5 [(n5, arr 4 (limb (m % pP)), 39), (n2, ps [0, 0], 41), (n1, vals .u8 32 (cob f), 22)] := hO
    have Hs := hide hs
    clear hs
    go_upto_region 5 with (fail)
    refine f12r5_r hO 1 rfl bd_pt0 (fit_pt _ _) ?_
    intro w6 hO
    replace hO : Own w w6 [(n5, arr 4 (limb (m % pP)), 39), (n2, ps [0, 0], 41), (n1, vals .u8 32 (cob f), 22)] := hO
    go_wp2_with fail
    have hd := dec_big (Em.out ▸ hbig)
    refine bodyPost_ret (v := .tuple #[.agg (ps [0, 0]), .bool false]) (results_and Tryd.results13 _ _ n2 41 _ (0, 0) _ _ rfl (hO.row 1 rfl) Tryd.underlying41 rfl (fit_pt _ _).size rfl) rfl ⟨?_, hO.low⟩
    rw [hd, pt_zero]
  · skip
    have hlt : m < pP := by omega
    have hs : sameB (byt (m % pP)) (cob f) = true := by rw [same_num (byt_lt _) (cob_lt f hf), nb_byt32 (Nat.lt_of_le_of_lt (Nat.mod_le _ _) hm2), Hm.out]; exact decide_eq_true (Nat.mod_eq_of_lt hlt)
    refine f12r4b_r (fun _ _ _ _ _ h => h) hO 2 rfl 0 rfl (bytes_c _) (fun a w h1 h2 => neq_c _ _ _ _ true hs w rfl h1 h2) ?_
    intro w5 hO
    replace hO : Own w w5 [(n5, arr 4 (limb (m % pP)), 39), (n2, ps [0, 0], 41), (n1, vals .u8 32 (cob f), 22)] := hO
    have Hs := hide hs
    clear hs hbig
    rw [Nat.mod_eq_of_lt hlt] at hO
    have hL : n % 2 ^ 255 < pP := Em.out ▸ hlt
    go_upto_region 6 with (fail)
    refine f12r6_r hO 0 rfl (sq_c _ hlt) (fit_fe _) ?_
    intro n6 w6 hO
    replace hO : Own w w6 [(n6, arr 4 (limb (mm m m)), 39), (n5, arr 4 (limb m), 39), (n2, ps [0, 0], 41), (n1, vals .u8 32 (cob f), 22)] := hO
    have hr := ratio_c (u7 m) (v7 m) (u7_lt m) (v7_lt m)
    obtain ⟨X, hX⟩ : ∃ X, X = rVal (u7 m) (v7 m) := ⟨_, rfl⟩
    obtain ⟨ok, hok⟩ : ∃ b, b = rOk (u7 m) (v7 m) := ⟨_, rfl⟩
    have hXl : X < pP := hX ▸ val_lt _ _
    rw [← hX, ← hok] at hr
    have Hr := hide hr
    have HX := hide hX
    have Hk := hide hok
    clear hr hX hok
    go_upto_region 7 with (fail)
    refine f12r7_r (fun _ _ _ _ _ h => h) hO 0 rfl one_c (sub_c _ _ (mm_lt _ _) (of_lt (by omega))) d_c (mul_c _ _ d7_lt (mm_lt _ _)) one_c (add_c _ _ (mm_lt _ _) (of_lt (by omega))) Hr.out (fit_fe _) ?_
    intro n7 w7 hO
    replace hO : Own w w7 [(n7, arr 4 (limb X), 39), (n6, arr 4 (limb (mm m m)), 39), (n5, arr 4 (limb m), 39), (n2, ps [0, 0], 41), (n1, vals .u8 32 (cob f), 22)] := hO
    cases ok
    · skip
      go_upto_region 8 with (fail)
      refine f12r8A_r hO ?_
      intro w8 hO
      replace hO : Own w w8 [(n7, arr 4 (limb X), 39), (n6, arr 4 (limb (mm m m)), 39), (n5, arr 4 (limb m), 39), (n2, ps [0, 0], 41), (n1, vals .u8 32 (cob f), 22)] := hO
      go_upto_region 9 with (fail)
      refine f12r9_r hO 3 rfl bd_pt0 (fit_pt _ _) ?_
      intro w9 hO
      replace hO : Own w w9 [(n7, arr 4 (limb X), 39), (n6, arr 4 (limb (mm m m)), 39), (n5, arr 4 (limb m), 39), (n2, ps [0, 0], 41), (n1, vals .u8 32 (cob f), 22)] := hO
      go_wp2_with fail
      have hd := dec_bad hL (Em.out ▸ Hk.out)
      refine bodyPost_ret (v := .tuple #[.agg (ps [0, 0]), .bool false]) (results_and Tryd.results13 _ _ n2 41 _ (0, 0) _ _ rfl (hO.row 3 rfl) Tryd.underlying41 rfl (fit_pt _ _).size rfl) rfl ⟨?_, hO.low⟩
      rw [hd, pt_zero]
    · skip
      cases odd
      · skip
        go_upto_region 8 with (fail)
        refine f12r8B_r hO ?_
        intro w8 hO
        replace hO : Own w w8 [(n7, arr 4 (limb X), 39), (n6, arr 4 (limb (mm m m)), 39), (n5, arr 4 (limb m), 39), (n2, ps [0, 0], 41), (n1, vals .u8 32 (cob f), 22)] := hO
        go_upto_region 10 with (fail)
        refine f12r10_r (fun _ _ _ _ _ h => h) hO 3 rfl 2 rfl 0 rfl (by decide) (by decide) (neg_c _ hXl) (pick_c (ng X) X false) (pointAt_c _ _ hlt) (fit_pt _ _) ?_
        intro w9 hO
        replace hO : Own w w9 [(n7, arr 4 (limb X), 39), (n6, arr 4 (limb (mm m m)), 39), (n5, arr 4 (limb m), 39), (n2, ps [cond false (ng X) X, sm m 1], 41), (n1, vals .u8 32 (cob f), 22)] := hO
        go_wp2_with fail
        have hd := dec_even hL (Em.out ▸ HX.out) (Em.out ▸ Hk.out) Ho.out
        refine bodyPost_ret (v := .tuple #[.agg (ps [cond false (ng X) X, sm m 1]), .bool true]) (results_and Tryd.results13 _ _ n2 41 _ (0, 0) _ _ rfl (hO.row 3 rfl) Tryd.underlying41 rfl (fit_pt _ _).size rfl) rfl ⟨?_, hO.low⟩
        rw [hd, ← Em.out]; rfl
      · skip
        have hs := same_c X 0 hXl (of_lt (by omega))
        by_cases h0 : X = 0
        · skip
          rw [decide_eq_true h0] at hs
          go_upto_region 8 with (fail)
          refine f12r8C_r hO 0 rfl bd_fe0 hs ?_
          intro w8 hO
          replace hO : Own w w8 [(n7, arr 4 (limb X), 39), (n6, arr 4 (limb (mm m m)), 39), (n5, arr 4 (limb m), 39), (n2, ps [0, 0], 41), (n1, vals .u8 32 (cob f), 22)] := hO
          go_upto_region 9 with (fail)
          refine f12r9_r hO 3 rfl bd_pt0 (fit_pt _ _) ?_
          intro w9 hO
          replace hO : Own w w9 [(n7, arr 4 (limb X), 39), (n6, arr 4 (limb (mm m m)), 39), (n5, arr 4 (limb m), 39), (n2, ps [0, 0], 41), (n1, vals .u8 32 (cob f), 22)] := hO
          go_wp2_with fail
          have hd := dec_flat hL (Em.out ▸ HX.out) h0 Ho.out
          refine bodyPost_ret (v := .tuple #[.agg (ps [0, 0]), .bool false]) (results_and Tryd.results13 _ _ n2 41 _ (0, 0) _ _ rfl (hO.row 3 rfl) Tryd.underlying41 rfl (fit_pt _ _).size rfl) rfl ⟨?_, hO.low⟩
          rw [hd, pt_zero]
        · skip
          rw [decide_eq_false h0] at hs
          go_upto_region 8 with (fail)
          refine f12r8D_r hO 0 rfl bd_fe0 hs ?_
          intro w8 hO
          replace hO : Own w w8 [(n7, arr 4 (limb X), 39), (n6, arr 4 (limb (mm m m)), 39), (n5, arr 4 (limb m), 39), (n2, ps [0, 0], 41), (n1, vals .u8 32 (cob f), 22)] := hO
          go_upto_region 10 with (fail)
          refine f12r10_r (fun _ _ _ _ _ h => h) hO 3 rfl 2 rfl 0 rfl (by decide) (by decide) (neg_c _ hXl) (pick_c (ng X) X true) (pointAt_c _ _ hlt) (fit_pt _ _) ?_
          intro w9 hO
          replace hO : Own w w9 [(n7, arr 4 (limb X), 39), (n6, arr 4 (limb (mm m m)), 39), (n5, arr 4 (limb m), 39), (n2, ps [cond true (ng X) X, sm m 1], 41), (n1, vals .u8 32 (cob f), 22)] := hO
          go_wp2_with fail
          have hd := dec_odd hL (Em.out ▸ HX.out) (Em.out ▸ Hk.out) h0 Ho.out
          refine bodyPost_ret (v := .tuple #[.agg (ps [cond true (ng X) X, sm m 1]), .bool true]) (results_and Tryd.results13 _ _ n2 41 _ (0, 0) _ _ rfl (hO.row 3 rfl) Tryd.underlying41 rfl (fit_pt _ _).size rfl) rfl ⟨?_, hO.low⟩
          rw [hd, ← Em.out]; rfl
end Go.Proofs.YtbpmakegimgbpaaDoor

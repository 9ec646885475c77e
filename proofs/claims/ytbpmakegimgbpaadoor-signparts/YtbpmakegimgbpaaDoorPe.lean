/- Walks: bitOf, Same, twice, plus, at. Numbers below p, thirty-two bytes; the bit's place is below 256. -/
import Derived.Test.YtbpmakegimgbpaaDoorPd
namespace Go.Proofs.YtbpmakegimgbpaaDoor
set_option maxRecDepth 100000
open F Go.RowKit

theorem quo8 (k : Nat) (h : k < 256) : IntKind.i64.wrap ((k : Int).tdiv 8) = (k : Int) / 8 := by
  rw [Int.tdiv_eq_ediv_of_nonneg (by omega), wrap_i64_small' _ (by omega) (by omega)]
theorem quo8' (k : Nat) (h : k < 256) : IntKind.i64.wrap ((k : Int) / 8) = (k : Int) / 8 := by
  rw [wrap_i64_small' _ (by omega) (by omega)]
theorem rem8 (k : Nat) : IntKind.i64.wrap ((k : Int).tmod 8) = (k : Int) % 8 := by
  rw [Int.tmod_eq_emod_of_nonneg (by omega), wrap_i64_small' _ (by omega) (by omega)]
theorem and8_one (n : Nat) (h : n < 256) : bits .and .u8 (n : Int) 1 = ((n % 2 : Nat) : Int) := by
  have := (by decide +kernel : ∀ i : Fin 256, bits .and .u8 ((i.val : Nat) : Int) 1 = ((i.val % 2 : Nat) : Int)) ⟨n, h⟩
  exact this
theorem cond_lt {b : Bool} {x y : Nat} (hx : x < pP) (hy : y < pP) : cond b x y < pP := by cases b <;> assumption
def f36r0Op0 : Oper := ⟨some 2, .box 22 (.tmp 0), 0, "edwards.go:183", #[], none⟩
def f36r0Op1 : Oper := ⟨some 4, .assign (.const (.bool false)), 4, "edwards.go:183", #[], none⟩
def f36r0Ops : Array Oper := #[f36r0Op0, f36r0Op1]
set_option maxHeartbeats 2000000 in
theorem f36r0_r {Q : Exit → Act → World → Prop} {u w : World} {L : List Row} {z1 z2 z3 z4 : Value} {zz : List Value} {e0 : Array Value} (hO : Own u w L) (fe0_22 : Fit 22 e0) (H : ∀ (n2 : Nat) (w' : World), Own u w' ((n2, e0, 22) :: L) → Q .normal { tmps := List.toArray ((.agg e0) :: z1 :: (.pointer (some ⟨n2, 0, none⟩)) :: z3 :: (.bool false) :: zz), defers := [] } w') :
    (Code.region 0 f36r0Ops false).wp Tryd.prog Q { tmps := List.toArray ((.agg e0) :: z1 :: z2 :: z3 :: z4 :: zz), defers := [] } w := by
  refine wp_region_list (show wpList _ f36r0Ops _ [f36r0Op0, f36r0Op1] _ _ from ?_)
  refine l_new hO (e0) 22 (run_box 22 _ rfl _ (by kernel_rfl)) fe0_22 ?_
  intro n2 w1 hO
  refine l_val (.bool false) (by kernel_rfl) ?_
  exact l_fr _ (wpList_nil (H n2 _ hO))
set_option maxHeartbeats 1000000 in
theorem bitOf_n (f : Nat → Nat) (i : Nat) (hf : ∀ i, f i < 256) (hi : i < 256) (w : World) : Ret 29 #[.agg (vals .u8 32 f), .int .i64 ((i : Nat) : Int)] w (.bool (f (i / 8) / 2 ^ (i % 8) % 2 == 1)) := by
  have hm0 : (0 : Int) ≤ (i : Int) := by omega
  have hm4 : (i : Int) < 256 := by omega
  have hq0 : (0 : Int) ≤ (i : Int) / 8 := by omega
  have hq4 : (i : Int) / 8 < 32 := by omega
  have hq : IntKind.i64.wrap ((i : Int).tdiv 8) = (i : Int) / 8 := quo8 i (by omega)
  have hq' : IntKind.i64.wrap ((i : Int) / 8) = (i : Int) / 8 := quo8' i (by omega)
  have hr : IntKind.i64.wrap ((i : Int).tmod 8) = (i : Int) % 8 := rem8 i
  have hr' : (i : Int).tmod 8 = (i : Int) % 8 := by rw [Int.tmod_eq_emod_of_nonneg (by omega)]
  have hqn : ((i : Int) / 8).toNat = i / 8 := by omega
  have hrn : ((i : Int) % 8).toNat = i % 8 := by omega
  have hr0 : (0 : Int) ≤ (i : Int) % 8 := by omega
  have hr4 : (i : Int) % 8 < 8 := by omega
  have hdl2 : f (i / 8) / 2 ^ (i % 8) < 256 := Nat.lt_of_le_of_lt (Nat.div_le_self _ _) (hf _)
  have hand := and8_one _ hdl2
  rw [show ((f (i / 8) / 2 ^ (i % 8) : Nat) : Int) = ((f (i / 8) : Nat) : Int) / 2 ^ (i % 8) by simp] at hand
  obtain ⟨x, hx⟩ : ∃ x, x = f (i / 8) / 2 ^ (i % 8) % 2 := ⟨_, rfl⟩
  rw [← hx] at hand ⊢
  clear hf hx hdl2
  have hO := Own.start w
  go_enter Tryd.func29, Tryd.ntmps29
  go_upto_region 0 with (fail)
  refine f36r0_r hO (fit_by f) ?_
  intro n2 w1 hO
  have hL := hide hO.low
  have c0 := ((hO.row 0 rfl).cell (i / 8)).trans (vals_get _ _ _ _ (by omega))
  clear hO
  go_wp2
  go_ret
  exact ⟨ret_bool (by rw [Bool.eq_iff_iff]; simp; omega), hL.out⟩
theorem bitOf_c (f : Nat → Nat) (i : Nat) (hf : ∀ i, f i < 256) (hi : i < 256) (w : World) : Ret 29 #[.agg (vals .u8 32 f), .int .i64 ((i : Nat) : Int)] w (.bool ((nb f 32).testBit i)) := by
  rw [nb_bit f hf 32 i (by omega), bit_num]
  exact bitOf_n f i hf hi w
def f18r0Op0 : Oper := ⟨some 2, .box 41 (.tmp 0), 0, "edwards.go:77", #[], none⟩
def f18r0Op1 : Oper := ⟨some 3, .box 41 (.tmp 1), 0, "edwards.go:77", #[], none⟩
def f18r0Op2 : Oper := ⟨some 4, .assign (.const (.bool false)), 4, "edwards.go:77", #[], none⟩
def f18r0Ops : Array Oper := #[f18r0Op0, f18r0Op1, f18r0Op2]
set_option maxHeartbeats 2000000 in
theorem f18r0_r {Q : Exit → Act → World → Prop} {u w : World} {L : List Row} {z2 z3 z4 : Value} {zz : List Value} {e0 e1 : Array Value} (hO : Own u w L) (fe0_29 : Fit 41 e0) (fe1_29 : Fit 41 e1) (H : ∀ (n2 : Nat) (n3 : Nat) (w' : World), Own u w' ((n3, e1, 41) :: (n2, e0, 41) :: L) → Q .normal { tmps := List.toArray ((.agg e0) :: (.agg e1) :: (.pointer (some ⟨n2, 0, none⟩)) :: (.pointer (some ⟨n3, 0, none⟩)) :: (.bool false) :: zz), defers := [] } w') :
    (Code.region 0 f18r0Ops false).wp Tryd.prog Q { tmps := List.toArray ((.agg e0) :: (.agg e1) :: z2 :: z3 :: z4 :: zz), defers := [] } w := by
  refine wp_region_list (show wpList _ f18r0Ops _ [f18r0Op0, f18r0Op1, f18r0Op2] _ _ from ?_)
  refine l_new hO (e0) 41 (run_box 41 _ rfl _ (by kernel_rfl)) fe0_29 ?_
  intro n2 w1 hO
  refine l_new hO (e1) 41 (run_box 41 _ rfl _ (by kernel_rfl)) fe1_29 ?_
  intro n3 w2 hO
  refine l_val (.bool false) (by kernel_rfl) ?_
  exact l_fr _ (wpList_nil (H n2 n3 _ hO))
def f18aOp0 : Oper := ⟨some 5, .fieldAddr 41 (.tmp 2) 0, 0, "edwards.go:77", #[], none⟩
def f18aOp1 : Oper := ⟨some 6, .load 39 (.tmp 5), 39, "edwards.go:77", #[⟨0, .data⟩], none⟩
def f18aOp2 : Oper := ⟨some 7, .fieldAddr 41 (.tmp 3) 0, 0, "edwards.go:77", #[], none⟩
def f18aOp3 : Oper := ⟨some 8, .load 39 (.tmp 7), 39, "edwards.go:77", #[⟨2, .data⟩], none⟩
def f18aOp4 : Oper := ⟨some 9, .call { callee := .value (.func 39), args := #[.tmp 6, .tmp 8], argTypes := #[39, 39] }, 4, "edwards.go:77", #[⟨1, .data⟩, ⟨3, .data⟩], none⟩
def f18aOp5 : Oper := ⟨some 10, .move (.tmp 9), 4, "edwards.go:77", #[⟨4, .data⟩, ⟨4, .chain⟩], none⟩
def f18aOp6 : Oper := ⟨some 11, .fieldAddr 41 (.tmp 2) 1, 0, "edwards.go:77", #[⟨5, .guard⟩], some (5, true)⟩
def f18aOp7 : Oper := ⟨some 12, .load 39 (.tmp 11), 39, "edwards.go:77", #[⟨6, .data⟩, ⟨5, .guard⟩], some (5, true)⟩
def f18aOp8 : Oper := ⟨some 13, .fieldAddr 41 (.tmp 3) 1, 0, "edwards.go:77", #[⟨5, .guard⟩], some (5, true)⟩
def f18aOp9 : Oper := ⟨some 14, .load 39 (.tmp 13), 39, "edwards.go:77", #[⟨8, .data⟩, ⟨5, .guard⟩], some (5, true)⟩
def f18aOp10 : Oper := ⟨some 15, .call { callee := .value (.func 39), args := #[.tmp 12, .tmp 14], argTypes := #[39, 39] }, 4, "edwards.go:77", #[⟨7, .data⟩, ⟨9, .data⟩, ⟨5, .chain⟩, ⟨5, .guard⟩], some (5, true)⟩
def f18aOp11 : Oper := ⟨some 16, .pick (.tmp 10) (.tmp 15) (.const (.bool false)), 4, "edwards.go:77", #[⟨5, .data⟩, ⟨10, .data⟩], none⟩
def f18aOp12 : Oper := ⟨some 4, .assign (.tmp 16), 4, "edwards.go:77", #[⟨11, .data⟩, ⟨10, .chain⟩, ⟨0, .phase⟩, ⟨1, .phase⟩, ⟨2, .phase⟩, ⟨3, .phase⟩, ⟨4, .phase⟩, ⟨5, .phase⟩, ⟨6, .phase⟩, ⟨7, .phase⟩, ⟨8, .phase⟩, ⟨9, .phase⟩, ⟨10, .phase⟩, ⟨11, .phase⟩], none⟩
def f18aOps : Array Oper := #[f18aOp0, f18aOp1, f18aOp2, f18aOp3, f18aOp4, f18aOp5, f18aOp6, f18aOp7, f18aOp8, f18aOp9, f18aOp10, f18aOp11, f18aOp12]
set_option maxHeartbeats 2000000 in
theorem f18a_r {Q : Exit → Act → World → Prop} {u w : World} {L : List Row} {z0 z1 z4 z5 z6 z7 z8 z9 z10 z11 z12 z13 z14 z15 z16 : Value} {b2 b3 : Nat} {c2 c3 : Array Value} {e6 e8 : Array Value} (hO : Own u w L) (i2 : Nat) (h2 : L[i2]? = some (b2, c2, 41)) (i3 : Nat) (h3 : L[i3]? = some (b3, c3, 41)) (q6 : Part c2 0 39 e6) (q8 : Part c3 0 39 e8) (r9 : ∀ w, Ret 39 #[.agg e6, .agg e8] w (.bool false)) (H : ∀ (w' : World), Own u w' (L) → Q .normal { tmps := List.toArray (z0 :: z1 :: (.pointer (some ⟨b2, 0, none⟩)) :: (.pointer (some ⟨b3, 0, none⟩)) :: (.bool false) :: (.pointer (some ⟨b2, 0, none⟩)) :: (.agg e6) :: (.pointer (some ⟨b3, 0, none⟩)) :: (.agg e8) :: (.bool false) :: (.bool false) :: undef :: undef :: undef :: undef :: undef :: (.bool false) :: []), defers := [] } w') :
    (Code.region 1 f18aOps false).wp Tryd.prog Q { tmps := List.toArray (z0 :: z1 :: (.pointer (some ⟨b2, 0, none⟩)) :: (.pointer (some ⟨b3, 0, none⟩)) :: z4 :: z5 :: z6 :: z7 :: z8 :: z9 :: z10 :: z11 :: z12 :: z13 :: z14 :: z15 :: z16 :: []), defers := [] } w := by
  refine wp_region_list (show wpList _ f18aOps _ [f18aOp0, f18aOp1, f18aOp2, f18aOp3, f18aOp4, f18aOp5, f18aOp6, f18aOp7, f18aOp8, f18aOp9, f18aOp10, f18aOp11, f18aOp12] _ _ from ?_)
  refine l_val (.pointer (some ⟨b2, 0, none⟩)) (by kernel_rfl) ?_
  refine l_fr (Fr [z0, z1, D b2, D b3, z4, .pointer (some ⟨b2, 0, none⟩), z6, z7, z8, z9, z10, z11, z12, z13, z14, z15, z16] []) ?_
  refine l_part hO 39 i2 h2 q6 Tryd.underlying39 ?_
  refine l_fr (Fr [z0, z1, D b2, D b3, z4, .pointer (some ⟨b2, 0, none⟩), A e6, z7, z8, z9, z10, z11, z12, z13, z14, z15, z16] []) ?_
  refine l_val (.pointer (some ⟨b3, 0, none⟩)) (by kernel_rfl) ?_
  refine l_fr (Fr [z0, z1, D b2, D b3, z4, .pointer (some ⟨b2, 0, none⟩), A e6, .pointer (some ⟨b3, 0, none⟩), z8, z9, z10, z11, z12, z13, z14, z15, z16] []) ?_
  refine l_part hO 39 i3 h3 q8 Tryd.underlying39 ?_
  refine l_fr (Fr [z0, z1, D b2, D b3, z4, .pointer (some ⟨b2, 0, none⟩), A e6, .pointer (some ⟨b3, 0, none⟩), A e8, z9, z10, z11, z12, z13, z14, z15, z16] []) ?_
  refine l_call hO 39 #[.agg e6, .agg e8] (.bool false) r9 ?_
  intro w1 hO
  refine l_fr (Fr [z0, z1, D b2, D b3, z4, .pointer (some ⟨b2, 0, none⟩), A e6, .pointer (some ⟨b3, 0, none⟩), A e8, .bool false, z10, z11, z12, z13, z14, z15, z16] []) ?_
  refine l_val (.bool false) (by kernel_rfl) ?_
  refine l_fr (Fr [z0, z1, D b2, D b3, z4, .pointer (some ⟨b2, 0, none⟩), A e6, .pointer (some ⟨b3, 0, none⟩), A e8, .bool false, .bool false, z11, z12, z13, z14, z15, z16] []) ?_
  refine l_skip ?_
  refine l_fr (Fr [z0, z1, D b2, D b3, z4, .pointer (some ⟨b2, 0, none⟩), A e6, .pointer (some ⟨b3, 0, none⟩), A e8, .bool false, .bool false, undef, z12, z13, z14, z15, z16] []) ?_
  refine l_skip ?_
  refine l_fr (Fr [z0, z1, D b2, D b3, z4, .pointer (some ⟨b2, 0, none⟩), A e6, .pointer (some ⟨b3, 0, none⟩), A e8, .bool false, .bool false, undef, undef, z13, z14, z15, z16] []) ?_
  refine l_skip ?_
  refine l_fr (Fr [z0, z1, D b2, D b3, z4, .pointer (some ⟨b2, 0, none⟩), A e6, .pointer (some ⟨b3, 0, none⟩), A e8, .bool false, .bool false, undef, undef, undef, z14, z15, z16] []) ?_
  refine l_skip ?_
  refine l_fr (Fr [z0, z1, D b2, D b3, z4, .pointer (some ⟨b2, 0, none⟩), A e6, .pointer (some ⟨b3, 0, none⟩), A e8, .bool false, .bool false, undef, undef, undef, undef, z15, z16] []) ?_
  refine l_skip ?_
  refine l_fr (Fr [z0, z1, D b2, D b3, z4, .pointer (some ⟨b2, 0, none⟩), A e6, .pointer (some ⟨b3, 0, none⟩), A e8, .bool false, .bool false, undef, undef, undef, undef, undef, z16] []) ?_
  refine l_val (.bool false) (by kernel_rfl) ?_
  refine l_fr (Fr [z0, z1, D b2, D b3, z4, .pointer (some ⟨b2, 0, none⟩), A e6, .pointer (some ⟨b3, 0, none⟩), A e8, .bool false, .bool false, undef, undef, undef, undef, undef, .bool false] []) ?_
  refine l_val (.bool false) (by kernel_rfl) ?_
  exact l_fr _ (wpList_nil (H  _ hO))
def f18bOp0 : Oper := ⟨some 5, .fieldAddr 41 (.tmp 2) 0, 0, "edwards.go:77", #[], none⟩
def f18bOp1 : Oper := ⟨some 6, .load 39 (.tmp 5), 39, "edwards.go:77", #[⟨0, .data⟩], none⟩
def f18bOp2 : Oper := ⟨some 7, .fieldAddr 41 (.tmp 3) 0, 0, "edwards.go:77", #[], none⟩
def f18bOp3 : Oper := ⟨some 8, .load 39 (.tmp 7), 39, "edwards.go:77", #[⟨2, .data⟩], none⟩
def f18bOp4 : Oper := ⟨some 9, .call { callee := .value (.func 39), args := #[.tmp 6, .tmp 8], argTypes := #[39, 39] }, 4, "edwards.go:77", #[⟨1, .data⟩, ⟨3, .data⟩], none⟩
def f18bOp5 : Oper := ⟨some 10, .move (.tmp 9), 4, "edwards.go:77", #[⟨4, .data⟩, ⟨4, .chain⟩], none⟩
def f18bOp6 : Oper := ⟨some 11, .fieldAddr 41 (.tmp 2) 1, 0, "edwards.go:77", #[⟨5, .guard⟩], some (5, true)⟩
def f18bOp7 : Oper := ⟨some 12, .load 39 (.tmp 11), 39, "edwards.go:77", #[⟨6, .data⟩, ⟨5, .guard⟩], some (5, true)⟩
def f18bOp8 : Oper := ⟨some 13, .fieldAddr 41 (.tmp 3) 1, 0, "edwards.go:77", #[⟨5, .guard⟩], some (5, true)⟩
def f18bOp9 : Oper := ⟨some 14, .load 39 (.tmp 13), 39, "edwards.go:77", #[⟨8, .data⟩, ⟨5, .guard⟩], some (5, true)⟩
def f18bOp10 : Oper := ⟨some 15, .call { callee := .value (.func 39), args := #[.tmp 12, .tmp 14], argTypes := #[39, 39] }, 4, "edwards.go:77", #[⟨7, .data⟩, ⟨9, .data⟩, ⟨5, .chain⟩, ⟨5, .guard⟩], some (5, true)⟩
def f18bOp11 : Oper := ⟨some 16, .pick (.tmp 10) (.tmp 15) (.const (.bool false)), 4, "edwards.go:77", #[⟨5, .data⟩, ⟨10, .data⟩], none⟩
def f18bOp12 : Oper := ⟨some 4, .assign (.tmp 16), 4, "edwards.go:77", #[⟨11, .data⟩, ⟨10, .chain⟩, ⟨0, .phase⟩, ⟨1, .phase⟩, ⟨2, .phase⟩, ⟨3, .phase⟩, ⟨4, .phase⟩, ⟨5, .phase⟩, ⟨6, .phase⟩, ⟨7, .phase⟩, ⟨8, .phase⟩, ⟨9, .phase⟩, ⟨10, .phase⟩, ⟨11, .phase⟩], none⟩
def f18bOps : Array Oper := #[f18bOp0, f18bOp1, f18bOp2, f18bOp3, f18bOp4, f18bOp5, f18bOp6, f18bOp7, f18bOp8, f18bOp9, f18bOp10, f18bOp11, f18bOp12]
set_option maxHeartbeats 2000000 in
theorem f18b_r {Q : Exit → Act → World → Prop} {u w : World} {L : List Row} {z0 z1 z4 z5 z6 z7 z8 z9 z10 z11 z12 z13 z14 z15 z16 : Value} {b2 b3 : Nat} {c2 c3 : Array Value} {e6 e8 e12 e14 : Array Value} {p15 : Bool} (hO : Own u w L) (i2 : Nat) (h2 : L[i2]? = some (b2, c2, 41)) (i3 : Nat) (h3 : L[i3]? = some (b3, c3, 41)) (q6 : Part c2 0 39 e6) (q8 : Part c3 0 39 e8) (r9 : ∀ w, Ret 39 #[.agg e6, .agg e8] w (.bool true)) (q12 : Part c2 4 39 e12) (q14 : Part c3 4 39 e14) (r15 : ∀ w, Ret 39 #[.agg e12, .agg e14] w (.bool p15)) (H : ∀ (w' : World), Own u w' (L) → Q .normal { tmps := List.toArray (z0 :: z1 :: (.pointer (some ⟨b2, 0, none⟩)) :: (.pointer (some ⟨b3, 0, none⟩)) :: (.bool p15) :: (.pointer (some ⟨b2, 0, none⟩)) :: (.agg e6) :: (.pointer (some ⟨b3, 0, none⟩)) :: (.agg e8) :: (.bool true) :: (.bool true) :: (.pointer (some ⟨b2, 4, none⟩)) :: (.agg e12) :: (.pointer (some ⟨b3, 4, none⟩)) :: (.agg e14) :: (.bool p15) :: (.bool p15) :: []), defers := [] } w') :
    (Code.region 1 f18bOps false).wp Tryd.prog Q { tmps := List.toArray (z0 :: z1 :: (.pointer (some ⟨b2, 0, none⟩)) :: (.pointer (some ⟨b3, 0, none⟩)) :: z4 :: z5 :: z6 :: z7 :: z8 :: z9 :: z10 :: z11 :: z12 :: z13 :: z14 :: z15 :: z16 :: []), defers := [] } w := by
  refine wp_region_list (show wpList _ f18bOps _ [f18bOp0, f18bOp1, f18bOp2, f18bOp3, f18bOp4, f18bOp5, f18bOp6, f18bOp7, f18bOp8, f18bOp9, f18bOp10, f18bOp11, f18bOp12] _ _ from ?_)
  refine l_val (.pointer (some ⟨b2, 0, none⟩)) (by kernel_rfl) ?_
  refine l_fr (Fr [z0, z1, D b2, D b3, z4, .pointer (some ⟨b2, 0, none⟩), z6, z7, z8, z9, z10, z11, z12, z13, z14, z15, z16] []) ?_
  refine l_part hO 39 i2 h2 q6 Tryd.underlying39 ?_
  refine l_fr (Fr [z0, z1, D b2, D b3, z4, .pointer (some ⟨b2, 0, none⟩), A e6, z7, z8, z9, z10, z11, z12, z13, z14, z15, z16] []) ?_
  refine l_val (.pointer (some ⟨b3, 0, none⟩)) (by kernel_rfl) ?_
  refine l_fr (Fr [z0, z1, D b2, D b3, z4, .pointer (some ⟨b2, 0, none⟩), A e6, .pointer (some ⟨b3, 0, none⟩), z8, z9, z10, z11, z12, z13, z14, z15, z16] []) ?_
  refine l_part hO 39 i3 h3 q8 Tryd.underlying39 ?_
  refine l_fr (Fr [z0, z1, D b2, D b3, z4, .pointer (some ⟨b2, 0, none⟩), A e6, .pointer (some ⟨b3, 0, none⟩), A e8, z9, z10, z11, z12, z13, z14, z15, z16] []) ?_
  refine l_call hO 39 #[.agg e6, .agg e8] (.bool true) r9 ?_
  intro w1 hO
  refine l_fr (Fr [z0, z1, D b2, D b3, z4, .pointer (some ⟨b2, 0, none⟩), A e6, .pointer (some ⟨b3, 0, none⟩), A e8, .bool true, z10, z11, z12, z13, z14, z15, z16] []) ?_
  refine l_val (.bool true) (by kernel_rfl) ?_
  refine l_fr (Fr [z0, z1, D b2, D b3, z4, .pointer (some ⟨b2, 0, none⟩), A e6, .pointer (some ⟨b3, 0, none⟩), A e8, .bool true, .bool true, z11, z12, z13, z14, z15, z16] []) ?_
  refine l_val (.pointer (some ⟨b2, 4, none⟩)) (by kernel_rfl) ?_
  refine l_fr (Fr [z0, z1, D b2, D b3, z4, .pointer (some ⟨b2, 0, none⟩), A e6, .pointer (some ⟨b3, 0, none⟩), A e8, .bool true, .bool true, .pointer (some ⟨b2, 4, none⟩), z12, z13, z14, z15, z16] []) ?_
  refine l_part hO 39 i2 h2 q12 Tryd.underlying39 ?_
  refine l_fr (Fr [z0, z1, D b2, D b3, z4, .pointer (some ⟨b2, 0, none⟩), A e6, .pointer (some ⟨b3, 0, none⟩), A e8, .bool true, .bool true, .pointer (some ⟨b2, 4, none⟩), A e12, z13, z14, z15, z16] []) ?_
  refine l_val (.pointer (some ⟨b3, 4, none⟩)) (by kernel_rfl) ?_
  refine l_fr (Fr [z0, z1, D b2, D b3, z4, .pointer (some ⟨b2, 0, none⟩), A e6, .pointer (some ⟨b3, 0, none⟩), A e8, .bool true, .bool true, .pointer (some ⟨b2, 4, none⟩), A e12, .pointer (some ⟨b3, 4, none⟩), z14, z15, z16] []) ?_
  refine l_part hO 39 i3 h3 q14 Tryd.underlying39 ?_
  refine l_fr (Fr [z0, z1, D b2, D b3, z4, .pointer (some ⟨b2, 0, none⟩), A e6, .pointer (some ⟨b3, 0, none⟩), A e8, .bool true, .bool true, .pointer (some ⟨b2, 4, none⟩), A e12, .pointer (some ⟨b3, 4, none⟩), A e14, z15, z16] []) ?_
  refine l_call hO 39 #[.agg e12, .agg e14] (.bool p15) r15 ?_
  intro w2 hO
  refine l_fr (Fr [z0, z1, D b2, D b3, z4, .pointer (some ⟨b2, 0, none⟩), A e6, .pointer (some ⟨b3, 0, none⟩), A e8, .bool true, .bool true, .pointer (some ⟨b2, 4, none⟩), A e12, .pointer (some ⟨b3, 4, none⟩), A e14, .bool p15, z16] []) ?_
  refine l_val (.bool p15) (by kernel_rfl) ?_
  refine l_fr (Fr [z0, z1, D b2, D b3, z4, .pointer (some ⟨b2, 0, none⟩), A e6, .pointer (some ⟨b3, 0, none⟩), A e8, .bool true, .bool true, .pointer (some ⟨b2, 4, none⟩), A e12, .pointer (some ⟨b3, 4, none⟩), A e14, .bool p15, .bool p15] []) ?_
  refine l_val (.bool p15) (by kernel_rfl) ?_
  exact l_fr _ (wpList_nil (H  _ hO))
set_option maxHeartbeats 4000000 in
theorem same7_c (x y x2 y2 : Nat) (hx : x < pP) (hy : y < pP) (hx2 : x2 < pP) (hy2 : y2 < pP) (w : World) : Ret 20 #[.agg (ps [x, y]), .agg (ps [x2, y2])] w (.bool (decide (x = x2) && decide (y = y2))) := by
  go_enter Tryd.func20, Tryd.ntmps20
  have hO := Own.start w
  go_upto_region 0 with (fail)
  refine f18r0_r hO (fit_pt _ _) (fit_pt _ _) ?_
  intro n2 n3 w1 hO
  replace hO : Own w w1 [(n3, ps [x2, y2], 41), (n2, ps [x, y], 41)] := hO
  go_upto_region 1 with (fail)
  by_cases hs : x = x2
  · skip
    have hc := same_c x x2 hx hx2
    rw [decide_eq_true hs] at hc
    refine f18b_r hO 1 rfl 0 rfl (part_pt0 _ _) (part_pt0 _ _) hc (part_pt1 _ _) (part_pt1 _ _) (same_c _ _ hy hy2) ?_
    intro w2 hO
    replace hO : Own w w2 [(n3, ps [x2, y2], 41), (n2, ps [x, y], 41)] := hO
    go_wp2_with fail
    refine bodyPost_ret (v := .bool (decide (y = y2))) (results_tmp Tryd.results20 _ _ _) rfl ⟨by rw [decide_eq_true hs]; rfl, hO.low⟩
  · skip
    have hc := same_c x x2 hx hx2
    rw [decide_eq_false hs] at hc
    refine f18a_r hO 1 rfl 0 rfl (part_pt0 _ _) (part_pt0 _ _) hc ?_
    intro w2 hO
    replace hO : Own w w2 [(n3, ps [x2, y2], 41), (n2, ps [x, y], 41)] := hO
    go_wp2_with fail
    refine bodyPost_ret (v := .bool false) (results_tmp Tryd.results20 _ _ _) rfl ⟨by rw [decide_eq_false hs]; rfl, hO.low⟩
def f79r0Op0 : Oper := ⟨some 1, .box 107 (.tmp 0), 0, "edwards.go:91", #[], none⟩
def f79r0Op1 : Oper := ⟨some 2, .alloc 109, 0, "edwards.go:91", #[], none⟩
def f79r0Ops : Array Oper := #[f79r0Op0, f79r0Op1]
set_option maxHeartbeats 2000000 in
theorem f79r0_r {Q : Exit → Act → World → Prop} {u w : World} {L : List Row} {z1 z2 : Value} {zz : List Value} {e0 : Array Value} (hO : Own u w L) (fe0_81 : Fit 107 e0) (H : ∀ (n1 : Nat) (n2 : Nat) (w' : World), Own u w' ((n2, ps [0, 0, 0, 0], 109) :: (n1, e0, 107) :: L) → Q .normal { tmps := List.toArray ((.agg e0) :: (.pointer (some ⟨n1, 0, none⟩)) :: (.pointer (some ⟨n2, 0, none⟩)) :: zz), defers := [] } w') :
    (Code.region 0 f79r0Ops false).wp Tryd.prog Q { tmps := List.toArray ((.agg e0) :: z1 :: z2 :: zz), defers := [] } w := by
  refine wp_region_list (show wpList _ f79r0Ops _ [f79r0Op0, f79r0Op1] _ _ from ?_)
  refine l_new hO (e0) 107 (run_box 107 _ rfl _ (by kernel_rfl)) fe0_81 ?_
  intro n1 w1 hO
  refine l_new hO (ps [0, 0, 0, 0]) 109 (al83 rfl) (fit_ru _ _ _ _) ?_
  intro n2 w2 hO
  exact l_fr _ (wpList_nil (H n1 n2 _ hO))
def f79r1Op0 : Oper := ⟨some 8, .fieldAddr 107 (.tmp 1) 0, 0, "edwards.go:92", #[], none⟩
def f79r1Op1 : Oper := ⟨some 9, .load 39 (.tmp 8), 39, "edwards.go:92", #[⟨0, .data⟩], none⟩
def f79r1Op2 : Oper := ⟨some 10, .call { callee := .value (.func 32), args := #[.tmp 9], argTypes := #[39] }, 39, "edwards.go:92", #[⟨1, .data⟩], none⟩
def f79r1Op3 : Oper := ⟨some 11, .fieldAddr 107 (.tmp 1) 1, 0, "edwards.go:92", #[], none⟩
def f79r1Op4 : Oper := ⟨some 12, .load 39 (.tmp 11), 39, "edwards.go:92", #[⟨3, .data⟩], none⟩
def f79r1Op5 : Oper := ⟨some 13, .call { callee := .value (.func 32), args := #[.tmp 12], argTypes := #[39] }, 39, "edwards.go:92", #[⟨4, .data⟩, ⟨2, .chain⟩], none⟩
def f79r1Op6 : Oper := ⟨some 14, .fieldAddr 107 (.tmp 1) 2, 0, "edwards.go:92", #[], none⟩
def f79r1Op7 : Oper := ⟨some 15, .load 39 (.tmp 14), 39, "edwards.go:92", #[⟨6, .data⟩], none⟩
def f79r1Op8 : Oper := ⟨some 16, .call { callee := .value (.func 32), args := #[.tmp 15], argTypes := #[39] }, 39, "edwards.go:92", #[⟨7, .data⟩, ⟨5, .chain⟩], none⟩
def f79r1Op9 : Oper := ⟨some 3, .alloc 39, 0, "edwards.go:92", #[], none⟩
def f79r1Op10 : Oper := ⟨some 4, .alloc 39, 0, "edwards.go:92", #[], none⟩
def f79r1Op11 : Oper := ⟨some 5, .alloc 39, 0, "edwards.go:92", #[], none⟩
def f79r1Op12 : Oper := ⟨none, .store 39 (.tmp 3) (.tmp 10), 0, "edwards.go:92", #[⟨9, .data⟩, ⟨2, .data⟩, ⟨8, .chain⟩, ⟨0, .phase⟩, ⟨1, .phase⟩, ⟨2, .phase⟩, ⟨3, .textOnly .lateStores⟩, ⟨4, .textOnly .lateStores⟩, ⟨5, .textOnly .lateStoresUnsure⟩, ⟨6, .textOnly .lateStores⟩, ⟨7, .textOnly .lateStores⟩, ⟨8, .textOnly .lateStoresUnsure⟩, ⟨9, .phase⟩, ⟨10, .phase⟩, ⟨11, .phase⟩], none⟩
def f79r1Op13 : Oper := ⟨none, .store 39 (.tmp 4) (.tmp 13), 0, "edwards.go:92", #[⟨10, .data⟩, ⟨5, .data⟩, ⟨12, .chain⟩, ⟨0, .phase⟩, ⟨1, .phase⟩, ⟨2, .phase⟩, ⟨3, .phase⟩, ⟨4, .phase⟩, ⟨5, .phase⟩, ⟨6, .textOnly .lateStores⟩, ⟨7, .textOnly .lateStores⟩, ⟨8, .textOnly .lateStoresUnsure⟩, ⟨9, .phase⟩, ⟨10, .phase⟩, ⟨11, .phase⟩, ⟨12, .phase⟩], none⟩
def f79r1Op14 : Oper := ⟨none, .store 39 (.tmp 5) (.tmp 16), 0, "edwards.go:92", #[⟨11, .data⟩, ⟨8, .data⟩, ⟨13, .chain⟩, ⟨0, .phase⟩, ⟨1, .phase⟩, ⟨2, .phase⟩, ⟨3, .phase⟩, ⟨4, .phase⟩, ⟨5, .phase⟩, ⟨6, .phase⟩, ⟨7, .phase⟩, ⟨8, .phase⟩, ⟨9, .phase⟩, ⟨10, .phase⟩, ⟨11, .phase⟩, ⟨12, .phase⟩, ⟨13, .phase⟩], none⟩
def f79r1Ops : Array Oper := #[f79r1Op0, f79r1Op1, f79r1Op2, f79r1Op3, f79r1Op4, f79r1Op5, f79r1Op6, f79r1Op7, f79r1Op8, f79r1Op9, f79r1Op10, f79r1Op11, f79r1Op12, f79r1Op13, f79r1Op14]
set_option maxHeartbeats 2000000 in
theorem f79r1_r {Q : Exit → Act → World → Prop} {u w : World} {L : List Row} {z0 z2 z3 z4 z5 z6 z7 z8 z9 z10 z11 z12 z13 z14 z15 z16 : Value} {zz : List Value} {b1 : Nat} {c1 : Array Value} {e9 e10 e12 e13 e15 e16 : Array Value} (hQ : ∀ c a w n v, Q (.panic c) (a.put (some n) v) w → Q (.panic c) a w) (hO : Own u w L) (i1 : Nat) (h1 : L[i1]? = some (b1, c1, 107)) (q9 : Part c1 0 39 e9) (r10 : ∀ w, Ret 32 #[.agg e9] w (.agg e10)) (q12 : Part c1 4 39 e12) (r13 : ∀ w, Ret 32 #[.agg e12] w (.agg e13)) (q15 : Part c1 8 39 e15) (r16 : ∀ w, Ret 32 #[.agg e15] w (.agg e16)) (fe10_27 : Fit 39 e10) (fe13_27 : Fit 39 e13) (fe16_27 : Fit 39 e16) (H : ∀ (n3 : Nat) (n4 : Nat) (n5 : Nat) (w' : World), Own u w' ((n5, e16, 39) :: (n4, e13, 39) :: (n3, e10, 39) :: L) → Q .normal { tmps := List.toArray (z0 :: (.pointer (some ⟨b1, 0, none⟩)) :: z2 :: (.pointer (some ⟨n3, 0, none⟩)) :: (.pointer (some ⟨n4, 0, none⟩)) :: (.pointer (some ⟨n5, 0, none⟩)) :: z6 :: z7 :: (.pointer (some ⟨b1, 0, none⟩)) :: (.agg e9) :: (.agg e10) :: (.pointer (some ⟨b1, 4, none⟩)) :: (.agg e12) :: (.agg e13) :: (.pointer (some ⟨b1, 8, none⟩)) :: (.agg e15) :: (.agg e16) :: zz), defers := [] } w') :
    (Code.region 1 f79r1Ops true).wp Tryd.prog Q { tmps := List.toArray (z0 :: (.pointer (some ⟨b1, 0, none⟩)) :: z2 :: z3 :: z4 :: z5 :: z6 :: z7 :: z8 :: z9 :: z10 :: z11 :: z12 :: z13 :: z14 :: z15 :: z16 :: zz), defers := [] } w := by
  have s0 : ∀ (n3 : Nat) (n4 : Nat) (n5 : Nat) (w : World), Own u w ((n5, arr 4 (limb 0), 39) :: (n4, arr 4 (limb 0), 39) :: (n3, arr 4 (limb 0), 39) :: L) → wpAnyH Tryd.prog .any f79r1Ops Q (Has [(b1, c1, 107)]) 3 (ls 15 4095) (Fr [z0, D b1, z2, D n3, D n4, D n5, z6, z7, .pointer (some ⟨b1, 0, none⟩), A e9, A e10, .pointer (some ⟨b1, 4, none⟩), A e12, A e13, .pointer (some ⟨b1, 8, none⟩), A e15, A e16] zz) w := by
    intro n3 n4 n5 w hO
    refine d_one 12 f79r1Op12 (ls 15 8191) (fun K hK => ?_)
    refine k_st hK hO 39 2 rfl e10 fe10_27 (fun _ hO => ⟨hO.row _ (gs (gs (gs h1))), trivial⟩) ?_
    intro w1 hO
    replace hO : Own u w1 ((n5, arr 4 (limb 0), 39) :: (n4, arr 4 (limb 0), 39) :: (n3, e10, 39) :: L) := hO
    refine d_one 13 f79r1Op13 (ls 15 16383) (fun K hK => ?_)
    refine k_st hK hO 39 1 rfl e13 fe13_27 (fun _ hO => ⟨hO.row _ (gs (gs (gs h1))), trivial⟩) ?_
    intro w2 hO
    replace hO : Own u w2 ((n5, arr 4 (limb 0), 39) :: (n4, e13, 39) :: (n3, e10, 39) :: L) := hO
    refine d_one 14 f79r1Op14 (ls 15 32767) (fun K hK => ?_)
    refine k_st hK hO 39 0 rfl e16 fe16_27 (fun _ hO => ⟨hO.row _ (gs (gs (gs h1))), trivial⟩) ?_
    intro w3 hO
    exact wpAnyH_done (by kernel_rfl) (H n3 n4 n5 _ hO) _
  have s1 : ∀ (n4 : Nat) (n5 : Nat) (w : World), Own u w ((n5, arr 4 (limb 0), 39) :: (n4, arr 4 (limb 0), 39) :: L) → wpAnyH Tryd.prog .any f79r1Ops Q (Has [(b1, c1, 107)]) 4 (ls 15 3583) (Fr [z0, D b1, z2, z3, D n4, D n5, z6, z7, .pointer (some ⟨b1, 0, none⟩), A e9, A e10, .pointer (some ⟨b1, 4, none⟩), A e12, A e13, .pointer (some ⟨b1, 8, none⟩), A e15, A e16] zz) w := by
    intro n4 n5 w hO
    refine d_one 9 f79r1Op9 (ls 15 4095) (fun K hK => ?_)
    refine k_new hK hO (arr 4 (limb 0)) 39 (al27 rfl) (fit_fe _) (fun _ _ hO => ⟨hO.row _ (gs (gs (gs h1))), trivial⟩) ?_
    intro n3 w4 hO
    replace hO := hO.perm swap2
    exact d_fr _ _ (s0 n3 n4 n5 _ hO)
  have s2 : ∀ (n3 : Nat) (n4 : Nat) (n5 : Nat) (w : World), Own u w ((n5, arr 4 (limb 0), 39) :: (n4, arr 4 (limb 0), 39) :: (n3, arr 4 (limb 0), 39) :: L) → wpAnyH Tryd.prog .any f79r1Ops Q (Has [(b1, c1, 107)]) 4 (ls 15 3839) (Fr [z0, D b1, z2, D n3, D n4, D n5, z6, z7, .pointer (some ⟨b1, 0, none⟩), A e9, A e10, .pointer (some ⟨b1, 4, none⟩), A e12, A e13, .pointer (some ⟨b1, 8, none⟩), A e15, z16] zz) w := by
    intro n3 n4 n5 w hO
    refine d_one 8 f79r1Op8 (ls 15 4095) (fun K hK => ?_)
    refine k_call hK hO (fun _ hO => ⟨hO.row _ (gs (gs (gs h1))), trivial⟩) 32 #[.agg e15] (.agg e16) r16 ?_
    intro w5 hO
    exact d_fr _ _ (s0 n3 n4 n5 _ hO)
  have s3 : ∀ (n3 : Nat) (n5 : Nat) (w : World), Own u w ((n5, arr 4 (limb 0), 39) :: (n3, arr 4 (limb 0), 39) :: L) → wpAnyH Tryd.prog .any f79r1Ops Q (Has [(b1, c1, 107)]) 4 (ls 15 3071) (Fr [z0, D b1, z2, D n3, z4, D n5, z6, z7, .pointer (some ⟨b1, 0, none⟩), A e9, A e10, .pointer (some ⟨b1, 4, none⟩), A e12, A e13, .pointer (some ⟨b1, 8, none⟩), A e15, A e16] zz) w := by
    intro n3 n5 w hO
    refine d_one 10 f79r1Op10 (ls 15 4095) (fun K hK => ?_)
    refine k_new hK hO (arr 4 (limb 0)) 39 (al27 rfl) (fit_fe _) (fun _ _ hO => ⟨hO.row _ (gs (gs (gs h1))), trivial⟩) ?_
    intro n4 w6 hO
    replace hO := hO.perm swap1
    exact d_fr _ _ (s0 n3 n4 n5 _ hO)
  have s4 : ∀ (n3 : Nat) (n4 : Nat) (w : World), Own u w ((n4, arr 4 (limb 0), 39) :: (n3, arr 4 (limb 0), 39) :: L) → wpAnyH Tryd.prog .any f79r1Ops Q (Has [(b1, c1, 107)]) 4 (ls 15 2047) (Fr [z0, D b1, z2, D n3, D n4, z5, z6, z7, .pointer (some ⟨b1, 0, none⟩), A e9, A e10, .pointer (some ⟨b1, 4, none⟩), A e12, A e13, .pointer (some ⟨b1, 8, none⟩), A e15, A e16] zz) w := by
    intro n3 n4 w hO
    refine d_one 11 f79r1Op11 (ls 15 4095) (fun K hK => ?_)
    refine k_new hK hO (arr 4 (limb 0)) 39 (al27 rfl) (fit_fe _) (fun _ _ hO => ⟨hO.row _ (gs (gs (gs h1))), trivial⟩) ?_
    intro n5 w7 hO
    exact d_fr _ _ (s0 n3 n4 n5 _ hO)
  have s5 : ∀ (n5 : Nat) (w : World), Own u w ((n5, arr 4 (limb 0), 39) :: L) → wpAnyH Tryd.prog .any f79r1Ops Q (Has [(b1, c1, 107)]) 5 (ls 15 2559) (Fr [z0, D b1, z2, z3, z4, D n5, z6, z7, .pointer (some ⟨b1, 0, none⟩), A e9, A e10, .pointer (some ⟨b1, 4, none⟩), A e12, A e13, .pointer (some ⟨b1, 8, none⟩), A e15, A e16] zz) w := by
    intro n5 w hO
    refine wpAnyH_ready (rs := [9, 10]) (by kernel_rfl) (by simp) ?_
    refine d_cons 9 f79r1Op9 (ls 15 3071) (fun K hK => ?_) ?_
    · skip
      refine k_new hK hO (arr 4 (limb 0)) 39 (al27 rfl) (fit_fe _) (fun _ _ hO => ⟨hO.row _ (gs (gs h1)), trivial⟩) ?_
      intro n3 w8 hO
      replace hO := hO.perm swap1
      exact d_fr _ _ (s3 n3 n5 _ hO)
    refine d_cons 10 f79r1Op10 (ls 15 3583) (fun K hK => ?_) ?_
    · skip
      refine k_new hK hO (arr 4 (limb 0)) 39 (al27 rfl) (fit_fe _) (fun _ _ hO => ⟨hO.row _ (gs (gs h1)), trivial⟩) ?_
      intro n4 w9 hO
      replace hO := hO.perm swap1
      exact d_fr _ _ (s1 n4 n5 _ hO)
    exact AllReadyH.nil
  have s6 : ∀ (n3 : Nat) (n4 : Nat) (w : World), Own u w ((n4, arr 4 (limb 0), 39) :: (n3, arr 4 (limb 0), 39) :: L) → wpAnyH Tryd.prog .any f79r1Ops Q (Has [(b1, c1, 107)]) 5 (ls 15 1791) (Fr [z0, D b1, z2, D n3, D n4, z5, z6, z7, .pointer (some ⟨b1, 0, none⟩), A e9, A e10, .pointer (some ⟨b1, 4, none⟩), A e12, A e13, .pointer (some ⟨b1, 8, none⟩), A e15, z16] zz) w := by
    intro n3 n4 w hO
    refine wpAnyH_ready (rs := [8, 11]) (by kernel_rfl) (by simp) ?_
    refine d_cons 8 f79r1Op8 (ls 15 2047) (fun K hK => ?_) ?_
    · skip
      refine k_call hK hO (fun _ hO => ⟨hO.row _ (gs (gs h1)), trivial⟩) 32 #[.agg e15] (.agg e16) r16 ?_
      intro w10 hO
      exact d_fr _ _ (s4 n3 n4 _ hO)
    refine d_cons 11 f79r1Op11 (ls 15 3839) (fun K hK => ?_) ?_
    · skip
      refine k_new hK hO (arr 4 (limb 0)) 39 (al27 rfl) (fit_fe _) (fun _ _ hO => ⟨hO.row _ (gs (gs (gs h1))), trivial⟩) ?_
      intro n5 w11 hO
      exact d_fr _ _ (s2 n3 n4 n5 _ hO)
    exact AllReadyH.nil
  have s7 : ∀ (n4 : Nat) (n5 : Nat) (w : World), Own u w ((n5, arr 4 (limb 0), 39) :: (n4, arr 4 (limb 0), 39) :: L) → wpAnyH Tryd.prog .any f79r1Ops Q (Has [(b1, c1, 107)]) 5 (ls 15 3327) (Fr [z0, D b1, z2, z3, D n4, D n5, z6, z7, .pointer (some ⟨b1, 0, none⟩), A e9, A e10, .pointer (some ⟨b1, 4, none⟩), A e12, A e13, .pointer (some ⟨b1, 8, none⟩), A e15, z16] zz) w := by
    intro n4 n5 w hO
    refine wpAnyH_ready (rs := [8, 9]) (by kernel_rfl) (by simp) ?_
    refine d_cons 8 f79r1Op8 (ls 15 3583) (fun K hK => ?_) ?_
    · skip
      refine k_call hK hO (fun _ hO => ⟨hO.row _ (gs (gs h1)), trivial⟩) 32 #[.agg e15] (.agg e16) r16 ?_
      intro w12 hO
      exact d_fr _ _ (s1 n4 n5 _ hO)
    refine d_cons 9 f79r1Op9 (ls 15 3839) (fun K hK => ?_) ?_
    · skip
      refine k_new hK hO (arr 4 (limb 0)) 39 (al27 rfl) (fit_fe _) (fun _ _ hO => ⟨hO.row _ (gs (gs (gs h1))), trivial⟩) ?_
      intro n3 w13 hO
      replace hO := hO.perm swap2
      exact d_fr _ _ (s2 n3 n4 n5 _ hO)
    exact AllReadyH.nil
  have s8 : ∀ (n3 : Nat) (n4 : Nat) (n5 : Nat) (w : World), Own u w ((n5, arr 4 (limb 0), 39) :: (n4, arr 4 (limb 0), 39) :: (n3, arr 4 (limb 0), 39) :: L) → wpAnyH Tryd.prog .any f79r1Ops Q (Has [(b1, c1, 107)]) 5 (ls 15 3807) (Fr [z0, D b1, z2, D n3, D n4, D n5, z6, z7, .pointer (some ⟨b1, 0, none⟩), A e9, A e10, .pointer (some ⟨b1, 4, none⟩), A e12, z13, .pointer (some ⟨b1, 8, none⟩), A e15, z16] zz) w := by
    intro n3 n4 n5 w hO
    refine d_one 5 f79r1Op5 (ls 15 3839) (fun K hK => ?_)
    refine k_call hK hO (fun _ hO => ⟨hO.row _ (gs (gs (gs h1))), trivial⟩) 32 #[.agg e12] (.agg e13) r13 ?_
    intro w14 hO
    exact d_fr _ _ (s2 n3 n4 n5 _ hO)
  have s9 : ∀ (n4 : Nat) (w : World), Own u w ((n4, arr 4 (limb 0), 39) :: L) → wpAnyH Tryd.prog .any f79r1Ops Q (Has [(b1, c1, 107)]) 5 (ls 15 1535) (Fr [z0, D b1, z2, z3, D n4, z5, z6, z7, .pointer (some ⟨b1, 0, none⟩), A e9, A e10, .pointer (some ⟨b1, 4, none⟩), A e12, A e13, .pointer (some ⟨b1, 8, none⟩), A e15, A e16] zz) w := by
    intro n4 w hO
    refine wpAnyH_ready (rs := [9, 11]) (by kernel_rfl) (by simp) ?_
    refine d_cons 9 f79r1Op9 (ls 15 2047) (fun K hK => ?_) ?_
    · skip
      refine k_new hK hO (arr 4 (limb 0)) 39 (al27 rfl) (fit_fe _) (fun _ _ hO => ⟨hO.row _ (gs (gs h1)), trivial⟩) ?_
      intro n3 w15 hO
      replace hO := hO.perm swap1
      exact d_fr _ _ (s4 n3 n4 _ hO)
    refine d_cons 11 f79r1Op11 (ls 15 3583) (fun K hK => ?_) ?_
    · skip
      refine k_new hK hO (arr 4 (limb 0)) 39 (al27 rfl) (fit_fe _) (fun _ _ hO => ⟨hO.row _ (gs (gs h1)), trivial⟩) ?_
      intro n5 w16 hO
      exact d_fr _ _ (s1 n4 n5 _ hO)
    exact AllReadyH.nil
  have s10 : ∀ (n3 : Nat) (n5 : Nat) (w : World), Own u w ((n5, arr 4 (limb 0), 39) :: (n3, arr 4 (limb 0), 39) :: L) → wpAnyH Tryd.prog .any f79r1Ops Q (Has [(b1, c1, 107)]) 5 (ls 15 2815) (Fr [z0, D b1, z2, D n3, z4, D n5, z6, z7, .pointer (some ⟨b1, 0, none⟩), A e9, A e10, .pointer (some ⟨b1, 4, none⟩), A e12, A e13, .pointer (some ⟨b1, 8, none⟩), A e15, z16] zz) w := by
    intro n3 n5 w hO
    refine wpAnyH_ready (rs := [8, 10]) (by kernel_rfl) (by simp) ?_
    refine d_cons 8 f79r1Op8 (ls 15 3071) (fun K hK => ?_) ?_
    · skip
      refine k_call hK hO (fun _ hO => ⟨hO.row _ (gs (gs h1)), trivial⟩) 32 #[.agg e15] (.agg e16) r16 ?_
      intro w17 hO
      exact d_fr _ _ (s3 n3 n5 _ hO)
    refine d_cons 10 f79r1Op10 (ls 15 3839) (fun K hK => ?_) ?_
    · skip
      refine k_new hK hO (arr 4 (limb 0)) 39 (al27 rfl) (fit_fe _) (fun _ _ hO => ⟨hO.row _ (gs (gs (gs h1))), trivial⟩) ?_
      intro n4 w18 hO
      replace hO := hO.perm swap1
      exact d_fr _ _ (s2 n3 n4 n5 _ hO)
    exact AllReadyH.nil
  have s11 : ∀ (n3 : Nat) (w : World), Own u w ((n3, arr 4 (limb 0), 39) :: L) → wpAnyH Tryd.prog .any f79r1Ops Q (Has [(b1, c1, 107)]) 5 (ls 15 1023) (Fr [z0, D b1, z2, D n3, z4, z5, z6, z7, .pointer (some ⟨b1, 0, none⟩), A e9, A e10, .pointer (some ⟨b1, 4, none⟩), A e12, A e13, .pointer (some ⟨b1, 8, none⟩), A e15, A e16] zz) w := by
    intro n3 w hO
    refine wpAnyH_ready (rs := [10, 11]) (by kernel_rfl) (by simp) ?_
    refine d_cons 10 f79r1Op10 (ls 15 2047) (fun K hK => ?_) ?_
    · skip
      refine k_new hK hO (arr 4 (limb 0)) 39 (al27 rfl) (fit_fe _) (fun _ _ hO => ⟨hO.row _ (gs (gs h1)), trivial⟩) ?_
      intro n4 w19 hO
      exact d_fr _ _ (s4 n3 n4 _ hO)
    refine d_cons 11 f79r1Op11 (ls 15 3071) (fun K hK => ?_) ?_
    · skip
      refine k_new hK hO (arr 4 (limb 0)) 39 (al27 rfl) (fit_fe _) (fun _ _ hO => ⟨hO.row _ (gs (gs h1)), trivial⟩) ?_
      intro n5 w20 hO
      exact d_fr _ _ (s3 n3 n5 _ hO)
    exact AllReadyH.nil
  have s12 : ∀ (n4 : Nat) (w : World), Own u w ((n4, arr 4 (limb 0), 39) :: L) → wpAnyH Tryd.prog .any f79r1Ops Q (Has [(b1, c1, 107)]) 6 (ls 15 1279) (Fr [z0, D b1, z2, z3, D n4, z5, z6, z7, .pointer (some ⟨b1, 0, none⟩), A e9, A e10, .pointer (some ⟨b1, 4, none⟩), A e12, A e13, .pointer (some ⟨b1, 8, none⟩), A e15, z16] zz) w := by
    intro n4 w hO
    refine wpAnyH_ready (rs := [8, 9, 11]) (by kernel_rfl) (by simp) ?_
    refine d_cons 8 f79r1Op8 (ls 15 1535) (fun K hK => ?_) ?_
    · skip
      refine k_call hK hO (fun _ hO => ⟨hO.row _ (gs h1), trivial⟩) 32 #[.agg e15] (.agg e16) r16 ?_
      intro w21 hO
      exact d_fr _ _ (s9 n4 _ hO)
    refine d_cons 9 f79r1Op9 (ls 15 1791) (fun K hK => ?_) ?_
    · skip
      refine k_new hK hO (arr 4 (limb 0)) 39 (al27 rfl) (fit_fe _) (fun _ _ hO => ⟨hO.row _ (gs (gs h1)), trivial⟩) ?_
      intro n3 w22 hO
      replace hO := hO.perm swap1
      exact d_fr _ _ (s6 n3 n4 _ hO)
    refine d_cons 11 f79r1Op11 (ls 15 3327) (fun K hK => ?_) ?_
    · skip
      refine k_new hK hO (arr 4 (limb 0)) 39 (al27 rfl) (fit_fe _) (fun _ _ hO => ⟨hO.row _ (gs (gs h1)), trivial⟩) ?_
      intro n5 w23 hO
      exact d_fr _ _ (s7 n4 n5 _ hO)
    exact AllReadyH.nil
  have s13 : ∀ (n3 : Nat) (n4 : Nat) (w : World), Own u w ((n4, arr 4 (limb 0), 39) :: (n3, arr 4 (limb 0), 39) :: L) → wpAnyH Tryd.prog .any f79r1Ops Q (Has [(b1, c1, 107)]) 6 (ls 15 1759) (Fr [z0, D b1, z2, D n3, D n4, z5, z6, z7, .pointer (some ⟨b1, 0, none⟩), A e9, A e10, .pointer (some ⟨b1, 4, none⟩), A e12, z13, .pointer (some ⟨b1, 8, none⟩), A e15, z16] zz) w := by
    intro n3 n4 w hO
    refine wpAnyH_ready (rs := [5, 11]) (by kernel_rfl) (by simp) ?_
    refine d_cons 5 f79r1Op5 (ls 15 1791) (fun K hK => ?_) ?_
    · skip
      refine k_call hK hO (fun _ hO => ⟨hO.row _ (gs (gs h1)), trivial⟩) 32 #[.agg e12] (.agg e13) r13 ?_
      intro w24 hO
      exact d_fr _ _ (s6 n3 n4 _ hO)
    refine d_cons 11 f79r1Op11 (ls 15 3807) (fun K hK => ?_) ?_
    · skip
      refine k_new hK hO (arr 4 (limb 0)) 39 (al27 rfl) (fit_fe _) (fun _ _ hO => ⟨hO.row _ (gs (gs (gs h1))), trivial⟩) ?_
      intro n5 w25 hO
      exact d_fr _ _ (s8 n3 n4 n5 _ hO)
    exact AllReadyH.nil
  have s14 : ∀ (n4 : Nat) (n5 : Nat) (w : World), Own u w ((n5, arr 4 (limb 0), 39) :: (n4, arr 4 (limb 0), 39) :: L) → wpAnyH Tryd.prog .any f79r1Ops Q (Has [(b1, c1, 107)]) 6 (ls 15 3295) (Fr [z0, D b1, z2, z3, D n4, D n5, z6, z7, .pointer (some ⟨b1, 0, none⟩), A e9, A e10, .pointer (some ⟨b1, 4, none⟩), A e12, z13, .pointer (some ⟨b1, 8, none⟩), A e15, z16] zz) w := by
    intro n4 n5 w hO
    refine wpAnyH_ready (rs := [5, 9]) (by kernel_rfl) (by simp) ?_
    refine d_cons 5 f79r1Op5 (ls 15 3327) (fun K hK => ?_) ?_
    · skip
      refine k_call hK hO (fun _ hO => ⟨hO.row _ (gs (gs h1)), trivial⟩) 32 #[.agg e12] (.agg e13) r13 ?_
      intro w26 hO
      exact d_fr _ _ (s7 n4 n5 _ hO)
    refine d_cons 9 f79r1Op9 (ls 15 3807) (fun K hK => ?_) ?_
    · skip
      refine k_new hK hO (arr 4 (limb 0)) 39 (al27 rfl) (fit_fe _) (fun _ _ hO => ⟨hO.row _ (gs (gs (gs h1))), trivial⟩) ?_
      intro n3 w27 hO
      replace hO := hO.perm swap2
      exact d_fr _ _ (s8 n3 n4 n5 _ hO)
    exact AllReadyH.nil
  have s15 : ∀ (n3 : Nat) (n4 : Nat) (n5 : Nat) (w : World), Own u w ((n5, arr 4 (limb 0), 39) :: (n4, arr 4 (limb 0), 39) :: (n3, arr 4 (limb 0), 39) :: L) → wpAnyH Tryd.prog .any f79r1Ops Q (Has [(b1, c1, 107)]) 6 (ls 15 3803) (Fr [z0, D b1, z2, D n3, D n4, D n5, z6, z7, .pointer (some ⟨b1, 0, none⟩), A e9, z10, .pointer (some ⟨b1, 4, none⟩), A e12, z13, .pointer (some ⟨b1, 8, none⟩), A e15, z16] zz) w := by
    intro n3 n4 n5 w hO
    refine d_one 2 f79r1Op2 (ls 15 3807) (fun K hK => ?_)
    refine k_call hK hO (fun _ hO => ⟨hO.row _ (gs (gs (gs h1))), trivial⟩) 32 #[.agg e9] (.agg e10) r10 ?_
    intro w28 hO
    exact d_fr _ _ (s8 n3 n4 n5 _ hO)
  have s16 : ∀ (n5 : Nat) (w : World), Own u w ((n5, arr 4 (limb 0), 39) :: L) → wpAnyH Tryd.prog .any f79r1Ops Q (Has [(b1, c1, 107)]) 6 (ls 15 2303) (Fr [z0, D b1, z2, z3, z4, D n5, z6, z7, .pointer (some ⟨b1, 0, none⟩), A e9, A e10, .pointer (some ⟨b1, 4, none⟩), A e12, A e13, .pointer (some ⟨b1, 8, none⟩), A e15, z16] zz) w := by
    intro n5 w hO
    refine wpAnyH_ready (rs := [8, 9, 10]) (by kernel_rfl) (by simp) ?_
    refine d_cons 8 f79r1Op8 (ls 15 2559) (fun K hK => ?_) ?_
    · skip
      refine k_call hK hO (fun _ hO => ⟨hO.row _ (gs h1), trivial⟩) 32 #[.agg e15] (.agg e16) r16 ?_
      intro w29 hO
      exact d_fr _ _ (s5 n5 _ hO)
    refine d_cons 9 f79r1Op9 (ls 15 2815) (fun K hK => ?_) ?_
    · skip
      refine k_new hK hO (arr 4 (limb 0)) 39 (al27 rfl) (fit_fe _) (fun _ _ hO => ⟨hO.row _ (gs (gs h1)), trivial⟩) ?_
      intro n3 w30 hO
      replace hO := hO.perm swap1
      exact d_fr _ _ (s10 n3 n5 _ hO)
    refine d_cons 10 f79r1Op10 (ls 15 3327) (fun K hK => ?_) ?_
    · skip
      refine k_new hK hO (arr 4 (limb 0)) 39 (al27 rfl) (fit_fe _) (fun _ _ hO => ⟨hO.row _ (gs (gs h1)), trivial⟩) ?_
      intro n4 w31 hO
      replace hO := hO.perm swap1
      exact d_fr _ _ (s7 n4 n5 _ hO)
    exact AllReadyH.nil
  have s17 : ∀ (n3 : Nat) (n5 : Nat) (w : World), Own u w ((n5, arr 4 (limb 0), 39) :: (n3, arr 4 (limb 0), 39) :: L) → wpAnyH Tryd.prog .any f79r1Ops Q (Has [(b1, c1, 107)]) 6 (ls 15 2783) (Fr [z0, D b1, z2, D n3, z4, D n5, z6, z7, .pointer (some ⟨b1, 0, none⟩), A e9, A e10, .pointer (some ⟨b1, 4, none⟩), A e12, z13, .pointer (some ⟨b1, 8, none⟩), A e15, z16] zz) w := by
    intro n3 n5 w hO
    refine wpAnyH_ready (rs := [5, 10]) (by kernel_rfl) (by simp) ?_
    refine d_cons 5 f79r1Op5 (ls 15 2815) (fun K hK => ?_) ?_
    · skip
      refine k_call hK hO (fun _ hO => ⟨hO.row _ (gs (gs h1)), trivial⟩) 32 #[.agg e12] (.agg e13) r13 ?_
      intro w32 hO
      exact d_fr _ _ (s10 n3 n5 _ hO)
    refine d_cons 10 f79r1Op10 (ls 15 3807) (fun K hK => ?_) ?_
    · skip
      refine k_new hK hO (arr 4 (limb 0)) 39 (al27 rfl) (fit_fe _) (fun _ _ hO => ⟨hO.row _ (gs (gs (gs h1))), trivial⟩) ?_
      intro n4 w33 hO
      replace hO := hO.perm swap1
      exact d_fr _ _ (s8 n3 n4 n5 _ hO)
    exact AllReadyH.nil
  have s18 : ∀ (n3 : Nat) (w : World), Own u w ((n3, arr 4 (limb 0), 39) :: L) → wpAnyH Tryd.prog .any f79r1Ops Q (Has [(b1, c1, 107)]) 6 (ls 15 767) (Fr [z0, D b1, z2, D n3, z4, z5, z6, z7, .pointer (some ⟨b1, 0, none⟩), A e9, A e10, .pointer (some ⟨b1, 4, none⟩), A e12, A e13, .pointer (some ⟨b1, 8, none⟩), A e15, z16] zz) w := by
    intro n3 w hO
    refine wpAnyH_ready (rs := [8, 10, 11]) (by kernel_rfl) (by simp) ?_
    refine d_cons 8 f79r1Op8 (ls 15 1023) (fun K hK => ?_) ?_
    · skip
      refine k_call hK hO (fun _ hO => ⟨hO.row _ (gs h1), trivial⟩) 32 #[.agg e15] (.agg e16) r16 ?_
      intro w34 hO
      exact d_fr _ _ (s11 n3 _ hO)
    refine d_cons 10 f79r1Op10 (ls 15 1791) (fun K hK => ?_) ?_
    · skip
      refine k_new hK hO (arr 4 (limb 0)) 39 (al27 rfl) (fit_fe _) (fun _ _ hO => ⟨hO.row _ (gs (gs h1)), trivial⟩) ?_
      intro n4 w35 hO
      exact d_fr _ _ (s6 n3 n4 _ hO)
    refine d_cons 11 f79r1Op11 (ls 15 2815) (fun K hK => ?_) ?_
    · skip
      refine k_new hK hO (arr 4 (limb 0)) 39 (al27 rfl) (fit_fe _) (fun _ _ hO => ⟨hO.row _ (gs (gs h1)), trivial⟩) ?_
      intro n5 w36 hO
      exact d_fr _ _ (s10 n3 n5 _ hO)
    exact AllReadyH.nil
  have s19 : ∀ (n3 : Nat) (w : World), Own u w ((n3, arr 4 (limb 0), 39) :: L) → wpAnyH Tryd.prog .any f79r1Ops Q (Has [(b1, c1, 107)]) 7 (ls 15 735) (Fr [z0, D b1, z2, D n3, z4, z5, z6, z7, .pointer (some ⟨b1, 0, none⟩), A e9, A e10, .pointer (some ⟨b1, 4, none⟩), A e12, z13, .pointer (some ⟨b1, 8, none⟩), A e15, z16] zz) w := by
    intro n3 w hO
    refine wpAnyH_ready (rs := [5, 10, 11]) (by kernel_rfl) (by simp) ?_
    refine d_cons 5 f79r1Op5 (ls 15 767) (fun K hK => ?_) ?_
    · skip
      refine k_call hK hO (fun _ hO => ⟨hO.row _ (gs h1), trivial⟩) 32 #[.agg e12] (.agg e13) r13 ?_
      intro w37 hO
      exact d_fr _ _ (s18 n3 _ hO)
    refine d_cons 10 f79r1Op10 (ls 15 1759) (fun K hK => ?_) ?_
    · skip
      refine k_new hK hO (arr 4 (limb 0)) 39 (al27 rfl) (fit_fe _) (fun _ _ hO => ⟨hO.row _ (gs (gs h1)), trivial⟩) ?_
      intro n4 w38 hO
      exact d_fr _ _ (s13 n3 n4 _ hO)
    refine d_cons 11 f79r1Op11 (ls 15 2783) (fun K hK => ?_) ?_
    · skip
      refine k_new hK hO (arr 4 (limb 0)) 39 (al27 rfl) (fit_fe _) (fun _ _ hO => ⟨hO.row _ (gs (gs h1)), trivial⟩) ?_
      intro n5 w39 hO
      exact d_fr _ _ (s17 n3 n5 _ hO)
    exact AllReadyH.nil
  have s20 : ∀ (n4 : Nat) (w : World), Own u w ((n4, arr 4 (limb 0), 39) :: L) → wpAnyH Tryd.prog .any f79r1Ops Q (Has [(b1, c1, 107)]) 7 (ls 15 1247) (Fr [z0, D b1, z2, z3, D n4, z5, z6, z7, .pointer (some ⟨b1, 0, none⟩), A e9, A e10, .pointer (some ⟨b1, 4, none⟩), A e12, z13, .pointer (some ⟨b1, 8, none⟩), A e15, z16] zz) w := by
    intro n4 w hO
    refine wpAnyH_ready (rs := [5, 9, 11]) (by kernel_rfl) (by simp) ?_
    refine d_cons 5 f79r1Op5 (ls 15 1279) (fun K hK => ?_) ?_
    · skip
      refine k_call hK hO (fun _ hO => ⟨hO.row _ (gs h1), trivial⟩) 32 #[.agg e12] (.agg e13) r13 ?_
      intro w40 hO
      exact d_fr _ _ (s12 n4 _ hO)
    refine d_cons 9 f79r1Op9 (ls 15 1759) (fun K hK => ?_) ?_
    · skip
      refine k_new hK hO (arr 4 (limb 0)) 39 (al27 rfl) (fit_fe _) (fun _ _ hO => ⟨hO.row _ (gs (gs h1)), trivial⟩) ?_
      intro n3 w41 hO
      replace hO := hO.perm swap1
      exact d_fr _ _ (s13 n3 n4 _ hO)
    refine d_cons 11 f79r1Op11 (ls 15 3295) (fun K hK => ?_) ?_
    · skip
      refine k_new hK hO (arr 4 (limb 0)) 39 (al27 rfl) (fit_fe _) (fun _ _ hO => ⟨hO.row _ (gs (gs h1)), trivial⟩) ?_
      intro n5 w42 hO
      exact d_fr _ _ (s14 n4 n5 _ hO)
    exact AllReadyH.nil
  have s21 : ∀ (n3 : Nat) (n4 : Nat) (w : World), Own u w ((n4, arr 4 (limb 0), 39) :: (n3, arr 4 (limb 0), 39) :: L) → wpAnyH Tryd.prog .any f79r1Ops Q (Has [(b1, c1, 107)]) 7 (ls 15 1755) (Fr [z0, D b1, z2, D n3, D n4, z5, z6, z7, .pointer (some ⟨b1, 0, none⟩), A e9, z10, .pointer (some ⟨b1, 4, none⟩), A e12, z13, .pointer (some ⟨b1, 8, none⟩), A e15, z16] zz) w := by
    intro n3 n4 w hO
    refine wpAnyH_ready (rs := [2, 11]) (by kernel_rfl) (by simp) ?_
    refine d_cons 2 f79r1Op2 (ls 15 1759) (fun K hK => ?_) ?_
    · skip
      refine k_call hK hO (fun _ hO => ⟨hO.row _ (gs (gs h1)), trivial⟩) 32 #[.agg e9] (.agg e10) r10 ?_
      intro w43 hO
      exact d_fr _ _ (s13 n3 n4 _ hO)
    refine d_cons 11 f79r1Op11 (ls 15 3803) (fun K hK => ?_) ?_
    · skip
      refine k_new hK hO (arr 4 (limb 0)) 39 (al27 rfl) (fit_fe _) (fun _ _ hO => ⟨hO.row _ (gs (gs (gs h1))), trivial⟩) ?_
      intro n5 w44 hO
      exact d_fr _ _ (s15 n3 n4 n5 _ hO)
    exact AllReadyH.nil
  have s22 : ∀ (n4 : Nat) (n5 : Nat) (w : World), Own u w ((n5, arr 4 (limb 0), 39) :: (n4, arr 4 (limb 0), 39) :: L) → wpAnyH Tryd.prog .any f79r1Ops Q (Has [(b1, c1, 107)]) 7 (ls 15 3291) (Fr [z0, D b1, z2, z3, D n4, D n5, z6, z7, .pointer (some ⟨b1, 0, none⟩), A e9, z10, .pointer (some ⟨b1, 4, none⟩), A e12, z13, .pointer (some ⟨b1, 8, none⟩), A e15, z16] zz) w := by
    intro n4 n5 w hO
    refine wpAnyH_ready (rs := [2, 9]) (by kernel_rfl) (by simp) ?_
    refine d_cons 2 f79r1Op2 (ls 15 3295) (fun K hK => ?_) ?_
    · skip
      refine k_call hK hO (fun _ hO => ⟨hO.row _ (gs (gs h1)), trivial⟩) 32 #[.agg e9] (.agg e10) r10 ?_
      intro w45 hO
      exact d_fr _ _ (s14 n4 n5 _ hO)
    refine d_cons 9 f79r1Op9 (ls 15 3803) (fun K hK => ?_) ?_
    · skip
      refine k_new hK hO (arr 4 (limb 0)) 39 (al27 rfl) (fit_fe _) (fun _ _ hO => ⟨hO.row _ (gs (gs (gs h1))), trivial⟩) ?_
      intro n3 w46 hO
      replace hO := hO.perm swap2
      exact d_fr _ _ (s15 n3 n4 n5 _ hO)
    exact AllReadyH.nil
  have s23 : ∀ (n5 : Nat) (w : World), Own u w ((n5, arr 4 (limb 0), 39) :: L) → wpAnyH Tryd.prog .any f79r1Ops Q (Has [(b1, c1, 107)]) 7 (ls 15 2271) (Fr [z0, D b1, z2, z3, z4, D n5, z6, z7, .pointer (some ⟨b1, 0, none⟩), A e9, A e10, .pointer (some ⟨b1, 4, none⟩), A e12, z13, .pointer (some ⟨b1, 8, none⟩), A e15, z16] zz) w := by
    intro n5 w hO
    refine wpAnyH_ready (rs := [5, 9, 10]) (by kernel_rfl) (by simp) ?_
    refine d_cons 5 f79r1Op5 (ls 15 2303) (fun K hK => ?_) ?_
    · skip
      refine k_call hK hO (fun _ hO => ⟨hO.row _ (gs h1), trivial⟩) 32 #[.agg e12] (.agg e13) r13 ?_
      intro w47 hO
      exact d_fr _ _ (s16 n5 _ hO)
    refine d_cons 9 f79r1Op9 (ls 15 2783) (fun K hK => ?_) ?_
    · skip
      refine k_new hK hO (arr 4 (limb 0)) 39 (al27 rfl) (fit_fe _) (fun _ _ hO => ⟨hO.row _ (gs (gs h1)), trivial⟩) ?_
      intro n3 w48 hO
      replace hO := hO.perm swap1
      exact d_fr _ _ (s17 n3 n5 _ hO)
    refine d_cons 10 f79r1Op10 (ls 15 3295) (fun K hK => ?_) ?_
    · skip
      refine k_new hK hO (arr 4 (limb 0)) 39 (al27 rfl) (fit_fe _) (fun _ _ hO => ⟨hO.row _ (gs (gs h1)), trivial⟩) ?_
      intro n4 w49 hO
      replace hO := hO.perm swap1
      exact d_fr _ _ (s14 n4 n5 _ hO)
    exact AllReadyH.nil
  have s24 : ∀ (n3 : Nat) (n5 : Nat) (w : World), Own u w ((n5, arr 4 (limb 0), 39) :: (n3, arr 4 (limb 0), 39) :: L) → wpAnyH Tryd.prog .any f79r1Ops Q (Has [(b1, c1, 107)]) 7 (ls 15 2779) (Fr [z0, D b1, z2, D n3, z4, D n5, z6, z7, .pointer (some ⟨b1, 0, none⟩), A e9, z10, .pointer (some ⟨b1, 4, none⟩), A e12, z13, .pointer (some ⟨b1, 8, none⟩), A e15, z16] zz) w := by
    intro n3 n5 w hO
    refine wpAnyH_ready (rs := [2, 10]) (by kernel_rfl) (by simp) ?_
    refine d_cons 2 f79r1Op2 (ls 15 2783) (fun K hK => ?_) ?_
    · skip
      refine k_call hK hO (fun _ hO => ⟨hO.row _ (gs (gs h1)), trivial⟩) 32 #[.agg e9] (.agg e10) r10 ?_
      intro w50 hO
      exact d_fr _ _ (s17 n3 n5 _ hO)
    refine d_cons 10 f79r1Op10 (ls 15 3803) (fun K hK => ?_) ?_
    · skip
      refine k_new hK hO (arr 4 (limb 0)) 39 (al27 rfl) (fit_fe _) (fun _ _ hO => ⟨hO.row _ (gs (gs (gs h1))), trivial⟩) ?_
      intro n4 w51 hO
      replace hO := hO.perm swap1
      exact d_fr _ _ (s15 n3 n4 n5 _ hO)
    exact AllReadyH.nil
  refine wp_region_held_drew (S := Has [(b1, c1, 107)]) (by kernel_rfl) ⟨hO.drew.row _ h1, trivial⟩ (fun hS => ?_)
  replace hO := hO.drew
  refine d_tk 0 f79r1Op0 (.pointer (some ⟨b1, 0, none⟩)) hQ (y_val (fun _ => by kernel_rfl)) hS ?_
  refine d_tk 1 f79r1Op1 (.agg e9) hQ (y_p 39 (fun _ h => h.1) q9 Tryd.underlying39) hS ?_
  refine d_tk 3 f79r1Op3 (.pointer (some ⟨b1, 4, none⟩)) hQ (y_val (fun _ => by kernel_rfl)) hS ?_
  refine d_fr (ls 15 11) (Fr [z0, D b1, z2, z3, z4, z5, z6, z7, .pointer (some ⟨b1, 0, none⟩), A e9, z10, .pointer (some ⟨b1, 4, none⟩), z12, z13, z14, z15, z16] zz) ?_
  refine d_tk 4 f79r1Op4 (.agg e12) hQ (y_p 39 (fun _ h => h.1) q12 Tryd.underlying39) hS ?_
  refine d_tk 6 f79r1Op6 (.pointer (some ⟨b1, 8, none⟩)) hQ (y_val (fun _ => by kernel_rfl)) hS ?_
  refine d_tk 7 f79r1Op7 (.agg e15) hQ (y_p 39 (fun _ h => h.1) q15 Tryd.underlying39) hS ?_
  refine d_fr (ls 15 219) (Fr [z0, D b1, z2, z3, z4, z5, z6, z7, .pointer (some ⟨b1, 0, none⟩), A e9, z10, .pointer (some ⟨b1, 4, none⟩), A e12, z13, .pointer (some ⟨b1, 8, none⟩), A e15, z16] zz) ?_
  refine wpAnyH_ready (rs := [2, 9, 10, 11]) (by kernel_rfl) (by simp) ?_
  refine d_cons 2 f79r1Op2 (ls 15 223) (fun K hK => ?_) ?_
  · skip
    refine k_call hK hO (fun _ hO => ⟨hO.row _ h1, trivial⟩) 32 #[.agg e9] (.agg e10) r10 ?_
    intro w52 hO
    refine wpAnyH_ready (rs := [5, 9, 10, 11]) (by kernel_rfl) (by simp) ?_
    refine d_cons 5 f79r1Op5 (ls 15 255) (fun K hK => ?_) ?_
    · skip
      refine k_call hK hO (fun _ hO => ⟨hO.row _ h1, trivial⟩) 32 #[.agg e12] (.agg e13) r13 ?_
      intro w53 hO
      refine wpAnyH_ready (rs := [8, 9, 10, 11]) (by kernel_rfl) (by simp) ?_
      refine d_cons 8 f79r1Op8 (ls 15 511) (fun K hK => ?_) ?_
      · skip
        refine k_call hK hO (fun _ hO => ⟨hO.row _ h1, trivial⟩) 32 #[.agg e15] (.agg e16) r16 ?_
        intro w54 hO
        refine d_fr (ls 15 511) (Fr [z0, D b1, z2, z3, z4, z5, z6, z7, .pointer (some ⟨b1, 0, none⟩), A e9, A e10, .pointer (some ⟨b1, 4, none⟩), A e12, A e13, .pointer (some ⟨b1, 8, none⟩), A e15, A e16] zz) ?_
        refine wpAnyH_ready (rs := [9, 10, 11]) (by kernel_rfl) (by simp) ?_
        refine d_cons 9 f79r1Op9 (ls 15 1023) (fun K hK => ?_) ?_
        · skip
          refine k_new hK hO (arr 4 (limb 0)) 39 (al27 rfl) (fit_fe _) (fun _ _ hO => ⟨hO.row _ (gs h1), trivial⟩) ?_
          intro n3 w55 hO
          exact d_fr _ _ (s11 n3 _ hO)
        refine d_cons 10 f79r1Op10 (ls 15 1535) (fun K hK => ?_) ?_
        · skip
          refine k_new hK hO (arr 4 (limb 0)) 39 (al27 rfl) (fit_fe _) (fun _ _ hO => ⟨hO.row _ (gs h1), trivial⟩) ?_
          intro n4 w56 hO
          exact d_fr _ _ (s9 n4 _ hO)
        refine d_cons 11 f79r1Op11 (ls 15 2559) (fun K hK => ?_) ?_
        · skip
          refine k_new hK hO (arr 4 (limb 0)) 39 (al27 rfl) (fit_fe _) (fun _ _ hO => ⟨hO.row _ (gs h1), trivial⟩) ?_
          intro n5 w57 hO
          exact d_fr _ _ (s5 n5 _ hO)
        exact AllReadyH.nil
      refine d_cons 9 f79r1Op9 (ls 15 767) (fun K hK => ?_) ?_
      · skip
        refine k_new hK hO (arr 4 (limb 0)) 39 (al27 rfl) (fit_fe _) (fun _ _ hO => ⟨hO.row _ (gs h1), trivial⟩) ?_
        intro n3 w58 hO
        exact d_fr _ _ (s18 n3 _ hO)
      refine d_cons 10 f79r1Op10 (ls 15 1279) (fun K hK => ?_) ?_
      · skip
        refine k_new hK hO (arr 4 (limb 0)) 39 (al27 rfl) (fit_fe _) (fun _ _ hO => ⟨hO.row _ (gs h1), trivial⟩) ?_
        intro n4 w59 hO
        exact d_fr _ _ (s12 n4 _ hO)
      refine d_cons 11 f79r1Op11 (ls 15 2303) (fun K hK => ?_) ?_
      · skip
        refine k_new hK hO (arr 4 (limb 0)) 39 (al27 rfl) (fit_fe _) (fun _ _ hO => ⟨hO.row _ (gs h1), trivial⟩) ?_
        intro n5 w60 hO
        exact d_fr _ _ (s16 n5 _ hO)
      exact AllReadyH.nil
    refine d_cons 9 f79r1Op9 (ls 15 735) (fun K hK => ?_) ?_
    · skip
      refine k_new hK hO (arr 4 (limb 0)) 39 (al27 rfl) (fit_fe _) (fun _ _ hO => ⟨hO.row _ (gs h1), trivial⟩) ?_
      intro n3 w61 hO
      exact d_fr _ _ (s19 n3 _ hO)
    refine d_cons 10 f79r1Op10 (ls 15 1247) (fun K hK => ?_) ?_
    · skip
      refine k_new hK hO (arr 4 (limb 0)) 39 (al27 rfl) (fit_fe _) (fun _ _ hO => ⟨hO.row _ (gs h1), trivial⟩) ?_
      intro n4 w62 hO
      exact d_fr _ _ (s20 n4 _ hO)
    refine d_cons 11 f79r1Op11 (ls 15 2271) (fun K hK => ?_) ?_
    · skip
      refine k_new hK hO (arr 4 (limb 0)) 39 (al27 rfl) (fit_fe _) (fun _ _ hO => ⟨hO.row _ (gs h1), trivial⟩) ?_
      intro n5 w63 hO
      exact d_fr _ _ (s23 n5 _ hO)
    exact AllReadyH.nil
  refine d_cons 9 f79r1Op9 (ls 15 731) (fun K hK => ?_) ?_
  · skip
    refine k_new hK hO (arr 4 (limb 0)) 39 (al27 rfl) (fit_fe _) (fun _ _ hO => ⟨hO.row _ (gs h1), trivial⟩) ?_
    intro n3 w64 hO
    refine wpAnyH_ready (rs := [2, 10, 11]) (by kernel_rfl) (by simp) ?_
    refine d_cons 2 f79r1Op2 (ls 15 735) (fun K hK => ?_) ?_
    · skip
      refine k_call hK hO (fun _ hO => ⟨hO.row _ (gs h1), trivial⟩) 32 #[.agg e9] (.agg e10) r10 ?_
      intro w65 hO
      exact d_fr _ _ (s19 n3 _ hO)
    refine d_cons 10 f79r1Op10 (ls 15 1755) (fun K hK => ?_) ?_
    · skip
      refine k_new hK hO (arr 4 (limb 0)) 39 (al27 rfl) (fit_fe _) (fun _ _ hO => ⟨hO.row _ (gs (gs h1)), trivial⟩) ?_
      intro n4 w66 hO
      exact d_fr _ _ (s21 n3 n4 _ hO)
    refine d_cons 11 f79r1Op11 (ls 15 2779) (fun K hK => ?_) ?_
    · skip
      refine k_new hK hO (arr 4 (limb 0)) 39 (al27 rfl) (fit_fe _) (fun _ _ hO => ⟨hO.row _ (gs (gs h1)), trivial⟩) ?_
      intro n5 w67 hO
      exact d_fr _ _ (s24 n3 n5 _ hO)
    exact AllReadyH.nil
  refine d_cons 10 f79r1Op10 (ls 15 1243) (fun K hK => ?_) ?_
  · skip
    refine k_new hK hO (arr 4 (limb 0)) 39 (al27 rfl) (fit_fe _) (fun _ _ hO => ⟨hO.row _ (gs h1), trivial⟩) ?_
    intro n4 w68 hO
    refine wpAnyH_ready (rs := [2, 9, 11]) (by kernel_rfl) (by simp) ?_
    refine d_cons 2 f79r1Op2 (ls 15 1247) (fun K hK => ?_) ?_
    · skip
      refine k_call hK hO (fun _ hO => ⟨hO.row _ (gs h1), trivial⟩) 32 #[.agg e9] (.agg e10) r10 ?_
      intro w69 hO
      exact d_fr _ _ (s20 n4 _ hO)
    refine d_cons 9 f79r1Op9 (ls 15 1755) (fun K hK => ?_) ?_
    · skip
      refine k_new hK hO (arr 4 (limb 0)) 39 (al27 rfl) (fit_fe _) (fun _ _ hO => ⟨hO.row _ (gs (gs h1)), trivial⟩) ?_
      intro n3 w70 hO
      replace hO := hO.perm swap1
      exact d_fr _ _ (s21 n3 n4 _ hO)
    refine d_cons 11 f79r1Op11 (ls 15 3291) (fun K hK => ?_) ?_
    · skip
      refine k_new hK hO (arr 4 (limb 0)) 39 (al27 rfl) (fit_fe _) (fun _ _ hO => ⟨hO.row _ (gs (gs h1)), trivial⟩) ?_
      intro n5 w71 hO
      exact d_fr _ _ (s22 n4 n5 _ hO)
    exact AllReadyH.nil
  refine d_cons 11 f79r1Op11 (ls 15 2267) (fun K hK => ?_) ?_
  · skip
    refine k_new hK hO (arr 4 (limb 0)) 39 (al27 rfl) (fit_fe _) (fun _ _ hO => ⟨hO.row _ (gs h1), trivial⟩) ?_
    intro n5 w72 hO
    refine wpAnyH_ready (rs := [2, 9, 10]) (by kernel_rfl) (by simp) ?_
    refine d_cons 2 f79r1Op2 (ls 15 2271) (fun K hK => ?_) ?_
    · skip
      refine k_call hK hO (fun _ hO => ⟨hO.row _ (gs h1), trivial⟩) 32 #[.agg e9] (.agg e10) r10 ?_
      intro w73 hO
      exact d_fr _ _ (s23 n5 _ hO)
    refine d_cons 9 f79r1Op9 (ls 15 2779) (fun K hK => ?_) ?_
    · skip
      refine k_new hK hO (arr 4 (limb 0)) 39 (al27 rfl) (fit_fe _) (fun _ _ hO => ⟨hO.row _ (gs (gs h1)), trivial⟩) ?_
      intro n3 w74 hO
      replace hO := hO.perm swap1
      exact d_fr _ _ (s24 n3 n5 _ hO)
    refine d_cons 10 f79r1Op10 (ls 15 3291) (fun K hK => ?_) ?_
    · skip
      refine k_new hK hO (arr 4 (limb 0)) 39 (al27 rfl) (fit_fe _) (fun _ _ hO => ⟨hO.row _ (gs (gs h1)), trivial⟩) ?_
      intro n4 w75 hO
      replace hO := hO.perm swap1
      exact d_fr _ _ (s22 n4 n5 _ hO)
    exact AllReadyH.nil
  exact AllReadyH.nil
def f79r2Op0 : Oper := ⟨some 17, .fieldAddr 107 (.tmp 1) 0, 0, "edwards.go:93", #[], none⟩
def f79r2Op1 : Oper := ⟨some 18, .load 39 (.tmp 17), 39, "edwards.go:93", #[⟨0, .data⟩], none⟩
def f79r2Op2 : Oper := ⟨some 19, .fieldAddr 107 (.tmp 1) 1, 0, "edwards.go:93", #[], none⟩
def f79r2Op3 : Oper := ⟨some 20, .load 39 (.tmp 19), 39, "edwards.go:93", #[⟨2, .data⟩], none⟩
def f79r2Op4 : Oper := ⟨some 21, .call { callee := .value (.func 36), args := #[.tmp 18, .tmp 20], argTypes := #[39, 39] }, 39, "edwards.go:93", #[⟨1, .data⟩, ⟨3, .data⟩], none⟩
def f79r2Op5 : Oper := ⟨some 22, .call { callee := .value (.func 32), args := #[.tmp 21], argTypes := #[39] }, 39, "edwards.go:93", #[⟨4, .data⟩, ⟨4, .chain⟩], none⟩
def f79r2Op6 : Oper := ⟨some 23, .load 39 (.tmp 3), 39, "edwards.go:93", #[], none⟩
def f79r2Op7 : Oper := ⟨some 24, .call { callee := .value (.func 34), args := #[.tmp 22, .tmp 23], argTypes := #[39, 39] }, 39, "edwards.go:93", #[⟨5, .data⟩, ⟨6, .data⟩, ⟨5, .chain⟩], none⟩
def f79r2Op8 : Oper := ⟨some 25, .load 39 (.tmp 4), 39, "edwards.go:93", #[], none⟩
def f79r2Op9 : Oper := ⟨some 26, .call { callee := .value (.func 34), args := #[.tmp 24, .tmp 25], argTypes := #[39, 39] }, 39, "edwards.go:93", #[⟨7, .data⟩, ⟨8, .data⟩, ⟨7, .chain⟩], none⟩
def f79r2Op10 : Oper := ⟨some 6, .alloc 39, 0, "edwards.go:93", #[], none⟩
def f79r2Op11 : Oper := ⟨none, .store 39 (.tmp 6) (.tmp 26), 0, "edwards.go:93", #[⟨10, .data⟩, ⟨9, .data⟩, ⟨9, .chain⟩, ⟨0, .phase⟩, ⟨1, .phase⟩, ⟨2, .phase⟩, ⟨3, .phase⟩, ⟨4, .phase⟩, ⟨5, .phase⟩, ⟨6, .phase⟩, ⟨7, .phase⟩, ⟨8, .phase⟩, ⟨9, .phase⟩, ⟨10, .phase⟩], none⟩
def f79r2Ops : Array Oper := #[f79r2Op0, f79r2Op1, f79r2Op2, f79r2Op3, f79r2Op4, f79r2Op5, f79r2Op6, f79r2Op7, f79r2Op8, f79r2Op9, f79r2Op10, f79r2Op11]
set_option maxHeartbeats 2000000 in
theorem f79r2_r {Q : Exit → Act → World → Prop} {u w : World} {L : List Row} {z0 z2 z5 z6 z7 z8 z9 z10 z11 z12 z13 z14 z15 z16 z17 z18 z19 z20 z21 z22 z23 z24 z25 z26 : Value} {zz : List Value} {b1 b3 b4 : Nat} {c1 c3 c4 : Array Value} {e18 e20 e21 e22 e24 e26 : Array Value} (hQ : ∀ c a w n v, Q (.panic c) (a.put (some n) v) w → Q (.panic c) a w) (hO : Own u w L) (i1 : Nat) (h1 : L[i1]? = some (b1, c1, 107)) (i3 : Nat) (h3 : L[i3]? = some (b3, c3, 39)) (i4 : Nat) (h4 : L[i4]? = some (b4, c4, 39)) (q18 : Part c1 0 39 e18) (q20 : Part c1 4 39 e20) (r21 : ∀ w, Ret 36 #[.agg e18, .agg e20] w (.agg e21)) (r22 : ∀ w, Ret 32 #[.agg e21] w (.agg e22)) (r24 : ∀ w, Ret 34 #[.agg e22, .agg c3] w (.agg e24)) (r26 : ∀ w, Ret 34 #[.agg e24, .agg c4] w (.agg e26)) (fe26_27 : Fit 39 e26) (H : ∀ (n6 : Nat) (w' : World), Own u w' ((n6, e26, 39) :: L) → Q .normal { tmps := List.toArray (z0 :: (.pointer (some ⟨b1, 0, none⟩)) :: z2 :: (.pointer (some ⟨b3, 0, none⟩)) :: (.pointer (some ⟨b4, 0, none⟩)) :: z5 :: (.pointer (some ⟨n6, 0, none⟩)) :: z7 :: z8 :: z9 :: z10 :: z11 :: z12 :: z13 :: z14 :: z15 :: z16 :: (.pointer (some ⟨b1, 0, none⟩)) :: (.agg e18) :: (.pointer (some ⟨b1, 4, none⟩)) :: (.agg e20) :: (.agg e21) :: (.agg e22) :: (.agg c3) :: (.agg e24) :: (.agg c4) :: (.agg e26) :: zz), defers := [] } w') :
    (Code.region 2 f79r2Ops true).wp Tryd.prog Q { tmps := List.toArray (z0 :: (.pointer (some ⟨b1, 0, none⟩)) :: z2 :: (.pointer (some ⟨b3, 0, none⟩)) :: (.pointer (some ⟨b4, 0, none⟩)) :: z5 :: z6 :: z7 :: z8 :: z9 :: z10 :: z11 :: z12 :: z13 :: z14 :: z15 :: z16 :: z17 :: z18 :: z19 :: z20 :: z21 :: z22 :: z23 :: z24 :: z25 :: z26 :: zz), defers := [] } w := by
  have fc3_27 := hO.fits i3 h3
  have fc4_27 := hO.fits i4 h4
  have s0 : ∀ (n6 : Nat) (w : World), Own u w ((n6, arr 4 (limb 0), 39) :: L) → wpAnyH Tryd.prog .any f79r2Ops Q (Has [(b1, c1, 107), (b3, c3, 39), (b4, c4, 39)]) 1 (ls 12 2047) (Fr [z0, D b1, z2, D b3, D b4, z5, D n6, z7, z8, z9, z10, z11, z12, z13, z14, z15, z16, .pointer (some ⟨b1, 0, none⟩), A e18, .pointer (some ⟨b1, 4, none⟩), A e20, A e21, A e22, A c3, A e24, A c4, A e26] zz) w := by
    intro n6 w hO
    refine d_one 11 f79r2Op11 (ls 12 4095) (fun K hK => ?_)
    refine k_st hK hO 39 0 rfl e26 fe26_27 (fun _ hO => ⟨hO.row _ (gs h1), hO.row _ (gs h3), hO.row _ (gs h4), trivial⟩) ?_
    intro w1 hO
    exact wpAnyH_done (by kernel_rfl) (H n6 _ hO) _
  have s1 : ∀ (n6 : Nat) (w : World), Own u w ((n6, arr 4 (limb 0), 39) :: L) → wpAnyH Tryd.prog .any f79r2Ops Q (Has [(b1, c1, 107), (b3, c3, 39), (b4, c4, 39)]) 2 (ls 12 1535) (Fr [z0, D b1, z2, D b3, D b4, z5, D n6, z7, z8, z9, z10, z11, z12, z13, z14, z15, z16, .pointer (some ⟨b1, 0, none⟩), A e18, .pointer (some ⟨b1, 4, none⟩), A e20, A e21, A e22, A c3, A e24, A c4, z26] zz) w := by
    intro n6 w hO
    refine d_one 9 f79r2Op9 (ls 12 2047) (fun K hK => ?_)
    refine k_call hK hO (fun _ hO => ⟨hO.row _ (gs h1), hO.row _ (gs h3), hO.row _ (gs h4), trivial⟩) 34 #[.agg e24, .agg c4] (.agg e26) r26 ?_
    intro w2 hO
    exact d_fr _ _ (s0 n6 _ hO)
  have s2 : ∀ (n6 : Nat) (w : World), Own u w ((n6, arr 4 (limb 0), 39) :: L) → wpAnyH Tryd.prog .any f79r2Ops Q (Has [(b1, c1, 107), (b3, c3, 39), (b4, c4, 39)]) 3 (ls 12 1407) (Fr [z0, D b1, z2, D b3, D b4, z5, D n6, z7, z8, z9, z10, z11, z12, z13, z14, z15, z16, .pointer (some ⟨b1, 0, none⟩), A e18, .pointer (some ⟨b1, 4, none⟩), A e20, A e21, A e22, A c3, z24, A c4, z26] zz) w := by
    intro n6 w hO
    refine d_one 7 f79r2Op7 (ls 12 1535) (fun K hK => ?_)
    refine k_call hK hO (fun _ hO => ⟨hO.row _ (gs h1), hO.row _ (gs h3), hO.row _ (gs h4), trivial⟩) 34 #[.agg e22, .agg c3] (.agg e24) r24 ?_
    intro w3 hO
    exact d_fr _ _ (s1 n6 _ hO)
  have s3 : ∀ (n6 : Nat) (w : World), Own u w ((n6, arr 4 (limb 0), 39) :: L) → wpAnyH Tryd.prog .any f79r2Ops Q (Has [(b1, c1, 107), (b3, c3, 39), (b4, c4, 39)]) 4 (ls 12 1375) (Fr [z0, D b1, z2, D b3, D b4, z5, D n6, z7, z8, z9, z10, z11, z12, z13, z14, z15, z16, .pointer (some ⟨b1, 0, none⟩), A e18, .pointer (some ⟨b1, 4, none⟩), A e20, A e21, z22, A c3, z24, A c4, z26] zz) w := by
    intro n6 w hO
    refine d_one 5 f79r2Op5 (ls 12 1407) (fun K hK => ?_)
    refine k_call hK hO (fun _ hO => ⟨hO.row _ (gs h1), hO.row _ (gs h3), hO.row _ (gs h4), trivial⟩) 32 #[.agg e21] (.agg e22) r22 ?_
    intro w4 hO
    exact d_fr _ _ (s2 n6 _ hO)
  refine wp_region_held_drew (S := Has [(b1, c1, 107), (b3, c3, 39), (b4, c4, 39)]) (by kernel_rfl) ⟨hO.drew.row _ h1, hO.drew.row _ h3, hO.drew.row _ h4, trivial⟩ (fun hS => ?_)
  replace hO := hO.drew
  refine d_tk 0 f79r2Op0 (.pointer (some ⟨b1, 0, none⟩)) hQ (y_val (fun _ => by kernel_rfl)) hS ?_
  refine d_tk 1 f79r2Op1 (.agg e18) hQ (y_p 39 (fun _ h => h.1) q18 Tryd.underlying39) hS ?_
  refine d_tk 2 f79r2Op2 (.pointer (some ⟨b1, 4, none⟩)) hQ (y_val (fun _ => by kernel_rfl)) hS ?_
  refine d_fr (ls 12 7) (Fr [z0, D b1, z2, D b3, D b4, z5, z6, z7, z8, z9, z10, z11, z12, z13, z14, z15, z16, .pointer (some ⟨b1, 0, none⟩), A e18, .pointer (some ⟨b1, 4, none⟩), z20, z21, z22, z23, z24, z25, z26] zz) ?_
  refine d_tk 3 f79r2Op3 (.agg e20) hQ (y_p 39 (fun _ h => h.1) q20 Tryd.underlying39) hS ?_
  refine d_tk 6 f79r2Op6 (.agg c3) hQ (y_l 39 (fun _ h => h.2.1) fc3_27 Tryd.underlying39) hS ?_
  refine d_tk 8 f79r2Op8 (.agg c4) hQ (y_l 39 (fun _ h => h.2.2.1) fc4_27 Tryd.underlying39) hS ?_
  refine d_fr (ls 12 335) (Fr [z0, D b1, z2, D b3, D b4, z5, z6, z7, z8, z9, z10, z11, z12, z13, z14, z15, z16, .pointer (some ⟨b1, 0, none⟩), A e18, .pointer (some ⟨b1, 4, none⟩), A e20, z21, z22, A c3, z24, A c4, z26] zz) ?_
  refine wpAnyH_ready (rs := [4, 10]) (by kernel_rfl) (by simp) ?_
  refine d_cons 4 f79r2Op4 (ls 12 351) (fun K hK => ?_) ?_
  · skip
    refine k_call hK hO (fun _ hO => ⟨hO.row _ h1, hO.row _ h3, hO.row _ h4, trivial⟩) 36 #[.agg e18, .agg e20] (.agg e21) r21 ?_
    intro w5 hO
    refine wpAnyH_ready (rs := [5, 10]) (by kernel_rfl) (by simp) ?_
    refine d_cons 5 f79r2Op5 (ls 12 383) (fun K hK => ?_) ?_
    · skip
      refine k_call hK hO (fun _ hO => ⟨hO.row _ h1, hO.row _ h3, hO.row _ h4, trivial⟩) 32 #[.agg e21] (.agg e22) r22 ?_
      intro w6 hO
      refine wpAnyH_ready (rs := [7, 10]) (by kernel_rfl) (by simp) ?_
      refine d_cons 7 f79r2Op7 (ls 12 511) (fun K hK => ?_) ?_
      · skip
        refine k_call hK hO (fun _ hO => ⟨hO.row _ h1, hO.row _ h3, hO.row _ h4, trivial⟩) 34 #[.agg e22, .agg c3] (.agg e24) r24 ?_
        intro w7 hO
        refine d_fr (ls 12 511) (Fr [z0, D b1, z2, D b3, D b4, z5, z6, z7, z8, z9, z10, z11, z12, z13, z14, z15, z16, .pointer (some ⟨b1, 0, none⟩), A e18, .pointer (some ⟨b1, 4, none⟩), A e20, A e21, A e22, A c3, A e24, A c4, z26] zz) ?_
        refine wpAnyH_ready (rs := [9, 10]) (by kernel_rfl) (by simp) ?_
        refine d_cons 9 f79r2Op9 (ls 12 1023) (fun K hK => ?_) ?_
        · skip
          refine k_call hK hO (fun _ hO => ⟨hO.row _ h1, hO.row _ h3, hO.row _ h4, trivial⟩) 34 #[.agg e24, .agg c4] (.agg e26) r26 ?_
          intro w8 hO
          refine d_one 10 f79r2Op10 (ls 12 2047) (fun K hK => ?_)
          refine k_new hK hO (arr 4 (limb 0)) 39 (al27 rfl) (fit_fe _) (fun _ _ hO => ⟨hO.row _ (gs h1), hO.row _ (gs h3), hO.row _ (gs h4), trivial⟩) ?_
          intro n6 w9 hO
          exact d_fr _ _ (s0 n6 _ hO)
        refine d_cons 10 f79r2Op10 (ls 12 1535) (fun K hK => ?_) ?_
        · skip
          refine k_new hK hO (arr 4 (limb 0)) 39 (al27 rfl) (fit_fe _) (fun _ _ hO => ⟨hO.row _ (gs h1), hO.row _ (gs h3), hO.row _ (gs h4), trivial⟩) ?_
          intro n6 w10 hO
          exact d_fr _ _ (s1 n6 _ hO)
        exact AllReadyH.nil
      refine d_cons 10 f79r2Op10 (ls 12 1407) (fun K hK => ?_) ?_
      · skip
        refine k_new hK hO (arr 4 (limb 0)) 39 (al27 rfl) (fit_fe _) (fun _ _ hO => ⟨hO.row _ (gs h1), hO.row _ (gs h3), hO.row _ (gs h4), trivial⟩) ?_
        intro n6 w11 hO
        exact d_fr _ _ (s2 n6 _ hO)
      exact AllReadyH.nil
    refine d_cons 10 f79r2Op10 (ls 12 1375) (fun K hK => ?_) ?_
    · skip
      refine k_new hK hO (arr 4 (limb 0)) 39 (al27 rfl) (fit_fe _) (fun _ _ hO => ⟨hO.row _ (gs h1), hO.row _ (gs h3), hO.row _ (gs h4), trivial⟩) ?_
      intro n6 w12 hO
      exact d_fr _ _ (s3 n6 _ hO)
    exact AllReadyH.nil
  refine d_cons 10 f79r2Op10 (ls 12 1359) (fun K hK => ?_) ?_
  · skip
    refine k_new hK hO (arr 4 (limb 0)) 39 (al27 rfl) (fit_fe _) (fun _ _ hO => ⟨hO.row _ (gs h1), hO.row _ (gs h3), hO.row _ (gs h4), trivial⟩) ?_
    intro n6 w13 hO
    refine d_one 4 f79r2Op4 (ls 12 1375) (fun K hK => ?_)
    refine k_call hK hO (fun _ hO => ⟨hO.row _ (gs h1), hO.row _ (gs h3), hO.row _ (gs h4), trivial⟩) 36 #[.agg e18, .agg e20] (.agg e21) r21 ?_
    intro w14 hO
    exact d_fr _ _ (s3 n6 _ hO)
  exact AllReadyH.nil
def f79r3Op0 : Oper := ⟨some 27, .load 39 (.tmp 4), 39, "edwards.go:94", #[], none⟩
def f79r3Op1 : Oper := ⟨some 28, .load 39 (.tmp 3), 39, "edwards.go:94", #[], none⟩
def f79r3Op2 : Oper := ⟨some 29, .call { callee := .value (.func 34), args := #[.tmp 27, .tmp 28], argTypes := #[39, 39] }, 39, "edwards.go:94", #[⟨0, .data⟩, ⟨1, .data⟩], none⟩
def f79r3Op3 : Oper := ⟨some 7, .alloc 39, 0, "edwards.go:94", #[], none⟩
def f79r3Op4 : Oper := ⟨none, .store 39 (.tmp 7) (.tmp 29), 0, "edwards.go:94", #[⟨3, .data⟩, ⟨2, .data⟩, ⟨2, .chain⟩, ⟨0, .phase⟩, ⟨1, .phase⟩, ⟨2, .phase⟩, ⟨3, .phase⟩], none⟩
def f79r3Ops : Array Oper := #[f79r3Op0, f79r3Op1, f79r3Op2, f79r3Op3, f79r3Op4]
set_option maxHeartbeats 2000000 in
theorem f79r3_r {Q : Exit → Act → World → Prop} {u w : World} {L : List Row} {z0 z1 z2 z5 z6 z7 z8 z9 z10 z11 z12 z13 z14 z15 z16 z17 z18 z19 z20 z21 z22 z23 z24 z25 z26 z27 z28 z29 : Value} {zz : List Value} {b3 b4 : Nat} {c3 c4 : Array Value} {e29 : Array Value} (hO : Own u w L) (i3 : Nat) (h3 : L[i3]? = some (b3, c3, 39)) (i4 : Nat) (h4 : L[i4]? = some (b4, c4, 39)) (r29 : ∀ w, Ret 34 #[.agg c4, .agg c3] w (.agg e29)) (fe29_27 : Fit 39 e29) (H : ∀ (n7 : Nat) (w' : World), Own u w' ((n7, e29, 39) :: L) → Q .normal { tmps := List.toArray (z0 :: z1 :: z2 :: (.pointer (some ⟨b3, 0, none⟩)) :: (.pointer (some ⟨b4, 0, none⟩)) :: z5 :: z6 :: (.pointer (some ⟨n7, 0, none⟩)) :: z8 :: z9 :: z10 :: z11 :: z12 :: z13 :: z14 :: z15 :: z16 :: z17 :: z18 :: z19 :: z20 :: z21 :: z22 :: z23 :: z24 :: z25 :: z26 :: (.agg c4) :: (.agg c3) :: (.agg e29) :: zz), defers := [] } w') :
    (Code.region 3 f79r3Ops false).wp Tryd.prog Q { tmps := List.toArray (z0 :: z1 :: z2 :: (.pointer (some ⟨b3, 0, none⟩)) :: (.pointer (some ⟨b4, 0, none⟩)) :: z5 :: z6 :: z7 :: z8 :: z9 :: z10 :: z11 :: z12 :: z13 :: z14 :: z15 :: z16 :: z17 :: z18 :: z19 :: z20 :: z21 :: z22 :: z23 :: z24 :: z25 :: z26 :: z27 :: z28 :: z29 :: zz), defers := [] } w := by
  refine wp_region_list (show wpList _ f79r3Ops _ [f79r3Op0, f79r3Op1, f79r3Op2, f79r3Op3, f79r3Op4] _ _ from ?_)
  refine l_ld hO 39 i4 h4 Tryd.underlying39 ?_
  refine l_ld hO 39 i3 h3 Tryd.underlying39 ?_
  refine l_call hO 34 #[.agg c4, .agg c3] (.agg e29) r29 ?_
  intro w1 hO
  refine l_fr (Fr [z0, z1, z2, D b3, D b4, z5, z6, z7, z8, z9, z10, z11, z12, z13, z14, z15, z16, z17, z18, z19, z20, z21, z22, z23, z24, z25, z26, A c4, A c3, A e29] zz) ?_
  refine l_new hO (arr 4 (limb 0)) 39 (al27 rfl) (fit_fe _) ?_
  intro n7 w2 hO
  refine l_st hO 39 0 rfl e29 fe29_27 ?_
  intro w3 hO
  exact l_fr _ (wpList_nil (H n7 _ hO))
def f79r4Op0 : Oper := ⟨some 30, .load 39 (.tmp 6), 39, "edwards.go:95", #[], none⟩
def f79r4Op1 : Oper := ⟨some 31, .load 39 (.tmp 7), 39, "edwards.go:95", #[], none⟩
def f79r4Op2 : Oper := ⟨some 32, .load 39 (.tmp 5), 39, "edwards.go:95", #[], none⟩
def f79r4Op3 : Oper := ⟨some 33, .load 39 (.tmp 5), 39, "edwards.go:95", #[], none⟩
def f79r4Op4 : Oper := ⟨some 34, .call { callee := .value (.func 36), args := #[.tmp 32, .tmp 33], argTypes := #[39, 39] }, 39, "edwards.go:95", #[⟨2, .data⟩, ⟨3, .data⟩], none⟩
def f79r4Op5 : Oper := ⟨some 35, .call { callee := .value (.func 34), args := #[.tmp 31, .tmp 34], argTypes := #[39, 39] }, 39, "edwards.go:95", #[⟨1, .data⟩, ⟨4, .data⟩, ⟨4, .chain⟩], none⟩
def f79r4Op6 : Oper := ⟨some 36, .load 39 (.tmp 7), 39, "edwards.go:95", #[], none⟩
def f79r4Op7 : Oper := ⟨some 37, .load 39 (.tmp 3), 39, "edwards.go:95", #[], none⟩
def f79r4Op8 : Oper := ⟨some 38, .load 39 (.tmp 4), 39, "edwards.go:95", #[], none⟩
def f79r4Op9 : Oper := ⟨some 39, .call { callee := .value (.func 36), args := #[.tmp 37, .tmp 38], argTypes := #[39, 39] }, 39, "edwards.go:95", #[⟨7, .data⟩, ⟨8, .data⟩, ⟨5, .chain⟩], none⟩
def f79r4Op10 : Oper := ⟨some 40, .call { callee := .value (.func 42), args := #[.tmp 39], argTypes := #[39] }, 39, "edwards.go:95", #[⟨9, .data⟩, ⟨9, .chain⟩], none⟩
def f79r4Op11 : Oper := ⟨some 41, .call { callee := .value (.func 81), args := #[.tmp 30, .tmp 35, .tmp 36, .tmp 40], argTypes := #[39, 39, 39, 39] }, 109, "edwards.go:95", #[⟨0, .data⟩, ⟨5, .data⟩, ⟨6, .data⟩, ⟨10, .data⟩, ⟨10, .chain⟩], none⟩
def f79r4Op12 : Oper := ⟨none, .store 109 (.tmp 2) (.tmp 41), 0, "edwards.go:95", #[⟨11, .data⟩, ⟨11, .chain⟩, ⟨0, .phase⟩, ⟨1, .phase⟩, ⟨2, .phase⟩, ⟨3, .phase⟩, ⟨4, .phase⟩, ⟨5, .phase⟩, ⟨6, .phase⟩, ⟨7, .phase⟩, ⟨8, .phase⟩, ⟨9, .phase⟩, ⟨10, .phase⟩, ⟨11, .phase⟩], none⟩
def f79r4Ops : Array Oper := #[f79r4Op0, f79r4Op1, f79r4Op2, f79r4Op3, f79r4Op4, f79r4Op5, f79r4Op6, f79r4Op7, f79r4Op8, f79r4Op9, f79r4Op10, f79r4Op11, f79r4Op12]
set_option maxHeartbeats 2000000 in
theorem f79r4_r {Q : Exit → Act → World → Prop} {u w : World} {L : List Row} {z0 z1 z8 z9 z10 z11 z12 z13 z14 z15 z16 z17 z18 z19 z20 z21 z22 z23 z24 z25 z26 z27 z28 z29 z30 z31 z32 z33 z34 z35 z36 z37 z38 z39 z40 z41 : Value} {b2 b3 b4 b5 b6 b7 : Nat} {c2 c3 c4 c5 c6 c7 : Array Value} {e34 e35 e39 e40 e41 : Array Value} (hQ : ∀ c a w n v, Q (.panic c) (a.put (some n) v) w → Q (.panic c) a w) (hO : Own u w L) (i2 : Nat) (h2 : L[i2]? = some (b2, c2, 109)) (i3 : Nat) (h3 : L[i3]? = some (b3, c3, 39)) (i4 : Nat) (h4 : L[i4]? = some (b4, c4, 39)) (i5 : Nat) (h5 : L[i5]? = some (b5, c5, 39)) (i6 : Nat) (h6 : L[i6]? = some (b6, c6, 39)) (i7 : Nat) (h7 : L[i7]? = some (b7, c7, 39)) (e2_3 : i2 ≠ i3) (e2_4 : i2 ≠ i4) (e2_5 : i2 ≠ i5) (e2_6 : i2 ≠ i6) (e2_7 : i2 ≠ i7) (r34 : ∀ w, Ret 36 #[.agg c5, .agg c5] w (.agg e34)) (r35 : ∀ w, Ret 34 #[.agg c7, .agg e34] w (.agg e35)) (r39 : ∀ w, Ret 36 #[.agg c3, .agg c4] w (.agg e39)) (r40 : ∀ w, Ret 42 #[.agg e39] w (.agg e40)) (r41 : ∀ w, Ret 81 #[.agg c6, .agg e35, .agg c7, .agg e40] w (.agg e41)) (fe41_83 : Fit 109 e41) (H : ∀ (w' : World), Own u w' ((L.set i2 (b2, e41, 109))) → Q .normal { tmps := List.toArray (z0 :: z1 :: (.pointer (some ⟨b2, 0, none⟩)) :: (.pointer (some ⟨b3, 0, none⟩)) :: (.pointer (some ⟨b4, 0, none⟩)) :: (.pointer (some ⟨b5, 0, none⟩)) :: (.pointer (some ⟨b6, 0, none⟩)) :: (.pointer (some ⟨b7, 0, none⟩)) :: z8 :: z9 :: z10 :: z11 :: z12 :: z13 :: z14 :: z15 :: z16 :: z17 :: z18 :: z19 :: z20 :: z21 :: z22 :: z23 :: z24 :: z25 :: z26 :: z27 :: z28 :: z29 :: (.agg c6) :: (.agg c7) :: (.agg c5) :: (.agg c5) :: (.agg e34) :: (.agg e35) :: (.agg c7) :: (.agg c3) :: (.agg c4) :: (.agg e39) :: (.agg e40) :: (.agg e41) :: []), defers := [] } w') :
    (Code.region 4 f79r4Ops true).wp Tryd.prog Q { tmps := List.toArray (z0 :: z1 :: (.pointer (some ⟨b2, 0, none⟩)) :: (.pointer (some ⟨b3, 0, none⟩)) :: (.pointer (some ⟨b4, 0, none⟩)) :: (.pointer (some ⟨b5, 0, none⟩)) :: (.pointer (some ⟨b6, 0, none⟩)) :: (.pointer (some ⟨b7, 0, none⟩)) :: z8 :: z9 :: z10 :: z11 :: z12 :: z13 :: z14 :: z15 :: z16 :: z17 :: z18 :: z19 :: z20 :: z21 :: z22 :: z23 :: z24 :: z25 :: z26 :: z27 :: z28 :: z29 :: z30 :: z31 :: z32 :: z33 :: z34 :: z35 :: z36 :: z37 :: z38 :: z39 :: z40 :: z41 :: []), defers := [] } w := by
  have fc3_27 := hO.fits i3 h3
  have fc4_27 := hO.fits i4 h4
  have fc5_27 := hO.fits i5 h5
  have fc6_27 := hO.fits i6 h6
  have fc7_27 := hO.fits i7 h7
  refine wp_region_held_drew (S := Has [(b3, c3, 39), (b4, c4, 39), (b5, c5, 39), (b6, c6, 39), (b7, c7, 39)]) (by kernel_rfl) ⟨hO.drew.row _ h3, hO.drew.row _ h4, hO.drew.row _ h5, hO.drew.row _ h6, hO.drew.row _ h7, trivial⟩ (fun hS => ?_)
  replace hO := hO.drew
  refine d_tk 0 f79r4Op0 (.agg c6) hQ (y_l 39 (fun _ h => h.2.2.2.1) fc6_27 Tryd.underlying39) hS ?_
  refine d_tk 1 f79r4Op1 (.agg c7) hQ (y_l 39 (fun _ h => h.2.2.2.2.1) fc7_27 Tryd.underlying39) hS ?_
  refine d_tk 2 f79r4Op2 (.agg c5) hQ (y_l 39 (fun _ h => h.2.2.1) fc5_27 Tryd.underlying39) hS ?_
  refine d_fr (ls 13 7) (Fr [z0, z1, D b2, D b3, D b4, D b5, D b6, D b7, z8, z9, z10, z11, z12, z13, z14, z15, z16, z17, z18, z19, z20, z21, z22, z23, z24, z25, z26, z27, z28, z29, A c6, A c7, A c5, z33, z34, z35, z36, z37, z38, z39, z40, z41] []) ?_
  refine d_tk 3 f79r4Op3 (.agg c5) hQ (y_l 39 (fun _ h => h.2.2.1) fc5_27 Tryd.underlying39) hS ?_
  refine d_tk 6 f79r4Op6 (.agg c7) hQ (y_l 39 (fun _ h => h.2.2.2.2.1) fc7_27 Tryd.underlying39) hS ?_
  refine d_tk 7 f79r4Op7 (.agg c3) hQ (y_l 39 (fun _ h => h.1) fc3_27 Tryd.underlying39) hS ?_
  refine d_fr (ls 13 207) (Fr [z0, z1, D b2, D b3, D b4, D b5, D b6, D b7, z8, z9, z10, z11, z12, z13, z14, z15, z16, z17, z18, z19, z20, z21, z22, z23, z24, z25, z26, z27, z28, z29, A c6, A c7, A c5, A c5, z34, z35, A c7, A c3, z38, z39, z40, z41] []) ?_
  refine d_tk 8 f79r4Op8 (.agg c4) hQ (y_l 39 (fun _ h => h.2.1) fc4_27 Tryd.underlying39) hS ?_
  refine d_fr (ls 13 463) (Fr [z0, z1, D b2, D b3, D b4, D b5, D b6, D b7, z8, z9, z10, z11, z12, z13, z14, z15, z16, z17, z18, z19, z20, z21, z22, z23, z24, z25, z26, z27, z28, z29, A c6, A c7, A c5, A c5, z34, z35, A c7, A c3, A c4, z39, z40, z41] []) ?_
  refine d_one 4 f79r4Op4 (ls 13 479) (fun K hK => ?_)
  refine k_call hK hO (fun _ hO => ⟨hO.row _ h3, hO.row _ h4, hO.row _ h5, hO.row _ h6, hO.row _ h7, trivial⟩) 36 #[.agg c5, .agg c5] (.agg e34) r34 ?_
  intro w1 hO
  refine d_one 5 f79r4Op5 (ls 13 511) (fun K hK => ?_)
  refine k_call hK hO (fun _ hO => ⟨hO.row _ h3, hO.row _ h4, hO.row _ h5, hO.row _ h6, hO.row _ h7, trivial⟩) 34 #[.agg c7, .agg e34] (.agg e35) r35 ?_
  intro w2 hO
  refine d_one 9 f79r4Op9 (ls 13 1023) (fun K hK => ?_)
  refine k_call hK hO (fun _ hO => ⟨hO.row _ h3, hO.row _ h4, hO.row _ h5, hO.row _ h6, hO.row _ h7, trivial⟩) 36 #[.agg c3, .agg c4] (.agg e39) r39 ?_
  intro w3 hO
  refine d_fr (ls 13 1023) (Fr [z0, z1, D b2, D b3, D b4, D b5, D b6, D b7, z8, z9, z10, z11, z12, z13, z14, z15, z16, z17, z18, z19, z20, z21, z22, z23, z24, z25, z26, z27, z28, z29, A c6, A c7, A c5, A c5, A e34, A e35, A c7, A c3, A c4, A e39, z40, z41] []) ?_
  refine d_one 10 f79r4Op10 (ls 13 2047) (fun K hK => ?_)
  refine k_call hK hO (fun _ hO => ⟨hO.row _ h3, hO.row _ h4, hO.row _ h5, hO.row _ h6, hO.row _ h7, trivial⟩) 42 #[.agg e39] (.agg e40) r40 ?_
  intro w4 hO
  refine d_one 11 f79r4Op11 (ls 13 4095) (fun K hK => ?_)
  refine k_call hK hO (fun _ hO => ⟨hO.row _ h3, hO.row _ h4, hO.row _ h5, hO.row _ h6, hO.row _ h7, trivial⟩) 81 #[.agg c6, .agg e35, .agg c7, .agg e40] (.agg e41) r41 ?_
  intro w5 hO
  refine d_one 12 f79r4Op12 (ls 13 8191) (fun K hK => ?_)
  refine k_st hK hO 109 i2 h2 e41 fe41_83 (fun _ hO => ⟨hO.row _ (get_set h3 e2_3), hO.row _ (get_set h4 e2_4), hO.row _ (get_set h5 e2_5), hO.row _ (get_set h6 e2_6), hO.row _ (get_set h7 e2_7), trivial⟩) ?_
  intro w6 hO
  exact d_fr (ls 13 8191) _ (wpAnyH_done (by kernel_rfl) (H  _ hO) _)
def dE (x y : Nat) : Nat := sm (sm (mm (am x y) (am x y)) (mm x x)) (mm y y)
def dG (x y : Nat) : Nat := sm (mm y y) (mm x x)
def dF (x y z : Nat) : Nat := sm (dG x y) (am (mm z z) (mm z z))
def dH (x y : Nat) : Nat := ng (am (mm x x) (mm y y))
/-- A point and itself. -/
def dbl4 (x y z : Nat) : Q4 := (mm (dE x y) (dF x y z), mm (dG x y) (dH x y), mm (dF x y z) (dG x y), mm (dE x y) (dH x y))
abbrev pq (r : Q4) : Array Value := ps [r.1, r.2.1, r.2.2.1, r.2.2.2]
set_option maxHeartbeats 4000000 in
theorem twice_c (x y z : Nat) (hx : x < pP) (hy : y < pP) (hz : z < pP) (w : World) : Ret 73 #[.agg (ps [x, y, z])] w (.agg (pq (dbl4 x y z))) := by
  go_enter Tryd.func73, Tryd.ntmps73
  have hO := Own.start w
  go_upto_region 0 with (fail)
  refine f79r0_r hO (fit_co _ _ _) ?_
  intro n1 n2 w1 hO
  replace hO : Own w w1 [(n2, ps [0, 0, 0, 0], 109), (n1, ps [x, y, z], 107)] := hO
  go_upto_region 1 with (fail)
  refine f79r1_r (fun _ _ _ _ _ h => h) hO 1 rfl (part_co0 _ _ _) (sq_c _ hx) (part_co1 _ _ _) (sq_c _ hy) (part_co2 _ _ _) (sq_c _ hz) (fit_fe _) (fit_fe _) (fit_fe _) ?_
  intro n3 n4 n5 w2 hO
  replace hO : Own w w2 [(n5, arr 4 (limb (mm z z)), 39), (n4, arr 4 (limb (mm y y)), 39), (n3, arr 4 (limb (mm x x)), 39), (n2, ps [0, 0, 0, 0], 109), (n1, ps [x, y, z], 107)] := hO
  go_upto_region 2 with (fail)
  refine f79r2_r (fun _ _ _ _ _ h => h) hO 4 rfl 2 rfl 1 rfl (part_co0 _ _ _) (part_co1 _ _ _) (add_c _ _ hx hy) (sq_c _ (am_lt _ _)) (sub_c _ _ (mm_lt _ _) (mm_lt _ _)) (sub_c _ _ (sm_lt _ _) (mm_lt _ _)) (fit_fe _) ?_
  intro n6 w3 hO
  replace hO : Own w w3 [(n6, arr 4 (limb (sm (sm (mm (am x y) (am x y)) (mm x x)) (mm y y))), 39), (n5, arr 4 (limb (mm z z)), 39), (n4, arr 4 (limb (mm y y)), 39), (n3, arr 4 (limb (mm x x)), 39), (n2, ps [0, 0, 0, 0], 109), (n1, ps [x, y, z], 107)] := hO
  go_upto_region 3 with (fail)
  refine f79r3_r hO 3 rfl 2 rfl (sub_c _ _ (mm_lt _ _) (mm_lt _ _)) (fit_fe _) ?_
  intro n7 w4 hO
  replace hO : Own w w4 [(n7, arr 4 (limb (sm (mm y y) (mm x x))), 39), (n6, arr 4 (limb (sm (sm (mm (am x y) (am x y)) (mm x x)) (mm y y))), 39), (n5, arr 4 (limb (mm z z)), 39), (n4, arr 4 (limb (mm y y)), 39), (n3, arr 4 (limb (mm x x)), 39), (n2, ps [0, 0, 0, 0], 109), (n1, ps [x, y, z], 107)] := hO
  go_upto_region 4 with (fail)
  refine f79r4_r (fun _ _ _ _ _ h => h) hO 5 rfl 4 rfl 3 rfl 2 rfl 1 rfl 0 rfl (by decide) (by decide) (by decide) (by decide) (by decide) (add_c _ _ (mm_lt _ _) (mm_lt _ _)) (sub_c _ _ (sm_lt _ _) (am_lt _ _)) (add_c _ _ (mm_lt _ _) (mm_lt _ _)) (neg_c _ (am_lt _ _)) (joined_c _ _ _ _ (sm_lt _ _) (sm_lt _ _) (sm_lt _ _) (ng_lt _)) (fit_ru _ _ _ _) ?_
  intro w5 hO
  replace hO : Own w w5 [(n7, arr 4 (limb (sm (mm y y) (mm x x))), 39), (n6, arr 4 (limb (sm (sm (mm (am x y) (am x y)) (mm x x)) (mm y y))), 39), (n5, arr 4 (limb (mm z z)), 39), (n4, arr 4 (limb (mm y y)), 39), (n3, arr 4 (limb (mm x x)), 39), (n2, ps [mm (sm (sm (mm (am x y) (am x y)) (mm x x)) (mm y y)) (sm (sm (mm y y) (mm x x)) (am (mm z z) (mm z z))), mm (sm (mm y y) (mm x x)) (ng (am (mm x x) (mm y y))), mm (sm (sm (mm y y) (mm x x)) (am (mm z z) (mm z z))) (sm (mm y y) (mm x x)), mm (sm (sm (mm (am x y) (am x y)) (mm x x)) (mm y y)) (ng (am (mm x x) (mm y y)))], 109), (n1, ps [x, y, z], 107)] := hO
  go_wp2_with fail
  refine bodyPost_ret (v := .agg (ps [mm (sm (sm (mm (am x y) (am x y)) (mm x x)) (mm y y)) (sm (sm (mm y y) (mm x x)) (am (mm z z) (mm z z))), mm (sm (mm y y) (mm x x)) (ng (am (mm x x) (mm y y))), mm (sm (sm (mm y y) (mm x x)) (am (mm z z) (mm z z))) (sm (mm y y) (mm x x)), mm (sm (sm (mm (am x y) (am x y)) (mm x x)) (mm y y)) (ng (am (mm x x) (mm y y)))])) (results_cell_row Tryd.results73 _ _ n2 109 _ (0, 0) _ rfl (hO.row 5 rfl) Tryd.underlying109 rfl (fit_ru _ _ _ _).size) rfl ⟨rfl, hO.low⟩
def f56r0Op0 : Oper := ⟨some 2, .box 109 (.tmp 0), 0, "edwards.go:116", #[], none⟩
def f56r0Op1 : Oper := ⟨some 3, .box 81 (.tmp 1), 0, "edwards.go:116", #[], none⟩
def f56r0Op2 : Oper := ⟨some 4, .alloc 109, 0, "edwards.go:116", #[], none⟩
def f56r0Ops : Array Oper := #[f56r0Op0, f56r0Op1, f56r0Op2]
set_option maxHeartbeats 2000000 in
theorem f56r0_r {Q : Exit → Act → World → Prop} {u w : World} {L : List Row} {z2 z3 z4 : Value} {zz : List Value} {e0 e1 : Array Value} (hO : Own u w L) (fe0_83 : Fit 109 e0) (fe1_87 : Fit 81 e1) (H : ∀ (n2 : Nat) (n3 : Nat) (n4 : Nat) (w' : World), Own u w' ((n4, ps [0, 0, 0, 0], 109) :: (n3, e1, 81) :: (n2, e0, 109) :: L) → Q .normal { tmps := List.toArray ((.agg e0) :: (.agg e1) :: (.pointer (some ⟨n2, 0, none⟩)) :: (.pointer (some ⟨n3, 0, none⟩)) :: (.pointer (some ⟨n4, 0, none⟩)) :: zz), defers := [] } w') :
    (Code.region 0 f56r0Ops false).wp Tryd.prog Q { tmps := List.toArray ((.agg e0) :: (.agg e1) :: z2 :: z3 :: z4 :: zz), defers := [] } w := by
  refine wp_region_list (show wpList _ f56r0Ops _ [f56r0Op0, f56r0Op1, f56r0Op2] _ _ from ?_)
  refine l_new hO (e0) 109 (run_box 109 _ rfl _ (by kernel_rfl)) fe0_83 ?_
  intro n2 w1 hO
  refine l_new hO (e1) 81 (run_box 81 _ rfl _ (by kernel_rfl)) fe1_87 ?_
  intro n3 w2 hO
  refine l_new hO (ps [0, 0, 0, 0]) 109 (al83 rfl) (fit_ru _ _ _ _) ?_
  intro n4 w3 hO
  exact l_fr _ (wpList_nil (H n2 n3 n4 _ hO))
def f56r1Op0 : Oper := ⟨some 12, .fieldAddr 109 (.tmp 2) 0, 0, "edwards.go:117", #[], none⟩
def f56r1Op1 : Oper := ⟨some 13, .load 107 (.tmp 12), 107, "edwards.go:117", #[⟨0, .data⟩], none⟩
def f56r1Op2 : Oper := ⟨some 14, .call { callee := .value (.func 77), args := #[.tmp 13], argTypes := #[107] }, 97, "edwards.go:117", #[⟨1, .data⟩], none⟩
def f56r1Op3 : Oper := ⟨some 11, .move (.tmp 14), 97, "edwards.go:117", #[⟨2, .data⟩], none⟩
def f56r1Op4 : Oper := ⟨some 15, .extract (.tmp 11) 0, 39, "edwards.go:117", #[⟨3, .data⟩], none⟩
def f56r1Op5 : Oper := ⟨some 16, .extract (.tmp 11) 1, 39, "edwards.go:117", #[⟨3, .data⟩, ⟨8, .gcOnly .lateStores⟩], none⟩
def f56r1Op6 : Oper := ⟨some 5, .alloc 39, 0, "edwards.go:117", #[], none⟩
def f56r1Op7 : Oper := ⟨some 6, .alloc 39, 0, "edwards.go:117", #[], none⟩
def f56r1Op8 : Oper := ⟨none, .store 39 (.tmp 5) (.tmp 15), 0, "edwards.go:117", #[⟨6, .data⟩, ⟨4, .data⟩, ⟨2, .chain⟩, ⟨0, .phase⟩, ⟨1, .phase⟩, ⟨2, .phase⟩, ⟨3, .phase⟩, ⟨4, .phase⟩, ⟨5, .textOnly .lateStores⟩, ⟨6, .phase⟩, ⟨7, .phase⟩], none⟩
def f56r1Op9 : Oper := ⟨none, .store 39 (.tmp 6) (.tmp 16), 0, "edwards.go:117", #[⟨7, .data⟩, ⟨5, .data⟩, ⟨8, .chain⟩, ⟨0, .phase⟩, ⟨1, .phase⟩, ⟨2, .phase⟩, ⟨3, .phase⟩, ⟨4, .phase⟩, ⟨5, .phase⟩, ⟨6, .phase⟩, ⟨7, .phase⟩, ⟨8, .phase⟩], none⟩
def f56r1Ops : Array Oper := #[f56r1Op0, f56r1Op1, f56r1Op2, f56r1Op3, f56r1Op4, f56r1Op5, f56r1Op6, f56r1Op7, f56r1Op8, f56r1Op9]
set_option maxHeartbeats 2000000 in
theorem f56r1_r {Q : Exit → Act → World → Prop} {u w : World} {L : List Row} {z0 z1 z3 z4 z5 z6 z7 z8 z9 z10 z11 z12 z13 z14 z15 z16 : Value} {zz : List Value} {b2 : Nat} {c2 : Array Value} {e13 e14a e14b : Array Value} (hO : Own u w L) (i2 : Nat) (h2 : L[i2]? = some (b2, c2, 109)) (q13 : Part c2 0 107 e13) (r14 : ∀ w, Ret 77 #[.agg e13] w (.tuple #[.agg e14a, .agg e14b])) (fe14a_27 : Fit 39 e14a) (fe14b_27 : Fit 39 e14b) (H : ∀ (n5 : Nat) (n6 : Nat) (w' : World), Own u w' ((n6, e14b, 39) :: (n5, e14a, 39) :: L) → Q .normal { tmps := List.toArray (z0 :: z1 :: (.pointer (some ⟨b2, 0, none⟩)) :: z3 :: z4 :: (.pointer (some ⟨n5, 0, none⟩)) :: (.pointer (some ⟨n6, 0, none⟩)) :: z7 :: z8 :: z9 :: z10 :: (.tuple #[.agg e14a, .agg e14b]) :: (.pointer (some ⟨b2, 0, none⟩)) :: (.agg e13) :: (.tuple #[.agg e14a, .agg e14b]) :: (.agg e14a) :: (.agg e14b) :: zz), defers := [] } w') :
    (Code.region 1 f56r1Ops false).wp Tryd.prog Q { tmps := List.toArray (z0 :: z1 :: (.pointer (some ⟨b2, 0, none⟩)) :: z3 :: z4 :: z5 :: z6 :: z7 :: z8 :: z9 :: z10 :: z11 :: z12 :: z13 :: z14 :: z15 :: z16 :: zz), defers := [] } w := by
  refine wp_region_list (show wpList _ f56r1Ops _ [f56r1Op0, f56r1Op1, f56r1Op2, f56r1Op3, f56r1Op4, f56r1Op5, f56r1Op6, f56r1Op7, f56r1Op8, f56r1Op9] _ _ from ?_)
  refine l_val (.pointer (some ⟨b2, 0, none⟩)) (by kernel_rfl) ?_
  refine l_part hO 107 i2 h2 q13 Tryd.underlying107 ?_
  refine l_call hO 77 #[.agg e13] (.tuple #[.agg e14a, .agg e14b]) r14 ?_
  intro w1 hO
  refine l_fr (Fr [z0, z1, D b2, z3, z4, z5, z6, z7, z8, z9, z10, z11, .pointer (some ⟨b2, 0, none⟩), A e13, .tuple #[.agg e14a, .agg e14b], z15, z16] zz) ?_
  refine l_val (.tuple #[.agg e14a, .agg e14b]) (by kernel_rfl) ?_
  refine l_val (.agg e14a) (by kernel_rfl) ?_
  refine l_val (.agg e14b) (by kernel_rfl) ?_
  refine l_fr (Fr [z0, z1, D b2, z3, z4, z5, z6, z7, z8, z9, z10, .tuple #[.agg e14a, .agg e14b], .pointer (some ⟨b2, 0, none⟩), A e13, .tuple #[.agg e14a, .agg e14b], A e14a, A e14b] zz) ?_
  refine l_new hO (arr 4 (limb 0)) 39 (al27 rfl) (fit_fe _) ?_
  intro n5 w2 hO
  refine l_new hO (arr 4 (limb 0)) 39 (al27 rfl) (fit_fe _) ?_
  intro n6 w3 hO
  refine l_st hO 39 1 rfl e14a fe14a_27 ?_
  intro w4 hO
  replace hO : Own u w4 ((n6, arr 4 (limb 0), 39) :: (n5, e14a, 39) :: L) := hO
  refine l_st hO 39 0 rfl e14b fe14b_27 ?_
  intro w5 hO
  exact l_fr _ (wpList_nil (H n5 n6 _ hO))
def f56r2Op0 : Oper := ⟨some 17, .load 39 (.tmp 5), 39, "edwards.go:118", #[], none⟩
def f56r2Op1 : Oper := ⟨some 18, .fieldAddr 81 (.tmp 3) 0, 0, "edwards.go:118", #[], none⟩
def f56r2Op2 : Oper := ⟨some 19, .load 39 (.tmp 18), 39, "edwards.go:118", #[⟨1, .data⟩], none⟩
def f56r2Op3 : Oper := ⟨some 20, .call { callee := .value (.func 37), args := #[.tmp 17, .tmp 19], argTypes := #[39, 39] }, 39, "edwards.go:118", #[⟨0, .data⟩, ⟨2, .data⟩], none⟩
def f56r2Op4 : Oper := ⟨some 21, .load 39 (.tmp 6), 39, "edwards.go:118", #[], none⟩
def f56r2Op5 : Oper := ⟨some 22, .fieldAddr 81 (.tmp 3) 1, 0, "edwards.go:118", #[], none⟩
def f56r2Op6 : Oper := ⟨some 23, .load 39 (.tmp 22), 39, "edwards.go:118", #[⟨5, .data⟩], none⟩
def f56r2Op7 : Oper := ⟨some 24, .call { callee := .value (.func 37), args := #[.tmp 21, .tmp 23], argTypes := #[39, 39] }, 39, "edwards.go:118", #[⟨4, .data⟩, ⟨6, .data⟩, ⟨3, .chain⟩], none⟩
def f56r2Op8 : Oper := ⟨some 7, .alloc 39, 0, "edwards.go:118", #[], none⟩
def f56r2Op9 : Oper := ⟨some 8, .alloc 39, 0, "edwards.go:118", #[], none⟩
def f56r2Op10 : Oper := ⟨none, .store 39 (.tmp 7) (.tmp 20), 0, "edwards.go:118", #[⟨8, .data⟩, ⟨3, .data⟩, ⟨7, .chain⟩, ⟨0, .phase⟩, ⟨1, .phase⟩, ⟨2, .phase⟩, ⟨3, .phase⟩, ⟨4, .textOnly .lateStores⟩, ⟨5, .textOnly .lateStores⟩, ⟨6, .textOnly .lateStores⟩, ⟨7, .textOnly .lateStoresUnsure⟩, ⟨8, .phase⟩, ⟨9, .phase⟩], none⟩
def f56r2Op11 : Oper := ⟨none, .store 39 (.tmp 8) (.tmp 24), 0, "edwards.go:118", #[⟨9, .data⟩, ⟨7, .data⟩, ⟨10, .chain⟩, ⟨0, .phase⟩, ⟨1, .phase⟩, ⟨2, .phase⟩, ⟨3, .phase⟩, ⟨4, .phase⟩, ⟨5, .phase⟩, ⟨6, .phase⟩, ⟨7, .phase⟩, ⟨8, .phase⟩, ⟨9, .phase⟩, ⟨10, .phase⟩], none⟩
def f56r2Ops : Array Oper := #[f56r2Op0, f56r2Op1, f56r2Op2, f56r2Op3, f56r2Op4, f56r2Op5, f56r2Op6, f56r2Op7, f56r2Op8, f56r2Op9, f56r2Op10, f56r2Op11]
set_option maxHeartbeats 2000000 in
theorem f56r2_r {Q : Exit → Act → World → Prop} {u w : World} {L : List Row} {z0 z1 z2 z4 z7 z8 z9 z10 z11 z12 z13 z14 z15 z16 z17 z18 z19 z20 z21 z22 z23 z24 : Value} {zz : List Value} {b3 b5 b6 : Nat} {c3 c5 c6 : Array Value} {e19 e20 e23 e24 : Array Value} (hQ : ∀ c a w n v, Q (.panic c) (a.put (some n) v) w → Q (.panic c) a w) (hO : Own u w L) (i3 : Nat) (h3 : L[i3]? = some (b3, c3, 81)) (i5 : Nat) (h5 : L[i5]? = some (b5, c5, 39)) (i6 : Nat) (h6 : L[i6]? = some (b6, c6, 39)) (q19 : Part c3 0 39 e19) (r20 : ∀ w, Ret 37 #[.agg c5, .agg e19] w (.agg e20)) (q23 : Part c3 4 39 e23) (r24 : ∀ w, Ret 37 #[.agg c6, .agg e23] w (.agg e24)) (fe20_27 : Fit 39 e20) (fe24_27 : Fit 39 e24) (H : ∀ (n7 : Nat) (n8 : Nat) (w' : World), Own u w' ((n8, e24, 39) :: (n7, e20, 39) :: L) → Q .normal { tmps := List.toArray (z0 :: z1 :: z2 :: (.pointer (some ⟨b3, 0, none⟩)) :: z4 :: (.pointer (some ⟨b5, 0, none⟩)) :: (.pointer (some ⟨b6, 0, none⟩)) :: (.pointer (some ⟨n7, 0, none⟩)) :: (.pointer (some ⟨n8, 0, none⟩)) :: z9 :: z10 :: z11 :: z12 :: z13 :: z14 :: z15 :: z16 :: (.agg c5) :: (.pointer (some ⟨b3, 0, none⟩)) :: (.agg e19) :: (.agg e20) :: (.agg c6) :: (.pointer (some ⟨b3, 4, none⟩)) :: (.agg e23) :: (.agg e24) :: zz), defers := [] } w') :
    (Code.region 2 f56r2Ops true).wp Tryd.prog Q { tmps := List.toArray (z0 :: z1 :: z2 :: (.pointer (some ⟨b3, 0, none⟩)) :: z4 :: (.pointer (some ⟨b5, 0, none⟩)) :: (.pointer (some ⟨b6, 0, none⟩)) :: z7 :: z8 :: z9 :: z10 :: z11 :: z12 :: z13 :: z14 :: z15 :: z16 :: z17 :: z18 :: z19 :: z20 :: z21 :: z22 :: z23 :: z24 :: zz), defers := [] } w := by
  have fc5_27 := hO.fits i5 h5
  have fc6_27 := hO.fits i6 h6
  have s0 : ∀ (n7 : Nat) (n8 : Nat) (w : World), Own u w ((n8, arr 4 (limb 0), 39) :: (n7, arr 4 (limb 0), 39) :: L) → wpAnyH Tryd.prog .any f56r2Ops Q (Has [(b3, c3, 81), (b5, c5, 39), (b6, c6, 39)]) 2 (ls 12 1023) (Fr [z0, z1, z2, D b3, z4, D b5, D b6, D n7, D n8, z9, z10, z11, z12, z13, z14, z15, z16, A c5, .pointer (some ⟨b3, 0, none⟩), A e19, A e20, A c6, .pointer (some ⟨b3, 4, none⟩), A e23, A e24] zz) w := by
    intro n7 n8 w hO
    refine d_one 10 f56r2Op10 (ls 12 2047) (fun K hK => ?_)
    refine k_st hK hO 39 1 rfl e20 fe20_27 (fun _ hO => ⟨hO.row _ (gs (gs h3)), hO.row _ (gs (gs h5)), hO.row _ (gs (gs h6)), trivial⟩) ?_
    intro w1 hO
    replace hO : Own u w1 ((n8, arr 4 (limb 0), 39) :: (n7, e20, 39) :: L) := hO
    refine d_one 11 f56r2Op11 (ls 12 4095) (fun K hK => ?_)
    refine k_st hK hO 39 0 rfl e24 fe24_27 (fun _ hO => ⟨hO.row _ (gs (gs h3)), hO.row _ (gs (gs h5)), hO.row _ (gs (gs h6)), trivial⟩) ?_
    intro w2 hO
    exact wpAnyH_done (by kernel_rfl) (H n7 n8 _ hO) _
  have s1 : ∀ (n7 : Nat) (w : World), Own u w ((n7, arr 4 (limb 0), 39) :: L) → wpAnyH Tryd.prog .any f56r2Ops Q (Has [(b3, c3, 81), (b5, c5, 39), (b6, c6, 39)]) 3 (ls 12 511) (Fr [z0, z1, z2, D b3, z4, D b5, D b6, D n7, z8, z9, z10, z11, z12, z13, z14, z15, z16, A c5, .pointer (some ⟨b3, 0, none⟩), A e19, A e20, A c6, .pointer (some ⟨b3, 4, none⟩), A e23, A e24] zz) w := by
    intro n7 w hO
    refine d_one 9 f56r2Op9 (ls 12 1023) (fun K hK => ?_)
    refine k_new hK hO (arr 4 (limb 0)) 39 (al27 rfl) (fit_fe _) (fun _ _ hO => ⟨hO.row _ (gs (gs h3)), hO.row _ (gs (gs h5)), hO.row _ (gs (gs h6)), trivial⟩) ?_
    intro n8 w3 hO
    exact d_fr _ _ (s0 n7 n8 _ hO)
  have s2 : ∀ (n7 : Nat) (n8 : Nat) (w : World), Own u w ((n8, arr 4 (limb 0), 39) :: (n7, arr 4 (limb 0), 39) :: L) → wpAnyH Tryd.prog .any f56r2Ops Q (Has [(b3, c3, 81), (b5, c5, 39), (b6, c6, 39)]) 3 (ls 12 895) (Fr [z0, z1, z2, D b3, z4, D b5, D b6, D n7, D n8, z9, z10, z11, z12, z13, z14, z15, z16, A c5, .pointer (some ⟨b3, 0, none⟩), A e19, A e20, A c6, .pointer (some ⟨b3, 4, none⟩), A e23, z24] zz) w := by
    intro n7 n8 w hO
    refine d_one 7 f56r2Op7 (ls 12 1023) (fun K hK => ?_)
    refine k_call hK hO (fun _ hO => ⟨hO.row _ (gs (gs h3)), hO.row _ (gs (gs h5)), hO.row _ (gs (gs h6)), trivial⟩) 37 #[.agg c6, .agg e23] (.agg e24) r24 ?_
    intro w4 hO
    exact d_fr _ _ (s0 n7 n8 _ hO)
  have s3 : ∀ (n8 : Nat) (w : World), Own u w ((n8, arr 4 (limb 0), 39) :: L) → wpAnyH Tryd.prog .any f56r2Ops Q (Has [(b3, c3, 81), (b5, c5, 39), (b6, c6, 39)]) 3 (ls 12 767) (Fr [z0, z1, z2, D b3, z4, D b5, D b6, z7, D n8, z9, z10, z11, z12, z13, z14, z15, z16, A c5, .pointer (some ⟨b3, 0, none⟩), A e19, A e20, A c6, .pointer (some ⟨b3, 4, none⟩), A e23, A e24] zz) w := by
    intro n8 w hO
    refine d_one 8 f56r2Op8 (ls 12 1023) (fun K hK => ?_)
    refine k_new hK hO (arr 4 (limb 0)) 39 (al27 rfl) (fit_fe _) (fun _ _ hO => ⟨hO.row _ (gs (gs h3)), hO.row _ (gs (gs h5)), hO.row _ (gs (gs h6)), trivial⟩) ?_
    intro n7 w5 hO
    replace hO := hO.perm swap1
    exact d_fr _ _ (s0 n7 n8 _ hO)
  have s4 : ∀ (n7 : Nat) (w : World), Own u w ((n7, arr 4 (limb 0), 39) :: L) → wpAnyH Tryd.prog .any f56r2Ops Q (Has [(b3, c3, 81), (b5, c5, 39), (b6, c6, 39)]) 4 (ls 12 383) (Fr [z0, z1, z2, D b3, z4, D b5, D b6, D n7, z8, z9, z10, z11, z12, z13, z14, z15, z16, A c5, .pointer (some ⟨b3, 0, none⟩), A e19, A e20, A c6, .pointer (some ⟨b3, 4, none⟩), A e23, z24] zz) w := by
    intro n7 w hO
    refine wpAnyH_ready (rs := [7, 9]) (by kernel_rfl) (by simp) ?_
    refine d_cons 7 f56r2Op7 (ls 12 511) (fun K hK => ?_) ?_
    · skip
      refine k_call hK hO (fun _ hO => ⟨hO.row _ (gs h3), hO.row _ (gs h5), hO.row _ (gs h6), trivial⟩) 37 #[.agg c6, .agg e23] (.agg e24) r24 ?_
      intro w6 hO
      exact d_fr _ _ (s1 n7 _ hO)
    refine d_cons 9 f56r2Op9 (ls 12 895) (fun K hK => ?_) ?_
    · skip
      refine k_new hK hO (arr 4 (limb 0)) 39 (al27 rfl) (fit_fe _) (fun _ _ hO => ⟨hO.row _ (gs (gs h3)), hO.row _ (gs (gs h5)), hO.row _ (gs (gs h6)), trivial⟩) ?_
      intro n8 w7 hO
      exact d_fr _ _ (s2 n7 n8 _ hO)
    exact AllReadyH.nil
  have s5 : ∀ (n7 : Nat) (n8 : Nat) (w : World), Own u w ((n8, arr 4 (limb 0), 39) :: (n7, arr 4 (limb 0), 39) :: L) → wpAnyH Tryd.prog .any f56r2Ops Q (Has [(b3, c3, 81), (b5, c5, 39), (b6, c6, 39)]) 4 (ls 12 887) (Fr [z0, z1, z2, D b3, z4, D b5, D b6, D n7, D n8, z9, z10, z11, z12, z13, z14, z15, z16, A c5, .pointer (some ⟨b3, 0, none⟩), A e19, z20, A c6, .pointer (some ⟨b3, 4, none⟩), A e23, z24] zz) w := by
    intro n7 n8 w hO
    refine d_one 3 f56r2Op3 (ls 12 895) (fun K hK => ?_)
    refine k_call hK hO (fun _ hO => ⟨hO.row _ (gs (gs h3)), hO.row _ (gs (gs h5)), hO.row _ (gs (gs h6)), trivial⟩) 37 #[.agg c5, .agg e19] (.agg e20) r20 ?_
    intro w8 hO
    exact d_fr _ _ (s2 n7 n8 _ hO)
  have s6 : ∀ (n8 : Nat) (w : World), Own u w ((n8, arr 4 (limb 0), 39) :: L) → wpAnyH Tryd.prog .any f56r2Ops Q (Has [(b3, c3, 81), (b5, c5, 39), (b6, c6, 39)]) 4 (ls 12 639) (Fr [z0, z1, z2, D b3, z4, D b5, D b6, z7, D n8, z9, z10, z11, z12, z13, z14, z15, z16, A c5, .pointer (some ⟨b3, 0, none⟩), A e19, A e20, A c6, .pointer (some ⟨b3, 4, none⟩), A e23, z24] zz) w := by
    intro n8 w hO
    refine wpAnyH_ready (rs := [7, 8]) (by kernel_rfl) (by simp) ?_
    refine d_cons 7 f56r2Op7 (ls 12 767) (fun K hK => ?_) ?_
    · skip
      refine k_call hK hO (fun _ hO => ⟨hO.row _ (gs h3), hO.row _ (gs h5), hO.row _ (gs h6), trivial⟩) 37 #[.agg c6, .agg e23] (.agg e24) r24 ?_
      intro w9 hO
      exact d_fr _ _ (s3 n8 _ hO)
    refine d_cons 8 f56r2Op8 (ls 12 895) (fun K hK => ?_) ?_
    · skip
      refine k_new hK hO (arr 4 (limb 0)) 39 (al27 rfl) (fit_fe _) (fun _ _ hO => ⟨hO.row _ (gs (gs h3)), hO.row _ (gs (gs h5)), hO.row _ (gs (gs h6)), trivial⟩) ?_
      intro n7 w10 hO
      replace hO := hO.perm swap1
      exact d_fr _ _ (s2 n7 n8 _ hO)
    exact AllReadyH.nil
  refine wp_region_held_drew (S := Has [(b3, c3, 81), (b5, c5, 39), (b6, c6, 39)]) (by kernel_rfl) ⟨hO.drew.row _ h3, hO.drew.row _ h5, hO.drew.row _ h6, trivial⟩ (fun hS => ?_)
  replace hO := hO.drew
  refine d_tk 0 f56r2Op0 (.agg c5) hQ (y_l 39 (fun _ h => h.2.1) fc5_27 Tryd.underlying39) hS ?_
  refine d_tk 1 f56r2Op1 (.pointer (some ⟨b3, 0, none⟩)) hQ (y_val (fun _ => by kernel_rfl)) hS ?_
  refine d_tk 2 f56r2Op2 (.agg e19) hQ (y_p 39 (fun _ h => h.1) q19 Tryd.underlying39) hS ?_
  refine d_fr (ls 12 7) (Fr [z0, z1, z2, D b3, z4, D b5, D b6, z7, z8, z9, z10, z11, z12, z13, z14, z15, z16, A c5, .pointer (some ⟨b3, 0, none⟩), A e19, z20, z21, z22, z23, z24] zz) ?_
  refine d_tk 4 f56r2Op4 (.agg c6) hQ (y_l 39 (fun _ h => h.2.2.1) fc6_27 Tryd.underlying39) hS ?_
  refine d_tk 5 f56r2Op5 (.pointer (some ⟨b3, 4, none⟩)) hQ (y_val (fun _ => by kernel_rfl)) hS ?_
  refine d_tk 6 f56r2Op6 (.agg e23) hQ (y_p 39 (fun _ h => h.1) q23 Tryd.underlying39) hS ?_
  refine d_fr (ls 12 119) (Fr [z0, z1, z2, D b3, z4, D b5, D b6, z7, z8, z9, z10, z11, z12, z13, z14, z15, z16, A c5, .pointer (some ⟨b3, 0, none⟩), A e19, z20, A c6, .pointer (some ⟨b3, 4, none⟩), A e23, z24] zz) ?_
  refine wpAnyH_ready (rs := [3, 8, 9]) (by kernel_rfl) (by simp) ?_
  refine d_cons 3 f56r2Op3 (ls 12 127) (fun K hK => ?_) ?_
  · skip
    refine k_call hK hO (fun _ hO => ⟨hO.row _ h3, hO.row _ h5, hO.row _ h6, trivial⟩) 37 #[.agg c5, .agg e19] (.agg e20) r20 ?_
    intro w11 hO
    refine wpAnyH_ready (rs := [7, 8, 9]) (by kernel_rfl) (by simp) ?_
    refine d_cons 7 f56r2Op7 (ls 12 255) (fun K hK => ?_) ?_
    · skip
      refine k_call hK hO (fun _ hO => ⟨hO.row _ h3, hO.row _ h5, hO.row _ h6, trivial⟩) 37 #[.agg c6, .agg e23] (.agg e24) r24 ?_
      intro w12 hO
      refine wpAnyH_ready (rs := [8, 9]) (by kernel_rfl) (by simp) ?_
      refine d_cons 8 f56r2Op8 (ls 12 511) (fun K hK => ?_) ?_
      · skip
        refine k_new hK hO (arr 4 (limb 0)) 39 (al27 rfl) (fit_fe _) (fun _ _ hO => ⟨hO.row _ (gs h3), hO.row _ (gs h5), hO.row _ (gs h6), trivial⟩) ?_
        intro n7 w13 hO
        exact d_fr _ _ (s1 n7 _ hO)
      refine d_cons 9 f56r2Op9 (ls 12 767) (fun K hK => ?_) ?_
      · skip
        refine k_new hK hO (arr 4 (limb 0)) 39 (al27 rfl) (fit_fe _) (fun _ _ hO => ⟨hO.row _ (gs h3), hO.row _ (gs h5), hO.row _ (gs h6), trivial⟩) ?_
        intro n8 w14 hO
        exact d_fr _ _ (s3 n8 _ hO)
      exact AllReadyH.nil
    refine d_cons 8 f56r2Op8 (ls 12 383) (fun K hK => ?_) ?_
    · skip
      refine k_new hK hO (arr 4 (limb 0)) 39 (al27 rfl) (fit_fe _) (fun _ _ hO => ⟨hO.row _ (gs h3), hO.row _ (gs h5), hO.row _ (gs h6), trivial⟩) ?_
      intro n7 w15 hO
      exact d_fr _ _ (s4 n7 _ hO)
    refine d_cons 9 f56r2Op9 (ls 12 639) (fun K hK => ?_) ?_
    · skip
      refine k_new hK hO (arr 4 (limb 0)) 39 (al27 rfl) (fit_fe _) (fun _ _ hO => ⟨hO.row _ (gs h3), hO.row _ (gs h5), hO.row _ (gs h6), trivial⟩) ?_
      intro n8 w16 hO
      exact d_fr _ _ (s6 n8 _ hO)
    exact AllReadyH.nil
  refine d_cons 8 f56r2Op8 (ls 12 375) (fun K hK => ?_) ?_
  · skip
    refine k_new hK hO (arr 4 (limb 0)) 39 (al27 rfl) (fit_fe _) (fun _ _ hO => ⟨hO.row _ (gs h3), hO.row _ (gs h5), hO.row _ (gs h6), trivial⟩) ?_
    intro n7 w17 hO
    refine wpAnyH_ready (rs := [3, 9]) (by kernel_rfl) (by simp) ?_
    refine d_cons 3 f56r2Op3 (ls 12 383) (fun K hK => ?_) ?_
    · skip
      refine k_call hK hO (fun _ hO => ⟨hO.row _ (gs h3), hO.row _ (gs h5), hO.row _ (gs h6), trivial⟩) 37 #[.agg c5, .agg e19] (.agg e20) r20 ?_
      intro w18 hO
      exact d_fr _ _ (s4 n7 _ hO)
    refine d_cons 9 f56r2Op9 (ls 12 887) (fun K hK => ?_) ?_
    · skip
      refine k_new hK hO (arr 4 (limb 0)) 39 (al27 rfl) (fit_fe _) (fun _ _ hO => ⟨hO.row _ (gs (gs h3)), hO.row _ (gs (gs h5)), hO.row _ (gs (gs h6)), trivial⟩) ?_
      intro n8 w19 hO
      exact d_fr _ _ (s5 n7 n8 _ hO)
    exact AllReadyH.nil
  refine d_cons 9 f56r2Op9 (ls 12 631) (fun K hK => ?_) ?_
  · skip
    refine k_new hK hO (arr 4 (limb 0)) 39 (al27 rfl) (fit_fe _) (fun _ _ hO => ⟨hO.row _ (gs h3), hO.row _ (gs h5), hO.row _ (gs h6), trivial⟩) ?_
    intro n8 w20 hO
    refine wpAnyH_ready (rs := [3, 8]) (by kernel_rfl) (by simp) ?_
    refine d_cons 3 f56r2Op3 (ls 12 639) (fun K hK => ?_) ?_
    · skip
      refine k_call hK hO (fun _ hO => ⟨hO.row _ (gs h3), hO.row _ (gs h5), hO.row _ (gs h6), trivial⟩) 37 #[.agg c5, .agg e19] (.agg e20) r20 ?_
      intro w21 hO
      exact d_fr _ _ (s6 n8 _ hO)
    refine d_cons 8 f56r2Op8 (ls 12 887) (fun K hK => ?_) ?_
    · skip
      refine k_new hK hO (arr 4 (limb 0)) 39 (al27 rfl) (fit_fe _) (fun _ _ hO => ⟨hO.row _ (gs (gs h3)), hO.row _ (gs (gs h5)), hO.row _ (gs (gs h6)), trivial⟩) ?_
      intro n7 w22 hO
      replace hO := hO.perm swap1
      exact d_fr _ _ (s5 n7 n8 _ hO)
    exact AllReadyH.nil
  exact AllReadyH.nil
def f56r3Op0 : Oper := ⟨some 25, .fieldAddr 109 (.tmp 2) 0, 0, "edwards.go:119", #[], none⟩
def f56r3Op1 : Oper := ⟨some 26, .fieldAddr 107 (.tmp 25) 2, 0, "edwards.go:119", #[⟨0, .data⟩], none⟩
def f56r3Op2 : Oper := ⟨some 27, .load 39 (.tmp 26), 39, "edwards.go:119", #[⟨1, .data⟩], none⟩
def f56r3Op3 : Oper := ⟨some 28, .fieldAddr 109 (.tmp 2) 0, 0, "edwards.go:119", #[], none⟩
def f56r3Op4 : Oper := ⟨some 29, .fieldAddr 107 (.tmp 28) 2, 0, "edwards.go:119", #[⟨3, .data⟩], none⟩
def f56r3Op5 : Oper := ⟨some 30, .load 39 (.tmp 29), 39, "edwards.go:119", #[⟨4, .data⟩], none⟩
def f56r3Op6 : Oper := ⟨some 31, .call { callee := .value (.func 36), args := #[.tmp 27, .tmp 30], argTypes := #[39, 39] }, 39, "edwards.go:119", #[⟨2, .data⟩, ⟨5, .data⟩], none⟩
def f56r3Op7 : Oper := ⟨some 32, .fieldAddr 109 (.tmp 2) 1, 0, "edwards.go:119", #[], none⟩
def f56r3Op8 : Oper := ⟨some 33, .load 39 (.tmp 32), 39, "edwards.go:119", #[⟨7, .data⟩], none⟩
def f56r3Op9 : Oper := ⟨some 34, .fieldAddr 81 (.tmp 3) 2, 0, "edwards.go:119", #[], none⟩
def f56r3Op10 : Oper := ⟨some 35, .load 39 (.tmp 34), 39, "edwards.go:119", #[⟨9, .data⟩], none⟩
def f56r3Op11 : Oper := ⟨some 36, .call { callee := .value (.func 37), args := #[.tmp 33, .tmp 35], argTypes := #[39, 39] }, 39, "edwards.go:119", #[⟨8, .data⟩, ⟨10, .data⟩, ⟨6, .chain⟩], none⟩
def f56r3Op12 : Oper := ⟨some 9, .alloc 39, 0, "edwards.go:119", #[], none⟩
def f56r3Op13 : Oper := ⟨some 10, .alloc 39, 0, "edwards.go:119", #[], none⟩
def f56r3Op14 : Oper := ⟨none, .store 39 (.tmp 9) (.tmp 31), 0, "edwards.go:119", #[⟨12, .data⟩, ⟨6, .data⟩, ⟨11, .chain⟩, ⟨0, .phase⟩, ⟨1, .phase⟩, ⟨2, .phase⟩, ⟨3, .phase⟩, ⟨4, .phase⟩, ⟨5, .phase⟩, ⟨6, .phase⟩, ⟨7, .textOnly .lateStores⟩, ⟨8, .textOnly .lateStores⟩, ⟨9, .textOnly .lateStores⟩, ⟨10, .textOnly .lateStores⟩, ⟨11, .textOnly .lateStoresUnsure⟩, ⟨12, .phase⟩, ⟨13, .phase⟩], none⟩
def f56r3Op15 : Oper := ⟨none, .store 39 (.tmp 10) (.tmp 36), 0, "edwards.go:119", #[⟨13, .data⟩, ⟨11, .data⟩, ⟨14, .chain⟩, ⟨0, .phase⟩, ⟨1, .phase⟩, ⟨2, .phase⟩, ⟨3, .phase⟩, ⟨4, .phase⟩, ⟨5, .phase⟩, ⟨6, .phase⟩, ⟨7, .phase⟩, ⟨8, .phase⟩, ⟨9, .phase⟩, ⟨10, .phase⟩, ⟨11, .phase⟩, ⟨12, .phase⟩, ⟨13, .phase⟩, ⟨14, .phase⟩], none⟩
def f56r3Ops : Array Oper := #[f56r3Op0, f56r3Op1, f56r3Op2, f56r3Op3, f56r3Op4, f56r3Op5, f56r3Op6, f56r3Op7, f56r3Op8, f56r3Op9, f56r3Op10, f56r3Op11, f56r3Op12, f56r3Op13, f56r3Op14, f56r3Op15]
set_option maxHeartbeats 2000000 in
theorem f56r3_r {Q : Exit → Act → World → Prop} {u w : World} {L : List Row} {z0 z1 z4 z5 z6 z7 z8 z9 z10 z11 z12 z13 z14 z15 z16 z17 z18 z19 z20 z21 z22 z23 z24 z25 z26 z27 z28 z29 z30 z31 z32 z33 z34 z35 z36 : Value} {zz : List Value} {b2 b3 : Nat} {c2 c3 : Array Value} {e27 e30 e31 e33 e35 e36 : Array Value} (hQ : ∀ c a w n v, Q (.panic c) (a.put (some n) v) w → Q (.panic c) a w) (hO : Own u w L) (i2 : Nat) (h2 : L[i2]? = some (b2, c2, 109)) (i3 : Nat) (h3 : L[i3]? = some (b3, c3, 81)) (q27 : Part c2 8 39 e27) (q30 : Part c2 8 39 e30) (r31 : ∀ w, Ret 36 #[.agg e27, .agg e30] w (.agg e31)) (q33 : Part c2 12 39 e33) (q35 : Part c3 8 39 e35) (r36 : ∀ w, Ret 37 #[.agg e33, .agg e35] w (.agg e36)) (fe31_27 : Fit 39 e31) (fe36_27 : Fit 39 e36) (H : ∀ (n9 : Nat) (n10 : Nat) (w' : World), Own u w' ((n10, e36, 39) :: (n9, e31, 39) :: L) → Q .normal { tmps := List.toArray (z0 :: z1 :: (.pointer (some ⟨b2, 0, none⟩)) :: (.pointer (some ⟨b3, 0, none⟩)) :: z4 :: z5 :: z6 :: z7 :: z8 :: (.pointer (some ⟨n9, 0, none⟩)) :: (.pointer (some ⟨n10, 0, none⟩)) :: z11 :: z12 :: z13 :: z14 :: z15 :: z16 :: z17 :: z18 :: z19 :: z20 :: z21 :: z22 :: z23 :: z24 :: (.pointer (some ⟨b2, 0, none⟩)) :: (.pointer (some ⟨b2, 8, none⟩)) :: (.agg e27) :: (.pointer (some ⟨b2, 0, none⟩)) :: (.pointer (some ⟨b2, 8, none⟩)) :: (.agg e30) :: (.agg e31) :: (.pointer (some ⟨b2, 12, none⟩)) :: (.agg e33) :: (.pointer (some ⟨b3, 8, none⟩)) :: (.agg e35) :: (.agg e36) :: zz), defers := [] } w') :
    (Code.region 3 f56r3Ops true).wp Tryd.prog Q { tmps := List.toArray (z0 :: z1 :: (.pointer (some ⟨b2, 0, none⟩)) :: (.pointer (some ⟨b3, 0, none⟩)) :: z4 :: z5 :: z6 :: z7 :: z8 :: z9 :: z10 :: z11 :: z12 :: z13 :: z14 :: z15 :: z16 :: z17 :: z18 :: z19 :: z20 :: z21 :: z22 :: z23 :: z24 :: z25 :: z26 :: z27 :: z28 :: z29 :: z30 :: z31 :: z32 :: z33 :: z34 :: z35 :: z36 :: zz), defers := [] } w := by
  have s0 : ∀ (n9 : Nat) (n10 : Nat) (w : World), Own u w ((n10, arr 4 (limb 0), 39) :: (n9, arr 4 (limb 0), 39) :: L) → wpAnyH Tryd.prog .any f56r3Ops Q (Has [(b2, c2, 109), (b3, c3, 81)]) 2 (ls 16 16383) (Fr [z0, z1, D b2, D b3, z4, z5, z6, z7, z8, D n9, D n10, z11, z12, z13, z14, z15, z16, z17, z18, z19, z20, z21, z22, z23, z24, .pointer (some ⟨b2, 0, none⟩), .pointer (some ⟨b2, 8, none⟩), A e27, .pointer (some ⟨b2, 0, none⟩), .pointer (some ⟨b2, 8, none⟩), A e30, A e31, .pointer (some ⟨b2, 12, none⟩), A e33, .pointer (some ⟨b3, 8, none⟩), A e35, A e36] zz) w := by
    intro n9 n10 w hO
    refine d_one 14 f56r3Op14 (ls 16 32767) (fun K hK => ?_)
    refine k_st hK hO 39 1 rfl e31 fe31_27 (fun _ hO => ⟨hO.row _ (gs (gs h2)), hO.row _ (gs (gs h3)), trivial⟩) ?_
    intro w1 hO
    replace hO : Own u w1 ((n10, arr 4 (limb 0), 39) :: (n9, e31, 39) :: L) := hO
    refine d_one 15 f56r3Op15 (ls 16 65535) (fun K hK => ?_)
    refine k_st hK hO 39 0 rfl e36 fe36_27 (fun _ hO => ⟨hO.row _ (gs (gs h2)), hO.row _ (gs (gs h3)), trivial⟩) ?_
    intro w2 hO
    exact wpAnyH_done (by kernel_rfl) (H n9 n10 _ hO) _
  have s1 : ∀ (n10 : Nat) (w : World), Own u w ((n10, arr 4 (limb 0), 39) :: L) → wpAnyH Tryd.prog .any f56r3Ops Q (Has [(b2, c2, 109), (b3, c3, 81)]) 3 (ls 16 12287) (Fr [z0, z1, D b2, D b3, z4, z5, z6, z7, z8, z9, D n10, z11, z12, z13, z14, z15, z16, z17, z18, z19, z20, z21, z22, z23, z24, .pointer (some ⟨b2, 0, none⟩), .pointer (some ⟨b2, 8, none⟩), A e27, .pointer (some ⟨b2, 0, none⟩), .pointer (some ⟨b2, 8, none⟩), A e30, A e31, .pointer (some ⟨b2, 12, none⟩), A e33, .pointer (some ⟨b3, 8, none⟩), A e35, A e36] zz) w := by
    intro n10 w hO
    refine d_one 12 f56r3Op12 (ls 16 16383) (fun K hK => ?_)
    refine k_new hK hO (arr 4 (limb 0)) 39 (al27 rfl) (fit_fe _) (fun _ _ hO => ⟨hO.row _ (gs (gs h2)), hO.row _ (gs (gs h3)), trivial⟩) ?_
    intro n9 w3 hO
    replace hO := hO.perm swap1
    exact d_fr _ _ (s0 n9 n10 _ hO)
  have s2 : ∀ (n9 : Nat) (w : World), Own u w ((n9, arr 4 (limb 0), 39) :: L) → wpAnyH Tryd.prog .any f56r3Ops Q (Has [(b2, c2, 109), (b3, c3, 81)]) 3 (ls 16 8191) (Fr [z0, z1, D b2, D b3, z4, z5, z6, z7, z8, D n9, z10, z11, z12, z13, z14, z15, z16, z17, z18, z19, z20, z21, z22, z23, z24, .pointer (some ⟨b2, 0, none⟩), .pointer (some ⟨b2, 8, none⟩), A e27, .pointer (some ⟨b2, 0, none⟩), .pointer (some ⟨b2, 8, none⟩), A e30, A e31, .pointer (some ⟨b2, 12, none⟩), A e33, .pointer (some ⟨b3, 8, none⟩), A e35, A e36] zz) w := by
    intro n9 w hO
    refine d_one 13 f56r3Op13 (ls 16 16383) (fun K hK => ?_)
    refine k_new hK hO (arr 4 (limb 0)) 39 (al27 rfl) (fit_fe _) (fun _ _ hO => ⟨hO.row _ (gs (gs h2)), hO.row _ (gs (gs h3)), trivial⟩) ?_
    intro n10 w4 hO
    exact d_fr _ _ (s0 n9 n10 _ hO)
  have s3 : ∀ (n9 : Nat) (n10 : Nat) (w : World), Own u w ((n10, arr 4 (limb 0), 39) :: (n9, arr 4 (limb 0), 39) :: L) → wpAnyH Tryd.prog .any f56r3Ops Q (Has [(b2, c2, 109), (b3, c3, 81)]) 3 (ls 16 14335) (Fr [z0, z1, D b2, D b3, z4, z5, z6, z7, z8, D n9, D n10, z11, z12, z13, z14, z15, z16, z17, z18, z19, z20, z21, z22, z23, z24, .pointer (some ⟨b2, 0, none⟩), .pointer (some ⟨b2, 8, none⟩), A e27, .pointer (some ⟨b2, 0, none⟩), .pointer (some ⟨b2, 8, none⟩), A e30, A e31, .pointer (some ⟨b2, 12, none⟩), A e33, .pointer (some ⟨b3, 8, none⟩), A e35, z36] zz) w := by
    intro n9 n10 w hO
    refine d_one 11 f56r3Op11 (ls 16 16383) (fun K hK => ?_)
    refine k_call hK hO (fun _ hO => ⟨hO.row _ (gs (gs h2)), hO.row _ (gs (gs h3)), trivial⟩) 37 #[.agg e33, .agg e35] (.agg e36) r36 ?_
    intro w5 hO
    exact d_fr _ _ (s0 n9 n10 _ hO)
  have s4 : ∀ (n9 : Nat) (w : World), Own u w ((n9, arr 4 (limb 0), 39) :: L) → wpAnyH Tryd.prog .any f56r3Ops Q (Has [(b2, c2, 109), (b3, c3, 81)]) 4 (ls 16 6143) (Fr [z0, z1, D b2, D b3, z4, z5, z6, z7, z8, D n9, z10, z11, z12, z13, z14, z15, z16, z17, z18, z19, z20, z21, z22, z23, z24, .pointer (some ⟨b2, 0, none⟩), .pointer (some ⟨b2, 8, none⟩), A e27, .pointer (some ⟨b2, 0, none⟩), .pointer (some ⟨b2, 8, none⟩), A e30, A e31, .pointer (some ⟨b2, 12, none⟩), A e33, .pointer (some ⟨b3, 8, none⟩), A e35, z36] zz) w := by
    intro n9 w hO
    refine wpAnyH_ready (rs := [11, 13]) (by kernel_rfl) (by simp) ?_
    refine d_cons 11 f56r3Op11 (ls 16 8191) (fun K hK => ?_) ?_
    · skip
      refine k_call hK hO (fun _ hO => ⟨hO.row _ (gs h2), hO.row _ (gs h3), trivial⟩) 37 #[.agg e33, .agg e35] (.agg e36) r36 ?_
      intro w6 hO
      exact d_fr _ _ (s2 n9 _ hO)
    refine d_cons 13 f56r3Op13 (ls 16 14335) (fun K hK => ?_) ?_
    · skip
      refine k_new hK hO (arr 4 (limb 0)) 39 (al27 rfl) (fit_fe _) (fun _ _ hO => ⟨hO.row _ (gs (gs h2)), hO.row _ (gs (gs h3)), trivial⟩) ?_
      intro n10 w7 hO
      exact d_fr _ _ (s3 n9 n10 _ hO)
    exact AllReadyH.nil
  have s5 : ∀ (n10 : Nat) (w : World), Own u w ((n10, arr 4 (limb 0), 39) :: L) → wpAnyH Tryd.prog .any f56r3Ops Q (Has [(b2, c2, 109), (b3, c3, 81)]) 4 (ls 16 10239) (Fr [z0, z1, D b2, D b3, z4, z5, z6, z7, z8, z9, D n10, z11, z12, z13, z14, z15, z16, z17, z18, z19, z20, z21, z22, z23, z24, .pointer (some ⟨b2, 0, none⟩), .pointer (some ⟨b2, 8, none⟩), A e27, .pointer (some ⟨b2, 0, none⟩), .pointer (some ⟨b2, 8, none⟩), A e30, A e31, .pointer (some ⟨b2, 12, none⟩), A e33, .pointer (some ⟨b3, 8, none⟩), A e35, z36] zz) w := by
    intro n10 w hO
    refine wpAnyH_ready (rs := [11, 12]) (by kernel_rfl) (by simp) ?_
    refine d_cons 11 f56r3Op11 (ls 16 12287) (fun K hK => ?_) ?_
    · skip
      refine k_call hK hO (fun _ hO => ⟨hO.row _ (gs h2), hO.row _ (gs h3), trivial⟩) 37 #[.agg e33, .agg e35] (.agg e36) r36 ?_
      intro w8 hO
      exact d_fr _ _ (s1 n10 _ hO)
    refine d_cons 12 f56r3Op12 (ls 16 14335) (fun K hK => ?_) ?_
    · skip
      refine k_new hK hO (arr 4 (limb 0)) 39 (al27 rfl) (fit_fe _) (fun _ _ hO => ⟨hO.row _ (gs (gs h2)), hO.row _ (gs (gs h3)), trivial⟩) ?_
      intro n9 w9 hO
      replace hO := hO.perm swap1
      exact d_fr _ _ (s3 n9 n10 _ hO)
    exact AllReadyH.nil
  have s6 : ∀ (n9 : Nat) (n10 : Nat) (w : World), Own u w ((n10, arr 4 (limb 0), 39) :: (n9, arr 4 (limb 0), 39) :: L) → wpAnyH Tryd.prog .any f56r3Ops Q (Has [(b2, c2, 109), (b3, c3, 81)]) 4 (ls 16 14271) (Fr [z0, z1, D b2, D b3, z4, z5, z6, z7, z8, D n9, D n10, z11, z12, z13, z14, z15, z16, z17, z18, z19, z20, z21, z22, z23, z24, .pointer (some ⟨b2, 0, none⟩), .pointer (some ⟨b2, 8, none⟩), A e27, .pointer (some ⟨b2, 0, none⟩), .pointer (some ⟨b2, 8, none⟩), A e30, z31, .pointer (some ⟨b2, 12, none⟩), A e33, .pointer (some ⟨b3, 8, none⟩), A e35, z36] zz) w := by
    intro n9 n10 w hO
    refine d_one 6 f56r3Op6 (ls 16 14335) (fun K hK => ?_)
    refine k_call hK hO (fun _ hO => ⟨hO.row _ (gs (gs h2)), hO.row _ (gs (gs h3)), trivial⟩) 36 #[.agg e27, .agg e30] (.agg e31) r31 ?_
    intro w10 hO
    exact d_fr _ _ (s3 n9 n10 _ hO)
  refine wp_region_held_drew (S := Has [(b2, c2, 109), (b3, c3, 81)]) (by kernel_rfl) ⟨hO.drew.row _ h2, hO.drew.row _ h3, trivial⟩ (fun hS => ?_)
  replace hO := hO.drew
  refine d_tk 0 f56r3Op0 (.pointer (some ⟨b2, 0, none⟩)) hQ (y_val (fun _ => by kernel_rfl)) hS ?_
  refine d_tk 1 f56r3Op1 (.pointer (some ⟨b2, 8, none⟩)) hQ (y_val (fun _ => by kernel_rfl)) hS ?_
  refine d_tk 2 f56r3Op2 (.agg e27) hQ (y_p 39 (fun _ h => h.1) q27 Tryd.underlying39) hS ?_
  refine d_fr (ls 16 7) (Fr [z0, z1, D b2, D b3, z4, z5, z6, z7, z8, z9, z10, z11, z12, z13, z14, z15, z16, z17, z18, z19, z20, z21, z22, z23, z24, .pointer (some ⟨b2, 0, none⟩), .pointer (some ⟨b2, 8, none⟩), A e27, z28, z29, z30, z31, z32, z33, z34, z35, z36] zz) ?_
  refine d_tk 3 f56r3Op3 (.pointer (some ⟨b2, 0, none⟩)) hQ (y_val (fun _ => by kernel_rfl)) hS ?_
  refine d_tk 4 f56r3Op4 (.pointer (some ⟨b2, 8, none⟩)) hQ (y_val (fun _ => by kernel_rfl)) hS ?_
  refine d_tk 5 f56r3Op5 (.agg e30) hQ (y_p 39 (fun _ h => h.1) q30 Tryd.underlying39) hS ?_
  refine d_fr (ls 16 63) (Fr [z0, z1, D b2, D b3, z4, z5, z6, z7, z8, z9, z10, z11, z12, z13, z14, z15, z16, z17, z18, z19, z20, z21, z22, z23, z24, .pointer (some ⟨b2, 0, none⟩), .pointer (some ⟨b2, 8, none⟩), A e27, .pointer (some ⟨b2, 0, none⟩), .pointer (some ⟨b2, 8, none⟩), A e30, z31, z32, z33, z34, z35, z36] zz) ?_
  refine d_tk 7 f56r3Op7 (.pointer (some ⟨b2, 12, none⟩)) hQ (y_val (fun _ => by kernel_rfl)) hS ?_
  refine d_tk 8 f56r3Op8 (.agg e33) hQ (y_p 39 (fun _ h => h.1) q33 Tryd.underlying39) hS ?_
  refine d_tk 9 f56r3Op9 (.pointer (some ⟨b3, 8, none⟩)) hQ (y_val (fun _ => by kernel_rfl)) hS ?_
  refine d_fr (ls 16 959) (Fr [z0, z1, D b2, D b3, z4, z5, z6, z7, z8, z9, z10, z11, z12, z13, z14, z15, z16, z17, z18, z19, z20, z21, z22, z23, z24, .pointer (some ⟨b2, 0, none⟩), .pointer (some ⟨b2, 8, none⟩), A e27, .pointer (some ⟨b2, 0, none⟩), .pointer (some ⟨b2, 8, none⟩), A e30, z31, .pointer (some ⟨b2, 12, none⟩), A e33, .pointer (some ⟨b3, 8, none⟩), z35, z36] zz) ?_
  refine d_tk 10 f56r3Op10 (.agg e35) hQ (y_p 39 (fun _ h => h.2.1) q35 Tryd.underlying39) hS ?_
  refine d_fr (ls 16 1983) (Fr [z0, z1, D b2, D b3, z4, z5, z6, z7, z8, z9, z10, z11, z12, z13, z14, z15, z16, z17, z18, z19, z20, z21, z22, z23, z24, .pointer (some ⟨b2, 0, none⟩), .pointer (some ⟨b2, 8, none⟩), A e27, .pointer (some ⟨b2, 0, none⟩), .pointer (some ⟨b2, 8, none⟩), A e30, z31, .pointer (some ⟨b2, 12, none⟩), A e33, .pointer (some ⟨b3, 8, none⟩), A e35, z36] zz) ?_
  refine wpAnyH_ready (rs := [6, 12, 13]) (by kernel_rfl) (by simp) ?_
  refine d_cons 6 f56r3Op6 (ls 16 2047) (fun K hK => ?_) ?_
  · skip
    refine k_call hK hO (fun _ hO => ⟨hO.row _ h2, hO.row _ h3, trivial⟩) 36 #[.agg e27, .agg e30] (.agg e31) r31 ?_
    intro w11 hO
    refine wpAnyH_ready (rs := [11, 12, 13]) (by kernel_rfl) (by simp) ?_
    refine d_cons 11 f56r3Op11 (ls 16 4095) (fun K hK => ?_) ?_
    · skip
      refine k_call hK hO (fun _ hO => ⟨hO.row _ h2, hO.row _ h3, trivial⟩) 37 #[.agg e33, .agg e35] (.agg e36) r36 ?_
      intro w12 hO
      refine wpAnyH_ready (rs := [12, 13]) (by kernel_rfl) (by simp) ?_
      refine d_cons 12 f56r3Op12 (ls 16 8191) (fun K hK => ?_) ?_
      · skip
        refine k_new hK hO (arr 4 (limb 0)) 39 (al27 rfl) (fit_fe _) (fun _ _ hO => ⟨hO.row _ (gs h2), hO.row _ (gs h3), trivial⟩) ?_
        intro n9 w13 hO
        exact d_fr _ _ (s2 n9 _ hO)
      refine d_cons 13 f56r3Op13 (ls 16 12287) (fun K hK => ?_) ?_
      · skip
        refine k_new hK hO (arr 4 (limb 0)) 39 (al27 rfl) (fit_fe _) (fun _ _ hO => ⟨hO.row _ (gs h2), hO.row _ (gs h3), trivial⟩) ?_
        intro n10 w14 hO
        exact d_fr _ _ (s1 n10 _ hO)
      exact AllReadyH.nil
    refine d_cons 12 f56r3Op12 (ls 16 6143) (fun K hK => ?_) ?_
    · skip
      refine k_new hK hO (arr 4 (limb 0)) 39 (al27 rfl) (fit_fe _) (fun _ _ hO => ⟨hO.row _ (gs h2), hO.row _ (gs h3), trivial⟩) ?_
      intro n9 w15 hO
      exact d_fr _ _ (s4 n9 _ hO)
    refine d_cons 13 f56r3Op13 (ls 16 10239) (fun K hK => ?_) ?_
    · skip
      refine k_new hK hO (arr 4 (limb 0)) 39 (al27 rfl) (fit_fe _) (fun _ _ hO => ⟨hO.row _ (gs h2), hO.row _ (gs h3), trivial⟩) ?_
      intro n10 w16 hO
      exact d_fr _ _ (s5 n10 _ hO)
    exact AllReadyH.nil
  refine d_cons 12 f56r3Op12 (ls 16 6079) (fun K hK => ?_) ?_
  · skip
    refine k_new hK hO (arr 4 (limb 0)) 39 (al27 rfl) (fit_fe _) (fun _ _ hO => ⟨hO.row _ (gs h2), hO.row _ (gs h3), trivial⟩) ?_
    intro n9 w17 hO
    refine wpAnyH_ready (rs := [6, 13]) (by kernel_rfl) (by simp) ?_
    refine d_cons 6 f56r3Op6 (ls 16 6143) (fun K hK => ?_) ?_
    · skip
      refine k_call hK hO (fun _ hO => ⟨hO.row _ (gs h2), hO.row _ (gs h3), trivial⟩) 36 #[.agg e27, .agg e30] (.agg e31) r31 ?_
      intro w18 hO
      exact d_fr _ _ (s4 n9 _ hO)
    refine d_cons 13 f56r3Op13 (ls 16 14271) (fun K hK => ?_) ?_
    · skip
      refine k_new hK hO (arr 4 (limb 0)) 39 (al27 rfl) (fit_fe _) (fun _ _ hO => ⟨hO.row _ (gs (gs h2)), hO.row _ (gs (gs h3)), trivial⟩) ?_
      intro n10 w19 hO
      exact d_fr _ _ (s6 n9 n10 _ hO)
    exact AllReadyH.nil
  refine d_cons 13 f56r3Op13 (ls 16 10175) (fun K hK => ?_) ?_
  · skip
    refine k_new hK hO (arr 4 (limb 0)) 39 (al27 rfl) (fit_fe _) (fun _ _ hO => ⟨hO.row _ (gs h2), hO.row _ (gs h3), trivial⟩) ?_
    intro n10 w20 hO
    refine wpAnyH_ready (rs := [6, 12]) (by kernel_rfl) (by simp) ?_
    refine d_cons 6 f56r3Op6 (ls 16 10239) (fun K hK => ?_) ?_
    · skip
      refine k_call hK hO (fun _ hO => ⟨hO.row _ (gs h2), hO.row _ (gs h3), trivial⟩) 36 #[.agg e27, .agg e30] (.agg e31) r31 ?_
      intro w21 hO
      exact d_fr _ _ (s5 n10 _ hO)
    refine d_cons 12 f56r3Op12 (ls 16 14271) (fun K hK => ?_) ?_
    · skip
      refine k_new hK hO (arr 4 (limb 0)) 39 (al27 rfl) (fit_fe _) (fun _ _ hO => ⟨hO.row _ (gs (gs h2)), hO.row _ (gs (gs h3)), trivial⟩) ?_
      intro n9 w22 hO
      replace hO := hO.perm swap1
      exact d_fr _ _ (s6 n9 n10 _ hO)
    exact AllReadyH.nil
  exact AllReadyH.nil
def f56r4Op0 : Oper := ⟨some 37, .load 39 (.tmp 7), 39, "edwards.go:120", #[], none⟩
def f56r4Op1 : Oper := ⟨some 38, .load 39 (.tmp 8), 39, "edwards.go:120", #[], none⟩
def f56r4Op2 : Oper := ⟨some 39, .call { callee := .value (.func 34), args := #[.tmp 37, .tmp 38], argTypes := #[39, 39] }, 39, "edwards.go:120", #[⟨0, .data⟩, ⟨1, .data⟩], none⟩
def f56r4Op3 : Oper := ⟨some 40, .load 39 (.tmp 9), 39, "edwards.go:120", #[], none⟩
def f56r4Op4 : Oper := ⟨some 41, .load 39 (.tmp 10), 39, "edwards.go:120", #[], none⟩
def f56r4Op5 : Oper := ⟨some 42, .call { callee := .value (.func 34), args := #[.tmp 40, .tmp 41], argTypes := #[39, 39] }, 39, "edwards.go:120", #[⟨3, .data⟩, ⟨4, .data⟩, ⟨2, .chain⟩], none⟩
def f56r4Op6 : Oper := ⟨some 43, .load 39 (.tmp 9), 39, "edwards.go:120", #[], none⟩
def f56r4Op7 : Oper := ⟨some 44, .load 39 (.tmp 10), 39, "edwards.go:120", #[], none⟩
def f56r4Op8 : Oper := ⟨some 45, .call { callee := .value (.func 36), args := #[.tmp 43, .tmp 44], argTypes := #[39, 39] }, 39, "edwards.go:120", #[⟨6, .data⟩, ⟨7, .data⟩, ⟨5, .chain⟩], none⟩
def f56r4Op9 : Oper := ⟨some 46, .load 39 (.tmp 7), 39, "edwards.go:120", #[], none⟩
def f56r4Op10 : Oper := ⟨some 47, .load 39 (.tmp 8), 39, "edwards.go:120", #[], none⟩
def f56r4Op11 : Oper := ⟨some 48, .call { callee := .value (.func 36), args := #[.tmp 46, .tmp 47], argTypes := #[39, 39] }, 39, "edwards.go:120", #[⟨9, .data⟩, ⟨10, .data⟩, ⟨8, .chain⟩], none⟩
def f56r4Op12 : Oper := ⟨some 49, .call { callee := .value (.func 81), args := #[.tmp 39, .tmp 42, .tmp 45, .tmp 48], argTypes := #[39, 39, 39, 39] }, 109, "edwards.go:120", #[⟨2, .data⟩, ⟨5, .data⟩, ⟨8, .data⟩, ⟨11, .data⟩, ⟨11, .chain⟩], none⟩
def f56r4Op13 : Oper := ⟨none, .store 109 (.tmp 4) (.tmp 49), 0, "edwards.go:120", #[⟨12, .data⟩, ⟨12, .chain⟩, ⟨0, .phase⟩, ⟨1, .phase⟩, ⟨2, .phase⟩, ⟨3, .phase⟩, ⟨4, .phase⟩, ⟨5, .phase⟩, ⟨6, .phase⟩, ⟨7, .phase⟩, ⟨8, .phase⟩, ⟨9, .phase⟩, ⟨10, .phase⟩, ⟨11, .phase⟩, ⟨12, .phase⟩], none⟩
def f56r4Ops : Array Oper := #[f56r4Op0, f56r4Op1, f56r4Op2, f56r4Op3, f56r4Op4, f56r4Op5, f56r4Op6, f56r4Op7, f56r4Op8, f56r4Op9, f56r4Op10, f56r4Op11, f56r4Op12, f56r4Op13]
set_option maxHeartbeats 2000000 in
theorem f56r4_r {Q : Exit → Act → World → Prop} {u w : World} {L : List Row} {z0 z1 z2 z3 z5 z6 z11 z12 z13 z14 z15 z16 z17 z18 z19 z20 z21 z22 z23 z24 z25 z26 z27 z28 z29 z30 z31 z32 z33 z34 z35 z36 z37 z38 z39 z40 z41 z42 z43 z44 z45 z46 z47 z48 z49 : Value} {b4 b7 b8 b9 b10 : Nat} {c4 c7 c8 c9 c10 : Array Value} {e39 e42 e45 e48 e49 : Array Value} (hQ : ∀ c a w n v, Q (.panic c) (a.put (some n) v) w → Q (.panic c) a w) (hO : Own u w L) (i4 : Nat) (h4 : L[i4]? = some (b4, c4, 109)) (i7 : Nat) (h7 : L[i7]? = some (b7, c7, 39)) (i8 : Nat) (h8 : L[i8]? = some (b8, c8, 39)) (i9 : Nat) (h9 : L[i9]? = some (b9, c9, 39)) (i10 : Nat) (h10 : L[i10]? = some (b10, c10, 39)) (e4_7 : i4 ≠ i7) (e4_8 : i4 ≠ i8) (e4_9 : i4 ≠ i9) (e4_10 : i4 ≠ i10) (r39 : ∀ w, Ret 34 #[.agg c7, .agg c8] w (.agg e39)) (r42 : ∀ w, Ret 34 #[.agg c9, .agg c10] w (.agg e42)) (r45 : ∀ w, Ret 36 #[.agg c9, .agg c10] w (.agg e45)) (r48 : ∀ w, Ret 36 #[.agg c7, .agg c8] w (.agg e48)) (r49 : ∀ w, Ret 81 #[.agg e39, .agg e42, .agg e45, .agg e48] w (.agg e49)) (fe49_83 : Fit 109 e49) (H : ∀ (w' : World), Own u w' ((L.set i4 (b4, e49, 109))) → Q .normal { tmps := List.toArray (z0 :: z1 :: z2 :: z3 :: (.pointer (some ⟨b4, 0, none⟩)) :: z5 :: z6 :: (.pointer (some ⟨b7, 0, none⟩)) :: (.pointer (some ⟨b8, 0, none⟩)) :: (.pointer (some ⟨b9, 0, none⟩)) :: (.pointer (some ⟨b10, 0, none⟩)) :: z11 :: z12 :: z13 :: z14 :: z15 :: z16 :: z17 :: z18 :: z19 :: z20 :: z21 :: z22 :: z23 :: z24 :: z25 :: z26 :: z27 :: z28 :: z29 :: z30 :: z31 :: z32 :: z33 :: z34 :: z35 :: z36 :: (.agg c7) :: (.agg c8) :: (.agg e39) :: (.agg c9) :: (.agg c10) :: (.agg e42) :: (.agg c9) :: (.agg c10) :: (.agg e45) :: (.agg c7) :: (.agg c8) :: (.agg e48) :: (.agg e49) :: []), defers := [] } w') :
    (Code.region 4 f56r4Ops true).wp Tryd.prog Q { tmps := List.toArray (z0 :: z1 :: z2 :: z3 :: (.pointer (some ⟨b4, 0, none⟩)) :: z5 :: z6 :: (.pointer (some ⟨b7, 0, none⟩)) :: (.pointer (some ⟨b8, 0, none⟩)) :: (.pointer (some ⟨b9, 0, none⟩)) :: (.pointer (some ⟨b10, 0, none⟩)) :: z11 :: z12 :: z13 :: z14 :: z15 :: z16 :: z17 :: z18 :: z19 :: z20 :: z21 :: z22 :: z23 :: z24 :: z25 :: z26 :: z27 :: z28 :: z29 :: z30 :: z31 :: z32 :: z33 :: z34 :: z35 :: z36 :: z37 :: z38 :: z39 :: z40 :: z41 :: z42 :: z43 :: z44 :: z45 :: z46 :: z47 :: z48 :: z49 :: []), defers := [] } w := by
  have fc7_27 := hO.fits i7 h7
  have fc8_27 := hO.fits i8 h8
  have fc9_27 := hO.fits i9 h9
  have fc10_27 := hO.fits i10 h10
  refine wp_region_held_drew (S := Has [(b7, c7, 39), (b8, c8, 39), (b9, c9, 39), (b10, c10, 39)]) (by kernel_rfl) ⟨hO.drew.row _ h7, hO.drew.row _ h8, hO.drew.row _ h9, hO.drew.row _ h10, trivial⟩ (fun hS => ?_)
  replace hO := hO.drew
  refine d_tk 0 f56r4Op0 (.agg c7) hQ (y_l 39 (fun _ h => h.1) fc7_27 Tryd.underlying39) hS ?_
  refine d_tk 1 f56r4Op1 (.agg c8) hQ (y_l 39 (fun _ h => h.2.1) fc8_27 Tryd.underlying39) hS ?_
  refine d_tk 3 f56r4Op3 (.agg c9) hQ (y_l 39 (fun _ h => h.2.2.1) fc9_27 Tryd.underlying39) hS ?_
  refine d_fr (ls 14 11) (Fr [z0, z1, z2, z3, D b4, z5, z6, D b7, D b8, D b9, D b10, z11, z12, z13, z14, z15, z16, z17, z18, z19, z20, z21, z22, z23, z24, z25, z26, z27, z28, z29, z30, z31, z32, z33, z34, z35, z36, A c7, A c8, z39, A c9, z41, z42, z43, z44, z45, z46, z47, z48, z49] []) ?_
  refine d_tk 4 f56r4Op4 (.agg c10) hQ (y_l 39 (fun _ h => h.2.2.2.1) fc10_27 Tryd.underlying39) hS ?_
  refine d_tk 6 f56r4Op6 (.agg c9) hQ (y_l 39 (fun _ h => h.2.2.1) fc9_27 Tryd.underlying39) hS ?_
  refine d_tk 7 f56r4Op7 (.agg c10) hQ (y_l 39 (fun _ h => h.2.2.2.1) fc10_27 Tryd.underlying39) hS ?_
  refine d_fr (ls 14 219) (Fr [z0, z1, z2, z3, D b4, z5, z6, D b7, D b8, D b9, D b10, z11, z12, z13, z14, z15, z16, z17, z18, z19, z20, z21, z22, z23, z24, z25, z26, z27, z28, z29, z30, z31, z32, z33, z34, z35, z36, A c7, A c8, z39, A c9, A c10, z42, A c9, A c10, z45, z46, z47, z48, z49] []) ?_
  refine d_tk 9 f56r4Op9 (.agg c7) hQ (y_l 39 (fun _ h => h.1) fc7_27 Tryd.underlying39) hS ?_
  refine d_tk 10 f56r4Op10 (.agg c8) hQ (y_l 39 (fun _ h => h.2.1) fc8_27 Tryd.underlying39) hS ?_
  refine d_fr (ls 14 1755) (Fr [z0, z1, z2, z3, D b4, z5, z6, D b7, D b8, D b9, D b10, z11, z12, z13, z14, z15, z16, z17, z18, z19, z20, z21, z22, z23, z24, z25, z26, z27, z28, z29, z30, z31, z32, z33, z34, z35, z36, A c7, A c8, z39, A c9, A c10, z42, A c9, A c10, z45, A c7, A c8, z48, z49] []) ?_
  refine d_one 2 f56r4Op2 (ls 14 1759) (fun K hK => ?_)
  refine k_call hK hO (fun _ hO => ⟨hO.row _ h7, hO.row _ h8, hO.row _ h9, hO.row _ h10, trivial⟩) 34 #[.agg c7, .agg c8] (.agg e39) r39 ?_
  intro w1 hO
  refine d_one 5 f56r4Op5 (ls 14 1791) (fun K hK => ?_)
  refine k_call hK hO (fun _ hO => ⟨hO.row _ h7, hO.row _ h8, hO.row _ h9, hO.row _ h10, trivial⟩) 34 #[.agg c9, .agg c10] (.agg e42) r42 ?_
  intro w2 hO
  refine d_one 8 f56r4Op8 (ls 14 2047) (fun K hK => ?_)
  refine k_call hK hO (fun _ hO => ⟨hO.row _ h7, hO.row _ h8, hO.row _ h9, hO.row _ h10, trivial⟩) 36 #[.agg c9, .agg c10] (.agg e45) r45 ?_
  intro w3 hO
  refine d_fr (ls 14 2047) (Fr [z0, z1, z2, z3, D b4, z5, z6, D b7, D b8, D b9, D b10, z11, z12, z13, z14, z15, z16, z17, z18, z19, z20, z21, z22, z23, z24, z25, z26, z27, z28, z29, z30, z31, z32, z33, z34, z35, z36, A c7, A c8, A e39, A c9, A c10, A e42, A c9, A c10, A e45, A c7, A c8, z48, z49] []) ?_
  refine d_one 11 f56r4Op11 (ls 14 4095) (fun K hK => ?_)
  refine k_call hK hO (fun _ hO => ⟨hO.row _ h7, hO.row _ h8, hO.row _ h9, hO.row _ h10, trivial⟩) 36 #[.agg c7, .agg c8] (.agg e48) r48 ?_
  intro w4 hO
  refine d_one 12 f56r4Op12 (ls 14 8191) (fun K hK => ?_)
  refine k_call hK hO (fun _ hO => ⟨hO.row _ h7, hO.row _ h8, hO.row _ h9, hO.row _ h10, trivial⟩) 81 #[.agg e39, .agg e42, .agg e45, .agg e48] (.agg e49) r49 ?_
  intro w5 hO
  refine d_one 13 f56r4Op13 (ls 14 16383) (fun K hK => ?_)
  refine k_st hK hO 109 i4 h4 e49 fe49_83 (fun _ hO => ⟨hO.row _ (get_set h7 e4_7), hO.row _ (get_set h8 e4_8), hO.row _ (get_set h9 e4_9), hO.row _ (get_set h10 e4_10), trivial⟩) ?_
  intro w6 hO
  exact d_fr (ls 14 16383) _ (wpAnyH_done (by kernel_rfl) (H  _ hO) _)
/-- A sum, by what is asked of the second point. -/
def pl4 (x y z t s l b : Nat) : Q4 := (mm (sm (mm (am y x) s) (mm (sm y x) l)) (sm (am z z) (mm t b)), mm (am (am z z) (mm t b)) (am (mm (am y x) s) (mm (sm y x) l)), mm (sm (am z z) (mm t b)) (am (am z z) (mm t b)), mm (sm (mm (am y x) s) (mm (sm y x) l)) (am (mm (am y x) s) (mm (sm y x) l)))
set_option maxHeartbeats 4000000 in
theorem plus_c (x y z t s l b : Nat) (hx : x < pP) (hy : y < pP) (hz : z < pP) (ht : t < pP) (hs : s < pP) (hl : l < pP) (hb : b < pP) (w : World) : Ret 74 #[.agg (ps [x, y, z, t]), .agg (ps [s, l, b])] w (.agg (pq (pl4 x y z t s l b))) := by
  go_enter Tryd.func74, Tryd.ntmps74
  have hO := Own.start w
  go_upto_region 0 with (fail)
  refine f56r0_r hO (fit_ru _ _ _ _) (fit_ad _ _ _) ?_
  intro n2 n3 n4 w1 hO
  replace hO : Own w w1 [(n4, ps [0, 0, 0, 0], 109), (n3, ps [s, l, b], 81), (n2, ps [x, y, z, t], 109)] := hO
  go_upto_region 1 with (fail)
  refine f56r1_r hO 2 rfl (part_ruc _ _ _ _) (sides_c _ _ _ hx hy) (fit_fe _) (fit_fe _) ?_
  intro n5 n6 w2 hO
  replace hO : Own w w2 [(n6, arr 4 (limb (sm y x)), 39), (n5, arr 4 (limb (am y x)), 39), (n4, ps [0, 0, 0, 0], 109), (n3, ps [s, l, b], 81), (n2, ps [x, y, z, t], 109)] := hO
  go_upto_region 2 with (fail)
  refine f56r2_r (fun _ _ _ _ _ h => h) hO 3 rfl 1 rfl 0 rfl (part_co0 _ _ _) (mul_c _ _ (am_lt _ _) hs) (part_co1 _ _ _) (mul_c _ _ (sm_lt _ _) hl) (fit_fe _) (fit_fe _) ?_
  intro n7 n8 w3 hO
  replace hO : Own w w3 [(n8, arr 4 (limb (mm (sm y x) l)), 39), (n7, arr 4 (limb (mm (am y x) s)), 39), (n6, arr 4 (limb (sm y x)), 39), (n5, arr 4 (limb (am y x)), 39), (n4, ps [0, 0, 0, 0], 109), (n3, ps [s, l, b], 81), (n2, ps [x, y, z, t], 109)] := hO
  go_upto_region 3 with (fail)
  refine f56r3_r (fun _ _ _ _ _ h => h) hO 6 rfl 5 rfl (part_ru2 _ _ _ _) (part_ru2 _ _ _ _) (add_c _ _ hz hz) (part_ru3 _ _ _ _) (part_co2 _ _ _) (mul_c _ _ ht hb) (fit_fe _) (fit_fe _) ?_
  intro n9 n10 w4 hO
  replace hO : Own w w4 [(n10, arr 4 (limb (mm t b)), 39), (n9, arr 4 (limb (am z z)), 39), (n8, arr 4 (limb (mm (sm y x) l)), 39), (n7, arr 4 (limb (mm (am y x) s)), 39), (n6, arr 4 (limb (sm y x)), 39), (n5, arr 4 (limb (am y x)), 39), (n4, ps [0, 0, 0, 0], 109), (n3, ps [s, l, b], 81), (n2, ps [x, y, z, t], 109)] := hO
  go_upto_region 4 with (fail)
  refine f56r4_r (fun _ _ _ _ _ h => h) hO 6 rfl 3 rfl 2 rfl 1 rfl 0 rfl (by decide) (by decide) (by decide) (by decide) (sub_c _ _ (mm_lt _ _) (mm_lt _ _)) (sub_c _ _ (am_lt _ _) (mm_lt _ _)) (add_c _ _ (am_lt _ _) (mm_lt _ _)) (add_c _ _ (mm_lt _ _) (mm_lt _ _)) (joined_c _ _ _ _ (sm_lt _ _) (sm_lt _ _) (am_lt _ _) (am_lt _ _)) (fit_ru _ _ _ _) ?_
  intro w5 hO
  replace hO : Own w w5 [(n10, arr 4 (limb (mm t b)), 39), (n9, arr 4 (limb (am z z)), 39), (n8, arr 4 (limb (mm (sm y x) l)), 39), (n7, arr 4 (limb (mm (am y x) s)), 39), (n6, arr 4 (limb (sm y x)), 39), (n5, arr 4 (limb (am y x)), 39), (n4, ps [mm (sm (mm (am y x) s) (mm (sm y x) l)) (sm (am z z) (mm t b)), mm (am (am z z) (mm t b)) (am (mm (am y x) s) (mm (sm y x) l)), mm (sm (am z z) (mm t b)) (am (am z z) (mm t b)), mm (sm (mm (am y x) s) (mm (sm y x) l)) (am (mm (am y x) s) (mm (sm y x) l))], 109), (n3, ps [s, l, b], 81), (n2, ps [x, y, z, t], 109)] := hO
  go_wp2_with fail
  refine bodyPost_ret (v := .agg (ps [mm (sm (mm (am y x) s) (mm (sm y x) l)) (sm (am z z) (mm t b)), mm (am (am z z) (mm t b)) (am (mm (am y x) s) (mm (sm y x) l)), mm (sm (am z z) (mm t b)) (am (am z z) (mm t b)), mm (sm (mm (am y x) s) (mm (sm y x) l)) (am (mm (am y x) s) (mm (sm y x) l))])) (results_cell_row Tryd.results74 _ _ n4 109 _ (0, 0) _ rfl (hO.row 6 rfl) Tryd.underlying109 rfl (fit_ru _ _ _ _).size) rfl ⟨rfl, hO.low⟩
def f80r0Op0 : Oper := ⟨some 3, .box 84 (.tmp 0), 0, "edwards.go:147", #[], none⟩
def f80r0Op1 : Oper := ⟨some 5, .box 81 (.tmp 2), 0, "edwards.go:147", #[], none⟩
def f80r0Op2 : Oper := ⟨some 6, .alloc 81, 0, "edwards.go:147", #[], none⟩
def f80r0Ops : Array Oper := #[f80r0Op0, f80r0Op1, f80r0Op2]
set_option maxHeartbeats 2000000 in
theorem f80r0_r {Q : Exit → Act → World → Prop} {u w : World} {L : List Row} {z1 z3 z4 z5 z6 : Value} {zz : List Value} {e0 e2 : Array Value} (hO : Own u w L) (fe0_95 : Fit 84 e0) (fe2_87 : Fit 81 e2) (H : ∀ (n3 : Nat) (n5 : Nat) (n6 : Nat) (w' : World), Own u w' ((n6, ps [0, 0, 0], 81) :: (n5, e2, 81) :: (n3, e0, 84) :: L) → Q .normal { tmps := List.toArray ((.agg e0) :: z1 :: (.agg e2) :: (.pointer (some ⟨n3, 0, none⟩)) :: z4 :: (.pointer (some ⟨n5, 0, none⟩)) :: (.pointer (some ⟨n6, 0, none⟩)) :: zz), defers := [] } w') :
    (Code.region 0 f80r0Ops false).wp Tryd.prog Q { tmps := List.toArray ((.agg e0) :: z1 :: (.agg e2) :: z3 :: z4 :: z5 :: z6 :: zz), defers := [] } w := by
  refine wp_region_list (show wpList _ f80r0Ops _ [f80r0Op0, f80r0Op1, f80r0Op2] _ _ from ?_)
  refine l_new hO (e0) 84 (run_box 84 _ rfl _ (by kernel_rfl)) fe0_95 ?_
  intro n3 w1 hO
  refine l_new hO (e2) 81 (run_box 81 _ rfl _ (by kernel_rfl)) fe2_87 ?_
  intro n5 w2 hO
  refine l_new hO (ps [0, 0, 0]) 81 (al87 rfl) (fit_ad _ _ _) ?_
  intro n6 w3 hO
  exact l_fr _ (wpList_nil (H n3 n5 n6 _ hO))
def f80r1Op0 : Oper := ⟨some 8, .fieldAddr 84 (.tmp 3) 0, 0, "edwards.go:148", #[], none⟩
def f80r1Op1 : Oper := ⟨some 9, .load 22 (.tmp 8), 22, "edwards.go:148", #[⟨0, .data⟩], none⟩
def f80r1Op2 : Oper := ⟨some 10, .move (.tmp 1), 3, "edwards.go:148", #[], none⟩
def f80r1Op3 : Oper := ⟨some 11, .call { callee := .value (.func 29), args := #[.tmp 9, .tmp 10], argTypes := #[22, 3] }, 4, "edwards.go:148", #[⟨1, .data⟩, ⟨2, .data⟩], none⟩
def f80r1Op4 : Oper := ⟨some 7, .assign (.tmp 11), 4, "edwards.go:148", #[⟨3, .data⟩, ⟨3, .chain⟩, ⟨0, .phase⟩, ⟨1, .phase⟩, ⟨2, .phase⟩, ⟨3, .phase⟩], none⟩
def f80r1Ops : Array Oper := #[f80r1Op0, f80r1Op1, f80r1Op2, f80r1Op3, f80r1Op4]
set_option maxHeartbeats 2000000 in
theorem f80r1_r {Q : Exit → Act → World → Prop} {u w : World} {L : List Row} {z0 z2 z4 z5 z6 z7 z8 z9 z10 z11 : Value} {x1 : Value} {zz : List Value} {b3 : Nat} {c3 : Array Value} {e9 : Array Value} {p11 : Bool} (hO : Own u w L) (i3 : Nat) (h3 : L[i3]? = some (b3, c3, 84)) (q9 : Part c3 0 22 e9) (r11 : ∀ w, Ret 29 #[.agg e9, x1] w (.bool p11)) (H : ∀ (w' : World), Own u w' (L) → Q .normal { tmps := List.toArray (z0 :: x1 :: z2 :: (.pointer (some ⟨b3, 0, none⟩)) :: z4 :: z5 :: z6 :: (.bool p11) :: (.pointer (some ⟨b3, 0, none⟩)) :: (.agg e9) :: x1 :: (.bool p11) :: zz), defers := [] } w') :
    (Code.region 1 f80r1Ops false).wp Tryd.prog Q { tmps := List.toArray (z0 :: x1 :: z2 :: (.pointer (some ⟨b3, 0, none⟩)) :: z4 :: z5 :: z6 :: z7 :: z8 :: z9 :: z10 :: z11 :: zz), defers := [] } w := by
  refine wp_region_list (show wpList _ f80r1Ops _ [f80r1Op0, f80r1Op1, f80r1Op2, f80r1Op3, f80r1Op4] _ _ from ?_)
  refine l_val (.pointer (some ⟨b3, 0, none⟩)) (by kernel_rfl) ?_
  refine l_part hO 22 i3 h3 q9 Tryd.underlying22 ?_
  refine l_val (x1) (by kernel_rfl) ?_
  refine l_fr (Fr [z0, x1, z2, D b3, z4, z5, z6, z7, .pointer (some ⟨b3, 0, none⟩), A e9, x1, z11] zz) ?_
  refine l_call hO 29 #[.agg e9, x1] (.bool p11) r11 ?_
  intro w1 hO
  refine l_val (.bool p11) (by kernel_rfl) ?_
  exact l_fr _ (wpList_nil (H  _ hO))
def f80r2Op0 : Oper := ⟨some 12, .fieldAddr 84 (.tmp 3) 1, 0, "edwards.go:149", #[], none⟩
def f80r2Op1 : Oper := ⟨some 13, .fieldAddr 81 (.tmp 12) 0, 0, "edwards.go:149", #[⟨0, .data⟩], none⟩
def f80r2Op2 : Oper := ⟨some 14, .load 39 (.tmp 13), 39, "edwards.go:149", #[⟨1, .data⟩], none⟩
def f80r2Op3 : Oper := ⟨some 15, .fieldAddr 81 (.tmp 5) 0, 0, "edwards.go:149", #[], none⟩
def f80r2Op4 : Oper := ⟨some 16, .load 39 (.tmp 15), 39, "edwards.go:149", #[⟨3, .data⟩], none⟩
def f80r2Op5 : Oper := ⟨some 17, .move (.tmp 7), 4, "edwards.go:149", #[], none⟩
def f80r2Op6 : Oper := ⟨some 18, .call { callee := .value (.func 41), args := #[.tmp 14, .tmp 16, .tmp 17], argTypes := #[39, 39, 4] }, 39, "edwards.go:150", #[⟨2, .data⟩, ⟨4, .data⟩, ⟨5, .data⟩], none⟩
def f80r2Op7 : Oper := ⟨some 19, .fieldAddr 84 (.tmp 3) 1, 0, "edwards.go:149", #[], none⟩
def f80r2Op8 : Oper := ⟨some 20, .fieldAddr 81 (.tmp 19) 1, 0, "edwards.go:149", #[⟨7, .data⟩], none⟩
def f80r2Op9 : Oper := ⟨some 21, .load 39 (.tmp 20), 39, "edwards.go:149", #[⟨8, .data⟩], none⟩
def f80r2Op10 : Oper := ⟨some 22, .fieldAddr 81 (.tmp 5) 1, 0, "edwards.go:149", #[], none⟩
def f80r2Op11 : Oper := ⟨some 23, .load 39 (.tmp 22), 39, "edwards.go:149", #[⟨10, .data⟩], none⟩
def f80r2Op12 : Oper := ⟨some 24, .move (.tmp 7), 4, "edwards.go:149", #[], none⟩
def f80r2Op13 : Oper := ⟨some 25, .call { callee := .value (.func 41), args := #[.tmp 21, .tmp 23, .tmp 24], argTypes := #[39, 39, 4] }, 39, "edwards.go:151", #[⟨9, .data⟩, ⟨11, .data⟩, ⟨12, .data⟩, ⟨6, .chain⟩], none⟩
def f80r2Op14 : Oper := ⟨some 26, .fieldAddr 84 (.tmp 3) 1, 0, "edwards.go:149", #[], none⟩
def f80r2Op15 : Oper := ⟨some 27, .fieldAddr 81 (.tmp 26) 2, 0, "edwards.go:149", #[⟨14, .data⟩], none⟩
def f80r2Op16 : Oper := ⟨some 28, .load 39 (.tmp 27), 39, "edwards.go:149", #[⟨15, .data⟩], none⟩
def f80r2Op17 : Oper := ⟨some 29, .fieldAddr 81 (.tmp 5) 2, 0, "edwards.go:149", #[], none⟩
def f80r2Op18 : Oper := ⟨some 30, .load 39 (.tmp 29), 39, "edwards.go:149", #[⟨17, .data⟩], none⟩
def f80r2Op19 : Oper := ⟨some 31, .move (.tmp 7), 4, "edwards.go:149", #[], none⟩
def f80r2Op20 : Oper := ⟨some 32, .call { callee := .value (.func 41), args := #[.tmp 28, .tmp 30, .tmp 31], argTypes := #[39, 39, 4] }, 39, "edwards.go:152", #[⟨16, .data⟩, ⟨18, .data⟩, ⟨19, .data⟩, ⟨13, .chain⟩], none⟩
def f80r2Op21 : Oper := ⟨some 33, .build 81 #[(0, .tmp 18), (1, .tmp 25), (2, .tmp 32)], 81, "edwards.go:149", #[⟨6, .data⟩, ⟨13, .data⟩, ⟨20, .data⟩], none⟩
def f80r2Op22 : Oper := ⟨none, .store 81 (.tmp 6) (.tmp 33), 0, "edwards.go:149", #[⟨21, .data⟩, ⟨20, .chain⟩, ⟨0, .phase⟩, ⟨1, .phase⟩, ⟨2, .phase⟩, ⟨3, .phase⟩, ⟨4, .phase⟩, ⟨5, .phase⟩, ⟨6, .phase⟩, ⟨7, .phase⟩, ⟨8, .phase⟩, ⟨9, .phase⟩, ⟨10, .phase⟩, ⟨11, .phase⟩, ⟨12, .phase⟩, ⟨13, .phase⟩, ⟨14, .phase⟩, ⟨15, .phase⟩, ⟨16, .phase⟩, ⟨17, .phase⟩, ⟨18, .phase⟩, ⟨19, .phase⟩, ⟨20, .phase⟩, ⟨21, .phase⟩], none⟩
def f80r2Ops : Array Oper := #[f80r2Op0, f80r2Op1, f80r2Op2, f80r2Op3, f80r2Op4, f80r2Op5, f80r2Op6, f80r2Op7, f80r2Op8, f80r2Op9, f80r2Op10, f80r2Op11, f80r2Op12, f80r2Op13, f80r2Op14, f80r2Op15, f80r2Op16, f80r2Op17, f80r2Op18, f80r2Op19, f80r2Op20, f80r2Op21, f80r2Op22]
set_option maxHeartbeats 2000000 in
theorem f80r2_r {Q : Exit → Act → World → Prop} {u w : World} {L : List Row} {z0 z1 z2 z4 z8 z9 z10 z11 z12 z13 z14 z15 z16 z17 z18 z19 z20 z21 z22 z23 z24 z25 z26 z27 z28 z29 z30 z31 z32 z33 : Value} {x7 : Value} {b3 b5 b6 : Nat} {c3 c5 c6 : Array Value} {e14 e16 e18 e21 e23 e25 e28 e30 e32 e33 : Array Value} (hQ : ∀ c a w n v, Q (.panic c) (a.put (some n) v) w → Q (.panic c) a w) (hO : Own u w L) (i3 : Nat) (h3 : L[i3]? = some (b3, c3, 84)) (i5 : Nat) (h5 : L[i5]? = some (b5, c5, 81)) (i6 : Nat) (h6 : L[i6]? = some (b6, c6, 81)) (e6_3 : i6 ≠ i3) (e6_5 : i6 ≠ i5) (q14 : Part c3 32 39 e14) (q16 : Part c5 0 39 e16) (r18 : ∀ w, Ret 41 #[.agg e14, .agg e16, x7] w (.agg e18)) (q21 : Part c3 36 39 e21) (q23 : Part c5 4 39 e23) (r25 : ∀ w, Ret 41 #[.agg e21, .agg e23, x7] w (.agg e25)) (q28 : Part c3 40 39 e28) (q30 : Part c5 8 39 e30) (r32 : ∀ w, Ret 41 #[.agg e28, .agg e30, x7] w (.agg e32)) (q33 : Tryd.prog.built 81 [(0, .agg e18), (1, .agg e25), (2, .agg e32)] = some e33) (fe33_87 : Fit 81 e33) (H : ∀ (w' : World), Own u w' ((L.set i6 (b6, e33, 81))) → Q .normal { tmps := List.toArray (z0 :: z1 :: z2 :: (.pointer (some ⟨b3, 0, none⟩)) :: z4 :: (.pointer (some ⟨b5, 0, none⟩)) :: (.pointer (some ⟨b6, 0, none⟩)) :: x7 :: z8 :: z9 :: z10 :: z11 :: (.pointer (some ⟨b3, 32, none⟩)) :: (.pointer (some ⟨b3, 32, none⟩)) :: (.agg e14) :: (.pointer (some ⟨b5, 0, none⟩)) :: (.agg e16) :: x7 :: (.agg e18) :: (.pointer (some ⟨b3, 32, none⟩)) :: (.pointer (some ⟨b3, 36, none⟩)) :: (.agg e21) :: (.pointer (some ⟨b5, 4, none⟩)) :: (.agg e23) :: x7 :: (.agg e25) :: (.pointer (some ⟨b3, 32, none⟩)) :: (.pointer (some ⟨b3, 40, none⟩)) :: (.agg e28) :: (.pointer (some ⟨b5, 8, none⟩)) :: (.agg e30) :: x7 :: (.agg e32) :: (.agg e33) :: []), defers := [] } w') :
    (Code.region 2 f80r2Ops true).wp Tryd.prog Q { tmps := List.toArray (z0 :: z1 :: z2 :: (.pointer (some ⟨b3, 0, none⟩)) :: z4 :: (.pointer (some ⟨b5, 0, none⟩)) :: (.pointer (some ⟨b6, 0, none⟩)) :: x7 :: z8 :: z9 :: z10 :: z11 :: z12 :: z13 :: z14 :: z15 :: z16 :: z17 :: z18 :: z19 :: z20 :: z21 :: z22 :: z23 :: z24 :: z25 :: z26 :: z27 :: z28 :: z29 :: z30 :: z31 :: z32 :: z33 :: []), defers := [] } w := by
  refine wp_region_held_drew (S := Has [(b3, c3, 84), (b5, c5, 81)]) (by kernel_rfl) ⟨hO.drew.row _ h3, hO.drew.row _ h5, trivial⟩ (fun hS => ?_)
  replace hO := hO.drew
  refine d_tk 0 f80r2Op0 (.pointer (some ⟨b3, 32, none⟩)) hQ (y_val (fun _ => by kernel_rfl)) hS ?_
  refine d_tk 1 f80r2Op1 (.pointer (some ⟨b3, 32, none⟩)) hQ (y_val (fun _ => by kernel_rfl)) hS ?_
  refine d_tk 2 f80r2Op2 (.agg e14) hQ (y_p 39 (fun _ h => h.1) q14 Tryd.underlying39) hS ?_
  refine d_fr (ls 23 7) (Fr [z0, z1, z2, D b3, z4, D b5, D b6, x7, z8, z9, z10, z11, .pointer (some ⟨b3, 32, none⟩), .pointer (some ⟨b3, 32, none⟩), A e14, z15, z16, z17, z18, z19, z20, z21, z22, z23, z24, z25, z26, z27, z28, z29, z30, z31, z32, z33] []) ?_
  refine d_tk 3 f80r2Op3 (.pointer (some ⟨b5, 0, none⟩)) hQ (y_val (fun _ => by kernel_rfl)) hS ?_
  refine d_tk 4 f80r2Op4 (.agg e16) hQ (y_p 39 (fun _ h => h.2.1) q16 Tryd.underlying39) hS ?_
  refine d_tk 5 f80r2Op5 (x7) hQ (y_val (fun _ => by kernel_rfl)) hS ?_
  refine d_fr (ls 23 63) (Fr [z0, z1, z2, D b3, z4, D b5, D b6, x7, z8, z9, z10, z11, .pointer (some ⟨b3, 32, none⟩), .pointer (some ⟨b3, 32, none⟩), A e14, .pointer (some ⟨b5, 0, none⟩), A e16, x7, z18, z19, z20, z21, z22, z23, z24, z25, z26, z27, z28, z29, z30, z31, z32, z33] []) ?_
  refine d_tk 7 f80r2Op7 (.pointer (some ⟨b3, 32, none⟩)) hQ (y_val (fun _ => by kernel_rfl)) hS ?_
  refine d_tk 8 f80r2Op8 (.pointer (some ⟨b3, 36, none⟩)) hQ (y_val (fun _ => by kernel_rfl)) hS ?_
  refine d_tk 9 f80r2Op9 (.agg e21) hQ (y_p 39 (fun _ h => h.1) q21 Tryd.underlying39) hS ?_
  refine d_fr (ls 23 959) (Fr [z0, z1, z2, D b3, z4, D b5, D b6, x7, z8, z9, z10, z11, .pointer (some ⟨b3, 32, none⟩), .pointer (some ⟨b3, 32, none⟩), A e14, .pointer (some ⟨b5, 0, none⟩), A e16, x7, z18, .pointer (some ⟨b3, 32, none⟩), .pointer (some ⟨b3, 36, none⟩), A e21, z22, z23, z24, z25, z26, z27, z28, z29, z30, z31, z32, z33] []) ?_
  refine d_tk 10 f80r2Op10 (.pointer (some ⟨b5, 4, none⟩)) hQ (y_val (fun _ => by kernel_rfl)) hS ?_
  refine d_tk 11 f80r2Op11 (.agg e23) hQ (y_p 39 (fun _ h => h.2.1) q23 Tryd.underlying39) hS ?_
  refine d_tk 12 f80r2Op12 (x7) hQ (y_val (fun _ => by kernel_rfl)) hS ?_
  refine d_fr (ls 23 8127) (Fr [z0, z1, z2, D b3, z4, D b5, D b6, x7, z8, z9, z10, z11, .pointer (some ⟨b3, 32, none⟩), .pointer (some ⟨b3, 32, none⟩), A e14, .pointer (some ⟨b5, 0, none⟩), A e16, x7, z18, .pointer (some ⟨b3, 32, none⟩), .pointer (some ⟨b3, 36, none⟩), A e21, .pointer (some ⟨b5, 4, none⟩), A e23, x7, z25, z26, z27, z28, z29, z30, z31, z32, z33] []) ?_
  refine d_tk 14 f80r2Op14 (.pointer (some ⟨b3, 32, none⟩)) hQ (y_val (fun _ => by kernel_rfl)) hS ?_
  refine d_tk 15 f80r2Op15 (.pointer (some ⟨b3, 40, none⟩)) hQ (y_val (fun _ => by kernel_rfl)) hS ?_
  refine d_tk 16 f80r2Op16 (.agg e28) hQ (y_p 39 (fun _ h => h.1) q28 Tryd.underlying39) hS ?_
  refine d_fr (ls 23 122815) (Fr [z0, z1, z2, D b3, z4, D b5, D b6, x7, z8, z9, z10, z11, .pointer (some ⟨b3, 32, none⟩), .pointer (some ⟨b3, 32, none⟩), A e14, .pointer (some ⟨b5, 0, none⟩), A e16, x7, z18, .pointer (some ⟨b3, 32, none⟩), .pointer (some ⟨b3, 36, none⟩), A e21, .pointer (some ⟨b5, 4, none⟩), A e23, x7, z25, .pointer (some ⟨b3, 32, none⟩), .pointer (some ⟨b3, 40, none⟩), A e28, z29, z30, z31, z32, z33] []) ?_
  refine d_tk 17 f80r2Op17 (.pointer (some ⟨b5, 8, none⟩)) hQ (y_val (fun _ => by kernel_rfl)) hS ?_
  refine d_tk 18 f80r2Op18 (.agg e30) hQ (y_p 39 (fun _ h => h.2.1) q30 Tryd.underlying39) hS ?_
  refine d_tk 19 f80r2Op19 (x7) hQ (y_val (fun _ => by kernel_rfl)) hS ?_
  refine d_fr (ls 23 1040319) (Fr [z0, z1, z2, D b3, z4, D b5, D b6, x7, z8, z9, z10, z11, .pointer (some ⟨b3, 32, none⟩), .pointer (some ⟨b3, 32, none⟩), A e14, .pointer (some ⟨b5, 0, none⟩), A e16, x7, z18, .pointer (some ⟨b3, 32, none⟩), .pointer (some ⟨b3, 36, none⟩), A e21, .pointer (some ⟨b5, 4, none⟩), A e23, x7, z25, .pointer (some ⟨b3, 32, none⟩), .pointer (some ⟨b3, 40, none⟩), A e28, .pointer (some ⟨b5, 8, none⟩), A e30, x7, z32, z33] []) ?_
  refine d_one 6 f80r2Op6 (ls 23 1040383) (fun K hK => ?_)
  refine k_call hK hO (fun _ hO => ⟨hO.row _ h3, hO.row _ h5, trivial⟩) 41 #[.agg e14, .agg e16, x7] (.agg e18) r18 ?_
  intro w1 hO
  refine d_one 13 f80r2Op13 (ls 23 1048575) (fun K hK => ?_)
  refine k_call hK hO (fun _ hO => ⟨hO.row _ h3, hO.row _ h5, trivial⟩) 41 #[.agg e21, .agg e23, x7] (.agg e25) r25 ?_
  intro w2 hO
  refine d_one 20 f80r2Op20 (ls 23 2097151) (fun K hK => ?_)
  refine k_call hK hO (fun _ hO => ⟨hO.row _ h3, hO.row _ h5, trivial⟩) 41 #[.agg e28, .agg e30, x7] (.agg e32) r32 ?_
  intro w3 hO
  have hS : Has [(b3, c3, 84), (b5, c5, 81)] _ := ⟨hO.row _ h3, hO.row _ h5, trivial⟩
  refine d_tk 21 f80r2Op21 (.agg e33) hQ (y_val (run_bd 81 _ rfl [(0, .agg e18), (1, .agg e25), (2, .agg e32)] (by kernel_rfl) e33 q33)) hS ?_
  refine d_fr (ls 23 4194303) (Fr [z0, z1, z2, D b3, z4, D b5, D b6, x7, z8, z9, z10, z11, .pointer (some ⟨b3, 32, none⟩), .pointer (some ⟨b3, 32, none⟩), A e14, .pointer (some ⟨b5, 0, none⟩), A e16, x7, A e18, .pointer (some ⟨b3, 32, none⟩), .pointer (some ⟨b3, 36, none⟩), A e21, .pointer (some ⟨b5, 4, none⟩), A e23, x7, A e25, .pointer (some ⟨b3, 32, none⟩), .pointer (some ⟨b3, 40, none⟩), A e28, .pointer (some ⟨b5, 8, none⟩), A e30, x7, A e32, A e33] []) ?_
  refine d_one 22 f80r2Op22 (ls 23 8388607) (fun K hK => ?_)
  refine k_st hK hO 81 i6 h6 e33 fe33_87 (fun _ hO => ⟨hO.row _ (get_set h3 e6_3), hO.row _ (get_set h5 e6_5), trivial⟩) ?_
  intro w4 hO
  exact wpAnyH_done (by kernel_rfl) (H  _ hO) _
set_option maxHeartbeats 4000000 in
theorem at_c (f : Nat → Nat) (i s l b s2 l2 b2 : Nat) (hf : ∀ i, f i < 256) (hi : i < 256) (w : World) : Ret 75 #[.agg (mu f [s, l, b]), .int .i64 ((i : Nat) : Int), .agg (ps [s2, l2, b2])] w (.agg (ps [cond ((nb f 32).testBit i) s s2, cond ((nb f 32).testBit i) l l2, cond ((nb f 32).testBit i) b b2])) := by
  go_enter Tryd.func75, Tryd.ntmps75
  have hO := Own.start w
  go_upto_region 0 with (fail)
  refine f80r0_r hO (fit_mu _ _ _ _) (fit_ad _ _ _) ?_
  intro n3 n5 n6 w1 hO
  replace hO : Own w w1 [(n6, ps [0, 0, 0], 81), (n5, ps [s2, l2, b2], 81), (n3, mu f [s, l, b], 84)] := hO
  go_upto_region 1 with (fail)
  refine f80r1_r hO 2 rfl (part_mub _ _ _ _) (bitOf_c f i hf hi) ?_
  intro w2 hO
  replace hO : Own w w2 [(n6, ps [0, 0, 0], 81), (n5, ps [s2, l2, b2], 81), (n3, mu f [s, l, b], 84)] := hO
  go_upto_region 2 with (fail)
  refine f80r2_r (fun _ _ _ _ _ h => h) hO 2 rfl 1 rfl 0 rfl (by decide) (by decide) (part_mu0 _ _ _ _) (part_co0 _ _ _) (pick_c s s2 ((nb f 32).testBit i)) (part_mu1 _ _ _ _) (part_co1 _ _ _) (pick_c l l2 ((nb f 32).testBit i)) (part_mu2 _ _ _ _) (part_co2 _ _ _) (pick_c b b2 ((nb f 32).testBit i)) (bd_ad _ _ _) (fit_ad _ _ _) ?_
  intro w3 hO
  replace hO : Own w w3 [(n6, ps [cond ((nb f 32).testBit i) s s2, cond ((nb f 32).testBit i) l l2, cond ((nb f 32).testBit i) b b2], 81), (n5, ps [s2, l2, b2], 81), (n3, mu f [s, l, b], 84)] := hO
  go_wp2_with fail
  refine bodyPost_ret (v := .agg (ps [cond ((nb f 32).testBit i) s s2, cond ((nb f 32).testBit i) l l2, cond ((nb f 32).testBit i) b b2])) (results_cell_row Tryd.results75 _ _ n6 81 _ (0, 0) _ rfl (hO.row 0 rfl) Tryd.underlying81 rfl (fit_ad _ _ _).size) rfl ⟨rfl, hO.low⟩
end Go.Proofs.YtbpmakegimgbpaaDoor

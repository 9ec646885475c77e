/- Walks of the reference: Mul, Decode, Base. Points of the curve, thirty-two bytes; no other condition. -/
import Derived.Test.YtalnkcijebdpbaaPj
namespace Go.Proofs.Ytalnkcijebdpbaa
open F Go.RowKit

theorem bit_down (n k : Nat) : 2 * (n / 2 ^ (k + 1)) + (n.testBit k).toNat = n / 2 ^ k := by
  rw [Nat.toNat_testBit, Nat.pow_succ, ← Nat.div_div_eq_div_mul]
  omega
theorem bit_top (f : Nat → Nat) (hf : ∀ i, f i < 256) : (nb f 32).testBit 255 = decide (128 ≤ f 31) := by
  rw [nb_bit f hf 32 255 (by omega)]
  have := (by decide +kernel : ∀ i : Fin 256, i.val.testBit 7 = decide (128 ≤ i.val)) ⟨f 31, hf 31⟩
  exact this
def f29r0Op0 : Oper := ⟨some 2, .box 22 (.tmp 0), 0, "ref.go:100", #[], none⟩
def f29r0Op1 : Oper := ⟨some 3, .box 35 (.tmp 1), 0, "ref.go:100", #[], none⟩
def f29r0Op2 : Oper := ⟨some 4, .alloc 35, 0, "ref.go:100", #[], none⟩
def f29r0Ops : Array Oper := #[f29r0Op0, f29r0Op1, f29r0Op2]
set_option maxRecDepth 100000 in
set_option maxHeartbeats 2000000 in
theorem f29r0_r {Q : Exit → Act → World → Prop} {u w : World} {L : List Row} {z2 z3 z4 : Value} {zz : List Value} {e0 e1 : Array Value} (hO : Own u w L) (fe0_22 : Fit 22 e0) (fe1_35 : Fit 35 e1) (H : ∀ (n2 : Nat) (n3 : Nat) (n4 : Nat) (w' : World), Own u w' ((n4, qn [0, 0], 35) :: (n3, e1, 35) :: (n2, e0, 22) :: L) → Q .normal { tmps := List.toArray ((.agg e0) :: (.agg e1) :: (.pointer (some ⟨n2, 0, none⟩)) :: (.pointer (some ⟨n3, 0, none⟩)) :: (.pointer (some ⟨n4, 0, none⟩)) :: zz), defers := [] } w') :
    (Code.region 0 f29r0Ops false).wp Try.prog Q { tmps := List.toArray ((.agg e0) :: (.agg e1) :: z2 :: z3 :: z4 :: zz), defers := [] } w := by
  refine wp_region_list (show wpList _ f29r0Ops _ [f29r0Op0, f29r0Op1, f29r0Op2] _ _ from ?_)
  refine l_new hO (e0) 22 (run_box 22 _ rfl _ (by kernel_rfl)) fe0_22 ?_
  intro n2 w1 hO
  refine l_new hO (e1) 35 (run_box 35 _ rfl _ (by kernel_rfl)) fe1_35 ?_
  intro n3 w2 hO
  refine l_new hO (qn [0, 0]) 35 (al35 rfl) (fit_rp _ _) ?_
  intro n4 w3 hO
  exact l_fr _ (wpList_nil (H n2 n3 n4 _ hO))
def f29r1Op0 : Oper := ⟨some 11, .call { callee := .value (.func 52), args := #[], argTypes := #[] }, 33, "ref.go:101", #[], none⟩
def f29r1Op1 : Oper := ⟨some 12, .call { callee := .value (.func 52), args := #[], argTypes := #[] }, 33, "ref.go:101", #[⟨0, .chain⟩], none⟩
def f29r1Op2 : Oper := ⟨some 13, .call { callee := .value (.func 51), args := #[.tmp 11, .tmp 12], argTypes := #[33, 33] }, 33, "ref.go:101", #[⟨0, .data⟩, ⟨1, .data⟩, ⟨1, .chain⟩], none⟩
def f29r1Op3 : Oper := ⟨some 5, .alloc 33, 0, "ref.go:101", #[], none⟩
def f29r1Op4 : Oper := ⟨none, .store 33 (.tmp 5) (.tmp 13), 0, "ref.go:101", #[⟨3, .data⟩, ⟨2, .data⟩, ⟨2, .chain⟩, ⟨0, .phase⟩, ⟨1, .phase⟩, ⟨2, .phase⟩, ⟨3, .phase⟩], none⟩
def f29r1Ops : Array Oper := #[f29r1Op0, f29r1Op1, f29r1Op2, f29r1Op3, f29r1Op4]
set_option maxRecDepth 100000 in
set_option maxHeartbeats 2000000 in
theorem f29r1_r {Q : Exit → Act → World → Prop} {u w : World} {L : List Row} {z0 z1 z2 z3 z4 z5 z6 z7 z8 z9 z10 z11 z12 z13 : Value} {zz : List Value} {e11 e12 e13 : Array Value} (hO : Own u w L) (r11 : ∀ w, Ret 52 #[] w (.agg e11)) (r12 : ∀ w, Ret 52 #[] w (.agg e12)) (r13 : ∀ w, Ret 51 #[.agg e11, .agg e12] w (.agg e13)) (fe13_33 : Fit 33 e13) (H : ∀ (n5 : Nat) (w' : World), Own u w' ((n5, e13, 33) :: L) → Q .normal { tmps := List.toArray (z0 :: z1 :: z2 :: z3 :: z4 :: (.pointer (some ⟨n5, 0, none⟩)) :: z6 :: z7 :: z8 :: z9 :: z10 :: (.agg e11) :: (.agg e12) :: (.agg e13) :: zz), defers := [] } w') :
    (Code.region 1 f29r1Ops false).wp Try.prog Q { tmps := List.toArray (z0 :: z1 :: z2 :: z3 :: z4 :: z5 :: z6 :: z7 :: z8 :: z9 :: z10 :: z11 :: z12 :: z13 :: zz), defers := [] } w := by
  refine wp_region_list (show wpList _ f29r1Ops _ [f29r1Op0, f29r1Op1, f29r1Op2, f29r1Op3, f29r1Op4] _ _ from ?_)
  refine l_call hO 52 #[] (.agg e11) r11 ?_
  intro w1 hO
  refine l_call hO 52 #[] (.agg e12) r12 ?_
  intro w2 hO
  refine l_call hO 51 #[.agg e11, .agg e12] (.agg e13) r13 ?_
  intro w3 hO
  refine l_fr (Fr [z0, z1, z2, z3, z4, z5, z6, z7, z8, z9, z10, A e11, A e12, A e13] zz) ?_
  refine l_new hO (vals .u64 16 (F.dg 0)) 33 (al33 rfl) (fit_rn _) ?_
  intro n5 w4 hO
  refine l_st hO 33 0 rfl e13 fe13_33 ?_
  intro w5 hO
  exact l_fr _ (wpList_nil (H n5 _ hO))
def f29r2Op0 : Oper := ⟨some 14, .call { callee := .value (.func 50), args := #[.const (.int .u64 1)], argTypes := #[24] }, 33, "ref.go:102", #[], none⟩
def f29r2Op1 : Oper := ⟨some 6, .alloc 33, 0, "ref.go:102", #[], none⟩
def f29r2Op2 : Oper := ⟨none, .store 33 (.tmp 6) (.tmp 14), 0, "ref.go:102", #[⟨1, .data⟩, ⟨0, .data⟩, ⟨0, .chain⟩, ⟨0, .phase⟩, ⟨1, .phase⟩], none⟩
def f29r2Ops : Array Oper := #[f29r2Op0, f29r2Op1, f29r2Op2]
set_option maxRecDepth 100000 in
set_option maxHeartbeats 2000000 in
theorem f29r2_r {Q : Exit → Act → World → Prop} {u w : World} {L : List Row} {z0 z1 z2 z3 z4 z5 z6 z7 z8 z9 z10 z11 z12 z13 z14 : Value} {zz : List Value} {e14 : Array Value} (hO : Own u w L) (r14 : ∀ w, Ret 50 #[.int IntKind.u64 1] w (.agg e14)) (fe14_33 : Fit 33 e14) (H : ∀ (n6 : Nat) (w' : World), Own u w' ((n6, e14, 33) :: L) → Q .normal { tmps := List.toArray (z0 :: z1 :: z2 :: z3 :: z4 :: z5 :: (.pointer (some ⟨n6, 0, none⟩)) :: z7 :: z8 :: z9 :: z10 :: z11 :: z12 :: z13 :: (.agg e14) :: zz), defers := [] } w') :
    (Code.region 2 f29r2Ops false).wp Try.prog Q { tmps := List.toArray (z0 :: z1 :: z2 :: z3 :: z4 :: z5 :: z6 :: z7 :: z8 :: z9 :: z10 :: z11 :: z12 :: z13 :: z14 :: zz), defers := [] } w := by
  refine wp_region_list (show wpList _ f29r2Ops _ [f29r2Op0, f29r2Op1, f29r2Op2] _ _ from ?_)
  refine l_call hO 50 #[.int IntKind.u64 1] (.agg e14) r14 ?_
  intro w1 hO
  refine l_new hO (vals .u64 16 (F.dg 0)) 33 (al33 rfl) (fit_rn _) ?_
  intro n6 w2 hO
  refine l_st hO 33 0 rfl e14 fe14_33 ?_
  intro w3 hO
  exact l_fr _ (wpList_nil (H n6 _ hO))
def f29r3Op0 : Oper := ⟨some 15, .fieldAddr 35 (.tmp 3) 0, 0, "ref.go:103", #[], none⟩
def f29r3Op1 : Oper := ⟨some 16, .load 33 (.tmp 15), 33, "ref.go:103", #[⟨0, .data⟩], none⟩
def f29r3Op2 : Oper := ⟨some 17, .fieldAddr 35 (.tmp 3) 1, 0, "ref.go:103", #[], none⟩
def f29r3Op3 : Oper := ⟨some 18, .load 33 (.tmp 17), 33, "ref.go:103", #[⟨2, .data⟩], none⟩
def f29r3Op4 : Oper := ⟨some 19, .load 33 (.tmp 6), 33, "ref.go:103", #[], none⟩
def f29r3Op5 : Oper := ⟨some 20, .fieldAddr 35 (.tmp 3) 0, 0, "ref.go:103", #[], none⟩
def f29r3Op6 : Oper := ⟨some 21, .load 33 (.tmp 20), 33, "ref.go:103", #[⟨5, .data⟩], none⟩
def f29r3Op7 : Oper := ⟨some 22, .fieldAddr 35 (.tmp 3) 1, 0, "ref.go:103", #[], none⟩
def f29r3Op8 : Oper := ⟨some 23, .load 33 (.tmp 22), 33, "ref.go:103", #[⟨7, .data⟩], none⟩
def f29r3Op9 : Oper := ⟨some 24, .call { callee := .value (.func 48), args := #[.tmp 21, .tmp 23], argTypes := #[33, 33] }, 33, "ref.go:103", #[⟨6, .data⟩, ⟨8, .data⟩], none⟩
def f29r3Op10 : Oper := ⟨some 25, .build 91 #[(0, .tmp 16), (1, .tmp 18), (2, .tmp 19), (3, .tmp 24)], 91, "ref.go:103", #[⟨1, .data⟩, ⟨3, .data⟩, ⟨4, .data⟩, ⟨9, .data⟩], none⟩
def f29r3Op11 : Oper := ⟨some 7, .alloc 91, 0, "ref.go:103", #[], none⟩
def f29r3Op12 : Oper := ⟨none, .store 91 (.tmp 7) (.tmp 25), 0, "ref.go:103", #[⟨11, .data⟩, ⟨10, .data⟩, ⟨9, .chain⟩, ⟨0, .phase⟩, ⟨1, .phase⟩, ⟨2, .phase⟩, ⟨3, .phase⟩, ⟨4, .phase⟩, ⟨5, .phase⟩, ⟨6, .phase⟩, ⟨7, .phase⟩, ⟨8, .phase⟩, ⟨9, .phase⟩, ⟨10, .phase⟩, ⟨11, .phase⟩], none⟩
def f29r3Ops : Array Oper := #[f29r3Op0, f29r3Op1, f29r3Op2, f29r3Op3, f29r3Op4, f29r3Op5, f29r3Op6, f29r3Op7, f29r3Op8, f29r3Op9, f29r3Op10, f29r3Op11, f29r3Op12]
set_option maxRecDepth 100000 in
set_option maxHeartbeats 2000000 in
theorem f29r3_r {Q : Exit → Act → World → Prop} {u w : World} {L : List Row} {z0 z1 z2 z4 z5 z7 z8 z9 z10 z11 z12 z13 z14 z15 z16 z17 z18 z19 z20 z21 z22 z23 z24 z25 : Value} {zz : List Value} {b3 b6 : Nat} {c3 c6 : Array Value} {e16 e18 e21 e23 e24 e25 : Array Value} (hQ : ∀ c a w n v, Q (.panic c) (a.put (some n) v) w → Q (.panic c) a w) (hO : Own u w L) (i3 : Nat) (h3 : L[i3]? = some (b3, c3, 35)) (i6 : Nat) (h6 : L[i6]? = some (b6, c6, 33)) (q16 : Part c3 0 33 e16) (q18 : Part c3 16 33 e18) (q21 : Part c3 0 33 e21) (q23 : Part c3 16 33 e23) (r24 : ∀ w, Ret 48 #[.agg e21, .agg e23] w (.agg e24)) (q25 : Try.prog.built 91 [(0, .agg e16), (1, .agg e18), (2, .agg c6), (3, .agg e24)] = some e25) (fe25_91 : Fit 91 e25) (H : ∀ (n7 : Nat) (w' : World), Own u w' ((n7, e25, 91) :: L) → Q .normal { tmps := List.toArray (z0 :: z1 :: z2 :: (.pointer (some ⟨b3, 0, none⟩)) :: z4 :: z5 :: (.pointer (some ⟨b6, 0, none⟩)) :: (.pointer (some ⟨n7, 0, none⟩)) :: z8 :: z9 :: z10 :: z11 :: z12 :: z13 :: z14 :: (.pointer (some ⟨b3, 0, none⟩)) :: (.agg e16) :: (.pointer (some ⟨b3, 16, none⟩)) :: (.agg e18) :: (.agg c6) :: (.pointer (some ⟨b3, 0, none⟩)) :: (.agg e21) :: (.pointer (some ⟨b3, 16, none⟩)) :: (.agg e23) :: (.agg e24) :: (.agg e25) :: zz), defers := [] } w') :
    (Code.region 3 f29r3Ops true).wp Try.prog Q { tmps := List.toArray (z0 :: z1 :: z2 :: (.pointer (some ⟨b3, 0, none⟩)) :: z4 :: z5 :: (.pointer (some ⟨b6, 0, none⟩)) :: z7 :: z8 :: z9 :: z10 :: z11 :: z12 :: z13 :: z14 :: z15 :: z16 :: z17 :: z18 :: z19 :: z20 :: z21 :: z22 :: z23 :: z24 :: z25 :: zz), defers := [] } w := by
  have fc6_33 := hO.fits i6 h6
  have s0 : ∀ (n7 : Nat) (w : World), Own u w ((n7, qn [0, 0, 0, 0], 91) :: L) → wpAnyH Try.prog .any f29r3Ops Q (Has [(b3, c3, 35), (b6, c6, 33)]) 1 (ls 13 4095) (Fr [z0, z1, z2, D b3, z4, z5, D b6, D n7, z8, z9, z10, z11, z12, z13, z14, .pointer (some ⟨b3, 0, none⟩), A e16, .pointer (some ⟨b3, 16, none⟩), A e18, A c6, .pointer (some ⟨b3, 0, none⟩), A e21, .pointer (some ⟨b3, 16, none⟩), A e23, A e24, A e25] zz) w := by
    intro n7 w hO
    refine d_one 12 f29r3Op12 (ls 13 8191) (fun K hK => ?_)
    refine k_st hK hO 91 0 rfl e25 fe25_91 (fun _ hO => ⟨hO.row _ (gs h3), hO.row _ (gs h6), trivial⟩) ?_
    intro w1 hO
    exact wpAnyH_done (by kernel_rfl) (H n7 _ hO) _
  refine wp_region_held_drew (S := Has [(b3, c3, 35), (b6, c6, 33)]) (by kernel_rfl) ⟨hO.drew.row _ h3, hO.drew.row _ h6, trivial⟩ (fun hS => ?_)
  replace hO := hO.drew
  refine d_tk 0 f29r3Op0 (.pointer (some ⟨b3, 0, none⟩)) hQ (y_val (fun _ => by kernel_rfl)) hS ?_
  refine d_tk 1 f29r3Op1 (.agg e16) hQ (y_p 33 (fun _ h => h.1) q16 Try.underlying33) hS ?_
  refine d_tk 2 f29r3Op2 (.pointer (some ⟨b3, 16, none⟩)) hQ (y_val (fun _ => by kernel_rfl)) hS ?_
  refine d_fr (ls 13 7) (Fr [z0, z1, z2, D b3, z4, z5, D b6, z7, z8, z9, z10, z11, z12, z13, z14, .pointer (some ⟨b3, 0, none⟩), A e16, .pointer (some ⟨b3, 16, none⟩), z18, z19, z20, z21, z22, z23, z24, z25] zz) ?_
  refine d_tk 3 f29r3Op3 (.agg e18) hQ (y_p 33 (fun _ h => h.1) q18 Try.underlying33) hS ?_
  refine d_tk 4 f29r3Op4 (.agg c6) hQ (y_l 33 (fun _ h => h.2.1) fc6_33 Try.underlying33) hS ?_
  refine d_tk 5 f29r3Op5 (.pointer (some ⟨b3, 0, none⟩)) hQ (y_val (fun _ => by kernel_rfl)) hS ?_
  refine d_fr (ls 13 63) (Fr [z0, z1, z2, D b3, z4, z5, D b6, z7, z8, z9, z10, z11, z12, z13, z14, .pointer (some ⟨b3, 0, none⟩), A e16, .pointer (some ⟨b3, 16, none⟩), A e18, A c6, .pointer (some ⟨b3, 0, none⟩), z21, z22, z23, z24, z25] zz) ?_
  refine d_tk 6 f29r3Op6 (.agg e21) hQ (y_p 33 (fun _ h => h.1) q21 Try.underlying33) hS ?_
  refine d_tk 7 f29r3Op7 (.pointer (some ⟨b3, 16, none⟩)) hQ (y_val (fun _ => by kernel_rfl)) hS ?_
  refine d_tk 8 f29r3Op8 (.agg e23) hQ (y_p 33 (fun _ h => h.1) q23 Try.underlying33) hS ?_
  refine d_fr (ls 13 511) (Fr [z0, z1, z2, D b3, z4, z5, D b6, z7, z8, z9, z10, z11, z12, z13, z14, .pointer (some ⟨b3, 0, none⟩), A e16, .pointer (some ⟨b3, 16, none⟩), A e18, A c6, .pointer (some ⟨b3, 0, none⟩), A e21, .pointer (some ⟨b3, 16, none⟩), A e23, z24, z25] zz) ?_
  refine wpAnyH_ready (rs := [9, 11]) (by kernel_rfl) (by simp) ?_
  refine d_cons 9 f29r3Op9 (ls 13 1023) (fun K hK => ?_) ?_
  · skip
    refine k_call hK hO (fun _ hO => ⟨hO.row _ h3, hO.row _ h6, trivial⟩) 48 #[.agg e21, .agg e23] (.agg e24) r24 ?_
    intro w2 hO
    have hS : Has [(b3, c3, 35), (b6, c6, 33)] w2 := ⟨hO.row _ h3, hO.row _ h6, trivial⟩
    refine d_tk 10 f29r3Op10 (.agg e25) hQ (y_val (run_bd 91 _ rfl [(0, .agg e16), (1, .agg e18), (2, .agg c6), (3, .agg e24)] (by kernel_rfl) e25 q25)) hS ?_
    refine d_one 11 f29r3Op11 (ls 13 4095) (fun K hK => ?_)
    refine k_new hK hO (qn [0, 0, 0, 0]) 91 (al91 rfl) (fit_wd _ _ _ _) (fun _ _ hO => ⟨hO.row _ (gs h3), hO.row _ (gs h6), trivial⟩) ?_
    intro n7 w3 hO
    exact d_fr _ _ (s0 n7 _ hO)
  refine d_cons 11 f29r3Op11 (ls 13 2559) (fun K hK => ?_) ?_
  · skip
    refine k_new hK hO (qn [0, 0, 0, 0]) 91 (al91 rfl) (fit_wd _ _ _ _) (fun _ _ hO => ⟨hO.row _ (gs h3), hO.row _ (gs h6), trivial⟩) ?_
    intro n7 w4 hO
    refine d_one 9 f29r3Op9 (ls 13 3071) (fun K hK => ?_)
    refine k_call hK hO (fun _ hO => ⟨hO.row _ (gs h3), hO.row _ (gs h6), trivial⟩) 48 #[.agg e21, .agg e23] (.agg e24) r24 ?_
    intro w5 hO
    have hS : Has [(b3, c3, 35), (b6, c6, 33)] w5 := ⟨hO.row _ (gs h3), hO.row _ (gs h6), trivial⟩
    refine d_tk 10 f29r3Op10 (.agg e25) hQ (y_val (run_bd 91 _ rfl [(0, .agg e16), (1, .agg e18), (2, .agg c6), (3, .agg e24)] (by kernel_rfl) e25 q25)) hS ?_
    exact d_fr _ _ (s0 n7 _ hO)
  exact AllReadyH.nil
def f29r4Op0 : Oper := ⟨some 26, .call { callee := .value (.func 50), args := #[.const (.int .u64 0)], argTypes := #[24] }, 33, "ref.go:104", #[], none⟩
def f29r4Op1 : Oper := ⟨some 27, .load 33 (.tmp 6), 33, "ref.go:104", #[], none⟩
def f29r4Op2 : Oper := ⟨some 28, .load 33 (.tmp 6), 33, "ref.go:104", #[], none⟩
def f29r4Op3 : Oper := ⟨some 29, .call { callee := .value (.func 50), args := #[.const (.int .u64 0)], argTypes := #[24] }, 33, "ref.go:104", #[⟨0, .chain⟩], none⟩
def f29r4Op4 : Oper := ⟨some 30, .build 91 #[(0, .tmp 26), (1, .tmp 27), (2, .tmp 28), (3, .tmp 29)], 91, "ref.go:104", #[⟨0, .data⟩, ⟨1, .data⟩, ⟨2, .data⟩, ⟨3, .data⟩], none⟩
def f29r4Op5 : Oper := ⟨some 8, .alloc 91, 0, "ref.go:104", #[], none⟩
def f29r4Op6 : Oper := ⟨none, .store 91 (.tmp 8) (.tmp 30), 0, "ref.go:104", #[⟨5, .data⟩, ⟨4, .data⟩, ⟨3, .chain⟩, ⟨0, .phase⟩, ⟨1, .phase⟩, ⟨2, .phase⟩, ⟨3, .phase⟩, ⟨4, .phase⟩, ⟨5, .phase⟩], none⟩
def f29r4Ops : Array Oper := #[f29r4Op0, f29r4Op1, f29r4Op2, f29r4Op3, f29r4Op4, f29r4Op5, f29r4Op6]
set_option maxRecDepth 100000 in
set_option maxHeartbeats 2000000 in
theorem f29r4_r {Q : Exit → Act → World → Prop} {u w : World} {L : List Row} {z0 z1 z2 z3 z4 z5 z7 z8 z9 z10 z11 z12 z13 z14 z15 z16 z17 z18 z19 z20 z21 z22 z23 z24 z25 z26 z27 z28 z29 z30 : Value} {zz : List Value} {b6 : Nat} {c6 : Array Value} {e26 e29 e30 : Array Value} (hQ : ∀ c a w n v, Q (.panic c) (a.put (some n) v) w → Q (.panic c) a w) (hO : Own u w L) (i6 : Nat) (h6 : L[i6]? = some (b6, c6, 33)) (r26 : ∀ w, Ret 50 #[.int IntKind.u64 0] w (.agg e26)) (r29 : ∀ w, Ret 50 #[.int IntKind.u64 0] w (.agg e29)) (q30 : Try.prog.built 91 [(0, .agg e26), (1, .agg c6), (2, .agg c6), (3, .agg e29)] = some e30) (fe30_91 : Fit 91 e30) (H : ∀ (n8 : Nat) (w' : World), Own u w' ((n8, e30, 91) :: L) → Q .normal { tmps := List.toArray (z0 :: z1 :: z2 :: z3 :: z4 :: z5 :: (.pointer (some ⟨b6, 0, none⟩)) :: z7 :: (.pointer (some ⟨n8, 0, none⟩)) :: z9 :: z10 :: z11 :: z12 :: z13 :: z14 :: z15 :: z16 :: z17 :: z18 :: z19 :: z20 :: z21 :: z22 :: z23 :: z24 :: z25 :: (.agg e26) :: (.agg c6) :: (.agg c6) :: (.agg e29) :: (.agg e30) :: zz), defers := [] } w') :
    (Code.region 4 f29r4Ops true).wp Try.prog Q { tmps := List.toArray (z0 :: z1 :: z2 :: z3 :: z4 :: z5 :: (.pointer (some ⟨b6, 0, none⟩)) :: z7 :: z8 :: z9 :: z10 :: z11 :: z12 :: z13 :: z14 :: z15 :: z16 :: z17 :: z18 :: z19 :: z20 :: z21 :: z22 :: z23 :: z24 :: z25 :: z26 :: z27 :: z28 :: z29 :: z30 :: zz), defers := [] } w := by
  have fc6_33 := hO.fits i6 h6
  have s0 : ∀ (n8 : Nat) (w : World), Own u w ((n8, qn [0, 0, 0, 0], 91) :: L) → wpAnyH Try.prog .any f29r4Ops Q (Has [(b6, c6, 33)]) 1 (ls 7 63) (Fr [z0, z1, z2, z3, z4, z5, D b6, z7, D n8, z9, z10, z11, z12, z13, z14, z15, z16, z17, z18, z19, z20, z21, z22, z23, z24, z25, A e26, A c6, A c6, A e29, A e30] zz) w := by
    intro n8 w hO
    refine d_one 6 f29r4Op6 (ls 7 127) (fun K hK => ?_)
    refine k_st hK hO 91 0 rfl e30 fe30_91 (fun _ hO => ⟨hO.row _ (gs h6), trivial⟩) ?_
    intro w1 hO
    exact wpAnyH_done (by kernel_rfl) (H n8 _ hO) _
  have s1 : ∀ (n8 : Nat) (w : World), Own u w ((n8, qn [0, 0, 0, 0], 91) :: L) → wpAnyH Try.prog .any f29r4Ops Q (Has [(b6, c6, 33)]) 3 (ls 7 39) (Fr [z0, z1, z2, z3, z4, z5, D b6, z7, D n8, z9, z10, z11, z12, z13, z14, z15, z16, z17, z18, z19, z20, z21, z22, z23, z24, z25, A e26, A c6, A c6, z29, z30] zz) w := by
    intro n8 w hO
    refine d_one 3 f29r4Op3 (ls 7 47) (fun K hK => ?_)
    refine k_call hK hO (fun _ hO => ⟨hO.row _ (gs h6), trivial⟩) 50 #[.int IntKind.u64 0] (.agg e29) r29 ?_
    intro w2 hO
    have hS : Has [(b6, c6, 33)] w2 := ⟨hO.row _ (gs h6), trivial⟩
    refine d_tk 4 f29r4Op4 (.agg e30) hQ (y_val (run_bd 91 _ rfl [(0, .agg e26), (1, .agg c6), (2, .agg c6), (3, .agg e29)] (by kernel_rfl) e30 q30)) hS ?_
    exact d_fr _ _ (s0 n8 _ hO)
  refine wp_region_held_drew (S := Has [(b6, c6, 33)]) (by kernel_rfl) ⟨hO.drew.row _ h6, trivial⟩ (fun hS => ?_)
  replace hO := hO.drew
  refine d_tk 1 f29r4Op1 (.agg c6) hQ (y_l 33 (fun _ h => h.1) fc6_33 Try.underlying33) hS ?_
  refine d_tk 2 f29r4Op2 (.agg c6) hQ (y_l 33 (fun _ h => h.1) fc6_33 Try.underlying33) hS ?_
  refine d_fr (ls 7 6) (Fr [z0, z1, z2, z3, z4, z5, D b6, z7, z8, z9, z10, z11, z12, z13, z14, z15, z16, z17, z18, z19, z20, z21, z22, z23, z24, z25, z26, A c6, A c6, z29, z30] zz) ?_
  refine wpAnyH_ready (rs := [0, 5]) (by kernel_rfl) (by simp) ?_
  refine d_cons 0 f29r4Op0 (ls 7 7) (fun K hK => ?_) ?_
  · skip
    refine k_call hK hO (fun _ hO => ⟨hO.row _ h6, trivial⟩) 50 #[.int IntKind.u64 0] (.agg e26) r26 ?_
    intro w3 hO
    refine wpAnyH_ready (rs := [3, 5]) (by kernel_rfl) (by simp) ?_
    refine d_cons 3 f29r4Op3 (ls 7 15) (fun K hK => ?_) ?_
    · skip
      refine k_call hK hO (fun _ hO => ⟨hO.row _ h6, trivial⟩) 50 #[.int IntKind.u64 0] (.agg e29) r29 ?_
      intro w4 hO
      have hS : Has [(b6, c6, 33)] w4 := ⟨hO.row _ h6, trivial⟩
      refine d_tk 4 f29r4Op4 (.agg e30) hQ (y_val (run_bd 91 _ rfl [(0, .agg e26), (1, .agg c6), (2, .agg c6), (3, .agg e29)] (by kernel_rfl) e30 q30)) hS ?_
      refine d_fr (ls 7 31) (Fr [z0, z1, z2, z3, z4, z5, D b6, z7, z8, z9, z10, z11, z12, z13, z14, z15, z16, z17, z18, z19, z20, z21, z22, z23, z24, z25, A e26, A c6, A c6, A e29, A e30] zz) ?_
      refine d_one 5 f29r4Op5 (ls 7 63) (fun K hK => ?_)
      refine k_new hK hO (qn [0, 0, 0, 0]) 91 (al91 rfl) (fit_wd _ _ _ _) (fun _ _ hO => ⟨hO.row _ (gs h6), trivial⟩) ?_
      intro n8 w5 hO
      exact d_fr _ _ (s0 n8 _ hO)
    refine d_cons 5 f29r4Op5 (ls 7 39) (fun K hK => ?_) ?_
    · skip
      refine k_new hK hO (qn [0, 0, 0, 0]) 91 (al91 rfl) (fit_wd _ _ _ _) (fun _ _ hO => ⟨hO.row _ (gs h6), trivial⟩) ?_
      intro n8 w6 hO
      exact d_fr _ _ (s1 n8 _ hO)
    exact AllReadyH.nil
  refine d_cons 5 f29r4Op5 (ls 7 38) (fun K hK => ?_) ?_
  · skip
    refine k_new hK hO (qn [0, 0, 0, 0]) 91 (al91 rfl) (fit_wd _ _ _ _) (fun _ _ hO => ⟨hO.row _ (gs h6), trivial⟩) ?_
    intro n8 w7 hO
    refine d_one 0 f29r4Op0 (ls 7 39) (fun K hK => ?_)
    refine k_call hK hO (fun _ hO => ⟨hO.row _ (gs h6), trivial⟩) 50 #[.int IntKind.u64 0] (.agg e26) r26 ?_
    intro w8 hO
    exact d_fr _ _ (s1 n8 _ hO)
  exact AllReadyH.nil
def f29r8Op0 : Oper := ⟨some 35, .load 91 (.tmp 8), 91, "ref.go:106", #[], none⟩
def f29r8Op1 : Oper := ⟨some 36, .load 91 (.tmp 8), 91, "ref.go:106", #[], none⟩
def f29r8Op2 : Oper := ⟨some 37, .load 33 (.tmp 5), 33, "ref.go:106", #[], none⟩
def f29r8Op3 : Oper := ⟨some 38, .call { callee := .value (.func 60), args := #[.tmp 35, .tmp 36, .tmp 37], argTypes := #[91, 91, 33] }, 91, "ref.go:106", #[⟨0, .data⟩, ⟨1, .data⟩, ⟨2, .data⟩], none⟩
def f29r8Op4 : Oper := ⟨none, .store 91 (.tmp 8) (.tmp 38), 0, "ref.go:106", #[⟨3, .data⟩, ⟨3, .chain⟩, ⟨0, .phase⟩, ⟨1, .phase⟩, ⟨2, .phase⟩, ⟨3, .phase⟩], none⟩
def f29r8Ops : Array Oper := #[f29r8Op0, f29r8Op1, f29r8Op2, f29r8Op3, f29r8Op4]
set_option maxRecDepth 100000 in
set_option maxHeartbeats 2000000 in
theorem f29r8_r {Q : Exit → Act → World → Prop} {u w : World} {L : List Row} {z0 z1 z2 z3 z4 z6 z7 z9 z10 z11 z12 z13 z14 z15 z16 z17 z18 z19 z20 z21 z22 z23 z24 z25 z26 z27 z28 z29 z30 z31 z32 z33 z34 z35 z36 z37 z38 : Value} {zz : List Value} {b8 b5 : Nat} {c8 c5 : Array Value} {e38 : Array Value} (hO : Own u w L) (i8 : Nat) (h8 : L[i8]? = some (b8, c8, 91)) (i5 : Nat) (h5 : L[i5]? = some (b5, c5, 33)) (r38 : ∀ w, Ret 60 #[.agg c8, .agg c8, .agg c5] w (.agg e38)) (fe38_91 : Fit 91 e38) (H : ∀ (w' : World), Own u w' ((L.set i8 (b8, e38, 91))) → Q .normal { tmps := List.toArray (z0 :: z1 :: z2 :: z3 :: z4 :: (.pointer (some ⟨b5, 0, none⟩)) :: z6 :: z7 :: (.pointer (some ⟨b8, 0, none⟩)) :: z9 :: z10 :: z11 :: z12 :: z13 :: z14 :: z15 :: z16 :: z17 :: z18 :: z19 :: z20 :: z21 :: z22 :: z23 :: z24 :: z25 :: z26 :: z27 :: z28 :: z29 :: z30 :: z31 :: z32 :: z33 :: z34 :: (.agg c8) :: (.agg c8) :: (.agg c5) :: (.agg e38) :: zz), defers := [] } w') :
    (Code.region 8 f29r8Ops false).wp Try.prog Q { tmps := List.toArray (z0 :: z1 :: z2 :: z3 :: z4 :: (.pointer (some ⟨b5, 0, none⟩)) :: z6 :: z7 :: (.pointer (some ⟨b8, 0, none⟩)) :: z9 :: z10 :: z11 :: z12 :: z13 :: z14 :: z15 :: z16 :: z17 :: z18 :: z19 :: z20 :: z21 :: z22 :: z23 :: z24 :: z25 :: z26 :: z27 :: z28 :: z29 :: z30 :: z31 :: z32 :: z33 :: z34 :: z35 :: z36 :: z37 :: z38 :: zz), defers := [] } w := by
  refine wp_region_list (show wpList _ f29r8Ops _ [f29r8Op0, f29r8Op1, f29r8Op2, f29r8Op3, f29r8Op4] _ _ from ?_)
  refine l_ld hO 91 i8 h8 Try.underlying91 ?_
  refine l_ld hO 91 i8 h8 Try.underlying91 ?_
  refine l_ld hO 33 i5 h5 Try.underlying33 ?_
  refine l_fr (Fr [z0, z1, z2, z3, z4, D b5, z6, z7, D b8, z9, z10, z11, z12, z13, z14, z15, z16, z17, z18, z19, z20, z21, z22, z23, z24, z25, z26, z27, z28, z29, z30, z31, z32, z33, z34, A c8, A c8, A c5, z38] zz) ?_
  refine l_call hO 60 #[.agg c8, .agg c8, .agg c5] (.agg e38) r38 ?_
  intro w1 hO
  refine l_st hO 91 i8 h8 e38 fe38_91 ?_
  intro w2 hO
  exact l_fr _ (wpList_nil (H  _ hO))
def f29r10Op0 : Oper := ⟨some 49, .load 91 (.tmp 8), 91, "ref.go:108", #[], none⟩
def f29r10Op1 : Oper := ⟨some 50, .load 91 (.tmp 7), 91, "ref.go:108", #[], none⟩
def f29r10Op2 : Oper := ⟨some 51, .load 33 (.tmp 5), 33, "ref.go:108", #[], none⟩
def f29r10Op3 : Oper := ⟨some 52, .call { callee := .value (.func 60), args := #[.tmp 49, .tmp 50, .tmp 51], argTypes := #[91, 91, 33] }, 91, "ref.go:108", #[⟨0, .data⟩, ⟨1, .data⟩, ⟨2, .data⟩], none⟩
def f29r10Op4 : Oper := ⟨none, .store 91 (.tmp 8) (.tmp 52), 0, "ref.go:108", #[⟨3, .data⟩, ⟨3, .chain⟩, ⟨0, .phase⟩, ⟨1, .phase⟩, ⟨2, .phase⟩, ⟨3, .phase⟩], none⟩
def f29r10Ops : Array Oper := #[f29r10Op0, f29r10Op1, f29r10Op2, f29r10Op3, f29r10Op4]
set_option maxRecDepth 100000 in
set_option maxHeartbeats 2000000 in
theorem f29r10_r {Q : Exit → Act → World → Prop} {u w : World} {L : List Row} {z0 z1 z2 z3 z4 z6 z9 z10 z11 z12 z13 z14 z15 z16 z17 z18 z19 z20 z21 z22 z23 z24 z25 z26 z27 z28 z29 z30 z31 z32 z33 z34 z35 z36 z37 z38 z39 z40 z41 z42 z43 z44 z45 z46 z47 z48 z49 z50 z51 z52 : Value} {zz : List Value} {b8 b7 b5 : Nat} {c8 c7 c5 : Array Value} {e52 : Array Value} (hO : Own u w L) (i8 : Nat) (h8 : L[i8]? = some (b8, c8, 91)) (i7 : Nat) (h7 : L[i7]? = some (b7, c7, 91)) (i5 : Nat) (h5 : L[i5]? = some (b5, c5, 33)) (r52 : ∀ w, Ret 60 #[.agg c8, .agg c7, .agg c5] w (.agg e52)) (fe52_91 : Fit 91 e52) (H : ∀ (w' : World), Own u w' ((L.set i8 (b8, e52, 91))) → Q .normal { tmps := List.toArray (z0 :: z1 :: z2 :: z3 :: z4 :: (.pointer (some ⟨b5, 0, none⟩)) :: z6 :: (.pointer (some ⟨b7, 0, none⟩)) :: (.pointer (some ⟨b8, 0, none⟩)) :: z9 :: z10 :: z11 :: z12 :: z13 :: z14 :: z15 :: z16 :: z17 :: z18 :: z19 :: z20 :: z21 :: z22 :: z23 :: z24 :: z25 :: z26 :: z27 :: z28 :: z29 :: z30 :: z31 :: z32 :: z33 :: z34 :: z35 :: z36 :: z37 :: z38 :: z39 :: z40 :: z41 :: z42 :: z43 :: z44 :: z45 :: z46 :: z47 :: z48 :: (.agg c8) :: (.agg c7) :: (.agg c5) :: (.agg e52) :: zz), defers := [] } w') :
    (Code.region 10 f29r10Ops false).wp Try.prog Q { tmps := List.toArray (z0 :: z1 :: z2 :: z3 :: z4 :: (.pointer (some ⟨b5, 0, none⟩)) :: z6 :: (.pointer (some ⟨b7, 0, none⟩)) :: (.pointer (some ⟨b8, 0, none⟩)) :: z9 :: z10 :: z11 :: z12 :: z13 :: z14 :: z15 :: z16 :: z17 :: z18 :: z19 :: z20 :: z21 :: z22 :: z23 :: z24 :: z25 :: z26 :: z27 :: z28 :: z29 :: z30 :: z31 :: z32 :: z33 :: z34 :: z35 :: z36 :: z37 :: z38 :: z39 :: z40 :: z41 :: z42 :: z43 :: z44 :: z45 :: z46 :: z47 :: z48 :: z49 :: z50 :: z51 :: z52 :: zz), defers := [] } w := by
  refine wp_region_list (show wpList _ f29r10Ops _ [f29r10Op0, f29r10Op1, f29r10Op2, f29r10Op3, f29r10Op4] _ _ from ?_)
  refine l_ld hO 91 i8 h8 Try.underlying91 ?_
  refine l_ld hO 91 i7 h7 Try.underlying91 ?_
  refine l_ld hO 33 i5 h5 Try.underlying33 ?_
  refine l_fr (Fr [z0, z1, z2, z3, z4, D b5, z6, D b7, D b8, z9, z10, z11, z12, z13, z14, z15, z16, z17, z18, z19, z20, z21, z22, z23, z24, z25, z26, z27, z28, z29, z30, z31, z32, z33, z34, z35, z36, z37, z38, z39, z40, z41, z42, z43, z44, z45, z46, z47, z48, A c8, A c7, A c5, z52] zz) ?_
  refine l_call hO 60 #[.agg c8, .agg c7, .agg c5] (.agg e52) r52 ?_
  intro w1 hO
  refine l_st hO 91 i8 h8 e52 fe52_91 ?_
  intro w2 hO
  exact l_fr _ (wpList_nil (H  _ hO))
def f29r11Op0 : Oper := ⟨some 53, .fieldAddr 91 (.tmp 8) 2, 0, "ref.go:111", #[], none⟩
def f29r11Op1 : Oper := ⟨some 54, .load 33 (.tmp 53), 33, "ref.go:111", #[⟨0, .data⟩], none⟩
def f29r11Op2 : Oper := ⟨some 55, .call { callee := .value (.func 59), args := #[.tmp 54], argTypes := #[33] }, 33, "ref.go:111", #[⟨1, .data⟩], none⟩
def f29r11Op3 : Oper := ⟨some 10, .alloc 33, 0, "ref.go:111", #[], none⟩
def f29r11Op4 : Oper := ⟨none, .store 33 (.tmp 10) (.tmp 55), 0, "ref.go:111", #[⟨3, .data⟩, ⟨2, .data⟩, ⟨2, .chain⟩, ⟨0, .phase⟩, ⟨1, .phase⟩, ⟨2, .phase⟩, ⟨3, .phase⟩], none⟩
def f29r11Ops : Array Oper := #[f29r11Op0, f29r11Op1, f29r11Op2, f29r11Op3, f29r11Op4]
set_option maxRecDepth 100000 in
set_option maxHeartbeats 2000000 in
theorem f29r11_r {Q : Exit → Act → World → Prop} {u w : World} {L : List Row} {z0 z1 z2 z3 z4 z5 z6 z7 z9 z10 z11 z12 z13 z14 z15 z16 z17 z18 z19 z20 z21 z22 z23 z24 z25 z26 z27 z28 z29 z30 z31 z32 z33 z34 z35 z36 z37 z38 z39 z40 z41 z42 z43 z44 z45 z46 z47 z48 z49 z50 z51 z52 z53 z54 z55 : Value} {zz : List Value} {b8 : Nat} {c8 : Array Value} {e54 e55 : Array Value} (hO : Own u w L) (i8 : Nat) (h8 : L[i8]? = some (b8, c8, 91)) (q54 : Part c8 32 33 e54) (r55 : ∀ w, Ret 59 #[.agg e54] w (.agg e55)) (fe55_33 : Fit 33 e55) (H : ∀ (n10 : Nat) (w' : World), Own u w' ((n10, e55, 33) :: L) → Q .normal { tmps := List.toArray (z0 :: z1 :: z2 :: z3 :: z4 :: z5 :: z6 :: z7 :: (.pointer (some ⟨b8, 0, none⟩)) :: z9 :: (.pointer (some ⟨n10, 0, none⟩)) :: z11 :: z12 :: z13 :: z14 :: z15 :: z16 :: z17 :: z18 :: z19 :: z20 :: z21 :: z22 :: z23 :: z24 :: z25 :: z26 :: z27 :: z28 :: z29 :: z30 :: z31 :: z32 :: z33 :: z34 :: z35 :: z36 :: z37 :: z38 :: z39 :: z40 :: z41 :: z42 :: z43 :: z44 :: z45 :: z46 :: z47 :: z48 :: z49 :: z50 :: z51 :: z52 :: (.pointer (some ⟨b8, 32, none⟩)) :: (.agg e54) :: (.agg e55) :: zz), defers := [] } w') :
    (Code.region 11 f29r11Ops false).wp Try.prog Q { tmps := List.toArray (z0 :: z1 :: z2 :: z3 :: z4 :: z5 :: z6 :: z7 :: (.pointer (some ⟨b8, 0, none⟩)) :: z9 :: z10 :: z11 :: z12 :: z13 :: z14 :: z15 :: z16 :: z17 :: z18 :: z19 :: z20 :: z21 :: z22 :: z23 :: z24 :: z25 :: z26 :: z27 :: z28 :: z29 :: z30 :: z31 :: z32 :: z33 :: z34 :: z35 :: z36 :: z37 :: z38 :: z39 :: z40 :: z41 :: z42 :: z43 :: z44 :: z45 :: z46 :: z47 :: z48 :: z49 :: z50 :: z51 :: z52 :: z53 :: z54 :: z55 :: zz), defers := [] } w := by
  refine wp_region_list (show wpList _ f29r11Ops _ [f29r11Op0, f29r11Op1, f29r11Op2, f29r11Op3, f29r11Op4] _ _ from ?_)
  refine l_val (.pointer (some ⟨b8, 32, none⟩)) (by kernel_rfl) ?_
  refine l_part hO 33 i8 h8 q54 Try.underlying33 ?_
  refine l_call hO 59 #[.agg e54] (.agg e55) r55 ?_
  intro w1 hO
  refine l_fr (Fr [z0, z1, z2, z3, z4, z5, z6, z7, D b8, z9, z10, z11, z12, z13, z14, z15, z16, z17, z18, z19, z20, z21, z22, z23, z24, z25, z26, z27, z28, z29, z30, z31, z32, z33, z34, z35, z36, z37, z38, z39, z40, z41, z42, z43, z44, z45, z46, z47, z48, z49, z50, z51, z52, .pointer (some ⟨b8, 32, none⟩), A e54, A e55] zz) ?_
  refine l_new hO (vals .u64 16 (F.dg 0)) 33 (al33 rfl) (fit_rn _) ?_
  intro n10 w2 hO
  refine l_st hO 33 0 rfl e55 fe55_33 ?_
  intro w3 hO
  exact l_fr _ (wpList_nil (H n10 _ hO))
def f29r12Op0 : Oper := ⟨some 56, .fieldAddr 91 (.tmp 8) 0, 0, "ref.go:112", #[], none⟩
def f29r12Op1 : Oper := ⟨some 57, .load 33 (.tmp 56), 33, "ref.go:112", #[⟨0, .data⟩], none⟩
def f29r12Op2 : Oper := ⟨some 58, .load 33 (.tmp 10), 33, "ref.go:112", #[], none⟩
def f29r12Op3 : Oper := ⟨some 59, .call { callee := .value (.func 48), args := #[.tmp 57, .tmp 58], argTypes := #[33, 33] }, 33, "ref.go:112", #[⟨1, .data⟩, ⟨2, .data⟩], none⟩
def f29r12Op4 : Oper := ⟨some 60, .fieldAddr 91 (.tmp 8) 1, 0, "ref.go:112", #[], none⟩
def f29r12Op5 : Oper := ⟨some 61, .load 33 (.tmp 60), 33, "ref.go:112", #[⟨4, .data⟩], none⟩
def f29r12Op6 : Oper := ⟨some 62, .load 33 (.tmp 10), 33, "ref.go:112", #[], none⟩
def f29r12Op7 : Oper := ⟨some 63, .call { callee := .value (.func 48), args := #[.tmp 61, .tmp 62], argTypes := #[33, 33] }, 33, "ref.go:112", #[⟨5, .data⟩, ⟨6, .data⟩, ⟨3, .chain⟩], none⟩
def f29r12Op8 : Oper := ⟨some 64, .build 35 #[(0, .tmp 59), (1, .tmp 63)], 35, "ref.go:112", #[⟨3, .data⟩, ⟨7, .data⟩], none⟩
def f29r12Op9 : Oper := ⟨none, .store 35 (.tmp 4) (.tmp 64), 0, "ref.go:112", #[⟨8, .data⟩, ⟨7, .chain⟩, ⟨0, .phase⟩, ⟨1, .phase⟩, ⟨2, .phase⟩, ⟨3, .phase⟩, ⟨4, .phase⟩, ⟨5, .phase⟩, ⟨6, .phase⟩, ⟨7, .phase⟩, ⟨8, .phase⟩], none⟩
def f29r12Ops : Array Oper := #[f29r12Op0, f29r12Op1, f29r12Op2, f29r12Op3, f29r12Op4, f29r12Op5, f29r12Op6, f29r12Op7, f29r12Op8, f29r12Op9]
set_option maxRecDepth 100000 in
set_option maxHeartbeats 2000000 in
theorem f29r12_r {Q : Exit → Act → World → Prop} {u w : World} {L : List Row} {z0 z1 z2 z3 z5 z6 z7 z9 z11 z12 z13 z14 z15 z16 z17 z18 z19 z20 z21 z22 z23 z24 z25 z26 z27 z28 z29 z30 z31 z32 z33 z34 z35 z36 z37 z38 z39 z40 z41 z42 z43 z44 z45 z46 z47 z48 z49 z50 z51 z52 z53 z54 z55 z56 z57 z58 z59 z60 z61 z62 z63 z64 : Value} {b4 b8 b10 : Nat} {c4 c8 c10 : Array Value} {e57 e59 e61 e63 e64 : Array Value} (hQ : ∀ c a w n v, Q (.panic c) (a.put (some n) v) w → Q (.panic c) a w) (hO : Own u w L) (i4 : Nat) (h4 : L[i4]? = some (b4, c4, 35)) (i8 : Nat) (h8 : L[i8]? = some (b8, c8, 91)) (i10 : Nat) (h10 : L[i10]? = some (b10, c10, 33)) (e4_8 : i4 ≠ i8) (e4_10 : i4 ≠ i10) (q57 : Part c8 0 33 e57) (r59 : ∀ w, Ret 48 #[.agg e57, .agg c10] w (.agg e59)) (q61 : Part c8 16 33 e61) (r63 : ∀ w, Ret 48 #[.agg e61, .agg c10] w (.agg e63)) (q64 : Try.prog.built 35 [(0, .agg e59), (1, .agg e63)] = some e64) (fe64_35 : Fit 35 e64) (H : ∀ (w' : World), Own u w' ((L.set i4 (b4, e64, 35))) → Q .normal { tmps := List.toArray (z0 :: z1 :: z2 :: z3 :: (.pointer (some ⟨b4, 0, none⟩)) :: z5 :: z6 :: z7 :: (.pointer (some ⟨b8, 0, none⟩)) :: z9 :: (.pointer (some ⟨b10, 0, none⟩)) :: z11 :: z12 :: z13 :: z14 :: z15 :: z16 :: z17 :: z18 :: z19 :: z20 :: z21 :: z22 :: z23 :: z24 :: z25 :: z26 :: z27 :: z28 :: z29 :: z30 :: z31 :: z32 :: z33 :: z34 :: z35 :: z36 :: z37 :: z38 :: z39 :: z40 :: z41 :: z42 :: z43 :: z44 :: z45 :: z46 :: z47 :: z48 :: z49 :: z50 :: z51 :: z52 :: z53 :: z54 :: z55 :: (.pointer (some ⟨b8, 0, none⟩)) :: (.agg e57) :: (.agg c10) :: (.agg e59) :: (.pointer (some ⟨b8, 16, none⟩)) :: (.agg e61) :: (.agg c10) :: (.agg e63) :: (.agg e64) :: []), defers := [] } w') :
    (Code.region 12 f29r12Ops true).wp Try.prog Q { tmps := List.toArray (z0 :: z1 :: z2 :: z3 :: (.pointer (some ⟨b4, 0, none⟩)) :: z5 :: z6 :: z7 :: (.pointer (some ⟨b8, 0, none⟩)) :: z9 :: (.pointer (some ⟨b10, 0, none⟩)) :: z11 :: z12 :: z13 :: z14 :: z15 :: z16 :: z17 :: z18 :: z19 :: z20 :: z21 :: z22 :: z23 :: z24 :: z25 :: z26 :: z27 :: z28 :: z29 :: z30 :: z31 :: z32 :: z33 :: z34 :: z35 :: z36 :: z37 :: z38 :: z39 :: z40 :: z41 :: z42 :: z43 :: z44 :: z45 :: z46 :: z47 :: z48 :: z49 :: z50 :: z51 :: z52 :: z53 :: z54 :: z55 :: z56 :: z57 :: z58 :: z59 :: z60 :: z61 :: z62 :: z63 :: z64 :: []), defers := [] } w := by
  have fc10_33 := hO.fits i10 h10
  refine wp_region_held_drew (S := Has [(b8, c8, 91), (b10, c10, 33)]) (by kernel_rfl) ⟨hO.drew.row _ h8, hO.drew.row _ h10, trivial⟩ (fun hS => ?_)
  replace hO := hO.drew
  refine d_tk 0 f29r12Op0 (.pointer (some ⟨b8, 0, none⟩)) hQ (y_val (fun _ => by kernel_rfl)) hS ?_
  refine d_tk 1 f29r12Op1 (.agg e57) hQ (y_p 33 (fun _ h => h.1) q57 Try.underlying33) hS ?_
  refine d_tk 2 f29r12Op2 (.agg c10) hQ (y_l 33 (fun _ h => h.2.1) fc10_33 Try.underlying33) hS ?_
  refine d_fr (ls 10 7) (Fr [z0, z1, z2, z3, D b4, z5, z6, z7, D b8, z9, D b10, z11, z12, z13, z14, z15, z16, z17, z18, z19, z20, z21, z22, z23, z24, z25, z26, z27, z28, z29, z30, z31, z32, z33, z34, z35, z36, z37, z38, z39, z40, z41, z42, z43, z44, z45, z46, z47, z48, z49, z50, z51, z52, z53, z54, z55, .pointer (some ⟨b8, 0, none⟩), A e57, A c10, z59, z60, z61, z62, z63, z64] []) ?_
  refine d_tk 4 f29r12Op4 (.pointer (some ⟨b8, 16, none⟩)) hQ (y_val (fun _ => by kernel_rfl)) hS ?_
  refine d_tk 5 f29r12Op5 (.agg e61) hQ (y_p 33 (fun _ h => h.1) q61 Try.underlying33) hS ?_
  refine d_tk 6 f29r12Op6 (.agg c10) hQ (y_l 33 (fun _ h => h.2.1) fc10_33 Try.underlying33) hS ?_
  refine d_fr (ls 10 119) (Fr [z0, z1, z2, z3, D b4, z5, z6, z7, D b8, z9, D b10, z11, z12, z13, z14, z15, z16, z17, z18, z19, z20, z21, z22, z23, z24, z25, z26, z27, z28, z29, z30, z31, z32, z33, z34, z35, z36, z37, z38, z39, z40, z41, z42, z43, z44, z45, z46, z47, z48, z49, z50, z51, z52, z53, z54, z55, .pointer (some ⟨b8, 0, none⟩), A e57, A c10, z59, .pointer (some ⟨b8, 16, none⟩), A e61, A c10, z63, z64] []) ?_
  refine d_one 3 f29r12Op3 (ls 10 127) (fun K hK => ?_)
  refine k_call hK hO (fun _ hO => ⟨hO.row _ h8, hO.row _ h10, trivial⟩) 48 #[.agg e57, .agg c10] (.agg e59) r59 ?_
  intro w1 hO
  refine d_one 7 f29r12Op7 (ls 10 255) (fun K hK => ?_)
  refine k_call hK hO (fun _ hO => ⟨hO.row _ h8, hO.row _ h10, trivial⟩) 48 #[.agg e61, .agg c10] (.agg e63) r63 ?_
  intro w2 hO
  have hS : Has [(b8, c8, 91), (b10, c10, 33)] w2 := ⟨hO.row _ h8, hO.row _ h10, trivial⟩
  refine d_tk 8 f29r12Op8 (.agg e64) hQ (y_val (run_bd 35 _ rfl [(0, .agg e59), (1, .agg e63)] (by kernel_rfl) e64 q64)) hS ?_
  refine d_fr (ls 10 511) (Fr [z0, z1, z2, z3, D b4, z5, z6, z7, D b8, z9, D b10, z11, z12, z13, z14, z15, z16, z17, z18, z19, z20, z21, z22, z23, z24, z25, z26, z27, z28, z29, z30, z31, z32, z33, z34, z35, z36, z37, z38, z39, z40, z41, z42, z43, z44, z45, z46, z47, z48, z49, z50, z51, z52, z53, z54, z55, .pointer (some ⟨b8, 0, none⟩), A e57, A c10, A e59, .pointer (some ⟨b8, 16, none⟩), A e61, A c10, A e63, A e64] []) ?_
  refine d_one 9 f29r12Op9 (ls 10 1023) (fun K hK => ?_)
  refine k_st hK hO 35 i4 h4 e64 fe64_35 (fun _ hO => ⟨hO.row _ (get_set h8 e4_8), hO.row _ (get_set h10 e4_10), trivial⟩) ?_
  intro w3 hO
  exact wpAnyH_done (by kernel_rfl) (H  _ hO) _
set_option maxRecDepth 100000 in
set_option maxHeartbeats 8000000 in
theorem rmul_p (f : Nat → Nat) {P : Nat × Nat} (hf : ∀ i, f i < 256) (hP : Ok7 P) (w : World) : Ret 29 #[.agg (vals .u8 32 f), .agg (rp P)] w (.agg (rp (mul7 P (nb f 32)))) := by
  go_enter Try.func29, Try.ntmps29
  have hO := Own.start w
  go_upto_region 0 with (fail)
  refine f29r0_r hO (fit_by _) (fit_rp _ _) ?_
  intro n2 n3 n4 w1 hO
  replace hO : Own w w1 [(n4, qn [0, 0], 35), (n3, rp P, 35), (n2, vals .u8 32 f, 22)] := hO
  go_upto_region 1 with (fail)
  refine f29r1_r hO rd_c rd_c (radd_c _ _ d7_lt d7_lt) (fit_rn _) ?_
  intro n5 w2 hO
  replace hO : Own w w2 [(n5, vals .u64 16 (F.dg (am d7N d7N)), 33), (n4, qn [0, 0], 35), (n3, rp P, 35), (n2, vals .u8 32 f, 22)] := hO
  replace hO : Own w w2 [(n5, vals .u64 16 (F.dg dd7), 33), (n4, qn [0, 0], 35), (n3, rp P, 35), (n2, vals .u8 32 f, 22)] := hO
  go_upto_region 2 with (fail)
  refine f29r2_r hO (rof_c 1 (by omega)) (fit_rn _) ?_
  intro n6 w3 hO
  replace hO : Own w w3 [(n6, vals .u64 16 (F.dg 1), 33), (n5, vals .u64 16 (F.dg dd7), 33), (n4, qn [0, 0], 35), (n3, rp P, 35), (n2, vals .u8 32 f, 22)] := hO
  go_upto_region 3 with (fail)
  refine f29r3_r (fun _ _ _ _ _ h => h) hO 3 rfl 0 rfl (part_rp0 _ _) (part_rp1 _ _) (part_rp0 _ _) (part_rp1 _ _) (rmul_c _ _ hP.x hP.y) (bd_wd _ _ _ _) (fit_wd _ _ _ _) ?_
  intro n7 w4 hO
  replace hO : Own w w4 [(n7, qn [P.1, P.2, 1, mm P.1 P.2], 91), (n6, vals .u64 16 (F.dg 1), 33), (n5, vals .u64 16 (F.dg dd7), 33), (n4, qn [0, 0], 35), (n3, rp P, 35), (n2, vals .u8 32 f, 22)] := hO
  replace hO : Own w w4 [(n7, wq (q4 P), 91), (n6, vals .u64 16 (F.dg 1), 33), (n5, vals .u64 16 (F.dg dd7), 33), (n4, qn [0, 0], 35), (n3, rp P, 35), (n2, vals .u8 32 f, 22)] := hO
  go_upto_region 4 with (fail)
  refine f29r4_r (fun _ _ _ _ _ h => h) hO 1 rfl (rof_c 0 (by omega)) (rof_c 0 (by omega)) (bd_wd _ _ _ _) (fit_wd _ _ _ _) ?_
  intro n8 w5 hO
  replace hO : Own w w5 [(n8, qn [0, 1, 1, 0], 91), (n7, wq (q4 P), 91), (n6, vals .u64 16 (F.dg 1), 33), (n5, vals .u64 16 (F.dg dd7), 33), (n4, qn [0, 0], 35), (n3, rp P, 35), (n2, vals .u8 32 f, 22)] := hO
  replace hO : Own w w5 [(n8, wq (0, 1, 1, 0), 91), (n7, wq (q4 P), 91), (n6, vals .u64 16 (F.dg 1), 33), (n5, vals .u64 16 (F.dg dd7), 33), (n4, qn [0, 0], 35), (n3, rp P, 35), (n2, vals .u8 32 f, 22)] := hO
  go_wp2_with fail
  go_loopw [9] (fun i wr => ∃ (k : Nat) (r : Q4), k ≤ 256 ∧ i = .int .i64 ((k : Int) - 1) ∧ Rp (mul7 P (nb f 32 / 2 ^ k)) r ∧ Own w wr [(n8, wq r, 91), (n7, wq (q4 P), 91), (n6, vals .u64 16 (F.dg 1), 33), (n5, vals .u64 16 (F.dg dd7), 33), (n4, qn [0, 0], 35), (n3, rp P, 35), (n2, vals .u8 32 f, 22)]) (fun i _ => (intOf i + 1).toNat)
  case atStart => exact ⟨256, (0, 1, 1, 0), by omega, rfl, by rw [Nat.div_eq_of_lt (nb_lt32 f hf), mul7_zero]; exact rp_zero, hO⟩
  case round =>
    clear hO
    obtain ⟨k, r, hk, rfl, hR, hO⟩ := hrel
    rcases Nat.eq_zero_or_pos k with h0 | h0
    · subst h0
      rw [Nat.pow_zero, Nat.div_one] at hR
      rw [show ((0 : Nat) : Int) - 1 = -1 from rfl]
      go_upto_region 11 with (fail)
      refine f29r11_r hO 0 rfl (part_wd2 _ _ _ _) (rinv_c _ hR.z) (fit_rn _) ?_
      intro n10 w6 hO
      replace hO : Own w w6 [(n10, vals .u64 16 (F.dg (iN r.2.2.1)), 33), (n8, wq r, 91), (n7, wq (q4 P), 91), (n6, vals .u64 16 (F.dg 1), 33), (n5, vals .u64 16 (F.dg dd7), 33), (n4, qn [0, 0], 35), (n3, rp P, 35), (n2, vals .u8 32 f, 22)] := hO
      go_upto_region 12 with (fail)
      refine f29r12_r (fun _ _ _ _ _ h => h) hO 5 rfl 1 rfl 0 rfl (by decide) (by decide) (part_wd0 _ _ _ _) (rmul_c _ _ hR.x (iN_lt _)) (part_wd1 _ _ _ _) (rmul_c _ _ hR.y (iN_lt _)) (bd_rp _ _) (fit_rp _ _) ?_
      intro w7 hO
      replace hO : Own w w7 [(n10, vals .u64 16 (F.dg (iN r.2.2.1)), 33), (n8, wq r, 91), (n7, wq (q4 P), 91), (n6, vals .u64 16 (F.dg 1), 33), (n5, vals .u64 16 (F.dg dd7), 33), (n4, qn [mm r.1 (iN r.2.2.1), mm r.2.1 (iN r.2.2.1)], 35), (n3, rp P, 35), (n2, vals .u8 32 f, 22)] := hO
      have ho := rp_out (ok_mul hP _) hR
      go_wp2_with fail
      refine bodyPost_ret (v := .agg (qn [mm r.1 (iN r.2.2.1), mm r.2.1 (iN r.2.2.1)])) (results_cell_row Try.results29 _ _ n4 35 _ (0, 0) _ rfl (hO.row 5 rfl) Try.underlying35 rfl (fit_rp _ _).size) rfl ⟨by rw [← ho], hO.low⟩
    · obtain ⟨i, rfl⟩ : ∃ i, k = i + 1 := ⟨k - 1, by omega⟩
      rw [show ((i + 1 : Nat) : Int) - 1 = (i : Int) by omega]
      have hm0 : (0 : Int) ≤ (i : Int) := by omega
      have hm4 : (i : Int) < 256 := by omega
      have hq0 : (0 : Int) ≤ (i : Int) / 8 := by omega
      have hq4 : (i : Int) / 8 < 32 := by omega
      have hq : IntKind.i64.wrap ((i : Int).tdiv 8) = (i : Int) / 8 := quo8 i (by omega)
      have hq' : IntKind.i64.wrap ((i : Int) / 8) = (i : Int) / 8 := quo8' i (by omega)
      have hr : IntKind.i64.wrap ((i : Int).tmod 8) = (i : Int) % 8 := rem8 i
      have hr' : (i : Int).tmod 8 = (i : Int) % 8 := by rw [Int.tmod_eq_emod_of_nonneg (by omega)]
      have hqn : ((i : Int) / 8).toNat = i / 8 := by omega
      have hrn : ((i : Int) % 8).toNat = i % 8 := by omega
      have hr0 : (0 : Int) ≤ (i : Int) % 8 := by omega
      have hr4 : (i : Int) % 8 < 8 := by omega
      have hdl2 : f (i / 8) / 2 ^ (i % 8) < 256 := Nat.lt_of_le_of_lt (Nat.div_le_self _ _) (hf _)
      have hand := and8_one _ hdl2
      rw [show ((f (i / 8) / 2 ^ (i % 8) : Nat) : Int) = ((f (i / 8) : Nat) : Int) / 2 ^ (i % 8) by simp] at hand
      have hbit : (nb f 32).testBit i = (f (i / 8) / 2 ^ (i % 8) % 2 == 1) := by rw [nb_bit f hf 32 i (by omega), bit_num]
      have hdn := bit_down (nb f 32) i
      have Hd := hide hdn
      have Hb := hide hbit
      clear hbit hdn hdl2
      go_upto_region 8 with (fail)
      refine f29r8_r hO 0 rfl 3 rfl (rsum_p hR hR) (fit_wd _ _ _ _) ?_
      intro w6 hO
      replace hO : Own w w6 [(n8, wq (sum4 r r), 91), (n7, wq (q4 P), 91), (n6, vals .u64 16 (F.dg 1), 33), (n5, vals .u64 16 (F.dg dd7), 33), (n4, qn [0, 0], 35), (n3, rp P, 35), (n2, vals .u8 32 f, 22)] := hO
      have c0 := ((hO.row 6 rfl).cell (i / 8)).trans (vals_get _ _ _ _ (by omega))
      have hR2 := rp_bit hP (rp_of hP) _ hR ((nb f 32).testBit i)
      rw [Hd.out] at hR2
      have hS2 := rp_sum (ok_mul hP _) (ok_mul hP _) hR hR
      rcases Nat.mod_two_eq_zero_or_one (f (i / 8) / 2 ^ (i % 8)) with hx | hx
      · skip
        rw [hx] at hand
        have hb : (nb f 32).testBit i = false := by rw [Hb.out, hx]; rfl
        rw [hb] at hR2
        have HR := hide hR2
        clear hx hb hR hR2 hS2 Hd Hb
        go_wp2_with fail
        go_roundw
        case rel => exact ⟨i, sum4 r r, by omega, by go_num, HR.out, hO⟩
        case measure => simp [intOf]
      · skip
        rw [hx] at hand
        have hb : (nb f 32).testBit i = true := by rw [Hb.out, hx]; rfl
        rw [hb] at hR2
        have HR := hide hR2
        have HS := hide hS2
        clear hx hb hR hR2 hS2 Hd Hb
        go_upto_region 10 with (fail)
        refine f29r10_r hO 0 rfl 1 rfl 3 rfl (rsum_p HS.out (rp_of hP)) (fit_wd _ _ _ _) ?_
        intro w7 hO
        replace hO : Own w w7 [(n8, wq (sum4 (sum4 r r) (q4 P)), 91), (n7, wq (q4 P), 91), (n6, vals .u64 16 (F.dg 1), 33), (n5, vals .u64 16 (F.dg dd7), 33), (n4, qn [0, 0], 35), (n3, rp P, 35), (n2, vals .u8 32 f, 22)] := hO
        go_wp2_with fail
        go_roundw
        case rel => exact ⟨i, sum4 (sum4 r r) (q4 P), by omega, by go_num, HR.out, hO⟩
        case measure => simp [intOf]
def f13r0Op0 : Oper := ⟨some 1, .box 22 (.tmp 0), 0, "ref.go:55", #[], none⟩
def f13r0Op1 : Oper := ⟨some 2, .alloc 35, 0, "ref.go:55", #[], none⟩
def f13r0Op2 : Oper := ⟨some 3, .assign (.const (.bool false)), 4, "ref.go:55", #[], none⟩
def f13r0Ops : Array Oper := #[f13r0Op0, f13r0Op1, f13r0Op2]
set_option maxRecDepth 100000 in
set_option maxHeartbeats 2000000 in
theorem f13r0_r {Q : Exit → Act → World → Prop} {u w : World} {L : List Row} {z1 z2 z3 : Value} {zz : List Value} {e0 : Array Value} (hO : Own u w L) (fe0_22 : Fit 22 e0) (H : ∀ (n1 : Nat) (n2 : Nat) (w' : World), Own u w' ((n2, qn [0, 0], 35) :: (n1, e0, 22) :: L) → Q .normal { tmps := List.toArray ((.agg e0) :: (.pointer (some ⟨n1, 0, none⟩)) :: (.pointer (some ⟨n2, 0, none⟩)) :: (.bool false) :: zz), defers := [] } w') :
    (Code.region 0 f13r0Ops false).wp Try.prog Q { tmps := List.toArray ((.agg e0) :: z1 :: z2 :: z3 :: zz), defers := [] } w := by
  refine wp_region_list (show wpList _ f13r0Ops _ [f13r0Op0, f13r0Op1, f13r0Op2] _ _ from ?_)
  refine l_new hO (e0) 22 (run_box 22 _ rfl _ (by kernel_rfl)) fe0_22 ?_
  intro n1 w1 hO
  refine l_new hO (qn [0, 0]) 35 (al35 rfl) (fit_rp _ _) ?_
  intro n2 w2 hO
  refine l_val (.bool false) (by kernel_rfl) ?_
  exact l_fr _ (wpList_nil (H n1 n2 _ hO))
def f13r1Op0 : Oper := ⟨some 13, .indexAddr 22 (.tmp 1) (.const (.int .i64 31)), 0, "ref.go:56", #[], none⟩
def f13r1Op1 : Oper := ⟨some 14, .load 5 (.tmp 13), 5, "ref.go:56", #[⟨0, .data⟩], none⟩
def f13r1Op2 : Oper := ⟨some 15, .binOp .geq 5 (.tmp 14) (.const (.int .u8 128)) 5, 4, "ref.go:56", #[⟨1, .data⟩], none⟩
def f13r1Op3 : Oper := ⟨some 4, .assign (.tmp 15), 4, "ref.go:56", #[⟨2, .data⟩, ⟨0, .phase⟩, ⟨1, .phase⟩, ⟨2, .phase⟩], none⟩
def f13r1Ops : Array Oper := #[f13r1Op0, f13r1Op1, f13r1Op2, f13r1Op3]
set_option maxRecDepth 100000 in
set_option maxHeartbeats 2000000 in
theorem f13r1_r {Q : Exit → Act → World → Prop} {u w : World} {L : List Row} {z0 z2 z3 z4 z5 z6 z7 z8 z9 z10 z11 z12 z13 z14 z15 : Value} {zz : List Value} {b1 : Nat} {c1 : Array Value} {p15 : Bool} {g14 : Nat} (hO : Own u w L) (i1 : Nat) (h1 : L[i1]? = some (b1, c1, 22)) (v14 : c1[31]? = some (.int .u8 ((g14 : Nat) : Int))) (k15 : ∀ (a : Act) (w : World), a.eval (.tmp 14) = .int .u8 ((g14 : Nat) : Int) → (execOp a.eval f13r1Op2).run Try.prog w = .ok (.value (.bool p15)) w) (H : ∀ (w' : World), Own u w' (L) → Q .normal { tmps := List.toArray (z0 :: (.pointer (some ⟨b1, 0, none⟩)) :: z2 :: z3 :: (.bool p15) :: z5 :: z6 :: z7 :: z8 :: z9 :: z10 :: z11 :: z12 :: (.pointer (some ⟨b1, 31, none⟩)) :: (.int .u8 ((g14 : Nat) : Int)) :: (.bool p15) :: zz), defers := [] } w') :
    (Code.region 1 f13r1Ops false).wp Try.prog Q { tmps := List.toArray (z0 :: (.pointer (some ⟨b1, 0, none⟩)) :: z2 :: z3 :: z4 :: z5 :: z6 :: z7 :: z8 :: z9 :: z10 :: z11 :: z12 :: z13 :: z14 :: z15 :: zz), defers := [] } w := by
  refine wp_region_list (show wpList _ f13r1Ops _ [f13r1Op0, f13r1Op1, f13r1Op2, f13r1Op3] _ _ from ?_)
  refine l_val (.pointer (some ⟨b1, 31, none⟩)) (by kernel_rfl) ?_
  refine l_c8 hO i1 h1 v14 ?_
  refine l_val (.bool p15) (k15 _ _ (by kernel_rfl)) ?_
  refine l_fr (Fr [z0, D b1, z2, z3, z4, z5, z6, z7, z8, z9, z10, z11, z12, .pointer (some ⟨b1, 31, none⟩), .int .u8 ((g14 : Nat) : Int), .bool p15] zz) ?_
  refine l_val (.bool p15) (by kernel_rfl) ?_
  exact l_fr _ (wpList_nil (H  _ hO))
def f13r2Op0 : Oper := ⟨some 16, .load 22 (.tmp 1), 22, "ref.go:57", #[], none⟩
def f13r2Op1 : Oper := ⟨some 5, .alloc 22, 0, "ref.go:57", #[], none⟩
def f13r2Op2 : Oper := ⟨none, .store 22 (.tmp 5) (.tmp 16), 0, "ref.go:57", #[⟨1, .data⟩, ⟨0, .data⟩, ⟨0, .phase⟩, ⟨1, .phase⟩], none⟩
def f13r2Ops : Array Oper := #[f13r2Op0, f13r2Op1, f13r2Op2]
set_option maxRecDepth 100000 in
set_option maxHeartbeats 2000000 in
theorem f13r2_r {Q : Exit → Act → World → Prop} {u w : World} {L : List Row} {z0 z2 z3 z4 z5 z6 z7 z8 z9 z10 z11 z12 z13 z14 z15 z16 : Value} {zz : List Value} {b1 : Nat} {c1 : Array Value} (hO : Own u w L) (i1 : Nat) (h1 : L[i1]? = some (b1, c1, 22)) (H : ∀ (n5 : Nat) (w' : World), Own u w' ((n5, c1, 22) :: L) → Q .normal { tmps := List.toArray (z0 :: (.pointer (some ⟨b1, 0, none⟩)) :: z2 :: z3 :: z4 :: (.pointer (some ⟨n5, 0, none⟩)) :: z6 :: z7 :: z8 :: z9 :: z10 :: z11 :: z12 :: z13 :: z14 :: z15 :: (.agg c1) :: zz), defers := [] } w') :
    (Code.region 2 f13r2Ops false).wp Try.prog Q { tmps := List.toArray (z0 :: (.pointer (some ⟨b1, 0, none⟩)) :: z2 :: z3 :: z4 :: z5 :: z6 :: z7 :: z8 :: z9 :: z10 :: z11 :: z12 :: z13 :: z14 :: z15 :: z16 :: zz), defers := [] } w := by
  refine wp_region_list (show wpList _ f13r2Ops _ [f13r2Op0, f13r2Op1, f13r2Op2] _ _ from ?_)
  have fc1_22 := hO.fits i1 h1
  refine l_ld hO 22 i1 h1 Try.underlying22 ?_
  refine l_new hO (vals .u8 32 (fun _ => 0)) 22 (al22 rfl) (fit_by _) ?_
  intro n5 w1 hO
  refine l_st hO 22 0 rfl c1 fc1_22 ?_
  intro w2 hO
  exact l_fr _ (wpList_nil (H n5 _ hO))
def f13r3Op0 : Oper := ⟨some 17, .indexAddr 22 (.tmp 5) (.const (.int .i64 31)), 0, "ref.go:58", #[], none⟩
def f13r3Op1 : Oper := ⟨some 18, .load 5 (.tmp 17), 5, "ref.go:58", #[⟨0, .data⟩], none⟩
def f13r3Op2 : Oper := ⟨some 19, .binOp .andNot 5 (.tmp 18) (.const (.int .u8 128)) 5, 5, "ref.go:58", #[⟨1, .data⟩], none⟩
def f13r3Op3 : Oper := ⟨some 20, .indexAddr 22 (.tmp 5) (.const (.int .i64 31)), 0, "ref.go:58", #[⟨0, .phase⟩, ⟨1, .phase⟩, ⟨2, .phase⟩], none⟩
def f13r3Op4 : Oper := ⟨none, .store 5 (.tmp 20) (.tmp 19), 0, "ref.go:58", #[⟨3, .data⟩, ⟨2, .data⟩, ⟨0, .phase⟩, ⟨1, .phase⟩, ⟨2, .phase⟩], none⟩
def f13r3Ops : Array Oper := #[f13r3Op0, f13r3Op1, f13r3Op2, f13r3Op3, f13r3Op4]
set_option maxRecDepth 100000 in
set_option maxHeartbeats 2000000 in
theorem f13r3_r {Q : Exit → Act → World → Prop} {u w : World} {L : List Row} {z0 z1 z2 z3 z4 z6 z7 z8 z9 z10 z11 z12 z13 z14 z15 z16 z17 z18 z19 z20 : Value} {zz : List Value} {b5 : Nat} {c5 : Array Value} {e904 : Array Value} {g18 g19 : Nat} (hO : Own u w L) (i5 : Nat) (h5 : L[i5]? = some (b5, c5, 22)) (v18 : c5[31]? = some (.int .u8 ((g18 : Nat) : Int))) (k19 : ∀ (a : Act) (w : World), a.eval (.tmp 18) = .int .u8 ((g18 : Nat) : Int) → (execOp a.eval f13r3Op2).run Try.prog w = .ok (.value (.int .u8 ((g19 : Nat) : Int))) w) (s4 : c5.setIfInBounds 31 (.int .u8 ((g19 : Nat) : Int)) = e904) (fe904_22 : Fit 22 e904) (H : ∀ (w' : World), Own u w' ((L.set i5 (b5, e904, 22))) → Q .normal { tmps := List.toArray (z0 :: z1 :: z2 :: z3 :: z4 :: (.pointer (some ⟨b5, 0, none⟩)) :: z6 :: z7 :: z8 :: z9 :: z10 :: z11 :: z12 :: z13 :: z14 :: z15 :: z16 :: (.pointer (some ⟨b5, 31, none⟩)) :: (.int .u8 ((g18 : Nat) : Int)) :: (.int .u8 ((g19 : Nat) : Int)) :: (.pointer (some ⟨b5, 31, none⟩)) :: zz), defers := [] } w') :
    (Code.region 3 f13r3Ops false).wp Try.prog Q { tmps := List.toArray (z0 :: z1 :: z2 :: z3 :: z4 :: (.pointer (some ⟨b5, 0, none⟩)) :: z6 :: z7 :: z8 :: z9 :: z10 :: z11 :: z12 :: z13 :: z14 :: z15 :: z16 :: z17 :: z18 :: z19 :: z20 :: zz), defers := [] } w := by
  refine wp_region_list (show wpList _ f13r3Ops _ [f13r3Op0, f13r3Op1, f13r3Op2, f13r3Op3, f13r3Op4] _ _ from ?_)
  refine l_val (.pointer (some ⟨b5, 31, none⟩)) (by kernel_rfl) ?_
  refine l_c8 hO i5 h5 v18 ?_
  refine l_val (.int .u8 ((g19 : Nat) : Int)) (k19 _ _ (by kernel_rfl)) ?_
  refine l_fr (Fr [z0, z1, z2, z3, z4, D b5, z6, z7, z8, z9, z10, z11, z12, z13, z14, z15, z16, .pointer (some ⟨b5, 31, none⟩), .int .u8 ((g18 : Nat) : Int), .int .u8 ((g19 : Nat) : Int), z20] zz) ?_
  refine l_val (.pointer (some ⟨b5, 31, none⟩)) (by kernel_rfl) ?_
  refine l_stc hO i5 h5 g19 v18 s4 fe904_22 ?_
  intro w1 hO
  exact l_fr _ (wpList_nil (H  _ hO))
def f13r4Op0 : Oper := ⟨some 21, .load 22 (.tmp 5), 22, "ref.go:59", #[], none⟩
def f13r4Op1 : Oper := ⟨some 22, .call { callee := .value (.func 46), args := #[.tmp 21], argTypes := #[22] }, 33, "ref.go:59", #[⟨0, .data⟩], none⟩
def f13r4Op2 : Oper := ⟨some 6, .alloc 33, 0, "ref.go:59", #[], none⟩
def f13r4Op3 : Oper := ⟨none, .store 33 (.tmp 6) (.tmp 22), 0, "ref.go:59", #[⟨2, .data⟩, ⟨1, .data⟩, ⟨1, .chain⟩, ⟨0, .phase⟩, ⟨1, .phase⟩, ⟨2, .phase⟩], none⟩
def f13r4Ops : Array Oper := #[f13r4Op0, f13r4Op1, f13r4Op2, f13r4Op3]
set_option maxRecDepth 100000 in
set_option maxHeartbeats 2000000 in
theorem f13r4_r {Q : Exit → Act → World → Prop} {u w : World} {L : List Row} {z0 z1 z2 z3 z4 z6 z7 z8 z9 z10 z11 z12 z13 z14 z15 z16 z17 z18 z19 z20 z21 z22 : Value} {zz : List Value} {b5 : Nat} {c5 : Array Value} {e22 : Array Value} (hO : Own u w L) (i5 : Nat) (h5 : L[i5]? = some (b5, c5, 22)) (r22 : ∀ w, Ret 46 #[.agg c5] w (.agg e22)) (fe22_33 : Fit 33 e22) (H : ∀ (n6 : Nat) (w' : World), Own u w' ((n6, e22, 33) :: L) → Q .normal { tmps := List.toArray (z0 :: z1 :: z2 :: z3 :: z4 :: (.pointer (some ⟨b5, 0, none⟩)) :: (.pointer (some ⟨n6, 0, none⟩)) :: z7 :: z8 :: z9 :: z10 :: z11 :: z12 :: z13 :: z14 :: z15 :: z16 :: z17 :: z18 :: z19 :: z20 :: (.agg c5) :: (.agg e22) :: zz), defers := [] } w') :
    (Code.region 4 f13r4Ops false).wp Try.prog Q { tmps := List.toArray (z0 :: z1 :: z2 :: z3 :: z4 :: (.pointer (some ⟨b5, 0, none⟩)) :: z6 :: z7 :: z8 :: z9 :: z10 :: z11 :: z12 :: z13 :: z14 :: z15 :: z16 :: z17 :: z18 :: z19 :: z20 :: z21 :: z22 :: zz), defers := [] } w := by
  refine wp_region_list (show wpList _ f13r4Ops _ [f13r4Op0, f13r4Op1, f13r4Op2, f13r4Op3] _ _ from ?_)
  refine l_ld hO 22 i5 h5 Try.underlying22 ?_
  refine l_call hO 46 #[.agg c5] (.agg e22) r22 ?_
  intro w1 hO
  refine l_new hO (vals .u64 16 (F.dg 0)) 33 (al33 rfl) (fit_rn _) ?_
  intro n6 w2 hO
  refine l_fr (Fr [z0, z1, z2, z3, z4, D b5, D n6, z7, z8, z9, z10, z11, z12, z13, z14, z15, z16, z17, z18, z19, z20, A c5, A e22] zz) ?_
  refine l_st hO 33 0 rfl e22 fe22_33 ?_
  intro w3 hO
  exact l_fr _ (wpList_nil (H n6 _ hO))
def f13r5aOp0 : Oper := ⟨some 23, .load 33 (.tmp 6), 33, "ref.go:60", #[], none⟩
def f13r5aOp1 : Oper := ⟨some 24, .call { callee := .value (.func 17), args := #[.tmp 23], argTypes := #[33] }, 22, "ref.go:60", #[⟨0, .data⟩], none⟩
def f13r5aOp2 : Oper := ⟨some 25, .load 22 (.tmp 5), 22, "ref.go:60", #[], none⟩
def f13r5aOp3 : Oper := ⟨some 26, .binOp .neq 22 (.tmp 24) (.tmp 25) 22, 4, "ref.go:60", #[⟨1, .data⟩, ⟨2, .data⟩], none⟩
def f13r5aOps : Array Oper := #[f13r5aOp0, f13r5aOp1, f13r5aOp2, f13r5aOp3]
set_option maxRecDepth 100000 in
set_option maxHeartbeats 2000000 in
theorem f13r5a_r {Q : Exit → Act → World → Prop} {u w : World} {L : List Row} {z0 z1 z2 z3 z4 z7 z8 z9 z10 z11 z12 z13 z14 z15 z16 z17 z18 z19 z20 z21 z22 z23 z24 z25 z26 : Value} {zz : List Value} {b5 b6 : Nat} {c5 c6 : Array Value} {e24 : Array Value} (hQ : ∀ c a w n v, Q (.panic c) (a.put (some n) v) w → Q (.panic c) a w) (hO : Own u w L) (i5 : Nat) (h5 : L[i5]? = some (b5, c5, 22)) (i6 : Nat) (h6 : L[i6]? = some (b6, c6, 33)) (r24 : ∀ w, Ret 17 #[.agg c6] w (.agg e24)) (k26 : ∀ (a : Act) (w : World), a.eval (.tmp 24) = .agg e24 → a.eval (.tmp 25) = .agg c5 → (execOp a.eval f13r5aOp3).run Try.prog w = .ok (.value (.bool true)) w) (H : ∀ (w' : World), Own u w' (L) → Q .normal { tmps := List.toArray (z0 :: z1 :: z2 :: z3 :: z4 :: (.pointer (some ⟨b5, 0, none⟩)) :: (.pointer (some ⟨b6, 0, none⟩)) :: z7 :: z8 :: z9 :: z10 :: z11 :: z12 :: z13 :: z14 :: z15 :: z16 :: z17 :: z18 :: z19 :: z20 :: z21 :: z22 :: (.agg c6) :: (.agg e24) :: (.agg c5) :: (.bool true) :: zz), defers := [] } w') :
    (Code.region 5 f13r5aOps true).wp Try.prog Q { tmps := List.toArray (z0 :: z1 :: z2 :: z3 :: z4 :: (.pointer (some ⟨b5, 0, none⟩)) :: (.pointer (some ⟨b6, 0, none⟩)) :: z7 :: z8 :: z9 :: z10 :: z11 :: z12 :: z13 :: z14 :: z15 :: z16 :: z17 :: z18 :: z19 :: z20 :: z21 :: z22 :: z23 :: z24 :: z25 :: z26 :: zz), defers := [] } w := by
  have fc5_22 := hO.fits i5 h5
  have fc6_33 := hO.fits i6 h6
  refine wp_region_held_drew (S := Has [(b5, c5, 22), (b6, c6, 33)]) (by kernel_rfl) ⟨hO.drew.row _ h5, hO.drew.row _ h6, trivial⟩ (fun hS => ?_)
  replace hO := hO.drew
  refine d_tk 0 f13r5aOp0 (.agg c6) hQ (y_l 33 (fun _ h => h.2.1) fc6_33 Try.underlying33) hS ?_
  refine d_tk 2 f13r5aOp2 (.agg c5) hQ (y_l 22 (fun _ h => h.1) fc5_22 Try.underlying22) hS ?_
  refine d_fr (ls 4 5) (Fr [z0, z1, z2, z3, z4, D b5, D b6, z7, z8, z9, z10, z11, z12, z13, z14, z15, z16, z17, z18, z19, z20, z21, z22, A c6, z24, A c5, z26] zz) ?_
  refine d_one 1 f13r5aOp1 (ls 4 7) (fun K hK => ?_)
  refine k_call hK hO (fun _ hO => ⟨hO.row _ h5, hO.row _ h6, trivial⟩) 17 #[.agg c6] (.agg e24) r24 ?_
  intro w1 hO
  have hS : Has [(b5, c5, 22), (b6, c6, 33)] w1 := ⟨hO.row _ h5, hO.row _ h6, trivial⟩
  refine d_tk 3 f13r5aOp3 (.bool true) hQ (y_val (fun _ => k26 _ _ (by kernel_rfl) (by kernel_rfl))) hS ?_
  exact d_fr (ls 4 15) _ (wpAnyH_done (by kernel_rfl) (H  _ hO) _)
def f13r5bOp0 : Oper := ⟨some 23, .load 33 (.tmp 6), 33, "ref.go:60", #[], none⟩
def f13r5bOp1 : Oper := ⟨some 24, .call { callee := .value (.func 17), args := #[.tmp 23], argTypes := #[33] }, 22, "ref.go:60", #[⟨0, .data⟩], none⟩
def f13r5bOp2 : Oper := ⟨some 25, .load 22 (.tmp 5), 22, "ref.go:60", #[], none⟩
def f13r5bOp3 : Oper := ⟨some 26, .binOp .neq 22 (.tmp 24) (.tmp 25) 22, 4, "ref.go:60", #[⟨1, .data⟩, ⟨2, .data⟩], none⟩
def f13r5bOps : Array Oper := #[f13r5bOp0, f13r5bOp1, f13r5bOp2, f13r5bOp3]
set_option maxRecDepth 100000 in
set_option maxHeartbeats 2000000 in
theorem f13r5b_r {Q : Exit → Act → World → Prop} {u w : World} {L : List Row} {z0 z1 z2 z3 z4 z7 z8 z9 z10 z11 z12 z13 z14 z15 z16 z17 z18 z19 z20 z21 z22 z23 z24 z25 z26 : Value} {zz : List Value} {b5 b6 : Nat} {c5 c6 : Array Value} {e24 : Array Value} (hQ : ∀ c a w n v, Q (.panic c) (a.put (some n) v) w → Q (.panic c) a w) (hO : Own u w L) (i5 : Nat) (h5 : L[i5]? = some (b5, c5, 22)) (i6 : Nat) (h6 : L[i6]? = some (b6, c6, 33)) (r24 : ∀ w, Ret 17 #[.agg c6] w (.agg e24)) (k26 : ∀ (a : Act) (w : World), a.eval (.tmp 24) = .agg e24 → a.eval (.tmp 25) = .agg c5 → (execOp a.eval f13r5bOp3).run Try.prog w = .ok (.value (.bool false)) w) (H : ∀ (w' : World), Own u w' (L) → Q .normal { tmps := List.toArray (z0 :: z1 :: z2 :: z3 :: z4 :: (.pointer (some ⟨b5, 0, none⟩)) :: (.pointer (some ⟨b6, 0, none⟩)) :: z7 :: z8 :: z9 :: z10 :: z11 :: z12 :: z13 :: z14 :: z15 :: z16 :: z17 :: z18 :: z19 :: z20 :: z21 :: z22 :: (.agg c6) :: (.agg e24) :: (.agg c5) :: (.bool false) :: zz), defers := [] } w') :
    (Code.region 5 f13r5bOps true).wp Try.prog Q { tmps := List.toArray (z0 :: z1 :: z2 :: z3 :: z4 :: (.pointer (some ⟨b5, 0, none⟩)) :: (.pointer (some ⟨b6, 0, none⟩)) :: z7 :: z8 :: z9 :: z10 :: z11 :: z12 :: z13 :: z14 :: z15 :: z16 :: z17 :: z18 :: z19 :: z20 :: z21 :: z22 :: z23 :: z24 :: z25 :: z26 :: zz), defers := [] } w := by
  have fc5_22 := hO.fits i5 h5
  have fc6_33 := hO.fits i6 h6
  refine wp_region_held_drew (S := Has [(b5, c5, 22), (b6, c6, 33)]) (by kernel_rfl) ⟨hO.drew.row _ h5, hO.drew.row _ h6, trivial⟩ (fun hS => ?_)
  replace hO := hO.drew
  refine d_tk 0 f13r5bOp0 (.agg c6) hQ (y_l 33 (fun _ h => h.2.1) fc6_33 Try.underlying33) hS ?_
  refine d_tk 2 f13r5bOp2 (.agg c5) hQ (y_l 22 (fun _ h => h.1) fc5_22 Try.underlying22) hS ?_
  refine d_fr (ls 4 5) (Fr [z0, z1, z2, z3, z4, D b5, D b6, z7, z8, z9, z10, z11, z12, z13, z14, z15, z16, z17, z18, z19, z20, z21, z22, A c6, z24, A c5, z26] zz) ?_
  refine d_one 1 f13r5bOp1 (ls 4 7) (fun K hK => ?_)
  refine k_call hK hO (fun _ hO => ⟨hO.row _ h5, hO.row _ h6, trivial⟩) 17 #[.agg c6] (.agg e24) r24 ?_
  intro w1 hO
  have hS : Has [(b5, c5, 22), (b6, c6, 33)] w1 := ⟨hO.row _ h5, hO.row _ h6, trivial⟩
  refine d_tk 3 f13r5bOp3 (.bool false) hQ (y_val (fun _ => k26 _ _ (by kernel_rfl) (by kernel_rfl))) hS ?_
  exact d_fr (ls 4 15) _ (wpAnyH_done (by kernel_rfl) (H  _ hO) _)
def f13r6Op0 : Oper := ⟨some 27, .call { callee := .value (.func 47), args := #[], argTypes := #[] }, 35, "ref.go:61", #[], none⟩
def f13r6Op1 : Oper := ⟨none, .store 35 (.tmp 2) (.tmp 27), 0, "ref.go:61", #[⟨0, .data⟩, ⟨0, .chain⟩, ⟨0, .phase⟩], none⟩
def f13r6Op2 : Oper := ⟨some 3, .assign (.const (.bool false)), 4, "ref.go:61", #[⟨1, .chain⟩, ⟨0, .phase⟩, ⟨1, .phase⟩], none⟩
def f13r6Ops : Array Oper := #[f13r6Op0, f13r6Op1, f13r6Op2]
set_option maxRecDepth 100000 in
set_option maxHeartbeats 2000000 in
theorem f13r6_r {Q : Exit → Act → World → Prop} {u w : World} {L : List Row} {z0 z1 z3 z4 z5 z6 z7 z8 z9 z10 z11 z12 z13 z14 z15 z16 z17 z18 z19 z20 z21 z22 z23 z24 z25 z26 z27 : Value} {zz : List Value} {b2 : Nat} {c2 : Array Value} {e27 : Array Value} (hO : Own u w L) (i2 : Nat) (h2 : L[i2]? = some (b2, c2, 35)) (r27 : ∀ w, Ret 47 #[] w (.agg e27)) (fe27_35 : Fit 35 e27) (H : ∀ (w' : World), Own u w' ((L.set i2 (b2, e27, 35))) → Q .normal { tmps := List.toArray (z0 :: z1 :: (.pointer (some ⟨b2, 0, none⟩)) :: (.bool false) :: z4 :: z5 :: z6 :: z7 :: z8 :: z9 :: z10 :: z11 :: z12 :: z13 :: z14 :: z15 :: z16 :: z17 :: z18 :: z19 :: z20 :: z21 :: z22 :: z23 :: z24 :: z25 :: z26 :: (.agg e27) :: zz), defers := [] } w') :
    (Code.region 6 f13r6Ops false).wp Try.prog Q { tmps := List.toArray (z0 :: z1 :: (.pointer (some ⟨b2, 0, none⟩)) :: z3 :: z4 :: z5 :: z6 :: z7 :: z8 :: z9 :: z10 :: z11 :: z12 :: z13 :: z14 :: z15 :: z16 :: z17 :: z18 :: z19 :: z20 :: z21 :: z22 :: z23 :: z24 :: z25 :: z26 :: z27 :: zz), defers := [] } w := by
  refine wp_region_list (show wpList _ f13r6Ops _ [f13r6Op0, f13r6Op1, f13r6Op2] _ _ from ?_)
  refine l_call hO 47 #[] (.agg e27) r27 ?_
  intro w1 hO
  refine l_st hO 35 i2 h2 e27 fe27_35 ?_
  intro w2 hO
  refine l_val (.bool false) (by kernel_rfl) ?_
  exact l_fr _ (wpList_nil (H  _ hO))
def f13r7Op0 : Oper := ⟨some 28, .load 33 (.tmp 6), 33, "ref.go:63", #[], none⟩
def f13r7Op1 : Oper := ⟨some 29, .load 33 (.tmp 6), 33, "ref.go:63", #[], none⟩
def f13r7Op2 : Oper := ⟨some 30, .call { callee := .value (.func 48), args := #[.tmp 28, .tmp 29], argTypes := #[33, 33] }, 33, "ref.go:63", #[⟨0, .data⟩, ⟨1, .data⟩], none⟩
def f13r7Op3 : Oper := ⟨some 7, .alloc 33, 0, "ref.go:63", #[], none⟩
def f13r7Op4 : Oper := ⟨none, .store 33 (.tmp 7) (.tmp 30), 0, "ref.go:63", #[⟨3, .data⟩, ⟨2, .data⟩, ⟨2, .chain⟩, ⟨0, .phase⟩, ⟨1, .phase⟩, ⟨2, .phase⟩, ⟨3, .phase⟩], none⟩
def f13r7Ops : Array Oper := #[f13r7Op0, f13r7Op1, f13r7Op2, f13r7Op3, f13r7Op4]
set_option maxRecDepth 100000 in
set_option maxHeartbeats 2000000 in
theorem f13r7_r {Q : Exit → Act → World → Prop} {u w : World} {L : List Row} {z0 z1 z2 z3 z4 z5 z7 z8 z9 z10 z11 z12 z13 z14 z15 z16 z17 z18 z19 z20 z21 z22 z23 z24 z25 z26 z27 z28 z29 z30 : Value} {zz : List Value} {b6 : Nat} {c6 : Array Value} {e30 : Array Value} (hO : Own u w L) (i6 : Nat) (h6 : L[i6]? = some (b6, c6, 33)) (r30 : ∀ w, Ret 48 #[.agg c6, .agg c6] w (.agg e30)) (fe30_33 : Fit 33 e30) (H : ∀ (n7 : Nat) (w' : World), Own u w' ((n7, e30, 33) :: L) → Q .normal { tmps := List.toArray (z0 :: z1 :: z2 :: z3 :: z4 :: z5 :: (.pointer (some ⟨b6, 0, none⟩)) :: (.pointer (some ⟨n7, 0, none⟩)) :: z8 :: z9 :: z10 :: z11 :: z12 :: z13 :: z14 :: z15 :: z16 :: z17 :: z18 :: z19 :: z20 :: z21 :: z22 :: z23 :: z24 :: z25 :: z26 :: z27 :: (.agg c6) :: (.agg c6) :: (.agg e30) :: zz), defers := [] } w') :
    (Code.region 7 f13r7Ops false).wp Try.prog Q { tmps := List.toArray (z0 :: z1 :: z2 :: z3 :: z4 :: z5 :: (.pointer (some ⟨b6, 0, none⟩)) :: z7 :: z8 :: z9 :: z10 :: z11 :: z12 :: z13 :: z14 :: z15 :: z16 :: z17 :: z18 :: z19 :: z20 :: z21 :: z22 :: z23 :: z24 :: z25 :: z26 :: z27 :: z28 :: z29 :: z30 :: zz), defers := [] } w := by
  refine wp_region_list (show wpList _ f13r7Ops _ [f13r7Op0, f13r7Op1, f13r7Op2, f13r7Op3, f13r7Op4] _ _ from ?_)
  refine l_ld hO 33 i6 h6 Try.underlying33 ?_
  refine l_ld hO 33 i6 h6 Try.underlying33 ?_
  refine l_call hO 48 #[.agg c6, .agg c6] (.agg e30) r30 ?_
  intro w1 hO
  refine l_fr (Fr [z0, z1, z2, z3, z4, z5, D b6, z7, z8, z9, z10, z11, z12, z13, z14, z15, z16, z17, z18, z19, z20, z21, z22, z23, z24, z25, z26, z27, A c6, A c6, A e30] zz) ?_
  refine l_new hO (vals .u64 16 (F.dg 0)) 33 (al33 rfl) (fit_rn _) ?_
  intro n7 w2 hO
  refine l_st hO 33 0 rfl e30 fe30_33 ?_
  intro w3 hO
  exact l_fr _ (wpList_nil (H n7 _ hO))
def f13r8Op0 : Oper := ⟨some 31, .load 33 (.tmp 7), 33, "ref.go:64", #[], none⟩
def f13r8Op1 : Oper := ⟨some 32, .call { callee := .value (.func 50), args := #[.const (.int .u64 1)], argTypes := #[24] }, 33, "ref.go:64", #[], none⟩
def f13r8Op2 : Oper := ⟨some 33, .call { callee := .value (.func 49), args := #[.tmp 31, .tmp 32], argTypes := #[33, 33] }, 33, "ref.go:64", #[⟨0, .data⟩, ⟨1, .data⟩, ⟨1, .chain⟩], none⟩
def f13r8Op3 : Oper := ⟨some 8, .alloc 33, 0, "ref.go:64", #[], none⟩
def f13r8Op4 : Oper := ⟨none, .store 33 (.tmp 8) (.tmp 33), 0, "ref.go:64", #[⟨3, .data⟩, ⟨2, .data⟩, ⟨2, .chain⟩, ⟨0, .phase⟩, ⟨1, .phase⟩, ⟨2, .phase⟩, ⟨3, .phase⟩], none⟩
def f13r8Ops : Array Oper := #[f13r8Op0, f13r8Op1, f13r8Op2, f13r8Op3, f13r8Op4]
set_option maxRecDepth 100000 in
set_option maxHeartbeats 2000000 in
theorem f13r8_r {Q : Exit → Act → World → Prop} {u w : World} {L : List Row} {z0 z1 z2 z3 z4 z5 z6 z8 z9 z10 z11 z12 z13 z14 z15 z16 z17 z18 z19 z20 z21 z22 z23 z24 z25 z26 z27 z28 z29 z30 z31 z32 z33 : Value} {zz : List Value} {b7 : Nat} {c7 : Array Value} {e32 e33 : Array Value} (hQ : ∀ c a w n v, Q (.panic c) (a.put (some n) v) w → Q (.panic c) a w) (hO : Own u w L) (i7 : Nat) (h7 : L[i7]? = some (b7, c7, 33)) (r32 : ∀ w, Ret 50 #[.int IntKind.u64 1] w (.agg e32)) (r33 : ∀ w, Ret 49 #[.agg c7, .agg e32] w (.agg e33)) (fe33_33 : Fit 33 e33) (H : ∀ (n8 : Nat) (w' : World), Own u w' ((n8, e33, 33) :: L) → Q .normal { tmps := List.toArray (z0 :: z1 :: z2 :: z3 :: z4 :: z5 :: z6 :: (.pointer (some ⟨b7, 0, none⟩)) :: (.pointer (some ⟨n8, 0, none⟩)) :: z9 :: z10 :: z11 :: z12 :: z13 :: z14 :: z15 :: z16 :: z17 :: z18 :: z19 :: z20 :: z21 :: z22 :: z23 :: z24 :: z25 :: z26 :: z27 :: z28 :: z29 :: z30 :: (.agg c7) :: (.agg e32) :: (.agg e33) :: zz), defers := [] } w') :
    (Code.region 8 f13r8Ops true).wp Try.prog Q { tmps := List.toArray (z0 :: z1 :: z2 :: z3 :: z4 :: z5 :: z6 :: (.pointer (some ⟨b7, 0, none⟩)) :: z8 :: z9 :: z10 :: z11 :: z12 :: z13 :: z14 :: z15 :: z16 :: z17 :: z18 :: z19 :: z20 :: z21 :: z22 :: z23 :: z24 :: z25 :: z26 :: z27 :: z28 :: z29 :: z30 :: z31 :: z32 :: z33 :: zz), defers := [] } w := by
  have fc7_33 := hO.fits i7 h7
  have s0 : ∀ (n8 : Nat) (w : World), Own u w ((n8, vals .u64 16 (F.dg 0), 33) :: L) → wpAnyH Try.prog .any f13r8Ops Q (Has [(b7, c7, 33)]) 1 (ls 5 15) (Fr [z0, z1, z2, z3, z4, z5, z6, D b7, D n8, z9, z10, z11, z12, z13, z14, z15, z16, z17, z18, z19, z20, z21, z22, z23, z24, z25, z26, z27, z28, z29, z30, A c7, A e32, A e33] zz) w := by
    intro n8 w hO
    refine d_one 4 f13r8Op4 (ls 5 31) (fun K hK => ?_)
    refine k_st hK hO 33 0 rfl e33 fe33_33 (fun _ hO => ⟨hO.row _ (gs h7), trivial⟩) ?_
    intro w1 hO
    exact wpAnyH_done (by kernel_rfl) (H n8 _ hO) _
  have s1 : ∀ (n8 : Nat) (w : World), Own u w ((n8, vals .u64 16 (F.dg 0), 33) :: L) → wpAnyH Try.prog .any f13r8Ops Q (Has [(b7, c7, 33)]) 2 (ls 5 11) (Fr [z0, z1, z2, z3, z4, z5, z6, D b7, D n8, z9, z10, z11, z12, z13, z14, z15, z16, z17, z18, z19, z20, z21, z22, z23, z24, z25, z26, z27, z28, z29, z30, A c7, A e32, z33] zz) w := by
    intro n8 w hO
    refine d_one 2 f13r8Op2 (ls 5 15) (fun K hK => ?_)
    refine k_call hK hO (fun _ hO => ⟨hO.row _ (gs h7), trivial⟩) 49 #[.agg c7, .agg e32] (.agg e33) r33 ?_
    intro w2 hO
    exact d_fr _ _ (s0 n8 _ hO)
  refine wp_region_held_drew (S := Has [(b7, c7, 33)]) (by kernel_rfl) ⟨hO.drew.row _ h7, trivial⟩ (fun hS => ?_)
  replace hO := hO.drew
  refine d_tk 0 f13r8Op0 (.agg c7) hQ (y_l 33 (fun _ h => h.1) fc7_33 Try.underlying33) hS ?_
  refine d_fr (ls 5 1) (Fr [z0, z1, z2, z3, z4, z5, z6, D b7, z8, z9, z10, z11, z12, z13, z14, z15, z16, z17, z18, z19, z20, z21, z22, z23, z24, z25, z26, z27, z28, z29, z30, A c7, z32, z33] zz) ?_
  refine wpAnyH_ready (rs := [1, 3]) (by kernel_rfl) (by simp) ?_
  refine d_cons 1 f13r8Op1 (ls 5 3) (fun K hK => ?_) ?_
  · skip
    refine k_call hK hO (fun _ hO => ⟨hO.row _ h7, trivial⟩) 50 #[.int IntKind.u64 1] (.agg e32) r32 ?_
    intro w3 hO
    refine wpAnyH_ready (rs := [2, 3]) (by kernel_rfl) (by simp) ?_
    refine d_cons 2 f13r8Op2 (ls 5 7) (fun K hK => ?_) ?_
    · skip
      refine k_call hK hO (fun _ hO => ⟨hO.row _ h7, trivial⟩) 49 #[.agg c7, .agg e32] (.agg e33) r33 ?_
      intro w4 hO
      refine d_one 3 f13r8Op3 (ls 5 15) (fun K hK => ?_)
      refine k_new hK hO (vals .u64 16 (F.dg 0)) 33 (al33 rfl) (fit_rn _) (fun _ _ hO => ⟨hO.row _ (gs h7), trivial⟩) ?_
      intro n8 w5 hO
      exact d_fr _ _ (s0 n8 _ hO)
    refine d_cons 3 f13r8Op3 (ls 5 11) (fun K hK => ?_) ?_
    · skip
      refine k_new hK hO (vals .u64 16 (F.dg 0)) 33 (al33 rfl) (fit_rn _) (fun _ _ hO => ⟨hO.row _ (gs h7), trivial⟩) ?_
      intro n8 w6 hO
      exact d_fr _ _ (s1 n8 _ hO)
    exact AllReadyH.nil
  refine d_cons 3 f13r8Op3 (ls 5 9) (fun K hK => ?_) ?_
  · skip
    refine k_new hK hO (vals .u64 16 (F.dg 0)) 33 (al33 rfl) (fit_rn _) (fun _ _ hO => ⟨hO.row _ (gs h7), trivial⟩) ?_
    intro n8 w7 hO
    refine d_one 1 f13r8Op1 (ls 5 11) (fun K hK => ?_)
    refine k_call hK hO (fun _ hO => ⟨hO.row _ (gs h7), trivial⟩) 50 #[.int IntKind.u64 1] (.agg e32) r32 ?_
    intro w8 hO
    exact d_fr _ _ (s1 n8 _ hO)
  exact AllReadyH.nil
def f13r9Op0 : Oper := ⟨some 34, .call { callee := .value (.func 52), args := #[], argTypes := #[] }, 33, "ref.go:65", #[], none⟩
def f13r9Op1 : Oper := ⟨some 35, .load 33 (.tmp 7), 33, "ref.go:65", #[], none⟩
def f13r9Op2 : Oper := ⟨some 36, .call { callee := .value (.func 48), args := #[.tmp 34, .tmp 35], argTypes := #[33, 33] }, 33, "ref.go:65", #[⟨0, .data⟩, ⟨1, .data⟩, ⟨0, .chain⟩], none⟩
def f13r9Op3 : Oper := ⟨some 37, .call { callee := .value (.func 50), args := #[.const (.int .u64 1)], argTypes := #[24] }, 33, "ref.go:65", #[⟨2, .chain⟩], none⟩
def f13r9Op4 : Oper := ⟨some 38, .call { callee := .value (.func 51), args := #[.tmp 36, .tmp 37], argTypes := #[33, 33] }, 33, "ref.go:65", #[⟨2, .data⟩, ⟨3, .data⟩, ⟨3, .chain⟩], none⟩
def f13r9Op5 : Oper := ⟨some 9, .alloc 33, 0, "ref.go:65", #[], none⟩
def f13r9Op6 : Oper := ⟨none, .store 33 (.tmp 9) (.tmp 38), 0, "ref.go:65", #[⟨5, .data⟩, ⟨4, .data⟩, ⟨4, .chain⟩, ⟨0, .phase⟩, ⟨1, .phase⟩, ⟨2, .phase⟩, ⟨3, .phase⟩, ⟨4, .phase⟩, ⟨5, .phase⟩], none⟩
def f13r9Ops : Array Oper := #[f13r9Op0, f13r9Op1, f13r9Op2, f13r9Op3, f13r9Op4, f13r9Op5, f13r9Op6]
set_option maxRecDepth 100000 in
set_option maxHeartbeats 2000000 in
theorem f13r9_r {Q : Exit → Act → World → Prop} {u w : World} {L : List Row} {z0 z1 z2 z3 z4 z5 z6 z8 z9 z10 z11 z12 z13 z14 z15 z16 z17 z18 z19 z20 z21 z22 z23 z24 z25 z26 z27 z28 z29 z30 z31 z32 z33 z34 z35 z36 z37 z38 : Value} {zz : List Value} {b7 : Nat} {c7 : Array Value} {e34 e36 e37 e38 : Array Value} (hQ : ∀ c a w n v, Q (.panic c) (a.put (some n) v) w → Q (.panic c) a w) (hO : Own u w L) (i7 : Nat) (h7 : L[i7]? = some (b7, c7, 33)) (r34 : ∀ w, Ret 52 #[] w (.agg e34)) (r36 : ∀ w, Ret 48 #[.agg e34, .agg c7] w (.agg e36)) (r37 : ∀ w, Ret 50 #[.int IntKind.u64 1] w (.agg e37)) (r38 : ∀ w, Ret 51 #[.agg e36, .agg e37] w (.agg e38)) (fe38_33 : Fit 33 e38) (H : ∀ (n9 : Nat) (w' : World), Own u w' ((n9, e38, 33) :: L) → Q .normal { tmps := List.toArray (z0 :: z1 :: z2 :: z3 :: z4 :: z5 :: z6 :: (.pointer (some ⟨b7, 0, none⟩)) :: z8 :: (.pointer (some ⟨n9, 0, none⟩)) :: z10 :: z11 :: z12 :: z13 :: z14 :: z15 :: z16 :: z17 :: z18 :: z19 :: z20 :: z21 :: z22 :: z23 :: z24 :: z25 :: z26 :: z27 :: z28 :: z29 :: z30 :: z31 :: z32 :: z33 :: (.agg e34) :: (.agg c7) :: (.agg e36) :: (.agg e37) :: (.agg e38) :: zz), defers := [] } w') :
    (Code.region 9 f13r9Ops true).wp Try.prog Q { tmps := List.toArray (z0 :: z1 :: z2 :: z3 :: z4 :: z5 :: z6 :: (.pointer (some ⟨b7, 0, none⟩)) :: z8 :: z9 :: z10 :: z11 :: z12 :: z13 :: z14 :: z15 :: z16 :: z17 :: z18 :: z19 :: z20 :: z21 :: z22 :: z23 :: z24 :: z25 :: z26 :: z27 :: z28 :: z29 :: z30 :: z31 :: z32 :: z33 :: z34 :: z35 :: z36 :: z37 :: z38 :: zz), defers := [] } w := by
  have fc7_33 := hO.fits i7 h7
  have s0 : ∀ (n9 : Nat) (w : World), Own u w ((n9, vals .u64 16 (F.dg 0), 33) :: L) → wpAnyH Try.prog .any f13r9Ops Q (Has [(b7, c7, 33)]) 1 (ls 7 63) (Fr [z0, z1, z2, z3, z4, z5, z6, D b7, z8, D n9, z10, z11, z12, z13, z14, z15, z16, z17, z18, z19, z20, z21, z22, z23, z24, z25, z26, z27, z28, z29, z30, z31, z32, z33, A e34, A c7, A e36, A e37, A e38] zz) w := by
    intro n9 w hO
    refine d_one 6 f13r9Op6 (ls 7 127) (fun K hK => ?_)
    refine k_st hK hO 33 0 rfl e38 fe38_33 (fun _ hO => ⟨hO.row _ (gs h7), trivial⟩) ?_
    intro w1 hO
    exact wpAnyH_done (by kernel_rfl) (H n9 _ hO) _
  have s1 : ∀ (n9 : Nat) (w : World), Own u w ((n9, vals .u64 16 (F.dg 0), 33) :: L) → wpAnyH Try.prog .any f13r9Ops Q (Has [(b7, c7, 33)]) 2 (ls 7 47) (Fr [z0, z1, z2, z3, z4, z5, z6, D b7, z8, D n9, z10, z11, z12, z13, z14, z15, z16, z17, z18, z19, z20, z21, z22, z23, z24, z25, z26, z27, z28, z29, z30, z31, z32, z33, A e34, A c7, A e36, A e37, z38] zz) w := by
    intro n9 w hO
    refine d_one 4 f13r9Op4 (ls 7 63) (fun K hK => ?_)
    refine k_call hK hO (fun _ hO => ⟨hO.row _ (gs h7), trivial⟩) 51 #[.agg e36, .agg e37] (.agg e38) r38 ?_
    intro w2 hO
    exact d_fr _ _ (s0 n9 _ hO)
  have s2 : ∀ (n9 : Nat) (w : World), Own u w ((n9, vals .u64 16 (F.dg 0), 33) :: L) → wpAnyH Try.prog .any f13r9Ops Q (Has [(b7, c7, 33)]) 3 (ls 7 39) (Fr [z0, z1, z2, z3, z4, z5, z6, D b7, z8, D n9, z10, z11, z12, z13, z14, z15, z16, z17, z18, z19, z20, z21, z22, z23, z24, z25, z26, z27, z28, z29, z30, z31, z32, z33, A e34, A c7, A e36, z37, z38] zz) w := by
    intro n9 w hO
    refine d_one 3 f13r9Op3 (ls 7 47) (fun K hK => ?_)
    refine k_call hK hO (fun _ hO => ⟨hO.row _ (gs h7), trivial⟩) 50 #[.int IntKind.u64 1] (.agg e37) r37 ?_
    intro w3 hO
    exact d_fr _ _ (s1 n9 _ hO)
  have s3 : ∀ (n9 : Nat) (w : World), Own u w ((n9, vals .u64 16 (F.dg 0), 33) :: L) → wpAnyH Try.prog .any f13r9Ops Q (Has [(b7, c7, 33)]) 4 (ls 7 35) (Fr [z0, z1, z2, z3, z4, z5, z6, D b7, z8, D n9, z10, z11, z12, z13, z14, z15, z16, z17, z18, z19, z20, z21, z22, z23, z24, z25, z26, z27, z28, z29, z30, z31, z32, z33, A e34, A c7, z36, z37, z38] zz) w := by
    intro n9 w hO
    refine d_one 2 f13r9Op2 (ls 7 39) (fun K hK => ?_)
    refine k_call hK hO (fun _ hO => ⟨hO.row _ (gs h7), trivial⟩) 48 #[.agg e34, .agg c7] (.agg e36) r36 ?_
    intro w4 hO
    exact d_fr _ _ (s2 n9 _ hO)
  refine wp_region_held_drew (S := Has [(b7, c7, 33)]) (by kernel_rfl) ⟨hO.drew.row _ h7, trivial⟩ (fun hS => ?_)
  replace hO := hO.drew
  refine d_tk 1 f13r9Op1 (.agg c7) hQ (y_l 33 (fun _ h => h.1) fc7_33 Try.underlying33) hS ?_
  refine d_fr (ls 7 2) (Fr [z0, z1, z2, z3, z4, z5, z6, D b7, z8, z9, z10, z11, z12, z13, z14, z15, z16, z17, z18, z19, z20, z21, z22, z23, z24, z25, z26, z27, z28, z29, z30, z31, z32, z33, z34, A c7, z36, z37, z38] zz) ?_
  refine wpAnyH_ready (rs := [0, 5]) (by kernel_rfl) (by simp) ?_
  refine d_cons 0 f13r9Op0 (ls 7 3) (fun K hK => ?_) ?_
  · skip
    refine k_call hK hO (fun _ hO => ⟨hO.row _ h7, trivial⟩) 52 #[] (.agg e34) r34 ?_
    intro w5 hO
    refine wpAnyH_ready (rs := [2, 5]) (by kernel_rfl) (by simp) ?_
    refine d_cons 2 f13r9Op2 (ls 7 7) (fun K hK => ?_) ?_
    · skip
      refine k_call hK hO (fun _ hO => ⟨hO.row _ h7, trivial⟩) 48 #[.agg e34, .agg c7] (.agg e36) r36 ?_
      intro w6 hO
      refine wpAnyH_ready (rs := [3, 5]) (by kernel_rfl) (by simp) ?_
      refine d_cons 3 f13r9Op3 (ls 7 15) (fun K hK => ?_) ?_
      · skip
        refine k_call hK hO (fun _ hO => ⟨hO.row _ h7, trivial⟩) 50 #[.int IntKind.u64 1] (.agg e37) r37 ?_
        intro w7 hO
        refine d_fr (ls 7 15) (Fr [z0, z1, z2, z3, z4, z5, z6, D b7, z8, z9, z10, z11, z12, z13, z14, z15, z16, z17, z18, z19, z20, z21, z22, z23, z24, z25, z26, z27, z28, z29, z30, z31, z32, z33, A e34, A c7, A e36, A e37, z38] zz) ?_
        refine wpAnyH_ready (rs := [4, 5]) (by kernel_rfl) (by simp) ?_
        refine d_cons 4 f13r9Op4 (ls 7 31) (fun K hK => ?_) ?_
        · skip
          refine k_call hK hO (fun _ hO => ⟨hO.row _ h7, trivial⟩) 51 #[.agg e36, .agg e37] (.agg e38) r38 ?_
          intro w8 hO
          refine d_one 5 f13r9Op5 (ls 7 63) (fun K hK => ?_)
          refine k_new hK hO (vals .u64 16 (F.dg 0)) 33 (al33 rfl) (fit_rn _) (fun _ _ hO => ⟨hO.row _ (gs h7), trivial⟩) ?_
          intro n9 w9 hO
          exact d_fr _ _ (s0 n9 _ hO)
        refine d_cons 5 f13r9Op5 (ls 7 47) (fun K hK => ?_) ?_
        · skip
          refine k_new hK hO (vals .u64 16 (F.dg 0)) 33 (al33 rfl) (fit_rn _) (fun _ _ hO => ⟨hO.row _ (gs h7), trivial⟩) ?_
          intro n9 w10 hO
          exact d_fr _ _ (s1 n9 _ hO)
        exact AllReadyH.nil
      refine d_cons 5 f13r9Op5 (ls 7 39) (fun K hK => ?_) ?_
      · skip
        refine k_new hK hO (vals .u64 16 (F.dg 0)) 33 (al33 rfl) (fit_rn _) (fun _ _ hO => ⟨hO.row _ (gs h7), trivial⟩) ?_
        intro n9 w11 hO
        exact d_fr _ _ (s2 n9 _ hO)
      exact AllReadyH.nil
    refine d_cons 5 f13r9Op5 (ls 7 35) (fun K hK => ?_) ?_
    · skip
      refine k_new hK hO (vals .u64 16 (F.dg 0)) 33 (al33 rfl) (fit_rn _) (fun _ _ hO => ⟨hO.row _ (gs h7), trivial⟩) ?_
      intro n9 w12 hO
      exact d_fr _ _ (s3 n9 _ hO)
    exact AllReadyH.nil
  refine d_cons 5 f13r9Op5 (ls 7 34) (fun K hK => ?_) ?_
  · skip
    refine k_new hK hO (vals .u64 16 (F.dg 0)) 33 (al33 rfl) (fit_rn _) (fun _ _ hO => ⟨hO.row _ (gs h7), trivial⟩) ?_
    intro n9 w13 hO
    refine d_one 0 f13r9Op0 (ls 7 35) (fun K hK => ?_)
    refine k_call hK hO (fun _ hO => ⟨hO.row _ (gs h7), trivial⟩) 52 #[] (.agg e34) r34 ?_
    intro w14 hO
    exact d_fr _ _ (s3 n9 _ hO)
  exact AllReadyH.nil
def f13r10Op0 : Oper := ⟨some 40, .load 33 (.tmp 8), 33, "ref.go:66", #[], none⟩
def f13r10Op1 : Oper := ⟨some 41, .load 33 (.tmp 9), 33, "ref.go:66", #[], none⟩
def f13r10Op2 : Oper := ⟨some 42, .call { callee := .value (.func 53), args := #[.tmp 40, .tmp 41], argTypes := #[33, 33] }, 77, "ref.go:66", #[⟨0, .data⟩, ⟨1, .data⟩], none⟩
def f13r10Op3 : Oper := ⟨some 39, .move (.tmp 42), 77, "ref.go:66", #[⟨2, .data⟩], none⟩
def f13r10Op4 : Oper := ⟨some 43, .extract (.tmp 39) 0, 33, "ref.go:66", #[⟨3, .data⟩], none⟩
def f13r10Op5 : Oper := ⟨some 44, .extract (.tmp 39) 1, 4, "ref.go:66", #[⟨3, .data⟩, ⟨7, .gcOnly .lateStores⟩], none⟩
def f13r10Op6 : Oper := ⟨some 10, .alloc 33, 0, "ref.go:66", #[], none⟩
def f13r10Op7 : Oper := ⟨none, .store 33 (.tmp 10) (.tmp 43), 0, "ref.go:66", #[⟨6, .data⟩, ⟨4, .data⟩, ⟨2, .chain⟩, ⟨0, .phase⟩, ⟨1, .phase⟩, ⟨2, .phase⟩, ⟨3, .phase⟩, ⟨4, .phase⟩, ⟨5, .textOnly .lateStores⟩, ⟨6, .phase⟩], none⟩
def f13r10Op8 : Oper := ⟨some 11, .assign (.tmp 44), 4, "ref.go:66", #[⟨5, .data⟩, ⟨7, .chain⟩, ⟨0, .phase⟩, ⟨1, .phase⟩, ⟨2, .phase⟩, ⟨3, .phase⟩, ⟨4, .phase⟩, ⟨5, .phase⟩, ⟨6, .phase⟩, ⟨7, .phase⟩], none⟩
def f13r10Ops : Array Oper := #[f13r10Op0, f13r10Op1, f13r10Op2, f13r10Op3, f13r10Op4, f13r10Op5, f13r10Op6, f13r10Op7, f13r10Op8]
set_option maxRecDepth 100000 in
set_option maxHeartbeats 2000000 in
theorem f13r10_r {Q : Exit → Act → World → Prop} {u w : World} {L : List Row} {z0 z1 z2 z3 z4 z5 z6 z7 z10 z11 z12 z13 z14 z15 z16 z17 z18 z19 z20 z21 z22 z23 z24 z25 z26 z27 z28 z29 z30 z31 z32 z33 z34 z35 z36 z37 z38 z39 z40 z41 z42 z43 z44 : Value} {zz : List Value} {b8 b9 : Nat} {c8 c9 : Array Value} {e42a : Array Value} {p42b : Bool} (hO : Own u w L) (i8 : Nat) (h8 : L[i8]? = some (b8, c8, 33)) (i9 : Nat) (h9 : L[i9]? = some (b9, c9, 33)) (r42 : ∀ w, Ret 53 #[.agg c8, .agg c9] w (.tuple #[.agg e42a, .bool p42b])) (fe42a_33 : Fit 33 e42a) (H : ∀ (n10 : Nat) (w' : World), Own u w' ((n10, e42a, 33) :: L) → Q .normal { tmps := List.toArray (z0 :: z1 :: z2 :: z3 :: z4 :: z5 :: z6 :: z7 :: (.pointer (some ⟨b8, 0, none⟩)) :: (.pointer (some ⟨b9, 0, none⟩)) :: (.pointer (some ⟨n10, 0, none⟩)) :: (.bool p42b) :: z12 :: z13 :: z14 :: z15 :: z16 :: z17 :: z18 :: z19 :: z20 :: z21 :: z22 :: z23 :: z24 :: z25 :: z26 :: z27 :: z28 :: z29 :: z30 :: z31 :: z32 :: z33 :: z34 :: z35 :: z36 :: z37 :: z38 :: (.tuple #[.agg e42a, .bool p42b]) :: (.agg c8) :: (.agg c9) :: (.tuple #[.agg e42a, .bool p42b]) :: (.agg e42a) :: (.bool p42b) :: zz), defers := [] } w') :
    (Code.region 10 f13r10Ops false).wp Try.prog Q { tmps := List.toArray (z0 :: z1 :: z2 :: z3 :: z4 :: z5 :: z6 :: z7 :: (.pointer (some ⟨b8, 0, none⟩)) :: (.pointer (some ⟨b9, 0, none⟩)) :: z10 :: z11 :: z12 :: z13 :: z14 :: z15 :: z16 :: z17 :: z18 :: z19 :: z20 :: z21 :: z22 :: z23 :: z24 :: z25 :: z26 :: z27 :: z28 :: z29 :: z30 :: z31 :: z32 :: z33 :: z34 :: z35 :: z36 :: z37 :: z38 :: z39 :: z40 :: z41 :: z42 :: z43 :: z44 :: zz), defers := [] } w := by
  refine wp_region_list (show wpList _ f13r10Ops _ [f13r10Op0, f13r10Op1, f13r10Op2, f13r10Op3, f13r10Op4, f13r10Op5, f13r10Op6, f13r10Op7, f13r10Op8] _ _ from ?_)
  refine l_ld hO 33 i8 h8 Try.underlying33 ?_
  refine l_ld hO 33 i9 h9 Try.underlying33 ?_
  refine l_call hO 53 #[.agg c8, .agg c9] (.tuple #[.agg e42a, .bool p42b]) r42 ?_
  intro w1 hO
  refine l_fr (Fr [z0, z1, z2, z3, z4, z5, z6, z7, D b8, D b9, z10, z11, z12, z13, z14, z15, z16, z17, z18, z19, z20, z21, z22, z23, z24, z25, z26, z27, z28, z29, z30, z31, z32, z33, z34, z35, z36, z37, z38, z39, A c8, A c9, .tuple #[.agg e42a, .bool p42b], z43, z44] zz) ?_
  refine l_val (.tuple #[.agg e42a, .bool p42b]) (by kernel_rfl) ?_
  refine l_val (.agg e42a) (by kernel_rfl) ?_
  refine l_val (.bool p42b) (by kernel_rfl) ?_
  refine l_fr (Fr [z0, z1, z2, z3, z4, z5, z6, z7, D b8, D b9, z10, z11, z12, z13, z14, z15, z16, z17, z18, z19, z20, z21, z22, z23, z24, z25, z26, z27, z28, z29, z30, z31, z32, z33, z34, z35, z36, z37, z38, .tuple #[.agg e42a, .bool p42b], A c8, A c9, .tuple #[.agg e42a, .bool p42b], A e42a, .bool p42b] zz) ?_
  refine l_new hO (vals .u64 16 (F.dg 0)) 33 (al33 rfl) (fit_rn _) ?_
  intro n10 w2 hO
  refine l_st hO 33 0 rfl e42a fe42a_33 ?_
  intro w3 hO
  refine l_val (.bool p42b) (by kernel_rfl) ?_
  exact l_fr _ (wpList_nil (H n10 _ hO))
def f13r11aOp0 : Oper := ⟨some 45, .load 33 (.tmp 10), 33, "ref.go:67", #[], none⟩
def f13r11aOp1 : Oper := ⟨some 46, .call { callee := .value (.func 50), args := #[.const (.int .u64 0)], argTypes := #[24] }, 33, "ref.go:67", #[], none⟩
def f13r11aOp2 : Oper := ⟨some 47, .binOp .eql 33 (.tmp 45) (.tmp 46) 33, 4, "ref.go:67", #[⟨0, .data⟩, ⟨1, .data⟩], none⟩
def f13r11aOp3 : Oper := ⟨some 12, .assign (.tmp 47), 4, "ref.go:67", #[⟨2, .data⟩, ⟨1, .chain⟩, ⟨0, .phase⟩, ⟨1, .phase⟩, ⟨2, .phase⟩], none⟩
def f13r11aOps : Array Oper := #[f13r11aOp0, f13r11aOp1, f13r11aOp2, f13r11aOp3]
set_option maxRecDepth 100000 in
set_option maxHeartbeats 2000000 in
theorem f13r11a_r {Q : Exit → Act → World → Prop} {u w : World} {L : List Row} {z0 z1 z2 z3 z4 z5 z6 z7 z8 z9 z11 z12 z13 z14 z15 z16 z17 z18 z19 z20 z21 z22 z23 z24 z25 z26 z27 z28 z29 z30 z31 z32 z33 z34 z35 z36 z37 z38 z39 z40 z41 z42 z43 z44 z45 z46 z47 : Value} {zz : List Value} {b10 : Nat} {c10 : Array Value} {e46 : Array Value} (hQ : ∀ c a w n v, Q (.panic c) (a.put (some n) v) w → Q (.panic c) a w) (hO : Own u w L) (i10 : Nat) (h10 : L[i10]? = some (b10, c10, 33)) (r46 : ∀ w, Ret 50 #[.int IntKind.u64 0] w (.agg e46)) (k47 : ∀ (a : Act) (w : World), a.eval (.tmp 45) = .agg c10 → a.eval (.tmp 46) = .agg e46 → (execOp a.eval f13r11aOp2).run Try.prog w = .ok (.value (.bool true)) w) (H : ∀ (w' : World), Own u w' (L) → Q .normal { tmps := List.toArray (z0 :: z1 :: z2 :: z3 :: z4 :: z5 :: z6 :: z7 :: z8 :: z9 :: (.pointer (some ⟨b10, 0, none⟩)) :: z11 :: (.bool true) :: z13 :: z14 :: z15 :: z16 :: z17 :: z18 :: z19 :: z20 :: z21 :: z22 :: z23 :: z24 :: z25 :: z26 :: z27 :: z28 :: z29 :: z30 :: z31 :: z32 :: z33 :: z34 :: z35 :: z36 :: z37 :: z38 :: z39 :: z40 :: z41 :: z42 :: z43 :: z44 :: (.agg c10) :: (.agg e46) :: (.bool true) :: zz), defers := [] } w') :
    (Code.region 11 f13r11aOps true).wp Try.prog Q { tmps := List.toArray (z0 :: z1 :: z2 :: z3 :: z4 :: z5 :: z6 :: z7 :: z8 :: z9 :: (.pointer (some ⟨b10, 0, none⟩)) :: z11 :: z12 :: z13 :: z14 :: z15 :: z16 :: z17 :: z18 :: z19 :: z20 :: z21 :: z22 :: z23 :: z24 :: z25 :: z26 :: z27 :: z28 :: z29 :: z30 :: z31 :: z32 :: z33 :: z34 :: z35 :: z36 :: z37 :: z38 :: z39 :: z40 :: z41 :: z42 :: z43 :: z44 :: z45 :: z46 :: z47 :: zz), defers := [] } w := by
  have fc10_33 := hO.fits i10 h10
  refine wp_region_held_drew (S := Has [(b10, c10, 33)]) (by kernel_rfl) ⟨hO.drew.row _ h10, trivial⟩ (fun hS => ?_)
  replace hO := hO.drew
  refine d_tk 0 f13r11aOp0 (.agg c10) hQ (y_l 33 (fun _ h => h.1) fc10_33 Try.underlying33) hS ?_
  refine d_fr (ls 4 1) (Fr [z0, z1, z2, z3, z4, z5, z6, z7, z8, z9, D b10, z11, z12, z13, z14, z15, z16, z17, z18, z19, z20, z21, z22, z23, z24, z25, z26, z27, z28, z29, z30, z31, z32, z33, z34, z35, z36, z37, z38, z39, z40, z41, z42, z43, z44, A c10, z46, z47] zz) ?_
  refine d_one 1 f13r11aOp1 (ls 4 3) (fun K hK => ?_)
  refine k_call hK hO (fun _ hO => ⟨hO.row _ h10, trivial⟩) 50 #[.int IntKind.u64 0] (.agg e46) r46 ?_
  intro w1 hO
  have hS : Has [(b10, c10, 33)] w1 := ⟨hO.row _ h10, trivial⟩
  refine d_tk 2 f13r11aOp2 (.bool true) hQ (y_val (fun _ => k47 _ _ (by kernel_rfl) (by kernel_rfl))) hS ?_
  refine d_tk 3 f13r11aOp3 (.bool true) hQ (y_val (fun _ => by kernel_rfl)) hS ?_
  exact d_fr (ls 4 15) _ (wpAnyH_done (by kernel_rfl) (H  _ hO) _)
def f13r11bOp0 : Oper := ⟨some 45, .load 33 (.tmp 10), 33, "ref.go:67", #[], none⟩
def f13r11bOp1 : Oper := ⟨some 46, .call { callee := .value (.func 50), args := #[.const (.int .u64 0)], argTypes := #[24] }, 33, "ref.go:67", #[], none⟩
def f13r11bOp2 : Oper := ⟨some 47, .binOp .eql 33 (.tmp 45) (.tmp 46) 33, 4, "ref.go:67", #[⟨0, .data⟩, ⟨1, .data⟩], none⟩
def f13r11bOp3 : Oper := ⟨some 12, .assign (.tmp 47), 4, "ref.go:67", #[⟨2, .data⟩, ⟨1, .chain⟩, ⟨0, .phase⟩, ⟨1, .phase⟩, ⟨2, .phase⟩], none⟩
def f13r11bOps : Array Oper := #[f13r11bOp0, f13r11bOp1, f13r11bOp2, f13r11bOp3]
set_option maxRecDepth 100000 in
set_option maxHeartbeats 2000000 in
theorem f13r11b_r {Q : Exit → Act → World → Prop} {u w : World} {L : List Row} {z0 z1 z2 z3 z4 z5 z6 z7 z8 z9 z11 z12 z13 z14 z15 z16 z17 z18 z19 z20 z21 z22 z23 z24 z25 z26 z27 z28 z29 z30 z31 z32 z33 z34 z35 z36 z37 z38 z39 z40 z41 z42 z43 z44 z45 z46 z47 : Value} {zz : List Value} {b10 : Nat} {c10 : Array Value} {e46 : Array Value} (hQ : ∀ c a w n v, Q (.panic c) (a.put (some n) v) w → Q (.panic c) a w) (hO : Own u w L) (i10 : Nat) (h10 : L[i10]? = some (b10, c10, 33)) (r46 : ∀ w, Ret 50 #[.int IntKind.u64 0] w (.agg e46)) (k47 : ∀ (a : Act) (w : World), a.eval (.tmp 45) = .agg c10 → a.eval (.tmp 46) = .agg e46 → (execOp a.eval f13r11bOp2).run Try.prog w = .ok (.value (.bool false)) w) (H : ∀ (w' : World), Own u w' (L) → Q .normal { tmps := List.toArray (z0 :: z1 :: z2 :: z3 :: z4 :: z5 :: z6 :: z7 :: z8 :: z9 :: (.pointer (some ⟨b10, 0, none⟩)) :: z11 :: (.bool false) :: z13 :: z14 :: z15 :: z16 :: z17 :: z18 :: z19 :: z20 :: z21 :: z22 :: z23 :: z24 :: z25 :: z26 :: z27 :: z28 :: z29 :: z30 :: z31 :: z32 :: z33 :: z34 :: z35 :: z36 :: z37 :: z38 :: z39 :: z40 :: z41 :: z42 :: z43 :: z44 :: (.agg c10) :: (.agg e46) :: (.bool false) :: zz), defers := [] } w') :
    (Code.region 11 f13r11bOps true).wp Try.prog Q { tmps := List.toArray (z0 :: z1 :: z2 :: z3 :: z4 :: z5 :: z6 :: z7 :: z8 :: z9 :: (.pointer (some ⟨b10, 0, none⟩)) :: z11 :: z12 :: z13 :: z14 :: z15 :: z16 :: z17 :: z18 :: z19 :: z20 :: z21 :: z22 :: z23 :: z24 :: z25 :: z26 :: z27 :: z28 :: z29 :: z30 :: z31 :: z32 :: z33 :: z34 :: z35 :: z36 :: z37 :: z38 :: z39 :: z40 :: z41 :: z42 :: z43 :: z44 :: z45 :: z46 :: z47 :: zz), defers := [] } w := by
  have fc10_33 := hO.fits i10 h10
  refine wp_region_held_drew (S := Has [(b10, c10, 33)]) (by kernel_rfl) ⟨hO.drew.row _ h10, trivial⟩ (fun hS => ?_)
  replace hO := hO.drew
  refine d_tk 0 f13r11bOp0 (.agg c10) hQ (y_l 33 (fun _ h => h.1) fc10_33 Try.underlying33) hS ?_
  refine d_fr (ls 4 1) (Fr [z0, z1, z2, z3, z4, z5, z6, z7, z8, z9, D b10, z11, z12, z13, z14, z15, z16, z17, z18, z19, z20, z21, z22, z23, z24, z25, z26, z27, z28, z29, z30, z31, z32, z33, z34, z35, z36, z37, z38, z39, z40, z41, z42, z43, z44, A c10, z46, z47] zz) ?_
  refine d_one 1 f13r11bOp1 (ls 4 3) (fun K hK => ?_)
  refine k_call hK hO (fun _ hO => ⟨hO.row _ h10, trivial⟩) 50 #[.int IntKind.u64 0] (.agg e46) r46 ?_
  intro w1 hO
  have hS : Has [(b10, c10, 33)] w1 := ⟨hO.row _ h10, trivial⟩
  refine d_tk 2 f13r11bOp2 (.bool false) hQ (y_val (fun _ => k47 _ _ (by kernel_rfl) (by kernel_rfl))) hS ?_
  refine d_tk 3 f13r11bOp3 (.bool false) hQ (y_val (fun _ => by kernel_rfl)) hS ?_
  exact d_fr (ls 4 15) _ (wpAnyH_done (by kernel_rfl) (H  _ hO) _)
def f13r12AOp0 : Oper := ⟨some 48, .move (.tmp 11), 4, "ref.go:68", #[], none⟩
def f13r12AOp1 : Oper := ⟨some 49, .unOp .not 4 (.tmp 48), 4, "ref.go:68", #[⟨0, .data⟩], none⟩
def f13r12AOp2 : Oper := ⟨some 50, .move (.tmp 49), 4, "ref.go:68", #[⟨1, .data⟩], none⟩
def f13r12AOp3 : Oper := ⟨some 51, .move (.tmp 12), 4, "ref.go:68", #[⟨2, .guard⟩], some (2, false)⟩
def f13r12AOp4 : Oper := ⟨some 52, .move (.tmp 51), 4, "ref.go:68", #[⟨3, .data⟩, ⟨2, .chain⟩, ⟨2, .guard⟩], some (2, false)⟩
def f13r12AOp5 : Oper := ⟨some 53, .move (.tmp 4), 4, "ref.go:68", #[⟨4, .guard⟩], some (4, true)⟩
def f13r12AOp6 : Oper := ⟨some 54, .pick (.tmp 52) (.tmp 53) (.const (.bool false)), 4, "ref.go:68", #[⟨4, .data⟩, ⟨5, .data⟩, ⟨2, .guard⟩], some (2, false)⟩
def f13r12AOp7 : Oper := ⟨some 55, .pick (.tmp 50) (.const (.bool true)) (.tmp 54), 4, "ref.go:68", #[⟨2, .data⟩, ⟨6, .data⟩], none⟩
def f13r12AOps : Array Oper := #[f13r12AOp0, f13r12AOp1, f13r12AOp2, f13r12AOp3, f13r12AOp4, f13r12AOp5, f13r12AOp6, f13r12AOp7]
set_option maxRecDepth 100000 in
set_option maxHeartbeats 2000000 in
theorem f13r12A_r {Q : Exit → Act → World → Prop} {u w : World} {L : List Row} {z0 z1 z2 z3 z4 z5 z6 z7 z8 z9 z10 z12 z13 z14 z15 z16 z17 z18 z19 z20 z21 z22 z23 z24 z25 z26 z27 z28 z29 z30 z31 z32 z33 z34 z35 z36 z37 z38 z39 z40 z41 z42 z43 z44 z45 z46 z47 z48 z49 z50 z51 z52 z53 z54 z55 : Value} {zz : List Value} (hO : Own u w L) (H : ∀ (w' : World), Own u w' (L) → Q .normal { tmps := List.toArray (z0 :: z1 :: z2 :: z3 :: z4 :: z5 :: z6 :: z7 :: z8 :: z9 :: z10 :: (.bool false) :: z12 :: z13 :: z14 :: z15 :: z16 :: z17 :: z18 :: z19 :: z20 :: z21 :: z22 :: z23 :: z24 :: z25 :: z26 :: z27 :: z28 :: z29 :: z30 :: z31 :: z32 :: z33 :: z34 :: z35 :: z36 :: z37 :: z38 :: z39 :: z40 :: z41 :: z42 :: z43 :: z44 :: z45 :: z46 :: z47 :: (.bool false) :: (.bool true) :: (.bool true) :: undef :: undef :: undef :: undef :: (.bool true) :: zz), defers := [] } w') :
    (Code.region 12 f13r12AOps false).wp Try.prog Q { tmps := List.toArray (z0 :: z1 :: z2 :: z3 :: z4 :: z5 :: z6 :: z7 :: z8 :: z9 :: z10 :: (.bool false) :: z12 :: z13 :: z14 :: z15 :: z16 :: z17 :: z18 :: z19 :: z20 :: z21 :: z22 :: z23 :: z24 :: z25 :: z26 :: z27 :: z28 :: z29 :: z30 :: z31 :: z32 :: z33 :: z34 :: z35 :: z36 :: z37 :: z38 :: z39 :: z40 :: z41 :: z42 :: z43 :: z44 :: z45 :: z46 :: z47 :: z48 :: z49 :: z50 :: z51 :: z52 :: z53 :: z54 :: z55 :: zz), defers := [] } w := by
  refine wp_region_list (show wpList _ f13r12AOps _ [f13r12AOp0, f13r12AOp1, f13r12AOp2, f13r12AOp3, f13r12AOp4, f13r12AOp5, f13r12AOp6, f13r12AOp7] _ _ from WL.out ?_)
  refine g_val (.bool false) (by kernel_rfl) ?_
  refine g_fr (Fr [z0, z1, z2, z3, z4, z5, z6, z7, z8, z9, z10, .bool false, z12, z13, z14, z15, z16, z17, z18, z19, z20, z21, z22, z23, z24, z25, z26, z27, z28, z29, z30, z31, z32, z33, z34, z35, z36, z37, z38, z39, z40, z41, z42, z43, z44, z45, z46, z47, .bool false, z49, z50, z51, z52, z53, z54, z55] zz) ?_
  refine g_val (.bool true) (by kernel_rfl) ?_
  refine g_fr (Fr [z0, z1, z2, z3, z4, z5, z6, z7, z8, z9, z10, .bool false, z12, z13, z14, z15, z16, z17, z18, z19, z20, z21, z22, z23, z24, z25, z26, z27, z28, z29, z30, z31, z32, z33, z34, z35, z36, z37, z38, z39, z40, z41, z42, z43, z44, z45, z46, z47, .bool false, .bool true, z50, z51, z52, z53, z54, z55] zz) ?_
  refine g_val (.bool true) (by kernel_rfl) ?_
  refine g_fr (Fr [z0, z1, z2, z3, z4, z5, z6, z7, z8, z9, z10, .bool false, z12, z13, z14, z15, z16, z17, z18, z19, z20, z21, z22, z23, z24, z25, z26, z27, z28, z29, z30, z31, z32, z33, z34, z35, z36, z37, z38, z39, z40, z41, z42, z43, z44, z45, z46, z47, .bool false, .bool true, .bool true, z51, z52, z53, z54, z55] zz) ?_
  refine g_skip ?_
  refine g_fr (Fr [z0, z1, z2, z3, z4, z5, z6, z7, z8, z9, z10, .bool false, z12, z13, z14, z15, z16, z17, z18, z19, z20, z21, z22, z23, z24, z25, z26, z27, z28, z29, z30, z31, z32, z33, z34, z35, z36, z37, z38, z39, z40, z41, z42, z43, z44, z45, z46, z47, .bool false, .bool true, .bool true, undef, z52, z53, z54, z55] zz) ?_
  refine g_skip ?_
  refine g_fr (Fr [z0, z1, z2, z3, z4, z5, z6, z7, z8, z9, z10, .bool false, z12, z13, z14, z15, z16, z17, z18, z19, z20, z21, z22, z23, z24, z25, z26, z27, z28, z29, z30, z31, z32, z33, z34, z35, z36, z37, z38, z39, z40, z41, z42, z43, z44, z45, z46, z47, .bool false, .bool true, .bool true, undef, undef, z53, z54, z55] zz) ?_
  refine g_skip ?_
  refine g_fr (Fr [z0, z1, z2, z3, z4, z5, z6, z7, z8, z9, z10, .bool false, z12, z13, z14, z15, z16, z17, z18, z19, z20, z21, z22, z23, z24, z25, z26, z27, z28, z29, z30, z31, z32, z33, z34, z35, z36, z37, z38, z39, z40, z41, z42, z43, z44, z45, z46, z47, .bool false, .bool true, .bool true, undef, undef, undef, z54, z55] zz) ?_
  refine g_skip ?_
  refine g_fr (Fr [z0, z1, z2, z3, z4, z5, z6, z7, z8, z9, z10, .bool false, z12, z13, z14, z15, z16, z17, z18, z19, z20, z21, z22, z23, z24, z25, z26, z27, z28, z29, z30, z31, z32, z33, z34, z35, z36, z37, z38, z39, z40, z41, z42, z43, z44, z45, z46, z47, .bool false, .bool true, .bool true, undef, undef, undef, undef, z55] zz) ?_
  refine g_val (.bool true) (by kernel_rfl) ?_
  exact g_fr _ ⟨wpList_nil (H  _ hO)⟩
def f13r12BOp0 : Oper := ⟨some 48, .move (.tmp 11), 4, "ref.go:68", #[], none⟩
def f13r12BOp1 : Oper := ⟨some 49, .unOp .not 4 (.tmp 48), 4, "ref.go:68", #[⟨0, .data⟩], none⟩
def f13r12BOp2 : Oper := ⟨some 50, .move (.tmp 49), 4, "ref.go:68", #[⟨1, .data⟩], none⟩
def f13r12BOp3 : Oper := ⟨some 51, .move (.tmp 12), 4, "ref.go:68", #[⟨2, .guard⟩], some (2, false)⟩
def f13r12BOp4 : Oper := ⟨some 52, .move (.tmp 51), 4, "ref.go:68", #[⟨3, .data⟩, ⟨2, .chain⟩, ⟨2, .guard⟩], some (2, false)⟩
def f13r12BOp5 : Oper := ⟨some 53, .move (.tmp 4), 4, "ref.go:68", #[⟨4, .guard⟩], some (4, true)⟩
def f13r12BOp6 : Oper := ⟨some 54, .pick (.tmp 52) (.tmp 53) (.const (.bool false)), 4, "ref.go:68", #[⟨4, .data⟩, ⟨5, .data⟩, ⟨2, .guard⟩], some (2, false)⟩
def f13r12BOp7 : Oper := ⟨some 55, .pick (.tmp 50) (.const (.bool true)) (.tmp 54), 4, "ref.go:68", #[⟨2, .data⟩, ⟨6, .data⟩], none⟩
def f13r12BOps : Array Oper := #[f13r12BOp0, f13r12BOp1, f13r12BOp2, f13r12BOp3, f13r12BOp4, f13r12BOp5, f13r12BOp6, f13r12BOp7]
set_option maxRecDepth 100000 in
set_option maxHeartbeats 2000000 in
theorem f13r12B_r {Q : Exit → Act → World → Prop} {u w : World} {L : List Row} {z0 z1 z2 z3 z4 z5 z6 z7 z8 z9 z10 z13 z14 z15 z16 z17 z18 z19 z20 z21 z22 z23 z24 z25 z26 z27 z28 z29 z30 z31 z32 z33 z34 z35 z36 z37 z38 z39 z40 z41 z42 z43 z44 z45 z46 z47 z48 z49 z50 z51 z52 z53 z54 z55 : Value} {zz : List Value} (hO : Own u w L) (H : ∀ (w' : World), Own u w' (L) → Q .normal { tmps := List.toArray (z0 :: z1 :: z2 :: z3 :: z4 :: z5 :: z6 :: z7 :: z8 :: z9 :: z10 :: (.bool true) :: (.bool false) :: z13 :: z14 :: z15 :: z16 :: z17 :: z18 :: z19 :: z20 :: z21 :: z22 :: z23 :: z24 :: z25 :: z26 :: z27 :: z28 :: z29 :: z30 :: z31 :: z32 :: z33 :: z34 :: z35 :: z36 :: z37 :: z38 :: z39 :: z40 :: z41 :: z42 :: z43 :: z44 :: z45 :: z46 :: z47 :: (.bool true) :: (.bool false) :: (.bool false) :: (.bool false) :: (.bool false) :: undef :: (.bool false) :: (.bool false) :: zz), defers := [] } w') :
    (Code.region 12 f13r12BOps false).wp Try.prog Q { tmps := List.toArray (z0 :: z1 :: z2 :: z3 :: z4 :: z5 :: z6 :: z7 :: z8 :: z9 :: z10 :: (.bool true) :: (.bool false) :: z13 :: z14 :: z15 :: z16 :: z17 :: z18 :: z19 :: z20 :: z21 :: z22 :: z23 :: z24 :: z25 :: z26 :: z27 :: z28 :: z29 :: z30 :: z31 :: z32 :: z33 :: z34 :: z35 :: z36 :: z37 :: z38 :: z39 :: z40 :: z41 :: z42 :: z43 :: z44 :: z45 :: z46 :: z47 :: z48 :: z49 :: z50 :: z51 :: z52 :: z53 :: z54 :: z55 :: zz), defers := [] } w := by
  refine wp_region_list (show wpList _ f13r12BOps _ [f13r12BOp0, f13r12BOp1, f13r12BOp2, f13r12BOp3, f13r12BOp4, f13r12BOp5, f13r12BOp6, f13r12BOp7] _ _ from WL.out ?_)
  refine g_val (.bool true) (by kernel_rfl) ?_
  refine g_fr (Fr [z0, z1, z2, z3, z4, z5, z6, z7, z8, z9, z10, .bool true, .bool false, z13, z14, z15, z16, z17, z18, z19, z20, z21, z22, z23, z24, z25, z26, z27, z28, z29, z30, z31, z32, z33, z34, z35, z36, z37, z38, z39, z40, z41, z42, z43, z44, z45, z46, z47, .bool true, z49, z50, z51, z52, z53, z54, z55] zz) ?_
  refine g_val (.bool false) (by kernel_rfl) ?_
  refine g_fr (Fr [z0, z1, z2, z3, z4, z5, z6, z7, z8, z9, z10, .bool true, .bool false, z13, z14, z15, z16, z17, z18, z19, z20, z21, z22, z23, z24, z25, z26, z27, z28, z29, z30, z31, z32, z33, z34, z35, z36, z37, z38, z39, z40, z41, z42, z43, z44, z45, z46, z47, .bool true, .bool false, z50, z51, z52, z53, z54, z55] zz) ?_
  refine g_val (.bool false) (by kernel_rfl) ?_
  refine g_fr (Fr [z0, z1, z2, z3, z4, z5, z6, z7, z8, z9, z10, .bool true, .bool false, z13, z14, z15, z16, z17, z18, z19, z20, z21, z22, z23, z24, z25, z26, z27, z28, z29, z30, z31, z32, z33, z34, z35, z36, z37, z38, z39, z40, z41, z42, z43, z44, z45, z46, z47, .bool true, .bool false, .bool false, z51, z52, z53, z54, z55] zz) ?_
  refine g_val (.bool false) (by kernel_rfl) ?_
  refine g_fr (Fr [z0, z1, z2, z3, z4, z5, z6, z7, z8, z9, z10, .bool true, .bool false, z13, z14, z15, z16, z17, z18, z19, z20, z21, z22, z23, z24, z25, z26, z27, z28, z29, z30, z31, z32, z33, z34, z35, z36, z37, z38, z39, z40, z41, z42, z43, z44, z45, z46, z47, .bool true, .bool false, .bool false, .bool false, z52, z53, z54, z55] zz) ?_
  refine g_val (.bool false) (by kernel_rfl) ?_
  refine g_fr (Fr [z0, z1, z2, z3, z4, z5, z6, z7, z8, z9, z10, .bool true, .bool false, z13, z14, z15, z16, z17, z18, z19, z20, z21, z22, z23, z24, z25, z26, z27, z28, z29, z30, z31, z32, z33, z34, z35, z36, z37, z38, z39, z40, z41, z42, z43, z44, z45, z46, z47, .bool true, .bool false, .bool false, .bool false, .bool false, z53, z54, z55] zz) ?_
  refine g_skip ?_
  refine g_fr (Fr [z0, z1, z2, z3, z4, z5, z6, z7, z8, z9, z10, .bool true, .bool false, z13, z14, z15, z16, z17, z18, z19, z20, z21, z22, z23, z24, z25, z26, z27, z28, z29, z30, z31, z32, z33, z34, z35, z36, z37, z38, z39, z40, z41, z42, z43, z44, z45, z46, z47, .bool true, .bool false, .bool false, .bool false, .bool false, undef, z54, z55] zz) ?_
  refine g_val (.bool false) (by kernel_rfl) ?_
  refine g_fr (Fr [z0, z1, z2, z3, z4, z5, z6, z7, z8, z9, z10, .bool true, .bool false, z13, z14, z15, z16, z17, z18, z19, z20, z21, z22, z23, z24, z25, z26, z27, z28, z29, z30, z31, z32, z33, z34, z35, z36, z37, z38, z39, z40, z41, z42, z43, z44, z45, z46, z47, .bool true, .bool false, .bool false, .bool false, .bool false, undef, .bool false, z55] zz) ?_
  refine g_val (.bool false) (by kernel_rfl) ?_
  exact g_fr _ ⟨wpList_nil (H  _ hO)⟩
def f13r12COp0 : Oper := ⟨some 48, .move (.tmp 11), 4, "ref.go:68", #[], none⟩
def f13r12COp1 : Oper := ⟨some 49, .unOp .not 4 (.tmp 48), 4, "ref.go:68", #[⟨0, .data⟩], none⟩
def f13r12COp2 : Oper := ⟨some 50, .move (.tmp 49), 4, "ref.go:68", #[⟨1, .data⟩], none⟩
def f13r12COp3 : Oper := ⟨some 51, .move (.tmp 12), 4, "ref.go:68", #[⟨2, .guard⟩], some (2, false)⟩
def f13r12COp4 : Oper := ⟨some 52, .move (.tmp 51), 4, "ref.go:68", #[⟨3, .data⟩, ⟨2, .chain⟩, ⟨2, .guard⟩], some (2, false)⟩
def f13r12COp5 : Oper := ⟨some 53, .move (.tmp 4), 4, "ref.go:68", #[⟨4, .guard⟩], some (4, true)⟩
def f13r12COp6 : Oper := ⟨some 54, .pick (.tmp 52) (.tmp 53) (.const (.bool false)), 4, "ref.go:68", #[⟨4, .data⟩, ⟨5, .data⟩, ⟨2, .guard⟩], some (2, false)⟩
def f13r12COp7 : Oper := ⟨some 55, .pick (.tmp 50) (.const (.bool true)) (.tmp 54), 4, "ref.go:68", #[⟨2, .data⟩, ⟨6, .data⟩], none⟩
def f13r12COps : Array Oper := #[f13r12COp0, f13r12COp1, f13r12COp2, f13r12COp3, f13r12COp4, f13r12COp5, f13r12COp6, f13r12COp7]
set_option maxRecDepth 100000 in
set_option maxHeartbeats 2000000 in
theorem f13r12C_r {Q : Exit → Act → World → Prop} {u w : World} {L : List Row} {z0 z1 z2 z3 z5 z6 z7 z8 z9 z10 z13 z14 z15 z16 z17 z18 z19 z20 z21 z22 z23 z24 z25 z26 z27 z28 z29 z30 z31 z32 z33 z34 z35 z36 z37 z38 z39 z40 z41 z42 z43 z44 z45 z46 z47 z48 z49 z50 z51 z52 z53 z54 z55 : Value} {zz : List Value} (hO : Own u w L) (H : ∀ (w' : World), Own u w' (L) → Q .normal { tmps := List.toArray (z0 :: z1 :: z2 :: z3 :: (.bool false) :: z5 :: z6 :: z7 :: z8 :: z9 :: z10 :: (.bool true) :: (.bool true) :: z13 :: z14 :: z15 :: z16 :: z17 :: z18 :: z19 :: z20 :: z21 :: z22 :: z23 :: z24 :: z25 :: z26 :: z27 :: z28 :: z29 :: z30 :: z31 :: z32 :: z33 :: z34 :: z35 :: z36 :: z37 :: z38 :: z39 :: z40 :: z41 :: z42 :: z43 :: z44 :: z45 :: z46 :: z47 :: (.bool true) :: (.bool false) :: (.bool false) :: (.bool true) :: (.bool true) :: (.bool false) :: (.bool false) :: (.bool false) :: zz), defers := [] } w') :
    (Code.region 12 f13r12COps false).wp Try.prog Q { tmps := List.toArray (z0 :: z1 :: z2 :: z3 :: (.bool false) :: z5 :: z6 :: z7 :: z8 :: z9 :: z10 :: (.bool true) :: (.bool true) :: z13 :: z14 :: z15 :: z16 :: z17 :: z18 :: z19 :: z20 :: z21 :: z22 :: z23 :: z24 :: z25 :: z26 :: z27 :: z28 :: z29 :: z30 :: z31 :: z32 :: z33 :: z34 :: z35 :: z36 :: z37 :: z38 :: z39 :: z40 :: z41 :: z42 :: z43 :: z44 :: z45 :: z46 :: z47 :: z48 :: z49 :: z50 :: z51 :: z52 :: z53 :: z54 :: z55 :: zz), defers := [] } w := by
  refine wp_region_list (show wpList _ f13r12COps _ [f13r12COp0, f13r12COp1, f13r12COp2, f13r12COp3, f13r12COp4, f13r12COp5, f13r12COp6, f13r12COp7] _ _ from WL.out ?_)
  refine g_val (.bool true) (by kernel_rfl) ?_
  refine g_fr (Fr [z0, z1, z2, z3, .bool false, z5, z6, z7, z8, z9, z10, .bool true, .bool true, z13, z14, z15, z16, z17, z18, z19, z20, z21, z22, z23, z24, z25, z26, z27, z28, z29, z30, z31, z32, z33, z34, z35, z36, z37, z38, z39, z40, z41, z42, z43, z44, z45, z46, z47, .bool true, z49, z50, z51, z52, z53, z54, z55] zz) ?_
  refine g_val (.bool false) (by kernel_rfl) ?_
  refine g_fr (Fr [z0, z1, z2, z3, .bool false, z5, z6, z7, z8, z9, z10, .bool true, .bool true, z13, z14, z15, z16, z17, z18, z19, z20, z21, z22, z23, z24, z25, z26, z27, z28, z29, z30, z31, z32, z33, z34, z35, z36, z37, z38, z39, z40, z41, z42, z43, z44, z45, z46, z47, .bool true, .bool false, z50, z51, z52, z53, z54, z55] zz) ?_
  refine g_val (.bool false) (by kernel_rfl) ?_
  refine g_fr (Fr [z0, z1, z2, z3, .bool false, z5, z6, z7, z8, z9, z10, .bool true, .bool true, z13, z14, z15, z16, z17, z18, z19, z20, z21, z22, z23, z24, z25, z26, z27, z28, z29, z30, z31, z32, z33, z34, z35, z36, z37, z38, z39, z40, z41, z42, z43, z44, z45, z46, z47, .bool true, .bool false, .bool false, z51, z52, z53, z54, z55] zz) ?_
  refine g_val (.bool true) (by kernel_rfl) ?_
  refine g_fr (Fr [z0, z1, z2, z3, .bool false, z5, z6, z7, z8, z9, z10, .bool true, .bool true, z13, z14, z15, z16, z17, z18, z19, z20, z21, z22, z23, z24, z25, z26, z27, z28, z29, z30, z31, z32, z33, z34, z35, z36, z37, z38, z39, z40, z41, z42, z43, z44, z45, z46, z47, .bool true, .bool false, .bool false, .bool true, z52, z53, z54, z55] zz) ?_
  refine g_val (.bool true) (by kernel_rfl) ?_
  refine g_fr (Fr [z0, z1, z2, z3, .bool false, z5, z6, z7, z8, z9, z10, .bool true, .bool true, z13, z14, z15, z16, z17, z18, z19, z20, z21, z22, z23, z24, z25, z26, z27, z28, z29, z30, z31, z32, z33, z34, z35, z36, z37, z38, z39, z40, z41, z42, z43, z44, z45, z46, z47, .bool true, .bool false, .bool false, .bool true, .bool true, z53, z54, z55] zz) ?_
  refine g_val (.bool false) (by kernel_rfl) ?_
  refine g_fr (Fr [z0, z1, z2, z3, .bool false, z5, z6, z7, z8, z9, z10, .bool true, .bool true, z13, z14, z15, z16, z17, z18, z19, z20, z21, z22, z23, z24, z25, z26, z27, z28, z29, z30, z31, z32, z33, z34, z35, z36, z37, z38, z39, z40, z41, z42, z43, z44, z45, z46, z47, .bool true, .bool false, .bool false, .bool true, .bool true, .bool false, z54, z55] zz) ?_
  refine g_val (.bool false) (by kernel_rfl) ?_
  refine g_fr (Fr [z0, z1, z2, z3, .bool false, z5, z6, z7, z8, z9, z10, .bool true, .bool true, z13, z14, z15, z16, z17, z18, z19, z20, z21, z22, z23, z24, z25, z26, z27, z28, z29, z30, z31, z32, z33, z34, z35, z36, z37, z38, z39, z40, z41, z42, z43, z44, z45, z46, z47, .bool true, .bool false, .bool false, .bool true, .bool true, .bool false, .bool false, z55] zz) ?_
  refine g_val (.bool false) (by kernel_rfl) ?_
  exact g_fr _ ⟨wpList_nil (H  _ hO)⟩
def f13r12DOp0 : Oper := ⟨some 48, .move (.tmp 11), 4, "ref.go:68", #[], none⟩
def f13r12DOp1 : Oper := ⟨some 49, .unOp .not 4 (.tmp 48), 4, "ref.go:68", #[⟨0, .data⟩], none⟩
def f13r12DOp2 : Oper := ⟨some 50, .move (.tmp 49), 4, "ref.go:68", #[⟨1, .data⟩], none⟩
def f13r12DOp3 : Oper := ⟨some 51, .move (.tmp 12), 4, "ref.go:68", #[⟨2, .guard⟩], some (2, false)⟩
def f13r12DOp4 : Oper := ⟨some 52, .move (.tmp 51), 4, "ref.go:68", #[⟨3, .data⟩, ⟨2, .chain⟩, ⟨2, .guard⟩], some (2, false)⟩
def f13r12DOp5 : Oper := ⟨some 53, .move (.tmp 4), 4, "ref.go:68", #[⟨4, .guard⟩], some (4, true)⟩
def f13r12DOp6 : Oper := ⟨some 54, .pick (.tmp 52) (.tmp 53) (.const (.bool false)), 4, "ref.go:68", #[⟨4, .data⟩, ⟨5, .data⟩, ⟨2, .guard⟩], some (2, false)⟩
def f13r12DOp7 : Oper := ⟨some 55, .pick (.tmp 50) (.const (.bool true)) (.tmp 54), 4, "ref.go:68", #[⟨2, .data⟩, ⟨6, .data⟩], none⟩
def f13r12DOps : Array Oper := #[f13r12DOp0, f13r12DOp1, f13r12DOp2, f13r12DOp3, f13r12DOp4, f13r12DOp5, f13r12DOp6, f13r12DOp7]
set_option maxRecDepth 100000 in
set_option maxHeartbeats 2000000 in
theorem f13r12D_r {Q : Exit → Act → World → Prop} {u w : World} {L : List Row} {z0 z1 z2 z3 z5 z6 z7 z8 z9 z10 z13 z14 z15 z16 z17 z18 z19 z20 z21 z22 z23 z24 z25 z26 z27 z28 z29 z30 z31 z32 z33 z34 z35 z36 z37 z38 z39 z40 z41 z42 z43 z44 z45 z46 z47 z48 z49 z50 z51 z52 z53 z54 z55 : Value} {zz : List Value} (hO : Own u w L) (H : ∀ (w' : World), Own u w' (L) → Q .normal { tmps := List.toArray (z0 :: z1 :: z2 :: z3 :: (.bool true) :: z5 :: z6 :: z7 :: z8 :: z9 :: z10 :: (.bool true) :: (.bool true) :: z13 :: z14 :: z15 :: z16 :: z17 :: z18 :: z19 :: z20 :: z21 :: z22 :: z23 :: z24 :: z25 :: z26 :: z27 :: z28 :: z29 :: z30 :: z31 :: z32 :: z33 :: z34 :: z35 :: z36 :: z37 :: z38 :: z39 :: z40 :: z41 :: z42 :: z43 :: z44 :: z45 :: z46 :: z47 :: (.bool true) :: (.bool false) :: (.bool false) :: (.bool true) :: (.bool true) :: (.bool true) :: (.bool true) :: (.bool true) :: zz), defers := [] } w') :
    (Code.region 12 f13r12DOps false).wp Try.prog Q { tmps := List.toArray (z0 :: z1 :: z2 :: z3 :: (.bool true) :: z5 :: z6 :: z7 :: z8 :: z9 :: z10 :: (.bool true) :: (.bool true) :: z13 :: z14 :: z15 :: z16 :: z17 :: z18 :: z19 :: z20 :: z21 :: z22 :: z23 :: z24 :: z25 :: z26 :: z27 :: z28 :: z29 :: z30 :: z31 :: z32 :: z33 :: z34 :: z35 :: z36 :: z37 :: z38 :: z39 :: z40 :: z41 :: z42 :: z43 :: z44 :: z45 :: z46 :: z47 :: z48 :: z49 :: z50 :: z51 :: z52 :: z53 :: z54 :: z55 :: zz), defers := [] } w := by
  refine wp_region_list (show wpList _ f13r12DOps _ [f13r12DOp0, f13r12DOp1, f13r12DOp2, f13r12DOp3, f13r12DOp4, f13r12DOp5, f13r12DOp6, f13r12DOp7] _ _ from WL.out ?_)
  refine g_val (.bool true) (by kernel_rfl) ?_
  refine g_fr (Fr [z0, z1, z2, z3, .bool true, z5, z6, z7, z8, z9, z10, .bool true, .bool true, z13, z14, z15, z16, z17, z18, z19, z20, z21, z22, z23, z24, z25, z26, z27, z28, z29, z30, z31, z32, z33, z34, z35, z36, z37, z38, z39, z40, z41, z42, z43, z44, z45, z46, z47, .bool true, z49, z50, z51, z52, z53, z54, z55] zz) ?_
  refine g_val (.bool false) (by kernel_rfl) ?_
  refine g_fr (Fr [z0, z1, z2, z3, .bool true, z5, z6, z7, z8, z9, z10, .bool true, .bool true, z13, z14, z15, z16, z17, z18, z19, z20, z21, z22, z23, z24, z25, z26, z27, z28, z29, z30, z31, z32, z33, z34, z35, z36, z37, z38, z39, z40, z41, z42, z43, z44, z45, z46, z47, .bool true, .bool false, z50, z51, z52, z53, z54, z55] zz) ?_
  refine g_val (.bool false) (by kernel_rfl) ?_
  refine g_fr (Fr [z0, z1, z2, z3, .bool true, z5, z6, z7, z8, z9, z10, .bool true, .bool true, z13, z14, z15, z16, z17, z18, z19, z20, z21, z22, z23, z24, z25, z26, z27, z28, z29, z30, z31, z32, z33, z34, z35, z36, z37, z38, z39, z40, z41, z42, z43, z44, z45, z46, z47, .bool true, .bool false, .bool false, z51, z52, z53, z54, z55] zz) ?_
  refine g_val (.bool true) (by kernel_rfl) ?_
  refine g_fr (Fr [z0, z1, z2, z3, .bool true, z5, z6, z7, z8, z9, z10, .bool true, .bool true, z13, z14, z15, z16, z17, z18, z19, z20, z21, z22, z23, z24, z25, z26, z27, z28, z29, z30, z31, z32, z33, z34, z35, z36, z37, z38, z39, z40, z41, z42, z43, z44, z45, z46, z47, .bool true, .bool false, .bool false, .bool true, z52, z53, z54, z55] zz) ?_
  refine g_val (.bool true) (by kernel_rfl) ?_
  refine g_fr (Fr [z0, z1, z2, z3, .bool true, z5, z6, z7, z8, z9, z10, .bool true, .bool true, z13, z14, z15, z16, z17, z18, z19, z20, z21, z22, z23, z24, z25, z26, z27, z28, z29, z30, z31, z32, z33, z34, z35, z36, z37, z38, z39, z40, z41, z42, z43, z44, z45, z46, z47, .bool true, .bool false, .bool false, .bool true, .bool true, z53, z54, z55] zz) ?_
  refine g_val (.bool true) (by kernel_rfl) ?_
  refine g_fr (Fr [z0, z1, z2, z3, .bool true, z5, z6, z7, z8, z9, z10, .bool true, .bool true, z13, z14, z15, z16, z17, z18, z19, z20, z21, z22, z23, z24, z25, z26, z27, z28, z29, z30, z31, z32, z33, z34, z35, z36, z37, z38, z39, z40, z41, z42, z43, z44, z45, z46, z47, .bool true, .bool false, .bool false, .bool true, .bool true, .bool true, z54, z55] zz) ?_
  refine g_val (.bool true) (by kernel_rfl) ?_
  refine g_fr (Fr [z0, z1, z2, z3, .bool true, z5, z6, z7, z8, z9, z10, .bool true, .bool true, z13, z14, z15, z16, z17, z18, z19, z20, z21, z22, z23, z24, z25, z26, z27, z28, z29, z30, z31, z32, z33, z34, z35, z36, z37, z38, z39, z40, z41, z42, z43, z44, z45, z46, z47, .bool true, .bool false, .bool false, .bool true, .bool true, .bool true, .bool true, z55] zz) ?_
  refine g_val (.bool true) (by kernel_rfl) ?_
  exact g_fr _ ⟨wpList_nil (H  _ hO)⟩
def f13r13Op0 : Oper := ⟨some 56, .call { callee := .value (.func 47), args := #[], argTypes := #[] }, 35, "ref.go:69", #[], none⟩
def f13r13Op1 : Oper := ⟨none, .store 35 (.tmp 2) (.tmp 56), 0, "ref.go:69", #[⟨0, .data⟩, ⟨0, .chain⟩, ⟨0, .phase⟩], none⟩
def f13r13Op2 : Oper := ⟨some 3, .assign (.const (.bool false)), 4, "ref.go:69", #[⟨1, .chain⟩, ⟨0, .phase⟩, ⟨1, .phase⟩], none⟩
def f13r13Ops : Array Oper := #[f13r13Op0, f13r13Op1, f13r13Op2]
set_option maxRecDepth 100000 in
set_option maxHeartbeats 2000000 in
theorem f13r13_r {Q : Exit → Act → World → Prop} {u w : World} {L : List Row} {z0 z1 z3 z4 z5 z6 z7 z8 z9 z10 z11 z12 z13 z14 z15 z16 z17 z18 z19 z20 z21 z22 z23 z24 z25 z26 z27 z28 z29 z30 z31 z32 z33 z34 z35 z36 z37 z38 z39 z40 z41 z42 z43 z44 z45 z46 z47 z48 z49 z50 z51 z52 z53 z54 z55 z56 : Value} {zz : List Value} {b2 : Nat} {c2 : Array Value} {e56 : Array Value} (hO : Own u w L) (i2 : Nat) (h2 : L[i2]? = some (b2, c2, 35)) (r56 : ∀ w, Ret 47 #[] w (.agg e56)) (fe56_35 : Fit 35 e56) (H : ∀ (w' : World), Own u w' ((L.set i2 (b2, e56, 35))) → Q .normal { tmps := List.toArray (z0 :: z1 :: (.pointer (some ⟨b2, 0, none⟩)) :: (.bool false) :: z4 :: z5 :: z6 :: z7 :: z8 :: z9 :: z10 :: z11 :: z12 :: z13 :: z14 :: z15 :: z16 :: z17 :: z18 :: z19 :: z20 :: z21 :: z22 :: z23 :: z24 :: z25 :: z26 :: z27 :: z28 :: z29 :: z30 :: z31 :: z32 :: z33 :: z34 :: z35 :: z36 :: z37 :: z38 :: z39 :: z40 :: z41 :: z42 :: z43 :: z44 :: z45 :: z46 :: z47 :: z48 :: z49 :: z50 :: z51 :: z52 :: z53 :: z54 :: z55 :: (.agg e56) :: zz), defers := [] } w') :
    (Code.region 13 f13r13Ops false).wp Try.prog Q { tmps := List.toArray (z0 :: z1 :: (.pointer (some ⟨b2, 0, none⟩)) :: z3 :: z4 :: z5 :: z6 :: z7 :: z8 :: z9 :: z10 :: z11 :: z12 :: z13 :: z14 :: z15 :: z16 :: z17 :: z18 :: z19 :: z20 :: z21 :: z22 :: z23 :: z24 :: z25 :: z26 :: z27 :: z28 :: z29 :: z30 :: z31 :: z32 :: z33 :: z34 :: z35 :: z36 :: z37 :: z38 :: z39 :: z40 :: z41 :: z42 :: z43 :: z44 :: z45 :: z46 :: z47 :: z48 :: z49 :: z50 :: z51 :: z52 :: z53 :: z54 :: z55 :: z56 :: zz), defers := [] } w := by
  refine wp_region_list (show wpList _ f13r13Ops _ [f13r13Op0, f13r13Op1, f13r13Op2] _ _ from ?_)
  refine l_call hO 47 #[] (.agg e56) r56 ?_
  intro w1 hO
  refine l_st hO 35 i2 h2 e56 fe56_35 ?_
  intro w2 hO
  refine l_val (.bool false) (by kernel_rfl) ?_
  exact l_fr _ (wpList_nil (H  _ hO))
def f13r15Op0 : Oper := ⟨some 58, .call { callee := .value (.func 50), args := #[.const (.int .u64 0)], argTypes := #[24] }, 33, "ref.go:72", #[], none⟩
def f13r15Op1 : Oper := ⟨some 59, .load 33 (.tmp 10), 33, "ref.go:72", #[], none⟩
def f13r15Op2 : Oper := ⟨some 60, .call { callee := .value (.func 49), args := #[.tmp 58, .tmp 59], argTypes := #[33, 33] }, 33, "ref.go:72", #[⟨0, .data⟩, ⟨1, .data⟩, ⟨0, .chain⟩], none⟩
def f13r15Op3 : Oper := ⟨none, .store 33 (.tmp 10) (.tmp 60), 0, "ref.go:72", #[⟨2, .data⟩, ⟨2, .chain⟩, ⟨0, .phase⟩, ⟨1, .phase⟩, ⟨2, .phase⟩], none⟩
def f13r15Ops : Array Oper := #[f13r15Op0, f13r15Op1, f13r15Op2, f13r15Op3]
set_option maxRecDepth 100000 in
set_option maxHeartbeats 2000000 in
theorem f13r15_r {Q : Exit → Act → World → Prop} {u w : World} {L : List Row} {z0 z1 z2 z3 z4 z5 z6 z7 z8 z9 z11 z12 z13 z14 z15 z16 z17 z18 z19 z20 z21 z22 z23 z24 z25 z26 z27 z28 z29 z30 z31 z32 z33 z34 z35 z36 z37 z38 z39 z40 z41 z42 z43 z44 z45 z46 z47 z48 z49 z50 z51 z52 z53 z54 z55 z56 z57 z58 z59 z60 : Value} {zz : List Value} {b10 : Nat} {c10 : Array Value} {e58 e60 : Array Value} (_hQ : ∀ c a w n v, Q (.panic c) (a.put (some n) v) w → Q (.panic c) a w) (hO : Own u w L) (i10 : Nat) (h10 : L[i10]? = some (b10, c10, 33)) (r58 : ∀ w, Ret 50 #[.int IntKind.u64 0] w (.agg e58)) (r60 : ∀ w, Ret 49 #[.agg e58, .agg c10] w (.agg e60)) (fe60_33 : Fit 33 e60) (H : ∀ (w' : World), Own u w' ((L.set i10 (b10, e60, 33))) → Q .normal { tmps := List.toArray (z0 :: z1 :: z2 :: z3 :: z4 :: z5 :: z6 :: z7 :: z8 :: z9 :: (.pointer (some ⟨b10, 0, none⟩)) :: z11 :: z12 :: z13 :: z14 :: z15 :: z16 :: z17 :: z18 :: z19 :: z20 :: z21 :: z22 :: z23 :: z24 :: z25 :: z26 :: z27 :: z28 :: z29 :: z30 :: z31 :: z32 :: z33 :: z34 :: z35 :: z36 :: z37 :: z38 :: z39 :: z40 :: z41 :: z42 :: z43 :: z44 :: z45 :: z46 :: z47 :: z48 :: z49 :: z50 :: z51 :: z52 :: z53 :: z54 :: z55 :: z56 :: z57 :: (.agg e58) :: (.agg c10) :: (.agg e60) :: zz), defers := [] } w') :
    (Code.region 15 f13r15Ops true).wp Try.prog Q { tmps := List.toArray (z0 :: z1 :: z2 :: z3 :: z4 :: z5 :: z6 :: z7 :: z8 :: z9 :: (.pointer (some ⟨b10, 0, none⟩)) :: z11 :: z12 :: z13 :: z14 :: z15 :: z16 :: z17 :: z18 :: z19 :: z20 :: z21 :: z22 :: z23 :: z24 :: z25 :: z26 :: z27 :: z28 :: z29 :: z30 :: z31 :: z32 :: z33 :: z34 :: z35 :: z36 :: z37 :: z38 :: z39 :: z40 :: z41 :: z42 :: z43 :: z44 :: z45 :: z46 :: z47 :: z48 :: z49 :: z50 :: z51 :: z52 :: z53 :: z54 :: z55 :: z56 :: z57 :: z58 :: z59 :: z60 :: zz), defers := [] } w := by
  have s0 : ∀ (w : World), Own u w (L) → wpAnyH Try.prog .any f13r15Ops Q (Has []) 2 (ls 4 3) (Fr [z0, z1, z2, z3, z4, z5, z6, z7, z8, z9, D b10, z11, z12, z13, z14, z15, z16, z17, z18, z19, z20, z21, z22, z23, z24, z25, z26, z27, z28, z29, z30, z31, z32, z33, z34, z35, z36, z37, z38, z39, z40, z41, z42, z43, z44, z45, z46, z47, z48, z49, z50, z51, z52, z53, z54, z55, z56, z57, A e58, A c10, z60] zz) w := by
    intro w hO
    refine d_one 2 f13r15Op2 (ls 4 7) (fun K hK => ?_)
    refine k_call hK hO (fun _ hO => trivial) 49 #[.agg e58, .agg c10] (.agg e60) r60 ?_
    intro w1 hO
    refine d_one 3 f13r15Op3 (ls 4 15) (fun K hK => ?_)
    refine k_st hK hO 33 i10 h10 e60 fe60_33 (fun _ hO => trivial) ?_
    intro w2 hO
    exact d_fr (ls 4 15) _ (wpAnyH_done (by kernel_rfl) (H  _ hO) _)
  refine wp_region_held_drew (S := Has []) (by kernel_rfl) trivial (fun hS => ?_)
  replace hO := hO.drew
  refine d_fr (ls 4 0) (Fr [z0, z1, z2, z3, z4, z5, z6, z7, z8, z9, D b10, z11, z12, z13, z14, z15, z16, z17, z18, z19, z20, z21, z22, z23, z24, z25, z26, z27, z28, z29, z30, z31, z32, z33, z34, z35, z36, z37, z38, z39, z40, z41, z42, z43, z44, z45, z46, z47, z48, z49, z50, z51, z52, z53, z54, z55, z56, z57, z58, z59, z60] zz) ?_
  refine wpAnyH_ready (rs := [0, 1]) (by kernel_rfl) (by simp) ?_
  refine d_cons 0 f13r15Op0 (ls 4 1) (fun K hK => ?_) ?_
  · skip
    refine k_call hK hO (fun _ hO => trivial) 50 #[.int IntKind.u64 0] (.agg e58) r58 ?_
    intro w3 hO
    have hS : Has [] w3 := trivial
    refine d_one 1 f13r15Op1 (ls 4 3) (fun K hK => ?_)
    refine k_ld hK hO hS 33 i10 h10 Try.underlying33 ?_
    exact d_fr _ _ (s0 _ hO)
  refine d_cons 1 f13r15Op1 (ls 4 2) (fun K hK => ?_) ?_
  · skip
    refine k_ld hK hO hS 33 i10 h10 Try.underlying33 ?_
    refine d_one 0 f13r15Op0 (ls 4 3) (fun K hK => ?_)
    refine k_call hK hO (fun _ hO => trivial) 50 #[.int IntKind.u64 0] (.agg e58) r58 ?_
    intro w6 hO
    exact d_fr _ _ (s0 _ hO)
  exact AllReadyH.nil
def f13r16Op0 : Oper := ⟨some 61, .load 33 (.tmp 10), 33, "ref.go:74", #[], none⟩
def f13r16Op1 : Oper := ⟨some 62, .load 33 (.tmp 6), 33, "ref.go:74", #[], none⟩
def f13r16Op2 : Oper := ⟨some 63, .build 35 #[(0, .tmp 61), (1, .tmp 62)], 35, "ref.go:74", #[⟨0, .data⟩, ⟨1, .data⟩], none⟩
def f13r16Op3 : Oper := ⟨none, .store 35 (.tmp 2) (.tmp 63), 0, "ref.go:74", #[⟨2, .data⟩, ⟨0, .phase⟩, ⟨1, .phase⟩, ⟨2, .phase⟩], none⟩
def f13r16Op4 : Oper := ⟨some 3, .assign (.const (.bool true)), 4, "ref.go:74", #[⟨3, .chain⟩, ⟨0, .phase⟩, ⟨1, .phase⟩, ⟨2, .phase⟩, ⟨3, .phase⟩], none⟩
def f13r16Ops : Array Oper := #[f13r16Op0, f13r16Op1, f13r16Op2, f13r16Op3, f13r16Op4]
set_option maxRecDepth 100000 in
set_option maxHeartbeats 2000000 in
theorem f13r16_r {Q : Exit → Act → World → Prop} {u w : World} {L : List Row} {z0 z1 z3 z4 z5 z7 z8 z9 z11 z12 z13 z14 z15 z16 z17 z18 z19 z20 z21 z22 z23 z24 z25 z26 z27 z28 z29 z30 z31 z32 z33 z34 z35 z36 z37 z38 z39 z40 z41 z42 z43 z44 z45 z46 z47 z48 z49 z50 z51 z52 z53 z54 z55 z56 z57 z58 z59 z60 z61 z62 z63 : Value} {b2 b6 b10 : Nat} {c2 c6 c10 : Array Value} {e63 : Array Value} (hO : Own u w L) (i2 : Nat) (h2 : L[i2]? = some (b2, c2, 35)) (i6 : Nat) (h6 : L[i6]? = some (b6, c6, 33)) (i10 : Nat) (h10 : L[i10]? = some (b10, c10, 33)) (q63 : Try.prog.built 35 [(0, .agg c10), (1, .agg c6)] = some e63) (fe63_35 : Fit 35 e63) (H : ∀ (w' : World), Own u w' ((L.set i2 (b2, e63, 35))) → Q .normal { tmps := List.toArray (z0 :: z1 :: (.pointer (some ⟨b2, 0, none⟩)) :: (.bool true) :: z4 :: z5 :: (.pointer (some ⟨b6, 0, none⟩)) :: z7 :: z8 :: z9 :: (.pointer (some ⟨b10, 0, none⟩)) :: z11 :: z12 :: z13 :: z14 :: z15 :: z16 :: z17 :: z18 :: z19 :: z20 :: z21 :: z22 :: z23 :: z24 :: z25 :: z26 :: z27 :: z28 :: z29 :: z30 :: z31 :: z32 :: z33 :: z34 :: z35 :: z36 :: z37 :: z38 :: z39 :: z40 :: z41 :: z42 :: z43 :: z44 :: z45 :: z46 :: z47 :: z48 :: z49 :: z50 :: z51 :: z52 :: z53 :: z54 :: z55 :: z56 :: z57 :: z58 :: z59 :: z60 :: (.agg c10) :: (.agg c6) :: (.agg e63) :: []), defers := [] } w') :
    (Code.region 16 f13r16Ops false).wp Try.prog Q { tmps := List.toArray (z0 :: z1 :: (.pointer (some ⟨b2, 0, none⟩)) :: z3 :: z4 :: z5 :: (.pointer (some ⟨b6, 0, none⟩)) :: z7 :: z8 :: z9 :: (.pointer (some ⟨b10, 0, none⟩)) :: z11 :: z12 :: z13 :: z14 :: z15 :: z16 :: z17 :: z18 :: z19 :: z20 :: z21 :: z22 :: z23 :: z24 :: z25 :: z26 :: z27 :: z28 :: z29 :: z30 :: z31 :: z32 :: z33 :: z34 :: z35 :: z36 :: z37 :: z38 :: z39 :: z40 :: z41 :: z42 :: z43 :: z44 :: z45 :: z46 :: z47 :: z48 :: z49 :: z50 :: z51 :: z52 :: z53 :: z54 :: z55 :: z56 :: z57 :: z58 :: z59 :: z60 :: z61 :: z62 :: z63 :: []), defers := [] } w := by
  refine wp_region_list (show wpList _ f13r16Ops _ [f13r16Op0, f13r16Op1, f13r16Op2, f13r16Op3, f13r16Op4] _ _ from ?_)
  refine l_ld hO 33 i10 h10 Try.underlying33 ?_
  refine l_ld hO 33 i6 h6 Try.underlying33 ?_
  refine l_val (.agg e63) (run_bd 35 _ rfl [(0, .agg c10), (1, .agg c6)] (by kernel_rfl) e63 q63 _) ?_
  refine l_fr (Fr [z0, z1, D b2, z3, z4, z5, D b6, z7, z8, z9, D b10, z11, z12, z13, z14, z15, z16, z17, z18, z19, z20, z21, z22, z23, z24, z25, z26, z27, z28, z29, z30, z31, z32, z33, z34, z35, z36, z37, z38, z39, z40, z41, z42, z43, z44, z45, z46, z47, z48, z49, z50, z51, z52, z53, z54, z55, z56, z57, z58, z59, z60, A c10, A c6, A e63] []) ?_
  refine l_st hO 35 i2 h2 e63 fe63_35 ?_
  intro w1 hO
  refine l_val (.bool true) (by kernel_rfl) ?_
  exact l_fr _ (wpList_nil (H  _ hO))
theorem geq_run13 (a : Act) (w : World) (g : Nat) (h0 : a.eval (.tmp 14) = .int .u8 ((g : Nat) : Int)) : (execOp a.eval f13r1Op2).run Try.prog w = .ok (.value (.bool (decide (128 ≤ g)))) w := by
  unfold execOp f13r1Op2
  simp only [h0]
  have e0 : a.eval (.const (.int .u8 128)) = .int .u8 128 := rfl
  have e : decide ((128 : Int) ≤ ((g : Nat) : Int)) = decide (128 ≤ g) := by rw [Bool.eq_iff_iff]; simp; omega
  go_simp
theorem clr_run13 (a : Act) (w : World) (g : Nat) (hg : g < 256) (h0 : a.eval (.tmp 18) = .int .u8 ((g : Nat) : Int)) : (execOp a.eval f13r3Op2).run Try.prog w = .ok (.value (.int .u8 ((g % 128 : Nat) : Int))) w := by
  unfold execOp f13r3Op2
  simp only [h0]
  have e0 : a.eval (.const (.int .u8 128)) = .int .u8 128 := rfl
  have e := clr128 g hg
  go_simp
set_option maxRecDepth 100000 in
set_option maxHeartbeats 4000000 in
theorem rdecode_p (f : Nat → Nat) (hf : ∀ i, f i < 256) (w : World) : Ret 13 #[.agg (vals .u8 32 f)] w (.tuple #[.agg (rp (decR (nb f 32)).1), .bool (decR (nb f 32)).2]) := by
  go_enter Try.func13, Try.ntmps13
  have hO := Own.start w
  obtain ⟨n, hn⟩ : ∃ n, n = nb f 32 := ⟨_, rfl⟩
  obtain ⟨odd, hodd⟩ : ∃ b, b = n.testBit 255 := ⟨_, rfl⟩
  have hge : decide (128 ≤ f 31) = odd := by rw [hodd, hn, bit_top f hf]
  have hm : nb (cob f) 32 = n % 2 ^ 255 := by rw [hn]; exact nb_cob f hf
  have hm2 : n % 2 ^ 255 < 2 ^ 256 := by omega
  obtain ⟨m, em⟩ : ∃ m, m = n % 2 ^ 255 := ⟨_, rfl⟩
  rw [← em] at hm hm2
  have Hn := hide hn
  have Ho := hide hodd
  have Hg := hide hge
  have Hm := hide hm
  have Em := hide em
  rw [← hn]
  clear hn hodd hge hm em
  go_upto_region 0 with (fail)
  refine f13r0_r hO (fit_by _) ?_
  intro n1 n2 w1 hO
  replace hO : Own w w1 [(n2, qn [0, 0], 35), (n1, vals .u8 32 f, 22)] := hO
  go_upto_region 1 with (fail)
  refine f13r1_r hO 1 rfl (get_by _ 31 (by omega)) (fun a w h => Hg.out ▸ geq_run13 a w _ h) ?_
  intro w2 hO
  replace hO : Own w w2 [(n2, qn [0, 0], 35), (n1, vals .u8 32 f, 22)] := hO
  go_upto_region 2 with (fail)
  refine f13r2_r hO 1 rfl ?_
  intro n5 w3 hO
  replace hO : Own w w3 [(n5, vals .u8 32 f, 22), (n2, qn [0, 0], 35), (n1, vals .u8 32 f, 22)] := hO
  go_upto_region 3 with (fail)
  refine f13r3_r hO 0 rfl (get_by _ 31 (by omega)) (fun a w h => clr_run13 a w _ (hf 31) h) (set_by _ _ _) (fit_by _) ?_
  intro w4 hO
  replace hO : Own w w4 [(n5, vals .u8 32 (fun j => if j = 31 then f 31 % 128 else f j), 22), (n2, qn [0, 0], 35), (n1, vals .u8 32 f, 22)] := hO
  replace hO : Own w w4 [(n5, vals .u8 32 (cob f), 22), (n2, qn [0, 0], 35), (n1, vals .u8 32 f, 22)] := hO
  have hl := rload_c (cob f) (cob_lt f hf)
  rw [Hm.out] at hl
  have Hl := hide hl
  clear hl
  go_upto_region 4 with (fail)
  refine f13r4_r hO 0 rfl Hl.out (fit_rn _) ?_
  intro n6 w5 hO
  replace hO : Own w w5 [(n6, vals .u64 16 (F.dg (m % pP)), 33), (n5, vals .u8 32 (cob f), 22), (n2, qn [0, 0], 35), (n1, vals .u8 32 f, 22)] := hO
  go_upto_region 5 with (fail)
  by_cases hbig : pP ≤ m
  · skip
    have hs : sameB (byt (m % pP)) (cob f) = false := by rw [same_num (byt_lt _) (cob_lt f hf), nb_byt32 (Nat.lt_of_le_of_lt (Nat.mod_le _ _) hm2), Hm.out]; exact decide_eq_false (by have := Nat.mod_lt m pP_pos; omega)
    refine f13r5a_r (fun _ _ _ _ _ h => h) hO 1 rfl 0 rfl (rbytes_c _) (fun a w h1 h2 => neq_c _ _ _ _ false hs w rfl h1 h2) ?_
    intro w6 hO
    replace hO : Own w w6 [(n6, vals .u64 16 (F.dg (m % pP)), 33), (n5, vals .u8 32 (cob f), 22), (n2, qn [0, 0], 35), (n1, vals .u8 32 f, 22)] := hO
    have Hs := hide hs
    clear hs
    go_upto_region 6 with (fail)
    refine f13r6_r hO 2 rfl rzero_c (fit_rp _ _) ?_
    intro w7 hO
    replace hO : Own w w7 [(n6, vals .u64 16 (F.dg (m % pP)), 33), (n5, vals .u8 32 (cob f), 22), (n2, rp zero7, 35), (n1, vals .u8 32 f, 22)] := hO
    go_wp2_with fail
    have hd := dec_big (Em.out ▸ hbig)
    refine bodyPost_ret (v := .tuple #[.agg (rp zero7), .bool false]) (results_and Try.results13 _ _ n2 35 _ (0, 0) _ _ rfl (hO.row 2 rfl) Try.underlying35 rfl (fit_rp _ _).size rfl) rfl ⟨?_, hO.low⟩
    rw [hd]
  · skip
    have hlt : m < pP := by omega
    have hs : sameB (byt (m % pP)) (cob f) = true := by rw [same_num (byt_lt _) (cob_lt f hf), nb_byt32 (Nat.lt_of_le_of_lt (Nat.mod_le _ _) hm2), Hm.out]; exact decide_eq_true (Nat.mod_eq_of_lt hlt)
    refine f13r5b_r (fun _ _ _ _ _ h => h) hO 1 rfl 0 rfl (rbytes_c _) (fun a w h1 h2 => neq_c _ _ _ _ true hs w rfl h1 h2) ?_
    intro w6 hO
    replace hO : Own w w6 [(n6, vals .u64 16 (F.dg (m % pP)), 33), (n5, vals .u8 32 (cob f), 22), (n2, qn [0, 0], 35), (n1, vals .u8 32 f, 22)] := hO
    have Hs := hide hs
    clear hs hbig
    rw [Nat.mod_eq_of_lt hlt] at hO
    have hL : n % 2 ^ 255 < pP := Em.out ▸ hlt
    go_upto_region 7 with (fail)
    refine f13r7_r hO 0 rfl (rmul_c _ _ hlt hlt) (fit_rn _) ?_
    intro n7 w7 hO
    replace hO : Own w w7 [(n7, vals .u64 16 (F.dg (mm m m)), 33), (n6, vals .u64 16 (F.dg m), 33), (n5, vals .u8 32 (cob f), 22), (n2, qn [0, 0], 35), (n1, vals .u8 32 f, 22)] := hO
    go_upto_region 8 with (fail)
    refine f13r8_r (fun _ _ _ _ _ h => h) hO 0 rfl (rof_c 1 (by omega)) (rsub_c _ _ (mm_lt _ _) (of_lt (by omega))) (fit_rn _) ?_
    intro n8 w8 hO
    replace hO : Own w w8 [(n8, vals .u64 16 (F.dg (sm (mm m m) 1)), 33), (n7, vals .u64 16 (F.dg (mm m m)), 33), (n6, vals .u64 16 (F.dg m), 33), (n5, vals .u8 32 (cob f), 22), (n2, qn [0, 0], 35), (n1, vals .u8 32 f, 22)] := hO
    go_upto_region 9 with (fail)
    refine f13r9_r (fun _ _ _ _ _ h => h) hO 1 rfl rd_c (rmul_c _ _ d7_lt (mm_lt _ _)) (rof_c 1 (by omega)) (radd_c _ _ (mm_lt _ _) (of_lt (by omega))) (fit_rn _) ?_
    intro n9 w9 hO
    replace hO : Own w w9 [(n9, vals .u64 16 (F.dg (am (mm d7N (mm m m)) 1)), 33), (n8, vals .u64 16 (F.dg (sm (mm m m) 1)), 33), (n7, vals .u64 16 (F.dg (mm m m)), 33), (n6, vals .u64 16 (F.dg m), 33), (n5, vals .u8 32 (cob f), 22), (n2, qn [0, 0], 35), (n1, vals .u8 32 f, 22)] := hO
    have hr := rratio_c (u7 m) (v7 m) (u7_lt m) (v7_lt m)
    obtain ⟨X, hX⟩ : ∃ X, X = rVal (u7 m) (v7 m) := ⟨_, rfl⟩
    obtain ⟨ok, hok⟩ : ∃ b, b = rOk (u7 m) (v7 m) := ⟨_, rfl⟩
    have hXl : X < pP := hX ▸ val_lt _ _
    rw [← hX, ← hok] at hr
    have Hr := hide hr
    have HX := hide hX
    have Hk := hide hok
    clear hr hX hok
    go_upto_region 10 with (fail)
    refine f13r10_r hO 1 rfl 0 rfl Hr.out (fit_rn _) ?_
    intro n10 w10 hO
    replace hO : Own w w10 [(n10, vals .u64 16 (F.dg X), 33), (n9, vals .u64 16 (F.dg (am (mm d7N (mm m m)) 1)), 33), (n8, vals .u64 16 (F.dg (sm (mm m m) 1)), 33), (n7, vals .u64 16 (F.dg (mm m m)), 33), (n6, vals .u64 16 (F.dg m), 33), (n5, vals .u8 32 (cob f), 22), (n2, qn [0, 0], 35), (n1, vals .u8 32 f, 22)] := hO
    by_cases h0 : X = 0
    · skip
      go_upto_region 11 with (fail)
      refine f13r11a_r (fun _ _ _ _ _ h => h) hO 0 rfl (rof_c 0 (by omega)) (fun a w h1 h2 => eqlN_c _ _ _ _ true (lt256 hXl) (by omega) (decide_eq_true h0) w rfl h1 h2) ?_
      intro w11 hO
      replace hO : Own w w11 [(n10, vals .u64 16 (F.dg X), 33), (n9, vals .u64 16 (F.dg (am (mm d7N (mm m m)) 1)), 33), (n8, vals .u64 16 (F.dg (sm (mm m m) 1)), 33), (n7, vals .u64 16 (F.dg (mm m m)), 33), (n6, vals .u64 16 (F.dg m), 33), (n5, vals .u8 32 (cob f), 22), (n2, qn [0, 0], 35), (n1, vals .u8 32 f, 22)] := hO
      cases ok
      · skip
        go_upto_region 12 with (fail)
        refine f13r12A_r hO ?_
        intro w12 hO
        replace hO : Own w w12 [(n10, vals .u64 16 (F.dg X), 33), (n9, vals .u64 16 (F.dg (am (mm d7N (mm m m)) 1)), 33), (n8, vals .u64 16 (F.dg (sm (mm m m) 1)), 33), (n7, vals .u64 16 (F.dg (mm m m)), 33), (n6, vals .u64 16 (F.dg m), 33), (n5, vals .u8 32 (cob f), 22), (n2, qn [0, 0], 35), (n1, vals .u8 32 f, 22)] := hO
        go_upto_region 13 with (fail)
        refine f13r13_r hO 6 rfl rzero_c (fit_rp _ _) ?_
        intro w13 hO
        replace hO : Own w w13 [(n10, vals .u64 16 (F.dg X), 33), (n9, vals .u64 16 (F.dg (am (mm d7N (mm m m)) 1)), 33), (n8, vals .u64 16 (F.dg (sm (mm m m) 1)), 33), (n7, vals .u64 16 (F.dg (mm m m)), 33), (n6, vals .u64 16 (F.dg m), 33), (n5, vals .u8 32 (cob f), 22), (n2, rp zero7, 35), (n1, vals .u8 32 f, 22)] := hO
        go_wp2_with fail
        have hd := dec_bad hL (Em.out ▸ Hk.out)
        refine bodyPost_ret (v := .tuple #[.agg (rp zero7), .bool false]) (results_and Try.results13 _ _ n2 35 _ (0, 0) _ _ rfl (hO.row 6 rfl) Try.underlying35 rfl (fit_rp _ _).size rfl) rfl ⟨?_, hO.low⟩
        rw [hd]
      · skip
        cases odd
        · skip
          go_upto_region 12 with (fail)
          refine f13r12C_r hO ?_
          intro w12 hO
          replace hO : Own w w12 [(n10, vals .u64 16 (F.dg X), 33), (n9, vals .u64 16 (F.dg (am (mm d7N (mm m m)) 1)), 33), (n8, vals .u64 16 (F.dg (sm (mm m m) 1)), 33), (n7, vals .u64 16 (F.dg (mm m m)), 33), (n6, vals .u64 16 (F.dg m), 33), (n5, vals .u8 32 (cob f), 22), (n2, qn [0, 0], 35), (n1, vals .u8 32 f, 22)] := hO
          go_upto_region 16 with (fail)
          refine f13r16_r hO 6 rfl 4 rfl 0 rfl (bd_rp _ _) (fit_rp _ _) ?_
          intro w13 hO
          replace hO : Own w w13 [(n10, vals .u64 16 (F.dg X), 33), (n9, vals .u64 16 (F.dg (am (mm d7N (mm m m)) 1)), 33), (n8, vals .u64 16 (F.dg (sm (mm m m) 1)), 33), (n7, vals .u64 16 (F.dg (mm m m)), 33), (n6, vals .u64 16 (F.dg m), 33), (n5, vals .u8 32 (cob f), 22), (n2, qn [X, m], 35), (n1, vals .u8 32 f, 22)] := hO
          go_wp2_with fail
          have hd := dec_even hL (Em.out ▸ HX.out) (Em.out ▸ Hk.out) Ho.out
          refine bodyPost_ret (v := .tuple #[.agg (qn [X, m]), .bool true]) (results_and Try.results13 _ _ n2 35 _ (0, 0) _ _ rfl (hO.row 6 rfl) Try.underlying35 rfl (fit_rp _ _).size rfl) rfl ⟨?_, hO.low⟩
          rw [hd, ← Em.out]
        · skip
          go_upto_region 12 with (fail)
          refine f13r12D_r hO ?_
          intro w12 hO
          replace hO : Own w w12 [(n10, vals .u64 16 (F.dg X), 33), (n9, vals .u64 16 (F.dg (am (mm d7N (mm m m)) 1)), 33), (n8, vals .u64 16 (F.dg (sm (mm m m) 1)), 33), (n7, vals .u64 16 (F.dg (mm m m)), 33), (n6, vals .u64 16 (F.dg m), 33), (n5, vals .u8 32 (cob f), 22), (n2, qn [0, 0], 35), (n1, vals .u8 32 f, 22)] := hO
          go_upto_region 13 with (fail)
          refine f13r13_r hO 6 rfl rzero_c (fit_rp _ _) ?_
          intro w13 hO
          replace hO : Own w w13 [(n10, vals .u64 16 (F.dg X), 33), (n9, vals .u64 16 (F.dg (am (mm d7N (mm m m)) 1)), 33), (n8, vals .u64 16 (F.dg (sm (mm m m) 1)), 33), (n7, vals .u64 16 (F.dg (mm m m)), 33), (n6, vals .u64 16 (F.dg m), 33), (n5, vals .u8 32 (cob f), 22), (n2, rp zero7, 35), (n1, vals .u8 32 f, 22)] := hO
          go_wp2_with fail
          have hd := dec_flat hL (Em.out ▸ HX.out) h0 Ho.out
          refine bodyPost_ret (v := .tuple #[.agg (rp zero7), .bool false]) (results_and Try.results13 _ _ n2 35 _ (0, 0) _ _ rfl (hO.row 6 rfl) Try.underlying35 rfl (fit_rp _ _).size rfl) rfl ⟨?_, hO.low⟩
          rw [hd]
    · skip
      go_upto_region 11 with (fail)
      refine f13r11b_r (fun _ _ _ _ _ h => h) hO 0 rfl (rof_c 0 (by omega)) (fun a w h1 h2 => eqlN_c _ _ _ _ false (lt256 hXl) (by omega) (decide_eq_false h0) w rfl h1 h2) ?_
      intro w11 hO
      replace hO : Own w w11 [(n10, vals .u64 16 (F.dg X), 33), (n9, vals .u64 16 (F.dg (am (mm d7N (mm m m)) 1)), 33), (n8, vals .u64 16 (F.dg (sm (mm m m) 1)), 33), (n7, vals .u64 16 (F.dg (mm m m)), 33), (n6, vals .u64 16 (F.dg m), 33), (n5, vals .u8 32 (cob f), 22), (n2, qn [0, 0], 35), (n1, vals .u8 32 f, 22)] := hO
      cases ok
      · skip
        go_upto_region 12 with (fail)
        refine f13r12A_r hO ?_
        intro w12 hO
        replace hO : Own w w12 [(n10, vals .u64 16 (F.dg X), 33), (n9, vals .u64 16 (F.dg (am (mm d7N (mm m m)) 1)), 33), (n8, vals .u64 16 (F.dg (sm (mm m m) 1)), 33), (n7, vals .u64 16 (F.dg (mm m m)), 33), (n6, vals .u64 16 (F.dg m), 33), (n5, vals .u8 32 (cob f), 22), (n2, qn [0, 0], 35), (n1, vals .u8 32 f, 22)] := hO
        go_upto_region 13 with (fail)
        refine f13r13_r hO 6 rfl rzero_c (fit_rp _ _) ?_
        intro w13 hO
        replace hO : Own w w13 [(n10, vals .u64 16 (F.dg X), 33), (n9, vals .u64 16 (F.dg (am (mm d7N (mm m m)) 1)), 33), (n8, vals .u64 16 (F.dg (sm (mm m m) 1)), 33), (n7, vals .u64 16 (F.dg (mm m m)), 33), (n6, vals .u64 16 (F.dg m), 33), (n5, vals .u8 32 (cob f), 22), (n2, rp zero7, 35), (n1, vals .u8 32 f, 22)] := hO
        go_wp2_with fail
        have hd := dec_bad hL (Em.out ▸ Hk.out)
        refine bodyPost_ret (v := .tuple #[.agg (rp zero7), .bool false]) (results_and Try.results13 _ _ n2 35 _ (0, 0) _ _ rfl (hO.row 6 rfl) Try.underlying35 rfl (fit_rp _ _).size rfl) rfl ⟨?_, hO.low⟩
        rw [hd]
      · skip
        cases odd
        · skip
          go_upto_region 12 with (fail)
          refine f13r12B_r hO ?_
          intro w12 hO
          replace hO : Own w w12 [(n10, vals .u64 16 (F.dg X), 33), (n9, vals .u64 16 (F.dg (am (mm d7N (mm m m)) 1)), 33), (n8, vals .u64 16 (F.dg (sm (mm m m) 1)), 33), (n7, vals .u64 16 (F.dg (mm m m)), 33), (n6, vals .u64 16 (F.dg m), 33), (n5, vals .u8 32 (cob f), 22), (n2, qn [0, 0], 35), (n1, vals .u8 32 f, 22)] := hO
          go_upto_region 16 with (fail)
          refine f13r16_r hO 6 rfl 4 rfl 0 rfl (bd_rp _ _) (fit_rp _ _) ?_
          intro w13 hO
          replace hO : Own w w13 [(n10, vals .u64 16 (F.dg X), 33), (n9, vals .u64 16 (F.dg (am (mm d7N (mm m m)) 1)), 33), (n8, vals .u64 16 (F.dg (sm (mm m m) 1)), 33), (n7, vals .u64 16 (F.dg (mm m m)), 33), (n6, vals .u64 16 (F.dg m), 33), (n5, vals .u8 32 (cob f), 22), (n2, qn [X, m], 35), (n1, vals .u8 32 f, 22)] := hO
          go_wp2_with fail
          have hd := dec_even hL (Em.out ▸ HX.out) (Em.out ▸ Hk.out) Ho.out
          refine bodyPost_ret (v := .tuple #[.agg (qn [X, m]), .bool true]) (results_and Try.results13 _ _ n2 35 _ (0, 0) _ _ rfl (hO.row 6 rfl) Try.underlying35 rfl (fit_rp _ _).size rfl) rfl ⟨?_, hO.low⟩
          rw [hd, ← Em.out]
        · skip
          go_upto_region 12 with (fail)
          refine f13r12B_r hO ?_
          intro w12 hO
          replace hO : Own w w12 [(n10, vals .u64 16 (F.dg X), 33), (n9, vals .u64 16 (F.dg (am (mm d7N (mm m m)) 1)), 33), (n8, vals .u64 16 (F.dg (sm (mm m m) 1)), 33), (n7, vals .u64 16 (F.dg (mm m m)), 33), (n6, vals .u64 16 (F.dg m), 33), (n5, vals .u8 32 (cob f), 22), (n2, qn [0, 0], 35), (n1, vals .u8 32 f, 22)] := hO
          go_upto_region 15 with (fail)
          refine f13r15_r (fun _ _ _ _ _ h => h) hO 0 rfl (rof_c 0 (by omega)) (rsub_c _ _ (of_lt (by omega)) hXl) (fit_rn _) ?_
          intro w13 hO
          replace hO : Own w w13 [(n10, vals .u64 16 (F.dg (sm 0 X)), 33), (n9, vals .u64 16 (F.dg (am (mm d7N (mm m m)) 1)), 33), (n8, vals .u64 16 (F.dg (sm (mm m m) 1)), 33), (n7, vals .u64 16 (F.dg (mm m m)), 33), (n6, vals .u64 16 (F.dg m), 33), (n5, vals .u8 32 (cob f), 22), (n2, qn [0, 0], 35), (n1, vals .u8 32 f, 22)] := hO
          go_upto_region 16 with (fail)
          refine f13r16_r hO 6 rfl 4 rfl 0 rfl (bd_rp _ _) (fit_rp _ _) ?_
          intro w14 hO
          replace hO : Own w w14 [(n10, vals .u64 16 (F.dg (sm 0 X)), 33), (n9, vals .u64 16 (F.dg (am (mm d7N (mm m m)) 1)), 33), (n8, vals .u64 16 (F.dg (sm (mm m m) 1)), 33), (n7, vals .u64 16 (F.dg (mm m m)), 33), (n6, vals .u64 16 (F.dg m), 33), (n5, vals .u8 32 (cob f), 22), (n2, qn [sm 0 X, m], 35), (n1, vals .u8 32 f, 22)] := hO
          go_wp2_with fail
          have hd := dec_odd hL (Em.out ▸ HX.out) (Em.out ▸ Hk.out) h0 Ho.out
          refine bodyPost_ret (v := .tuple #[.agg (qn [sm 0 X, m]), .bool true]) (results_and Try.results13 _ _ n2 35 _ (0, 0) _ _ rfl (hO.row 6 rfl) Try.underlying35 rfl (fit_rp _ _).size rfl) rfl ⟨?_, hO.low⟩
          rw [hd, ← Em.out, sm_zero]
def f28r0Op0 : Oper := ⟨some 0, .alloc 35, 0, "ref.go:116", #[], none⟩
def f28r0Ops : Array Oper := #[f28r0Op0]
set_option maxRecDepth 100000 in
set_option maxHeartbeats 2000000 in
theorem f28r0_r {Q : Exit → Act → World → Prop} {u w : World} {L : List Row} {z0 : Value} {zz : List Value} (hO : Own u w L) (H : ∀ (n0 : Nat) (w' : World), Own u w' ((n0, qn [0, 0], 35) :: L) → Q .normal { tmps := List.toArray ((.pointer (some ⟨n0, 0, none⟩)) :: zz), defers := [] } w') :
    (Code.region 0 f28r0Ops false).wp Try.prog Q { tmps := List.toArray (z0 :: zz), defers := [] } w := by
  refine wp_region_list (show wpList _ f28r0Ops _ [f28r0Op0] _ _ from ?_)
  refine l_new hO (qn [0, 0]) 35 (al35 rfl) (fit_rp _ _) ?_
  intro n0 w1 hO
  exact l_fr _ (wpList_nil (H n0 _ hO))
def f28r1Op0 : Oper := ⟨some 4, .call { callee := .value (.func 50), args := #[.const (.int .u64 4)], argTypes := #[24] }, 33, "ref.go:117", #[], none⟩
def f28r1Op1 : Oper := ⟨some 5, .call { callee := .value (.func 50), args := #[.const (.int .u64 5)], argTypes := #[24] }, 33, "ref.go:117", #[⟨0, .chain⟩], none⟩
def f28r1Op2 : Oper := ⟨some 6, .call { callee := .value (.func 59), args := #[.tmp 5], argTypes := #[33] }, 33, "ref.go:117", #[⟨1, .data⟩, ⟨1, .chain⟩], none⟩
def f28r1Op3 : Oper := ⟨some 7, .call { callee := .value (.func 48), args := #[.tmp 4, .tmp 6], argTypes := #[33, 33] }, 33, "ref.go:117", #[⟨0, .data⟩, ⟨2, .data⟩, ⟨2, .chain⟩], none⟩
def f28r1Op4 : Oper := ⟨some 1, .alloc 33, 0, "ref.go:117", #[], none⟩
def f28r1Op5 : Oper := ⟨none, .store 33 (.tmp 1) (.tmp 7), 0, "ref.go:117", #[⟨4, .data⟩, ⟨3, .data⟩, ⟨3, .chain⟩, ⟨0, .phase⟩, ⟨1, .phase⟩, ⟨2, .phase⟩, ⟨3, .phase⟩, ⟨4, .phase⟩], none⟩
def f28r1Ops : Array Oper := #[f28r1Op0, f28r1Op1, f28r1Op2, f28r1Op3, f28r1Op4, f28r1Op5]
set_option maxRecDepth 100000 in
set_option maxHeartbeats 2000000 in
theorem f28r1_r {Q : Exit → Act → World → Prop} {u w : World} {L : List Row} {z0 z1 z2 z3 z4 z5 z6 z7 : Value} {zz : List Value} {e4 e5 e6 e7 : Array Value} (hO : Own u w L) (r4 : ∀ w, Ret 50 #[.int IntKind.u64 4] w (.agg e4)) (r5 : ∀ w, Ret 50 #[.int IntKind.u64 5] w (.agg e5)) (r6 : ∀ w, Ret 59 #[.agg e5] w (.agg e6)) (r7 : ∀ w, Ret 48 #[.agg e4, .agg e6] w (.agg e7)) (fe7_33 : Fit 33 e7) (H : ∀ (n1 : Nat) (w' : World), Own u w' ((n1, e7, 33) :: L) → Q .normal { tmps := List.toArray (z0 :: (.pointer (some ⟨n1, 0, none⟩)) :: z2 :: z3 :: (.agg e4) :: (.agg e5) :: (.agg e6) :: (.agg e7) :: zz), defers := [] } w') :
    (Code.region 1 f28r1Ops false).wp Try.prog Q { tmps := List.toArray (z0 :: z1 :: z2 :: z3 :: z4 :: z5 :: z6 :: z7 :: zz), defers := [] } w := by
  refine wp_region_list (show wpList _ f28r1Ops _ [f28r1Op0, f28r1Op1, f28r1Op2, f28r1Op3, f28r1Op4, f28r1Op5] _ _ from ?_)
  refine l_call hO 50 #[.int IntKind.u64 4] (.agg e4) r4 ?_
  intro w1 hO
  refine l_call hO 50 #[.int IntKind.u64 5] (.agg e5) r5 ?_
  intro w2 hO
  refine l_call hO 59 #[.agg e5] (.agg e6) r6 ?_
  intro w3 hO
  refine l_fr (Fr [z0, z1, z2, z3, A e4, A e5, A e6, z7] zz) ?_
  refine l_call hO 48 #[.agg e4, .agg e6] (.agg e7) r7 ?_
  intro w4 hO
  refine l_new hO (vals .u64 16 (F.dg 0)) 33 (al33 rfl) (fit_rn _) ?_
  intro n1 w5 hO
  refine l_st hO 33 0 rfl e7 fe7_33 ?_
  intro w6 hO
  exact l_fr _ (wpList_nil (H n1 _ hO))
def f28r2Op0 : Oper := ⟨some 9, .load 33 (.tmp 1), 33, "ref.go:118", #[], none⟩
def f28r2Op1 : Oper := ⟨some 10, .call { callee := .value (.func 17), args := #[.tmp 9], argTypes := #[33] }, 22, "ref.go:118", #[⟨0, .data⟩], none⟩
def f28r2Op2 : Oper := ⟨some 11, .call { callee := .value (.func 13), args := #[.tmp 10], argTypes := #[22] }, 36, "ref.go:118", #[⟨1, .data⟩, ⟨1, .chain⟩], none⟩
def f28r2Op3 : Oper := ⟨some 8, .move (.tmp 11), 36, "ref.go:118", #[⟨2, .data⟩], none⟩
def f28r2Op4 : Oper := ⟨some 12, .extract (.tmp 8) 0, 35, "ref.go:118", #[⟨3, .data⟩], none⟩
def f28r2Op5 : Oper := ⟨some 13, .extract (.tmp 8) 1, 4, "ref.go:118", #[⟨3, .data⟩, ⟨7, .gcOnly .lateStores⟩], none⟩
def f28r2Op6 : Oper := ⟨some 2, .alloc 35, 0, "ref.go:118", #[], none⟩
def f28r2Op7 : Oper := ⟨none, .store 35 (.tmp 2) (.tmp 12), 0, "ref.go:118", #[⟨6, .data⟩, ⟨4, .data⟩, ⟨2, .chain⟩, ⟨0, .phase⟩, ⟨1, .phase⟩, ⟨2, .phase⟩, ⟨3, .phase⟩, ⟨4, .phase⟩, ⟨5, .textOnly .lateStores⟩, ⟨6, .phase⟩], none⟩
def f28r2Op8 : Oper := ⟨some 3, .assign (.tmp 13), 4, "ref.go:118", #[⟨5, .data⟩, ⟨7, .chain⟩, ⟨0, .phase⟩, ⟨1, .phase⟩, ⟨2, .phase⟩, ⟨3, .phase⟩, ⟨4, .phase⟩, ⟨5, .phase⟩, ⟨6, .phase⟩, ⟨7, .phase⟩], none⟩
def f28r2Ops : Array Oper := #[f28r2Op0, f28r2Op1, f28r2Op2, f28r2Op3, f28r2Op4, f28r2Op5, f28r2Op6, f28r2Op7, f28r2Op8]
set_option maxRecDepth 100000 in
set_option maxHeartbeats 2000000 in
theorem f28r2_r {Q : Exit → Act → World → Prop} {u w : World} {L : List Row} {z0 z2 z3 z4 z5 z6 z7 z8 z9 z10 z11 z12 z13 : Value} {zz : List Value} {b1 : Nat} {c1 : Array Value} {e10 e11a : Array Value} {p11b : Bool} (hO : Own u w L) (i1 : Nat) (h1 : L[i1]? = some (b1, c1, 33)) (r10 : ∀ w, Ret 17 #[.agg c1] w (.agg e10)) (r11 : ∀ w, Ret 13 #[.agg e10] w (.tuple #[.agg e11a, .bool p11b])) (fe11a_35 : Fit 35 e11a) (H : ∀ (n2 : Nat) (w' : World), Own u w' ((n2, e11a, 35) :: L) → Q .normal { tmps := List.toArray (z0 :: (.pointer (some ⟨b1, 0, none⟩)) :: (.pointer (some ⟨n2, 0, none⟩)) :: (.bool p11b) :: z4 :: z5 :: z6 :: z7 :: (.tuple #[.agg e11a, .bool p11b]) :: (.agg c1) :: (.agg e10) :: (.tuple #[.agg e11a, .bool p11b]) :: (.agg e11a) :: (.bool p11b) :: zz), defers := [] } w') :
    (Code.region 2 f28r2Ops false).wp Try.prog Q { tmps := List.toArray (z0 :: (.pointer (some ⟨b1, 0, none⟩)) :: z2 :: z3 :: z4 :: z5 :: z6 :: z7 :: z8 :: z9 :: z10 :: z11 :: z12 :: z13 :: zz), defers := [] } w := by
  refine wp_region_list (show wpList _ f28r2Ops _ [f28r2Op0, f28r2Op1, f28r2Op2, f28r2Op3, f28r2Op4, f28r2Op5, f28r2Op6, f28r2Op7, f28r2Op8] _ _ from ?_)
  refine l_ld hO 33 i1 h1 Try.underlying33 ?_
  refine l_call hO 17 #[.agg c1] (.agg e10) r10 ?_
  intro w1 hO
  refine l_call hO 13 #[.agg e10] (.tuple #[.agg e11a, .bool p11b]) r11 ?_
  intro w2 hO
  refine l_fr (Fr [z0, D b1, z2, z3, z4, z5, z6, z7, z8, A c1, A e10, .tuple #[.agg e11a, .bool p11b], z12, z13] zz) ?_
  refine l_val (.tuple #[.agg e11a, .bool p11b]) (by kernel_rfl) ?_
  refine l_val (.agg e11a) (by kernel_rfl) ?_
  refine l_val (.bool p11b) (by kernel_rfl) ?_
  refine l_fr (Fr [z0, D b1, z2, z3, z4, z5, z6, z7, .tuple #[.agg e11a, .bool p11b], A c1, A e10, .tuple #[.agg e11a, .bool p11b], A e11a, .bool p11b] zz) ?_
  refine l_new hO (qn [0, 0]) 35 (al35 rfl) (fit_rp _ _) ?_
  intro n2 w3 hO
  refine l_st hO 35 0 rfl e11a fe11a_35 ?_
  intro w4 hO
  refine l_val (.bool p11b) (by kernel_rfl) ?_
  exact l_fr _ (wpList_nil (H n2 _ hO))
def f28r3Op0 : Oper := ⟨some 14, .load 35 (.tmp 2), 35, "ref.go:119", #[], none⟩
def f28r3Op1 : Oper := ⟨none, .store 35 (.tmp 0) (.tmp 14), 0, "ref.go:119", #[⟨0, .data⟩, ⟨0, .phase⟩], none⟩
def f28r3Ops : Array Oper := #[f28r3Op0, f28r3Op1]
set_option maxRecDepth 100000 in
set_option maxHeartbeats 2000000 in
theorem f28r3_r {Q : Exit → Act → World → Prop} {u w : World} {L : List Row} {z1 z3 z4 z5 z6 z7 z8 z9 z10 z11 z12 z13 z14 : Value} {b0 b2 : Nat} {c0 c2 : Array Value} (hO : Own u w L) (i0 : Nat) (h0 : L[i0]? = some (b0, c0, 35)) (i2 : Nat) (h2 : L[i2]? = some (b2, c2, 35)) (H : ∀ (w' : World), Own u w' ((L.set i0 (b0, c2, 35))) → Q .normal { tmps := List.toArray ((.pointer (some ⟨b0, 0, none⟩)) :: z1 :: (.pointer (some ⟨b2, 0, none⟩)) :: z3 :: z4 :: z5 :: z6 :: z7 :: z8 :: z9 :: z10 :: z11 :: z12 :: z13 :: (.agg c2) :: []), defers := [] } w') :
    (Code.region 3 f28r3Ops false).wp Try.prog Q { tmps := List.toArray ((.pointer (some ⟨b0, 0, none⟩)) :: z1 :: (.pointer (some ⟨b2, 0, none⟩)) :: z3 :: z4 :: z5 :: z6 :: z7 :: z8 :: z9 :: z10 :: z11 :: z12 :: z13 :: z14 :: []), defers := [] } w := by
  refine wp_region_list (show wpList _ f28r3Ops _ [f28r3Op0, f28r3Op1] _ _ from ?_)
  have fc2_35 := hO.fits i2 h2
  refine l_ld hO 35 i2 h2 Try.underlying35 ?_
  refine l_st hO 35 i0 h0 c2 fc2_35 ?_
  intro w1 hO
  exact l_fr _ (wpList_nil (H  _ hO))
theorem decR_some {n : Nat} {P : Nat × Nat} (h : dec7 n = some P) : decR n = (P, true) := by unfold decR; rw [h]
theorem decR_none {n : Nat} (h : dec7 n = none) : decR n = (zero7, false) := by unfold decR; rw [h]
theorem decR_base : decR yN = (base7, true) := decR_some dec_base
theorem rdec_base (w : World) : Ret 13 #[.agg (vals .u8 32 (byt yN))] w (.tuple #[.agg (rp base7), .bool true]) := by
  have h := rdecode_p (byt yN) (byt_lt _) w
  rw [nb_byt32 (n := yN) (lt256 ok_base.y), decR_base] at h
  exact h
set_option maxRecDepth 100000 in
set_option maxHeartbeats 4000000 in
theorem rbase_p (w : World) : Ret 28 #[] w (.agg (rp base7)) := by
  go_enter Try.func28, Try.ntmps28
  have hO := Own.start w
  go_upto_region 0 with (fail)
  refine f28r0_r hO ?_
  intro n0 w1 hO
  replace hO : Own w w1 [(n0, qn [0, 0], 35)] := hO
  go_upto_region 1 with (fail)
  refine f28r1_r hO (rof_c 4 (by omega)) (rof_c 5 (by omega)) (rinv_c _ (of_lt (by omega))) (rmul_c _ _ (of_lt (by omega)) (iN_lt _)) (fit_rn _) ?_
  intro n1 w2 hO
  replace hO : Own w w2 [(n1, vals .u64 16 (F.dg (mm 4 (iN 5))), 33), (n0, qn [0, 0], 35)] := hO
  rw [base_y] at hO
  replace hO : Own w w2 [(n1, vals .u64 16 (F.dg yN), 33), (n0, qn [0, 0], 35)] := hO
  go_upto_region 2 with (fail)
  refine f28r2_r hO 0 rfl (rbytes_c _) rdec_base (fit_rp _ _) ?_
  intro n2 w3 hO
  replace hO : Own w w3 [(n2, rp base7, 35), (n1, vals .u64 16 (F.dg yN), 33), (n0, qn [0, 0], 35)] := hO
  go_upto_region 3 with (fail)
  refine f28r3_r hO 2 rfl 0 rfl ?_
  intro w4 hO
  replace hO : Own w w4 [(n2, rp base7, 35), (n1, vals .u64 16 (F.dg yN), 33), (n0, rp base7, 35)] := hO
  go_wp2_with fail
  refine bodyPost_ret (v := .agg (rp base7)) (results_cell_row Try.results28 _ _ n0 35 _ (0, 0) _ rfl (hO.row 2 rfl) Try.underlying35 rfl (fit_rp _ _).size) rfl ⟨rfl, hO.low⟩
end Go.Proofs.Ytalnkcijebdpbaa

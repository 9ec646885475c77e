/- Walks: Mul, Both, Bytes; Neg, Same, Base, Places of points of the curve. No other condition. -/
import Derived.Test.YtbpmakegimgbpaaDoorPg
namespace Go.Proofs.YtbpmakegimgbpaaDoor
set_option maxRecDepth 100000
open F Go.RowKit

theorem nb_lt32 (f : Nat → Nat) (hf : ∀ i, f i < 256) : nb f 32 < 2 ^ 256 := nb_lt f hf 32
def f30r0Op0 : Oper := ⟨some 2, .box 22 (.tmp 0), 0, "edwards.go:69", #[], none⟩
def f30r0Op1 : Oper := ⟨some 3, .box 41 (.tmp 1), 0, "edwards.go:69", #[], none⟩
def f30r0Op2 : Oper := ⟨some 4, .alloc 41, 0, "edwards.go:69", #[], none⟩
def f30r0Ops : Array Oper := #[f30r0Op0, f30r0Op1, f30r0Op2]
set_option maxHeartbeats 2000000 in
theorem f30r0_r {Q : Exit → Act → World → Prop} {u w : World} {L : List Row} {z2 z3 z4 : Value} {zz : List Value} {e0 e1 : Array Value} (hO : Own u w L) (fe0_22 : Fit 22 e0) (fe1_29 : Fit 41 e1) (H : ∀ (n2 : Nat) (n3 : Nat) (n4 : Nat) (w' : World), Own u w' ((n4, ps [0, 0], 41) :: (n3, e1, 41) :: (n2, e0, 22) :: L) → Q .normal { tmps := List.toArray ((.agg e0) :: (.agg e1) :: (.pointer (some ⟨n2, 0, none⟩)) :: (.pointer (some ⟨n3, 0, none⟩)) :: (.pointer (some ⟨n4, 0, none⟩)) :: zz), defers := [] } w') :
    (Code.region 0 f30r0Ops false).wp Tryd.prog Q { tmps := List.toArray ((.agg e0) :: (.agg e1) :: z2 :: z3 :: z4 :: zz), defers := [] } w := by
  refine wp_region_list (show wpList _ f30r0Ops _ [f30r0Op0, f30r0Op1, f30r0Op2] _ _ from ?_)
  refine l_new hO (e0) 22 (run_box 22 _ rfl _ (by kernel_rfl)) fe0_22 ?_
  intro n2 w1 hO
  refine l_new hO (e1) 41 (run_box 41 _ rfl _ (by kernel_rfl)) fe1_29 ?_
  intro n3 w2 hO
  refine l_new hO (ps [0, 0]) 41 (al29 rfl) (fit_pt _ _) ?_
  intro n4 w3 hO
  exact l_fr _ (wpList_nil (H n2 n3 n4 _ hO))
def f30r1Op0 : Oper := ⟨some 5, .load 22 (.tmp 2), 22, "edwards.go:69", #[], none⟩
def f30r1Op1 : Oper := ⟨some 6, .load 41 (.tmp 3), 41, "edwards.go:69", #[], none⟩
def f30r1Op2 : Oper := ⟨some 7, .call { callee := .value (.func 53), args := #[.tmp 6], argTypes := #[41] }, 81, "edwards.go:69", #[⟨1, .data⟩], none⟩
def f30r1Op3 : Oper := ⟨some 8, .build 84 #[(0, .tmp 5), (1, .tmp 7)], 84, "edwards.go:69", #[⟨0, .data⟩, ⟨2, .data⟩], none⟩
def f30r1Op4 : Oper := ⟨some 9, .buildSlice 105 1 #[(0, .tmp 8)], 105, "edwards.go:69", #[⟨3, .data⟩], none⟩
def f30r1Op5 : Oper := ⟨some 10, .call { callee := .value (.func 52), args := #[.tmp 9], argTypes := #[105] }, 41, "edwards.go:69", #[⟨4, .data⟩, ⟨2, .chain⟩], none⟩
def f30r1Op6 : Oper := ⟨none, .store 41 (.tmp 4) (.tmp 10), 0, "edwards.go:69", #[⟨5, .data⟩, ⟨5, .chain⟩, ⟨0, .phase⟩, ⟨1, .phase⟩, ⟨2, .phase⟩, ⟨3, .phase⟩, ⟨4, .phase⟩, ⟨5, .phase⟩], none⟩
def f30r1Ops : Array Oper := #[f30r1Op0, f30r1Op1, f30r1Op2, f30r1Op3, f30r1Op4, f30r1Op5, f30r1Op6]
set_option maxHeartbeats 2000000 in
theorem f30r1_r {Q : Exit → Act → World → Prop} {u w : World} {L : List Row} {z0 z1 z5 z6 z7 z8 z9 z10 : Value} {b2 b3 b4 : Nat} {c2 c3 c4 : Array Value} {e7 e8 E9 e10 : Array Value} (hQ : ∀ c a w n v, Q (.panic c) (a.put (some n) v) w → Q (.panic c) a w) (hO : Own u w L) (i2 : Nat) (h2 : L[i2]? = some (b2, c2, 22)) (i3 : Nat) (h3 : L[i3]? = some (b3, c3, 41)) (i4 : Nat) (h4 : L[i4]? = some (b4, c4, 41)) (e4_2 : i4 ≠ i2) (e4_3 : i4 ≠ i3) (r7 : ∀ w, Ret 53 #[.agg c3] w (.agg e7)) (q8 : Tryd.prog.built 84 [(0, .agg c2), (1, .agg e7)] = some e8) (k9 : ∀ (a : Act) (w : World), a.eval (.tmp 8) = .agg e8 → (execOp a.eval f30r1Op4).run Tryd.prog w = .ok (.value (.slice (some ⟨w.heap.size, 0, none⟩) 1 1)) (w.alloc (.cells E9 84))) (r10 : ∀ (q9 : Nat) (w : World), Blk w q9 E9 84 → Ret 52 #[.slice (some ⟨q9, 0, none⟩) 1 1] w (.agg e10)) (fe10_29 : Fit 41 e10) (H : ∀ (q9 : Nat) (w' : World), Own u w' ((L.set i4 (b4, e10, 41))) → Q .normal { tmps := List.toArray (z0 :: z1 :: (.pointer (some ⟨b2, 0, none⟩)) :: (.pointer (some ⟨b3, 0, none⟩)) :: (.pointer (some ⟨b4, 0, none⟩)) :: (.agg c2) :: (.agg c3) :: (.agg e7) :: (.agg e8) :: (.slice (some ⟨q9, 0, none⟩) 1 1) :: (.agg e10) :: []), defers := [] } w') :
    (Code.region 1 f30r1Ops true).wp Tryd.prog Q { tmps := List.toArray (z0 :: z1 :: (.pointer (some ⟨b2, 0, none⟩)) :: (.pointer (some ⟨b3, 0, none⟩)) :: (.pointer (some ⟨b4, 0, none⟩)) :: z5 :: z6 :: z7 :: z8 :: z9 :: z10 :: []), defers := [] } w := by
  have fc2_22 := hO.fits i2 h2
  have fc3_29 := hO.fits i3 h3
  refine wp_region_held_drew (S := Has [(b2, c2, 22), (b3, c3, 41)]) (by kernel_rfl) ⟨hO.drew.row _ h2, hO.drew.row _ h3, trivial⟩ (fun hS => ?_)
  replace hO := hO.drew
  refine d_tk 0 f30r1Op0 (.agg c2) hQ (y_l 22 (fun _ h => h.1) fc2_22 Tryd.underlying22) hS ?_
  refine d_tk 1 f30r1Op1 (.agg c3) hQ (y_l 41 (fun _ h => h.2.1) fc3_29 Tryd.underlying41) hS ?_
  refine d_fr (ls 7 3) (Fr [z0, z1, D b2, D b3, D b4, A c2, A c3, z7, z8, z9, z10] []) ?_
  refine d_one 2 f30r1Op2 (ls 7 7) (fun K hK => ?_)
  refine k_call hK hO (fun _ hO => ⟨hO.row _ h2, hO.row _ h3, trivial⟩) 53 #[.agg c3] (.agg e7) r7 ?_
  intro w1 hO
  have hS : Has [(b2, c2, 22), (b3, c3, 41)] _ := ⟨hO.row _ h2, hO.row _ h3, trivial⟩
  refine d_tk 3 f30r1Op3 (.agg e8) hQ (y_val (run_bd 84 _ rfl [(0, .agg c2), (1, .agg e7)] (by kernel_rfl) e8 q8)) hS ?_
  refine d_one 4 f30r1Op4 (ls 7 31) (fun K hK => ?_)
  refine k_bs hK hO (fun _ hO => ⟨hO.row _ h2, hO.row _ h3, trivial⟩) 1 E9 (fun w => k9 _ w (by kernel_rfl)) ?_
  intro q9 w2 hB hO
  refine d_fr (ls 7 31) (Fr [z0, z1, D b2, D b3, D b4, A c2, A c3, A e7, A e8, .slice (some ⟨q9, 0, none⟩) 1 1, z10] []) ?_
  refine d_one 5 f30r1Op5 (ls 7 63) (fun K hK => ?_)
  refine k_call1 hK hO (fun _ hO => ⟨hO.row _ h2, hO.row _ h3, trivial⟩) 52 #[.slice (some ⟨q9, 0, none⟩) 1 1] (.agg e10) (r10 q9 _ hB) ?_
  intro w3 hO
  refine d_one 6 f30r1Op6 (ls 7 127) (fun K hK => ?_)
  refine k_st hK hO 41 i4 h4 e10 fe10_29 (fun _ hO => ⟨hO.row _ (get_set h2 e4_2), hO.row _ (get_set h3 e4_3), trivial⟩) ?_
  intro w4 hO
  exact d_fr (ls 7 127) _ (wpAnyH_done (by kernel_rfl) (H q9 _ hO) _)
set_option maxHeartbeats 4000000 in
theorem mul7_c (f : Nat → Nat) {P : Nat × Nat} (hf : ∀ i, f i < 256) (hP : Ok7 P) (w : World) : Ret 44 #[.agg (vals .u8 32 f), .agg (pt P)] w (.agg (pt (mul7 P (nb f 32)))) := by
  go_enter Tryd.func44, Tryd.ntmps44
  have ht : totP [(f, P)] 256 = mul7 P (nb f 32) := by rw [tot_one hP (nb_lt32 f hf) 256 (by omega), Nat.sub_self, Nat.pow_zero, Nat.div_one]
  have hc : ∀ (q : Nat) (w : World), Blk w q (sl [(f, P)]) 84 → Ret 52 #[.slice (some ⟨q, 0, none⟩) 1 1] w (.agg (pt (mul7 P (nb f 32)))) := fun q w hB => ht ▸ total_c [(f, P)] q (fun m hm => by rw [List.mem_singleton] at hm; subst hm; exact ⟨hP, hf⟩) (by simp) w hB
  have Hc := hide hc
  clear hc ht
  have hO := Own.start w
  go_upto_region 0 with (fail)
  refine f30r0_r hO (fit_by _) (fit_pt _ _) ?_
  intro n2 n3 n4 w1 hO
  replace hO : Own w w1 [(n4, ps [0, 0], 41), (n3, pt P, 41), (n2, vals .u8 32 f, 22)] := hO
  go_upto_region 1 with (fail)
  refine f30r1_r (fun _ _ _ _ _ h => h) hO 2 rfl 1 rfl 0 rfl (by decide) (by decide) (add_p hP) (bd_mu _ _ _ _) (fun _ w h => bs1 rfl f P h w) Hc.out (fit_pt _ _) ?_
  intro q9 w2 hO
  replace hO : Own w w2 [(n4, pt (mul7 P (nb f 32)), 41), (n3, pt P, 41), (n2, vals .u8 32 f, 22)] := hO
  go_wp2_with fail
  refine bodyPost_ret (v := .agg (pt (mul7 P (nb f 32)))) (results_cell_row Tryd.results44 _ _ n4 41 _ (0, 0) _ rfl (hO.row 0 rfl) Tryd.underlying41 rfl (fit_pt _ _).size) rfl ⟨rfl, hO.low⟩
def f31r0Op0 : Oper := ⟨some 4, .box 22 (.tmp 0), 0, "edwards.go:72", #[], none⟩
def f31r0Op1 : Oper := ⟨some 5, .box 41 (.tmp 1), 0, "edwards.go:72", #[], none⟩
def f31r0Op2 : Oper := ⟨some 6, .box 22 (.tmp 2), 0, "edwards.go:72", #[], none⟩
def f31r0Op3 : Oper := ⟨some 7, .box 41 (.tmp 3), 0, "edwards.go:72", #[], none⟩
def f31r0Op4 : Oper := ⟨some 8, .alloc 41, 0, "edwards.go:72", #[], none⟩
def f31r0Ops : Array Oper := #[f31r0Op0, f31r0Op1, f31r0Op2, f31r0Op3, f31r0Op4]
set_option maxHeartbeats 2000000 in
theorem f31r0_r {Q : Exit → Act → World → Prop} {u w : World} {L : List Row} {z4 z5 z6 z7 z8 : Value} {zz : List Value} {e0 e1 e2 e3 : Array Value} (hO : Own u w L) (fe0_22 : Fit 22 e0) (fe1_29 : Fit 41 e1) (fe2_22 : Fit 22 e2) (fe3_29 : Fit 41 e3) (H : ∀ (n4 : Nat) (n5 : Nat) (n6 : Nat) (n7 : Nat) (n8 : Nat) (w' : World), Own u w' ((n8, ps [0, 0], 41) :: (n7, e3, 41) :: (n6, e2, 22) :: (n5, e1, 41) :: (n4, e0, 22) :: L) → Q .normal { tmps := List.toArray ((.agg e0) :: (.agg e1) :: (.agg e2) :: (.agg e3) :: (.pointer (some ⟨n4, 0, none⟩)) :: (.pointer (some ⟨n5, 0, none⟩)) :: (.pointer (some ⟨n6, 0, none⟩)) :: (.pointer (some ⟨n7, 0, none⟩)) :: (.pointer (some ⟨n8, 0, none⟩)) :: zz), defers := [] } w') :
    (Code.region 0 f31r0Ops false).wp Tryd.prog Q { tmps := List.toArray ((.agg e0) :: (.agg e1) :: (.agg e2) :: (.agg e3) :: z4 :: z5 :: z6 :: z7 :: z8 :: zz), defers := [] } w := by
  refine wp_region_list (show wpList _ f31r0Ops _ [f31r0Op0, f31r0Op1, f31r0Op2, f31r0Op3, f31r0Op4] _ _ from ?_)
  refine l_new hO (e0) 22 (run_box 22 _ rfl _ (by kernel_rfl)) fe0_22 ?_
  intro n4 w1 hO
  refine l_new hO (e1) 41 (run_box 41 _ rfl _ (by kernel_rfl)) fe1_29 ?_
  intro n5 w2 hO
  refine l_new hO (e2) 22 (run_box 22 _ rfl _ (by kernel_rfl)) fe2_22 ?_
  intro n6 w3 hO
  refine l_fr (Fr [A e0, A e1, A e2, A e3, D n4, D n5, D n6, z7, z8] zz) ?_
  refine l_new hO (e3) 41 (run_box 41 _ rfl _ (by kernel_rfl)) fe3_29 ?_
  intro n7 w4 hO
  refine l_new hO (ps [0, 0]) 41 (al29 rfl) (fit_pt _ _) ?_
  intro n8 w5 hO
  exact l_fr _ (wpList_nil (H n4 n5 n6 n7 n8 _ hO))
def f31r1Op0 : Oper := ⟨some 9, .load 22 (.tmp 4), 22, "edwards.go:73", #[], none⟩
def f31r1Op1 : Oper := ⟨some 10, .load 41 (.tmp 5), 41, "edwards.go:73", #[], none⟩
def f31r1Op2 : Oper := ⟨some 11, .call { callee := .value (.func 53), args := #[.tmp 10], argTypes := #[41] }, 81, "edwards.go:73", #[⟨1, .data⟩], none⟩
def f31r1Op3 : Oper := ⟨some 12, .build 84 #[(0, .tmp 9), (1, .tmp 11)], 84, "edwards.go:73", #[⟨0, .data⟩, ⟨2, .data⟩], none⟩
def f31r1Op4 : Oper := ⟨some 13, .load 22 (.tmp 6), 22, "edwards.go:73", #[], none⟩
def f31r1Op5 : Oper := ⟨some 14, .load 41 (.tmp 7), 41, "edwards.go:73", #[], none⟩
def f31r1Op6 : Oper := ⟨some 15, .call { callee := .value (.func 53), args := #[.tmp 14], argTypes := #[41] }, 81, "edwards.go:73", #[⟨5, .data⟩, ⟨2, .chain⟩], none⟩
def f31r1Op7 : Oper := ⟨some 16, .build 84 #[(0, .tmp 13), (1, .tmp 15)], 84, "edwards.go:73", #[⟨4, .data⟩, ⟨6, .data⟩], none⟩
def f31r1Op8 : Oper := ⟨some 17, .buildSlice 105 2 #[(0, .tmp 12), (1, .tmp 16)], 105, "edwards.go:73", #[⟨3, .data⟩, ⟨7, .data⟩], none⟩
def f31r1Op9 : Oper := ⟨some 18, .call { callee := .value (.func 52), args := #[.tmp 17], argTypes := #[105] }, 41, "edwards.go:73", #[⟨8, .data⟩, ⟨6, .chain⟩], none⟩
def f31r1Op10 : Oper := ⟨none, .store 41 (.tmp 8) (.tmp 18), 0, "edwards.go:73", #[⟨9, .data⟩, ⟨9, .chain⟩, ⟨0, .phase⟩, ⟨1, .phase⟩, ⟨2, .phase⟩, ⟨3, .phase⟩, ⟨4, .phase⟩, ⟨5, .phase⟩, ⟨6, .phase⟩, ⟨7, .phase⟩, ⟨8, .phase⟩, ⟨9, .phase⟩], none⟩
def f31r1Ops : Array Oper := #[f31r1Op0, f31r1Op1, f31r1Op2, f31r1Op3, f31r1Op4, f31r1Op5, f31r1Op6, f31r1Op7, f31r1Op8, f31r1Op9, f31r1Op10]
set_option maxHeartbeats 2000000 in
theorem f31r1_r {Q : Exit → Act → World → Prop} {u w : World} {L : List Row} {z0 z1 z2 z3 z9 z10 z11 z12 z13 z14 z15 z16 z17 z18 : Value} {b4 b5 b6 b7 b8 : Nat} {c4 c5 c6 c7 c8 : Array Value} {e11 e12 e15 e16 E17 e18 : Array Value} (hQ : ∀ c a w n v, Q (.panic c) (a.put (some n) v) w → Q (.panic c) a w) (hO : Own u w L) (i4 : Nat) (h4 : L[i4]? = some (b4, c4, 22)) (i5 : Nat) (h5 : L[i5]? = some (b5, c5, 41)) (i6 : Nat) (h6 : L[i6]? = some (b6, c6, 22)) (i7 : Nat) (h7 : L[i7]? = some (b7, c7, 41)) (i8 : Nat) (h8 : L[i8]? = some (b8, c8, 41)) (e8_4 : i8 ≠ i4) (e8_5 : i8 ≠ i5) (e8_6 : i8 ≠ i6) (e8_7 : i8 ≠ i7) (r11 : ∀ w, Ret 53 #[.agg c5] w (.agg e11)) (q12 : Tryd.prog.built 84 [(0, .agg c4), (1, .agg e11)] = some e12) (r15 : ∀ w, Ret 53 #[.agg c7] w (.agg e15)) (q16 : Tryd.prog.built 84 [(0, .agg c6), (1, .agg e15)] = some e16) (k17 : ∀ (a : Act) (w : World), a.eval (.tmp 12) = .agg e12 → a.eval (.tmp 16) = .agg e16 → (execOp a.eval f31r1Op8).run Tryd.prog w = .ok (.value (.slice (some ⟨w.heap.size, 0, none⟩) 2 2)) (w.alloc (.cells E17 84))) (r18 : ∀ (q17 : Nat) (w : World), Blk w q17 E17 84 → Ret 52 #[.slice (some ⟨q17, 0, none⟩) 2 2] w (.agg e18)) (fe18_29 : Fit 41 e18) (H : ∀ (q17 : Nat) (w' : World), Own u w' ((L.set i8 (b8, e18, 41))) → Q .normal { tmps := List.toArray (z0 :: z1 :: z2 :: z3 :: (.pointer (some ⟨b4, 0, none⟩)) :: (.pointer (some ⟨b5, 0, none⟩)) :: (.pointer (some ⟨b6, 0, none⟩)) :: (.pointer (some ⟨b7, 0, none⟩)) :: (.pointer (some ⟨b8, 0, none⟩)) :: (.agg c4) :: (.agg c5) :: (.agg e11) :: (.agg e12) :: (.agg c6) :: (.agg c7) :: (.agg e15) :: (.agg e16) :: (.slice (some ⟨q17, 0, none⟩) 2 2) :: (.agg e18) :: []), defers := [] } w') :
    (Code.region 1 f31r1Ops true).wp Tryd.prog Q { tmps := List.toArray (z0 :: z1 :: z2 :: z3 :: (.pointer (some ⟨b4, 0, none⟩)) :: (.pointer (some ⟨b5, 0, none⟩)) :: (.pointer (some ⟨b6, 0, none⟩)) :: (.pointer (some ⟨b7, 0, none⟩)) :: (.pointer (some ⟨b8, 0, none⟩)) :: z9 :: z10 :: z11 :: z12 :: z13 :: z14 :: z15 :: z16 :: z17 :: z18 :: []), defers := [] } w := by
  have fc4_22 := hO.fits i4 h4
  have fc5_29 := hO.fits i5 h5
  have fc6_22 := hO.fits i6 h6
  have fc7_29 := hO.fits i7 h7
  refine wp_region_held_drew (S := Has [(b4, c4, 22), (b5, c5, 41), (b6, c6, 22), (b7, c7, 41)]) (by kernel_rfl) ⟨hO.drew.row _ h4, hO.drew.row _ h5, hO.drew.row _ h6, hO.drew.row _ h7, trivial⟩ (fun hS => ?_)
  replace hO := hO.drew
  refine d_tk 0 f31r1Op0 (.agg c4) hQ (y_l 22 (fun _ h => h.1) fc4_22 Tryd.underlying22) hS ?_
  refine d_tk 1 f31r1Op1 (.agg c5) hQ (y_l 41 (fun _ h => h.2.1) fc5_29 Tryd.underlying41) hS ?_
  refine d_tk 4 f31r1Op4 (.agg c6) hQ (y_l 22 (fun _ h => h.2.2.1) fc6_22 Tryd.underlying22) hS ?_
  refine d_fr (ls 11 19) (Fr [z0, z1, z2, z3, D b4, D b5, D b6, D b7, D b8, A c4, A c5, z11, z12, A c6, z14, z15, z16, z17, z18] []) ?_
  refine d_tk 5 f31r1Op5 (.agg c7) hQ (y_l 41 (fun _ h => h.2.2.2.1) fc7_29 Tryd.underlying41) hS ?_
  refine d_fr (ls 11 51) (Fr [z0, z1, z2, z3, D b4, D b5, D b6, D b7, D b8, A c4, A c5, z11, z12, A c6, A c7, z15, z16, z17, z18] []) ?_
  refine d_one 2 f31r1Op2 (ls 11 55) (fun K hK => ?_)
  refine k_call hK hO (fun _ hO => ⟨hO.row _ h4, hO.row _ h5, hO.row _ h6, hO.row _ h7, trivial⟩) 53 #[.agg c5] (.agg e11) r11 ?_
  intro w1 hO
  have hS : Has [(b4, c4, 22), (b5, c5, 41), (b6, c6, 22), (b7, c7, 41)] _ := ⟨hO.row _ h4, hO.row _ h5, hO.row _ h6, hO.row _ h7, trivial⟩
  refine d_tk 3 f31r1Op3 (.agg e12) hQ (y_val (run_bd 84 _ rfl [(0, .agg c4), (1, .agg e11)] (by kernel_rfl) e12 q12)) hS ?_
  refine d_one 6 f31r1Op6 (ls 11 127) (fun K hK => ?_)
  refine k_call hK hO (fun _ hO => ⟨hO.row _ h4, hO.row _ h5, hO.row _ h6, hO.row _ h7, trivial⟩) 53 #[.agg c7] (.agg e15) r15 ?_
  intro w2 hO
  have hS : Has [(b4, c4, 22), (b5, c5, 41), (b6, c6, 22), (b7, c7, 41)] _ := ⟨hO.row _ h4, hO.row _ h5, hO.row _ h6, hO.row _ h7, trivial⟩
  refine d_tk 7 f31r1Op7 (.agg e16) hQ (y_val (run_bd 84 _ rfl [(0, .agg c6), (1, .agg e15)] (by kernel_rfl) e16 q16)) hS ?_
  refine d_fr (ls 11 255) (Fr [z0, z1, z2, z3, D b4, D b5, D b6, D b7, D b8, A c4, A c5, A e11, A e12, A c6, A c7, A e15, A e16, z17, z18] []) ?_
  refine d_one 8 f31r1Op8 (ls 11 511) (fun K hK => ?_)
  refine k_bs hK hO (fun _ hO => ⟨hO.row _ h4, hO.row _ h5, hO.row _ h6, hO.row _ h7, trivial⟩) 2 E17 (fun w => k17 _ w (by kernel_rfl) (by kernel_rfl)) ?_
  intro q17 w3 hB hO
  refine d_one 9 f31r1Op9 (ls 11 1023) (fun K hK => ?_)
  refine k_call1 hK hO (fun _ hO => ⟨hO.row _ h4, hO.row _ h5, hO.row _ h6, hO.row _ h7, trivial⟩) 52 #[.slice (some ⟨q17, 0, none⟩) 2 2] (.agg e18) (r18 q17 _ hB) ?_
  intro w4 hO
  refine d_one 10 f31r1Op10 (ls 11 2047) (fun K hK => ?_)
  refine k_st hK hO 41 i8 h8 e18 fe18_29 (fun _ hO => ⟨hO.row _ (get_set h4 e8_4), hO.row _ (get_set h5 e8_5), hO.row _ (get_set h6 e8_6), hO.row _ (get_set h7 e8_7), trivial⟩) ?_
  intro w5 hO
  exact d_fr (ls 11 2047) _ (wpAnyH_done (by kernel_rfl) (H q17 _ hO) _)
set_option maxHeartbeats 4000000 in
theorem both7_c (f g : Nat → Nat) {P Q : Nat × Nat} (hf : ∀ i, f i < 256) (hP : Ok7 P) (hg : ∀ i, g i < 256) (hQ : Ok7 Q) (w : World) : Ret 21 #[.agg (vals .u8 32 f), .agg (pt P), .agg (vals .u8 32 g), .agg (pt Q)] w (.agg (pt (add7 (mul7 P (nb f 32)) (mul7 Q (nb g 32))))) := by
  go_enter Tryd.func21, Tryd.ntmps21
  have ht : totP [(f, P), (g, Q)] 256 = add7 (mul7 P (nb f 32)) (mul7 Q (nb g 32)) := by rw [tot_two hP hQ (nb_lt32 f hf) (nb_lt32 g hg) 256 (by omega), Nat.sub_self, Nat.pow_zero, Nat.div_one, Nat.div_one]
  have hc : ∀ (q : Nat) (w : World), Blk w q (sl [(f, P), (g, Q)]) 84 → Ret 52 #[.slice (some ⟨q, 0, none⟩) 2 2] w (.agg (pt (add7 (mul7 P (nb f 32)) (mul7 Q (nb g 32))))) := fun q w hB => ht ▸ total_c [(f, P), (g, Q)] q (fun m hm => by simp only [List.mem_cons, List.not_mem_nil, or_false] at hm; (rcases hm with rfl | rfl) <;> first | exact ⟨hP, hf⟩ | exact ⟨hQ, hg⟩) (by simp) w hB
  have Hc := hide hc
  clear hc ht
  have hO := Own.start w
  go_upto_region 0 with (fail)
  refine f31r0_r hO (fit_by _) (fit_pt _ _) (fit_by _) (fit_pt _ _) ?_
  intro n4 n5 n6 n7 n8 w1 hO
  replace hO : Own w w1 [(n8, ps [0, 0], 41), (n7, pt Q, 41), (n6, vals .u8 32 g, 22), (n5, pt P, 41), (n4, vals .u8 32 f, 22)] := hO
  go_upto_region 1 with (fail)
  refine f31r1_r (fun _ _ _ _ _ h => h) hO 4 rfl 3 rfl 2 rfl 1 rfl 0 rfl (by decide) (by decide) (by decide) (by decide) (add_p hP) (bd_mu _ _ _ _) (add_p hQ) (bd_mu _ _ _ _) (fun _ w h h2 => bs2 rfl f P g Q h h2 w) Hc.out (fit_pt _ _) ?_
  intro q17 w2 hO
  replace hO : Own w w2 [(n8, pt (add7 (mul7 P (nb f 32)) (mul7 Q (nb g 32))), 41), (n7, pt Q, 41), (n6, vals .u8 32 g, 22), (n5, pt P, 41), (n4, vals .u8 32 f, 22)] := hO
  go_wp2_with fail
  refine bodyPost_ret (v := .agg (pt (add7 (mul7 P (nb f 32)) (mul7 Q (nb g 32))))) (results_cell_row Tryd.results21 _ _ n8 41 _ (0, 0) _ rfl (hO.row 0 rfl) Tryd.underlying41 rfl (fit_pt _ _).size) rfl ⟨rfl, hO.low⟩
theorem neg_p {P : Nat × Nat} (hP : Ok7 P) (w : World) : Ret 23 #[.agg (pt P)] w (.agg (pt (neg7 P))) := neg7_c P.1 (sm P.2 1) hP.x w
theorem places_p {P : Nat × Nat} (hP : Ok7 P) (w : World) : Ret 66 #[.agg (pt P)] w (.tuple #[.agg (arr 4 (limb P.1)), .agg (arr 4 (limb P.2))]) := by
  have h := places_c P.1 (sm P.2 1) (sm_lt _ _) w
  rw [sm_am hP.y] at h
  exact h
theorem sm_one {x y : Nat} (hx : x < pP) (hy : y < pP) : sm x 1 = sm y 1 ↔ x = y := by
  constructor
  · intro h; rw [← sm_am hx, ← sm_am hy, h]
  · rintro rfl; rfl
theorem same_p {P Q : Nat × Nat} (hP : Ok7 P) (hQ : Ok7 Q) (w : World) : Ret 20 #[.agg (pt P), .agg (pt Q)] w (.bool (decide (P = Q))) := by
  have h := same7_c P.1 (sm P.2 1) Q.1 (sm Q.2 1) hP.x (sm_lt _ _) hQ.x (sm_lt _ _) w
  have e : (decide (P.1 = Q.1) && decide (sm P.2 1 = sm Q.2 1)) = decide (P = Q) := by
    rw [Bool.eq_iff_iff]
    simp only [Bool.and_eq_true, decide_eq_true_eq, sm_one hP.y hQ.y]
    exact ⟨fun h => Prod.ext h.1 h.2, fun h => ⟨h ▸ rfl, h ▸ rfl⟩⟩
  rw [e] at h
  exact h
theorem base_p (w : World) : Ret 22 #[] w (.agg (pt base7)) := base_c w
def f19r0Op0 : Oper := ⟨some 0, .alloc 41, 0, "law.go:13", #[], none⟩
def f19r0Ops : Array Oper := #[f19r0Op0]
set_option maxHeartbeats 2000000 in
theorem f19r0_r {Q : Exit → Act → World → Prop} {u w : World} {L : List Row} {z0 : Value} {zz : List Value} (hO : Own u w L) (H : ∀ (n0 : Nat) (w' : World), Own u w' ((n0, ps [0, 0], 41) :: L) → Q .normal { tmps := List.toArray ((.pointer (some ⟨n0, 0, none⟩)) :: zz), defers := [] } w') :
    (Code.region 0 f19r0Ops false).wp Tryd.prog Q { tmps := List.toArray (z0 :: zz), defers := [] } w := by
  refine wp_region_list (show wpList _ f19r0Ops _ [f19r0Op0] _ _ from ?_)
  refine l_new hO (ps [0, 0]) 41 (al29 rfl) (fit_pt _ _) ?_
  intro n0 w1 hO
  exact l_fr _ (wpList_nil (H n0 _ hO))
def f19r1Op0 : Oper := ⟨some 1, .build 41 #[], 41, "law.go:13", #[], none⟩
def f19r1Op1 : Oper := ⟨none, .store 41 (.tmp 0) (.tmp 1), 0, "law.go:13", #[⟨0, .data⟩, ⟨0, .phase⟩], none⟩
def f19r1Ops : Array Oper := #[f19r1Op0, f19r1Op1]
set_option maxHeartbeats 2000000 in
theorem f19r1_r {Q : Exit → Act → World → Prop} {u w : World} {L : List Row} {z1 : Value} {b0 : Nat} {c0 : Array Value} {e1 : Array Value} (hO : Own u w L) (i0 : Nat) (h0 : L[i0]? = some (b0, c0, 41)) (q1 : Tryd.prog.built 41 [] = some e1) (fe1_29 : Fit 41 e1) (H : ∀ (w' : World), Own u w' ((L.set i0 (b0, e1, 41))) → Q .normal { tmps := List.toArray ((.pointer (some ⟨b0, 0, none⟩)) :: (.agg e1) :: []), defers := [] } w') :
    (Code.region 1 f19r1Ops false).wp Tryd.prog Q { tmps := List.toArray ((.pointer (some ⟨b0, 0, none⟩)) :: z1 :: []), defers := [] } w := by
  refine wp_region_list (show wpList _ f19r1Ops _ [f19r1Op0, f19r1Op1] _ _ from ?_)
  refine l_val (.agg e1) (run_bd 41 _ rfl [] (by kernel_rfl) e1 q1 _) ?_
  refine l_st hO 41 i0 h0 e1 fe1_29 ?_
  intro w1 hO
  exact l_fr _ (wpList_nil (H  _ hO))
def f15r0Op0 : Oper := ⟨some 1, .box 41 (.tmp 0), 0, "edwards.go:50", #[], none⟩
def f15r0Op1 : Oper := ⟨some 2, .alloc 22, 0, "edwards.go:50", #[], none⟩
def f15r0Ops : Array Oper := #[f15r0Op0, f15r0Op1]
set_option maxHeartbeats 2000000 in
theorem f15r0_r {Q : Exit → Act → World → Prop} {u w : World} {L : List Row} {z1 z2 : Value} {zz : List Value} {e0 : Array Value} (hO : Own u w L) (fe0_29 : Fit 41 e0) (H : ∀ (n1 : Nat) (n2 : Nat) (w' : World), Own u w' ((n2, vals .u8 32 (fun _ => 0), 22) :: (n1, e0, 41) :: L) → Q .normal { tmps := List.toArray ((.agg e0) :: (.pointer (some ⟨n1, 0, none⟩)) :: (.pointer (some ⟨n2, 0, none⟩)) :: zz), defers := [] } w') :
    (Code.region 0 f15r0Ops false).wp Tryd.prog Q { tmps := List.toArray ((.agg e0) :: z1 :: z2 :: zz), defers := [] } w := by
  refine wp_region_list (show wpList _ f15r0Ops _ [f15r0Op0, f15r0Op1] _ _ from ?_)
  refine l_new hO (e0) 41 (run_box 41 _ rfl _ (by kernel_rfl)) fe0_29 ?_
  intro n1 w1 hO
  refine l_new hO (vals .u8 32 (fun _ => 0)) 22 (al22 rfl) (fit_by _) ?_
  intro n2 w2 hO
  exact l_fr _ (wpList_nil (H n1 n2 _ hO))
def f15r1Op0 : Oper := ⟨some 7, .load 41 (.tmp 1), 41, "edwards.go:51", #[], none⟩
def f15r1Op1 : Oper := ⟨some 8, .call { callee := .value (.func 66), args := #[.tmp 7], argTypes := #[41] }, 97, "edwards.go:51", #[⟨0, .data⟩], none⟩
def f15r1Op2 : Oper := ⟨some 6, .move (.tmp 8), 97, "edwards.go:51", #[⟨1, .data⟩], none⟩
def f15r1Op3 : Oper := ⟨some 9, .extract (.tmp 6) 0, 39, "edwards.go:51", #[⟨2, .data⟩], none⟩
def f15r1Op4 : Oper := ⟨some 10, .extract (.tmp 6) 1, 39, "edwards.go:51", #[⟨2, .data⟩, ⟨7, .gcOnly .lateStores⟩], none⟩
def f15r1Op5 : Oper := ⟨some 3, .alloc 39, 0, "edwards.go:51", #[], none⟩
def f15r1Op6 : Oper := ⟨some 4, .alloc 39, 0, "edwards.go:51", #[], none⟩
def f15r1Op7 : Oper := ⟨none, .store 39 (.tmp 3) (.tmp 9), 0, "edwards.go:51", #[⟨5, .data⟩, ⟨3, .data⟩, ⟨1, .chain⟩, ⟨0, .phase⟩, ⟨1, .phase⟩, ⟨2, .phase⟩, ⟨3, .phase⟩, ⟨4, .textOnly .lateStores⟩, ⟨5, .phase⟩, ⟨6, .phase⟩], none⟩
def f15r1Op8 : Oper := ⟨none, .store 39 (.tmp 4) (.tmp 10), 0, "edwards.go:51", #[⟨6, .data⟩, ⟨4, .data⟩, ⟨7, .chain⟩, ⟨0, .phase⟩, ⟨1, .phase⟩, ⟨2, .phase⟩, ⟨3, .phase⟩, ⟨4, .phase⟩, ⟨5, .phase⟩, ⟨6, .phase⟩, ⟨7, .phase⟩], none⟩
def f15r1Ops : Array Oper := #[f15r1Op0, f15r1Op1, f15r1Op2, f15r1Op3, f15r1Op4, f15r1Op5, f15r1Op6, f15r1Op7, f15r1Op8]
set_option maxHeartbeats 2000000 in
theorem f15r1_r {Q : Exit → Act → World → Prop} {u w : World} {L : List Row} {z0 z2 z3 z4 z5 z6 z7 z8 z9 z10 : Value} {zz : List Value} {b1 : Nat} {c1 : Array Value} {e8a e8b : Array Value} (hO : Own u w L) (i1 : Nat) (h1 : L[i1]? = some (b1, c1, 41)) (r8 : ∀ w, Ret 66 #[.agg c1] w (.tuple #[.agg e8a, .agg e8b])) (fe8a_27 : Fit 39 e8a) (fe8b_27 : Fit 39 e8b) (H : ∀ (n3 : Nat) (n4 : Nat) (w' : World), Own u w' ((n4, e8b, 39) :: (n3, e8a, 39) :: L) → Q .normal { tmps := List.toArray (z0 :: (.pointer (some ⟨b1, 0, none⟩)) :: z2 :: (.pointer (some ⟨n3, 0, none⟩)) :: (.pointer (some ⟨n4, 0, none⟩)) :: z5 :: (.tuple #[.agg e8a, .agg e8b]) :: (.agg c1) :: (.tuple #[.agg e8a, .agg e8b]) :: (.agg e8a) :: (.agg e8b) :: zz), defers := [] } w') :
    (Code.region 1 f15r1Ops false).wp Tryd.prog Q { tmps := List.toArray (z0 :: (.pointer (some ⟨b1, 0, none⟩)) :: z2 :: z3 :: z4 :: z5 :: z6 :: z7 :: z8 :: z9 :: z10 :: zz), defers := [] } w := by
  refine wp_region_list (show wpList _ f15r1Ops _ [f15r1Op0, f15r1Op1, f15r1Op2, f15r1Op3, f15r1Op4, f15r1Op5, f15r1Op6, f15r1Op7, f15r1Op8] _ _ from ?_)
  refine l_ld hO 41 i1 h1 Tryd.underlying41 ?_
  refine l_call hO 66 #[.agg c1] (.tuple #[.agg e8a, .agg e8b]) r8 ?_
  intro w1 hO
  refine l_val (.tuple #[.agg e8a, .agg e8b]) (by kernel_rfl) ?_
  refine l_fr (Fr [z0, D b1, z2, z3, z4, z5, .tuple #[.agg e8a, .agg e8b], A c1, .tuple #[.agg e8a, .agg e8b], z9, z10] zz) ?_
  refine l_val (.agg e8a) (by kernel_rfl) ?_
  refine l_val (.agg e8b) (by kernel_rfl) ?_
  refine l_new hO (arr 4 (limb 0)) 39 (al27 rfl) (fit_fe _) ?_
  intro n3 w2 hO
  refine l_fr (Fr [z0, D b1, z2, D n3, z4, z5, .tuple #[.agg e8a, .agg e8b], A c1, .tuple #[.agg e8a, .agg e8b], A e8a, A e8b] zz) ?_
  refine l_new hO (arr 4 (limb 0)) 39 (al27 rfl) (fit_fe _) ?_
  intro n4 w3 hO
  refine l_st hO 39 1 rfl e8a fe8a_27 ?_
  intro w4 hO
  replace hO : Own u w4 ((n4, arr 4 (limb 0), 39) :: (n3, e8a, 39) :: L) := hO
  refine l_st hO 39 0 rfl e8b fe8b_27 ?_
  intro w5 hO
  exact l_fr _ (wpList_nil (H n3 n4 _ hO))
def f15r2Op0 : Oper := ⟨some 11, .load 39 (.tmp 4), 39, "edwards.go:52", #[], none⟩
def f15r2Op1 : Oper := ⟨some 12, .call { callee := .value (.func 31), args := #[.tmp 11], argTypes := #[39] }, 22, "edwards.go:52", #[⟨0, .data⟩], none⟩
def f15r2Op2 : Oper := ⟨some 5, .alloc 22, 0, "edwards.go:52", #[], none⟩
def f15r2Op3 : Oper := ⟨none, .store 22 (.tmp 5) (.tmp 12), 0, "edwards.go:52", #[⟨2, .data⟩, ⟨1, .data⟩, ⟨1, .chain⟩, ⟨0, .phase⟩, ⟨1, .phase⟩, ⟨2, .phase⟩], none⟩
def f15r2Ops : Array Oper := #[f15r2Op0, f15r2Op1, f15r2Op2, f15r2Op3]
set_option maxHeartbeats 2000000 in
theorem f15r2_r {Q : Exit → Act → World → Prop} {u w : World} {L : List Row} {z0 z1 z2 z3 z5 z6 z7 z8 z9 z10 z11 z12 : Value} {zz : List Value} {b4 : Nat} {c4 : Array Value} {e12 : Array Value} (hO : Own u w L) (i4 : Nat) (h4 : L[i4]? = some (b4, c4, 39)) (r12 : ∀ w, Ret 31 #[.agg c4] w (.agg e12)) (fe12_22 : Fit 22 e12) (H : ∀ (n5 : Nat) (w' : World), Own u w' ((n5, e12, 22) :: L) → Q .normal { tmps := List.toArray (z0 :: z1 :: z2 :: z3 :: (.pointer (some ⟨b4, 0, none⟩)) :: (.pointer (some ⟨n5, 0, none⟩)) :: z6 :: z7 :: z8 :: z9 :: z10 :: (.agg c4) :: (.agg e12) :: zz), defers := [] } w') :
    (Code.region 2 f15r2Ops false).wp Tryd.prog Q { tmps := List.toArray (z0 :: z1 :: z2 :: z3 :: (.pointer (some ⟨b4, 0, none⟩)) :: z5 :: z6 :: z7 :: z8 :: z9 :: z10 :: z11 :: z12 :: zz), defers := [] } w := by
  refine wp_region_list (show wpList _ f15r2Ops _ [f15r2Op0, f15r2Op1, f15r2Op2, f15r2Op3] _ _ from ?_)
  refine l_ld hO 39 i4 h4 Tryd.underlying39 ?_
  refine l_call hO 31 #[.agg c4] (.agg e12) r12 ?_
  intro w1 hO
  refine l_new hO (vals .u8 32 (fun _ => 0)) 22 (al22 rfl) (fit_by _) ?_
  intro n5 w2 hO
  refine l_fr (Fr [z0, z1, z2, z3, D b4, D n5, z6, z7, z8, z9, z10, A c4, A e12] zz) ?_
  refine l_st hO 22 0 rfl e12 fe12_22 ?_
  intro w3 hO
  exact l_fr _ (wpList_nil (H n5 _ hO))
def f15r3aOp0 : Oper := ⟨some 13, .load 39 (.tmp 3), 39, "edwards.go:53", #[], none⟩
def f15r3aOp1 : Oper := ⟨some 14, .call { callee := .value (.func 59), args := #[.tmp 13], argTypes := #[39] }, 4, "edwards.go:53", #[⟨0, .data⟩], none⟩
def f15r3aOps : Array Oper := #[f15r3aOp0, f15r3aOp1]
set_option maxHeartbeats 2000000 in
theorem f15r3a_r {Q : Exit → Act → World → Prop} {u w : World} {L : List Row} {z0 z1 z2 z4 z5 z6 z7 z8 z9 z10 z11 z12 z13 z14 : Value} {zz : List Value} {b3 : Nat} {c3 : Array Value} (hO : Own u w L) (i3 : Nat) (h3 : L[i3]? = some (b3, c3, 39)) (r14 : ∀ w, Ret 59 #[.agg c3] w (.bool true)) (H : ∀ (w' : World), Own u w' (L) → Q .normal { tmps := List.toArray (z0 :: z1 :: z2 :: (.pointer (some ⟨b3, 0, none⟩)) :: z4 :: z5 :: z6 :: z7 :: z8 :: z9 :: z10 :: z11 :: z12 :: (.agg c3) :: (.bool true) :: zz), defers := [] } w') :
    (Code.region 3 f15r3aOps false).wp Tryd.prog Q { tmps := List.toArray (z0 :: z1 :: z2 :: (.pointer (some ⟨b3, 0, none⟩)) :: z4 :: z5 :: z6 :: z7 :: z8 :: z9 :: z10 :: z11 :: z12 :: z13 :: z14 :: zz), defers := [] } w := by
  refine wp_region_list (show wpList _ f15r3aOps _ [f15r3aOp0, f15r3aOp1] _ _ from ?_)
  refine l_ld hO 39 i3 h3 Tryd.underlying39 ?_
  refine l_call hO 59 #[.agg c3] (.bool true) r14 ?_
  intro w1 hO
  exact l_fr _ (wpList_nil (H  _ hO))
def f15r3bOp0 : Oper := ⟨some 13, .load 39 (.tmp 3), 39, "edwards.go:53", #[], none⟩
def f15r3bOp1 : Oper := ⟨some 14, .call { callee := .value (.func 59), args := #[.tmp 13], argTypes := #[39] }, 4, "edwards.go:53", #[⟨0, .data⟩], none⟩
def f15r3bOps : Array Oper := #[f15r3bOp0, f15r3bOp1]
set_option maxHeartbeats 2000000 in
theorem f15r3b_r {Q : Exit → Act → World → Prop} {u w : World} {L : List Row} {z0 z1 z2 z4 z5 z6 z7 z8 z9 z10 z11 z12 z13 z14 : Value} {zz : List Value} {b3 : Nat} {c3 : Array Value} (hO : Own u w L) (i3 : Nat) (h3 : L[i3]? = some (b3, c3, 39)) (r14 : ∀ w, Ret 59 #[.agg c3] w (.bool false)) (H : ∀ (w' : World), Own u w' (L) → Q .normal { tmps := List.toArray (z0 :: z1 :: z2 :: (.pointer (some ⟨b3, 0, none⟩)) :: z4 :: z5 :: z6 :: z7 :: z8 :: z9 :: z10 :: z11 :: z12 :: (.agg c3) :: (.bool false) :: zz), defers := [] } w') :
    (Code.region 3 f15r3bOps false).wp Tryd.prog Q { tmps := List.toArray (z0 :: z1 :: z2 :: (.pointer (some ⟨b3, 0, none⟩)) :: z4 :: z5 :: z6 :: z7 :: z8 :: z9 :: z10 :: z11 :: z12 :: z13 :: z14 :: zz), defers := [] } w := by
  refine wp_region_list (show wpList _ f15r3bOps _ [f15r3bOp0, f15r3bOp1] _ _ from ?_)
  refine l_ld hO 39 i3 h3 Tryd.underlying39 ?_
  refine l_call hO 59 #[.agg c3] (.bool false) r14 ?_
  intro w1 hO
  exact l_fr _ (wpList_nil (H  _ hO))
def f15r4Op0 : Oper := ⟨some 15, .indexAddr 22 (.tmp 5) (.const (.int .i64 31)), 0, "edwards.go:54", #[], none⟩
def f15r4Op1 : Oper := ⟨some 16, .load 5 (.tmp 15), 5, "edwards.go:54", #[⟨0, .data⟩], none⟩
def f15r4Op2 : Oper := ⟨some 17, .binOp .or 5 (.tmp 16) (.const (.int .u8 128)) 5, 5, "edwards.go:54", #[⟨1, .data⟩], none⟩
def f15r4Op3 : Oper := ⟨some 18, .indexAddr 22 (.tmp 5) (.const (.int .i64 31)), 0, "edwards.go:54", #[⟨0, .phase⟩, ⟨1, .phase⟩, ⟨2, .phase⟩], none⟩
def f15r4Op4 : Oper := ⟨none, .store 5 (.tmp 18) (.tmp 17), 0, "edwards.go:54", #[⟨3, .data⟩, ⟨2, .data⟩, ⟨0, .phase⟩, ⟨1, .phase⟩, ⟨2, .phase⟩], none⟩
def f15r4Ops : Array Oper := #[f15r4Op0, f15r4Op1, f15r4Op2, f15r4Op3, f15r4Op4]
set_option maxHeartbeats 2000000 in
theorem f15r4_r {Q : Exit → Act → World → Prop} {u w : World} {L : List Row} {z0 z1 z2 z3 z4 z6 z7 z8 z9 z10 z11 z12 z13 z14 z15 z16 z17 z18 : Value} {zz : List Value} {b5 : Nat} {c5 : Array Value} {e904 : Array Value} {g16 g17 : Nat} (hO : Own u w L) (i5 : Nat) (h5 : L[i5]? = some (b5, c5, 22)) (v16 : c5[31]? = some (.int .u8 ((g16 : Nat) : Int))) (k17 : ∀ (a : Act) (w : World), a.eval (.tmp 16) = .int .u8 ((g16 : Nat) : Int) → (execOp a.eval f15r4Op2).run Tryd.prog w = .ok (.value (.int .u8 ((g17 : Nat) : Int))) w) (s4 : c5.setIfInBounds 31 (.int .u8 ((g17 : Nat) : Int)) = e904) (fe904_22 : Fit 22 e904) (H : ∀ (w' : World), Own u w' ((L.set i5 (b5, e904, 22))) → Q .normal { tmps := List.toArray (z0 :: z1 :: z2 :: z3 :: z4 :: (.pointer (some ⟨b5, 0, none⟩)) :: z6 :: z7 :: z8 :: z9 :: z10 :: z11 :: z12 :: z13 :: z14 :: (.pointer (some ⟨b5, 31, none⟩)) :: (.int .u8 ((g16 : Nat) : Int)) :: (.int .u8 ((g17 : Nat) : Int)) :: (.pointer (some ⟨b5, 31, none⟩)) :: zz), defers := [] } w') :
    (Code.region 4 f15r4Ops false).wp Tryd.prog Q { tmps := List.toArray (z0 :: z1 :: z2 :: z3 :: z4 :: (.pointer (some ⟨b5, 0, none⟩)) :: z6 :: z7 :: z8 :: z9 :: z10 :: z11 :: z12 :: z13 :: z14 :: z15 :: z16 :: z17 :: z18 :: zz), defers := [] } w := by
  refine wp_region_list (show wpList _ f15r4Ops _ [f15r4Op0, f15r4Op1, f15r4Op2, f15r4Op3, f15r4Op4] _ _ from ?_)
  refine l_val (.pointer (some ⟨b5, 31, none⟩)) (by kernel_rfl) ?_
  refine l_c8 hO i5 h5 v16 ?_
  refine l_val (.int .u8 ((g17 : Nat) : Int)) (k17 _ _ (by kernel_rfl)) ?_
  refine l_fr (Fr [z0, z1, z2, z3, z4, D b5, z6, z7, z8, z9, z10, z11, z12, z13, z14, .pointer (some ⟨b5, 31, none⟩), .int .u8 ((g16 : Nat) : Int), .int .u8 ((g17 : Nat) : Int), z18] zz) ?_
  refine l_val (.pointer (some ⟨b5, 31, none⟩)) (by kernel_rfl) ?_
  refine l_stc hO i5 h5 g17 v16 s4 fe904_22 ?_
  intro w1 hO
  exact l_fr _ (wpList_nil (H  _ hO))
def f15r5Op0 : Oper := ⟨some 19, .load 22 (.tmp 5), 22, "edwards.go:56", #[], none⟩
def f15r5Op1 : Oper := ⟨none, .store 22 (.tmp 2) (.tmp 19), 0, "edwards.go:56", #[⟨0, .data⟩, ⟨0, .phase⟩], none⟩
def f15r5Ops : Array Oper := #[f15r5Op0, f15r5Op1]
set_option maxHeartbeats 2000000 in
theorem f15r5_r {Q : Exit → Act → World → Prop} {u w : World} {L : List Row} {z0 z1 z3 z4 z6 z7 z8 z9 z10 z11 z12 z13 z14 z15 z16 z17 z18 z19 : Value} {b2 b5 : Nat} {c2 c5 : Array Value} (hO : Own u w L) (i2 : Nat) (h2 : L[i2]? = some (b2, c2, 22)) (i5 : Nat) (h5 : L[i5]? = some (b5, c5, 22)) (H : ∀ (w' : World), Own u w' ((L.set i2 (b2, c5, 22))) → Q .normal { tmps := List.toArray (z0 :: z1 :: (.pointer (some ⟨b2, 0, none⟩)) :: z3 :: z4 :: (.pointer (some ⟨b5, 0, none⟩)) :: z6 :: z7 :: z8 :: z9 :: z10 :: z11 :: z12 :: z13 :: z14 :: z15 :: z16 :: z17 :: z18 :: (.agg c5) :: []), defers := [] } w') :
    (Code.region 5 f15r5Ops false).wp Tryd.prog Q { tmps := List.toArray (z0 :: z1 :: (.pointer (some ⟨b2, 0, none⟩)) :: z3 :: z4 :: (.pointer (some ⟨b5, 0, none⟩)) :: z6 :: z7 :: z8 :: z9 :: z10 :: z11 :: z12 :: z13 :: z14 :: z15 :: z16 :: z17 :: z18 :: z19 :: []), defers := [] } w := by
  refine wp_region_list (show wpList _ f15r5Ops _ [f15r5Op0, f15r5Op1] _ _ from ?_)
  have fc5_22 := hO.fits i5 h5
  refine l_ld hO 22 i5 h5 Tryd.underlying22 ?_
  refine l_st hO 22 i2 h2 c5 fc5_22 ?_
  intro w1 hO
  exact l_fr _ (wpList_nil (H  _ hO))
theorem or_run15 (a : Act) (w : World) (g : Nat) (hg : g < 256) (h0 : a.eval (.tmp 16) = .int .u8 ((g : Nat) : Int)) : (execOp a.eval f15r4Op2).run Tryd.prog w = .ok (.value (.int .u8 ((g % 128 + 128 : Nat) : Int))) w := by
  unfold execOp f15r4Op2
  simp only [h0]
  have e0 : a.eval (.const (.int .u8 128)) = .int .u8 128 := rfl
  have e := or8_128 g hg
  go_simp
theorem bytes_even {P : Nat × Nat} (h : ¬ P.1 % 2 = 1) : num7 P = P.2 := by unfold num7; rw [show P.1 % 2 = 0 by omega, Nat.mul_zero, Nat.add_zero]
theorem byt_high {y : Nat} (hy : y < pP) (j : Nat) : byt (y + 2 ^ 255) j = if j = 31 then byt y 31 % 128 + 128 else byt y j := by
  have hp : y < 2 ^ 255 := Nat.lt_of_lt_of_le hy (by unfold pP; omega)
  unfold byt
  by_cases h31 : j = 31
  · subst h31
    rw [if_pos rfl]
    have h1 : y / 2 ^ (8 * 31) < 128 := Nat.div_lt_of_lt_mul (by rw [show 2 ^ (8 * 31) * 128 = 2 ^ 255 by decide +kernel]; exact hp)
    rw [show (2 : Nat) ^ 255 = 2 ^ (8 * 31) * 128 by decide +kernel, Nat.add_mul_div_left _ _ (by decide +kernel)]
    omega
  · rw [if_neg h31]
    by_cases hj : j < 31
    · rw [show (2 : Nat) ^ 255 = 2 ^ (8 * j) * (256 * 2 ^ (247 - 8 * j)) by rw [show (256 : Nat) = 2 ^ 8 by rfl, ← Nat.pow_add, ← Nat.pow_add]; congr 1; omega, Nat.add_mul_div_left _ _ (Nat.pow_pos (by omega)), Nat.add_mul_mod_self_left]
    · have h8 : (2 : Nat) ^ 256 ≤ 2 ^ (8 * j) := Nat.pow_le_pow_right (by omega) (by omega)
      have h9 : (2 : Nat) ^ 256 = 2 ^ 255 + 2 ^ 255 := by decide +kernel
      rw [Nat.div_eq_of_lt (by omega), Nat.div_eq_of_lt (by omega)]
theorem bytes_odd {P : Nat × Nat} (hP : Ok7 P) (h : P.1 % 2 = 1) : vals .u8 32 (fun j => if j = 31 then byt P.2 31 % 128 + 128 else byt P.2 j) = vals .u8 32 (byt (num7 P)) := by
  unfold num7
  rw [h, Nat.mul_one]
  exact vals_congr _ _ _ _ fun j _ => (byt_high hP.y j).symm
set_option maxHeartbeats 4000000 in
theorem bytes_p {P : Nat × Nat} (hP : Ok7 P) (w : World) : Ret 45 #[.agg (pt P)] w (.agg (vals .u8 32 (byt (num7 P)))) := by
  go_enter Tryd.func45, Tryd.ntmps45
  have hO := Own.start w
  go_upto_region 0 with (fail)
  refine f15r0_r hO (fit_pt _ _) ?_
  intro n1 n2 w1 hO
  replace hO : Own w w1 [(n2, vals .u8 32 (fun _ => 0), 22), (n1, pt P, 41)] := hO
  go_upto_region 1 with (fail)
  refine f15r1_r hO 1 rfl (places_p hP) (fit_fe _) (fit_fe _) ?_
  intro n3 n4 w2 hO
  replace hO : Own w w2 [(n4, arr 4 (limb P.2), 39), (n3, arr 4 (limb P.1), 39), (n2, vals .u8 32 (fun _ => 0), 22), (n1, pt P, 41)] := hO
  go_upto_region 2 with (fail)
  refine f15r2_r hO 0 rfl (bytes_c _) (fit_by _) ?_
  intro n5 w3 hO
  replace hO : Own w w3 [(n5, vals .u8 32 (byt P.2), 22), (n4, arr 4 (limb P.2), 39), (n3, arr 4 (limb P.1), 39), (n2, vals .u8 32 (fun _ => 0), 22), (n1, pt P, 41)] := hO
  go_upto_region 3 with (fail)
  by_cases hodd : P.1 % 2 = 1
  · skip
    have hc := odd_c P.1
    rw [decide_eq_true hodd] at hc
    refine f15r3a_r hO 2 rfl hc ?_
    intro w4 hO
    replace hO : Own w w4 [(n5, vals .u8 32 (byt P.2), 22), (n4, arr 4 (limb P.2), 39), (n3, arr 4 (limb P.1), 39), (n2, vals .u8 32 (fun _ => 0), 22), (n1, pt P, 41)] := hO
    have hb := bytes_odd hP hodd
    have Hb := hide hb
    clear hc hb hodd
    go_upto_region 4 with (fail)
    refine f15r4_r hO 0 rfl (get_by _ 31 (by omega)) (fun a w h => or_run15 a w _ (byt_lt _ _) h) (set_by _ _ _) (fit_by _) ?_
    intro w5 hO
    replace hO : Own w w5 [(n5, vals .u8 32 (fun j => if j = 31 then byt P.2 31 % 128 + 128 else (byt P.2) j), 22), (n4, arr 4 (limb P.2), 39), (n3, arr 4 (limb P.1), 39), (n2, vals .u8 32 (fun _ => 0), 22), (n1, pt P, 41)] := hO
    rw [Hb.out] at hO
    go_upto_region 5 with (fail)
    refine f15r5_r hO 3 rfl 0 rfl ?_
    intro w6 hO
    replace hO : Own w w6 [(n5, vals .u8 32 (byt (num7 P)), 22), (n4, arr 4 (limb P.2), 39), (n3, arr 4 (limb P.1), 39), (n2, vals .u8 32 (byt (num7 P)), 22), (n1, pt P, 41)] := hO
    go_wp2_with fail
    refine bodyPost_ret (v := .agg (vals .u8 32 (byt (num7 P)))) (results_cell_row Tryd.results45 _ _ n2 22 _ (0, 0) _ rfl (hO.row 3 rfl) Tryd.underlying22 rfl (fit_by _).size) rfl ⟨rfl, hO.low⟩
  · skip
    have hc := odd_c P.1
    rw [decide_eq_false hodd] at hc
    refine f15r3b_r hO 2 rfl hc ?_
    intro w4 hO
    replace hO : Own w w4 [(n5, vals .u8 32 (byt P.2), 22), (n4, arr 4 (limb P.2), 39), (n3, arr 4 (limb P.1), 39), (n2, vals .u8 32 (fun _ => 0), 22), (n1, pt P, 41)] := hO
    replace hO : Own w w4 [(n5, vals .u8 32 (byt (num7 P)), 22), (n4, arr 4 (limb P.2), 39), (n3, arr 4 (limb P.1), 39), (n2, vals .u8 32 (fun _ => 0), 22), (n1, pt P, 41)] := by rw [bytes_even hodd]; exact hO
    clear hc hodd
    go_upto_region 5 with (fail)
    refine f15r5_r hO 3 rfl 0 rfl ?_
    intro w5 hO
    replace hO : Own w w5 [(n5, vals .u8 32 (byt (num7 P)), 22), (n4, arr 4 (limb P.2), 39), (n3, arr 4 (limb P.1), 39), (n2, vals .u8 32 (byt (num7 P)), 22), (n1, pt P, 41)] := hO
    go_wp2_with fail
    refine bodyPost_ret (v := .agg (vals .u8 32 (byt (num7 P)))) (results_cell_row Tryd.results45 _ _ n2 22 _ (0, 0) _ rfl (hO.row 3 rfl) Tryd.underlying22 rfl (fit_by _).size) rfl ⟨rfl, hO.low⟩
end Go.Proofs.YtbpmakegimgbpaaDoor

/- EdwardsTimes: the walk. Thirty-two bytes each; the package's variable lies as it was laid. -/
import Derived.Test.YtalnkcijebdpbaaDoorAj
import Derived.Test.YtalnkcijebdpbaaDoorPl
namespace Go.Proofs.YtalnkcijebdpbaaDoor
open F Go.RowKit

def f103r0Op0 : Oper := ⟨some 2, .box 22 (.tmp 0), 0, "law.go:95", #[], none⟩
def f103r0Op1 : Oper := ⟨some 3, .box 22 (.tmp 1), 0, "law.go:95", #[], none⟩
def f103r0Op2 : Oper := ⟨some 4, .assign (.const (.bool false)), 4, "law.go:95", #[], none⟩
def f103r0Ops : Array Oper := #[f103r0Op0, f103r0Op1, f103r0Op2]
set_option maxRecDepth 100000 in
set_option maxHeartbeats 2000000 in
theorem f103r0_r {Q : Exit → Act → World → Prop} {u w : World} {L : List Row} {z2 z3 z4 : Value} {zz : List Value} {e0 e1 : Array Value} (hO : Own u w L) (fe0_22 : Fit 22 e0) (fe1_22 : Fit 22 e1) (H : ∀ (n2 : Nat) (n3 : Nat) (w' : World), Own u w' ((n3, e1, 22) :: (n2, e0, 22) :: L) → Q .normal { tmps := List.toArray ((.agg e0) :: (.agg e1) :: (.pointer (some ⟨n2, 0, none⟩)) :: (.pointer (some ⟨n3, 0, none⟩)) :: (.bool false) :: zz), defers := [] } w') :
    (Code.region 0 f103r0Ops false).wp Tryd.prog Q { tmps := List.toArray ((.agg e0) :: (.agg e1) :: z2 :: z3 :: z4 :: zz), defers := [] } w := by
  refine wp_region_list (show wpList _ f103r0Ops _ [f103r0Op0, f103r0Op1, f103r0Op2] _ _ from ?_)
  refine l_new hO (e0) 22 (run_box 22 _ rfl _ (by kernel_rfl)) fe0_22 ?_
  intro n2 w1 hO
  refine l_new hO (e1) 22 (run_box 22 _ rfl _ (by kernel_rfl)) fe1_22 ?_
  intro n3 w2 hO
  refine l_val (.bool false) (by kernel_rfl) ?_
  exact l_fr _ (wpList_nil (H n2 n3 _ hO))
def f103r1Op0 : Oper := ⟨some 11, .call { callee := .value (.func 4), args := #[], argTypes := #[] }, 4, "law.go:96", #[], none⟩
def f103r1Op1 : Oper := ⟨some 5, .assign (.tmp 11), 4, "law.go:96", #[⟨0, .data⟩, ⟨0, .chain⟩, ⟨0, .phase⟩], none⟩
def f103r1Ops : Array Oper := #[f103r1Op0, f103r1Op1]
set_option maxRecDepth 100000 in
set_option maxHeartbeats 2000000 in
theorem f103r1_r {Q : Exit → Act → World → Prop} {u w : World} {L : List Row} {z0 z1 z2 z3 z4 z5 z6 z7 z8 z9 z10 z11 : Value} {zz : List Value} {p11 : Bool} (hO : Own u w L) (r11 : ∀ w, Ret 4 #[] w (.bool p11)) (H : ∀ (w' : World), Own u w' (L) → Q .normal { tmps := List.toArray (z0 :: z1 :: z2 :: z3 :: z4 :: (.bool p11) :: z6 :: z7 :: z8 :: z9 :: z10 :: (.bool p11) :: zz), defers := [] } w') :
    (Code.region 1 f103r1Ops false).wp Tryd.prog Q { tmps := List.toArray (z0 :: z1 :: z2 :: z3 :: z4 :: z5 :: z6 :: z7 :: z8 :: z9 :: z10 :: z11 :: zz), defers := [] } w := by
  refine wp_region_list (show wpList _ f103r1Ops _ [f103r1Op0, f103r1Op1] _ _ from ?_)
  refine l_call hO 4 #[] (.bool p11) r11 ?_
  intro w1 hO
  refine l_val (.bool p11) (by kernel_rfl) ?_
  exact l_fr _ (wpList_nil (H  _ hO))
def f103r2Op0 : Oper := ⟨some 12, .build 22 #[], 22, "law.go:97", #[], none⟩
def f103r2Op1 : Oper := ⟨some 6, .alloc 22, 0, "law.go:97", #[], none⟩
def f103r2Op2 : Oper := ⟨none, .store 22 (.tmp 6) (.tmp 12), 0, "law.go:97", #[⟨1, .data⟩, ⟨0, .data⟩, ⟨0, .phase⟩, ⟨1, .phase⟩], none⟩
def f103r2Ops : Array Oper := #[f103r2Op0, f103r2Op1, f103r2Op2]
set_option maxRecDepth 100000 in
set_option maxHeartbeats 2000000 in
theorem f103r2_r {Q : Exit → Act → World → Prop} {u w : World} {L : List Row} {z0 z1 z2 z3 z4 z5 z6 z7 z8 z9 z10 z11 z12 : Value} {zz : List Value} {e12 : Array Value} (hO : Own u w L) (q12 : Tryd.prog.built 22 [] = some e12) (fe12_22 : Fit 22 e12) (H : ∀ (n6 : Nat) (w' : World), Own u w' ((n6, e12, 22) :: L) → Q .normal { tmps := List.toArray (z0 :: z1 :: z2 :: z3 :: z4 :: z5 :: (.pointer (some ⟨n6, 0, none⟩)) :: z7 :: z8 :: z9 :: z10 :: z11 :: (.agg e12) :: zz), defers := [] } w') :
    (Code.region 2 f103r2Ops false).wp Tryd.prog Q { tmps := List.toArray (z0 :: z1 :: z2 :: z3 :: z4 :: z5 :: z6 :: z7 :: z8 :: z9 :: z10 :: z11 :: z12 :: zz), defers := [] } w := by
  refine wp_region_list (show wpList _ f103r2Ops _ [f103r2Op0, f103r2Op1, f103r2Op2] _ _ from ?_)
  refine l_val (.agg e12) (run_bd 22 _ rfl [] (by kernel_rfl) e12 q12 _) ?_
  refine l_new hO (vals .u8 32 (fun _ => 0)) 22 (al22 rfl) (fit_by _) ?_
  intro n6 w1 hO
  refine l_st hO 22 0 rfl e12 fe12_22 ?_
  intro w2 hO
  exact l_fr _ (wpList_nil (H n6 _ hO))
def f103r3Op0 : Oper := ⟨some 13, .load 22 (.tmp 2), 22, "law.go:98", #[], none⟩
def f103r3Op1 : Oper := ⟨some 14, .call { callee := .value (.func 6), args := #[], argTypes := #[] }, 29, "law.go:98", #[], none⟩
def f103r3Op2 : Oper := ⟨some 15, .call { callee := .value (.func 5), args := #[.tmp 13, .tmp 14], argTypes := #[22, 29] }, 29, "law.go:98", #[⟨0, .data⟩, ⟨1, .data⟩, ⟨1, .chain⟩], none⟩
def f103r3Op3 : Oper := ⟨some 7, .alloc 29, 0, "law.go:98", #[], none⟩
def f103r3Op4 : Oper := ⟨none, .store 29 (.tmp 7) (.tmp 15), 0, "law.go:98", #[⟨3, .data⟩, ⟨2, .data⟩, ⟨2, .chain⟩, ⟨0, .phase⟩, ⟨1, .phase⟩, ⟨2, .phase⟩, ⟨3, .phase⟩], none⟩
def f103r3Ops : Array Oper := #[f103r3Op0, f103r3Op1, f103r3Op2, f103r3Op3, f103r3Op4]
set_option maxRecDepth 100000 in
set_option maxHeartbeats 2000000 in
theorem f103r3_r {Q : Exit → Act → World → Prop} {u w : World} {L : List Row} {z0 z1 z3 z4 z5 z6 z7 z8 z9 z10 z11 z12 z13 z14 z15 : Value} {zz : List Value} {b2 : Nat} {c2 : Array Value} {e14 e15 : Array Value} (hQ : ∀ c a w n v, Q (.panic c) (a.put (some n) v) w → Q (.panic c) a w) (hO : Own u w L) (i2 : Nat) (h2 : L[i2]? = some (b2, c2, 22)) (r14 : ∀ w, Ret 6 #[] w (.agg e14)) (r15 : ∀ w, Ret 5 #[.agg c2, .agg e14] w (.agg e15)) (fe15_29 : Fit 29 e15) (H : ∀ (n7 : Nat) (w' : World), Own u w' ((n7, e15, 29) :: L) → Q .normal { tmps := List.toArray (z0 :: z1 :: (.pointer (some ⟨b2, 0, none⟩)) :: z3 :: z4 :: z5 :: z6 :: (.pointer (some ⟨n7, 0, none⟩)) :: z8 :: z9 :: z10 :: z11 :: z12 :: (.agg c2) :: (.agg e14) :: (.agg e15) :: zz), defers := [] } w') :
    (Code.region 3 f103r3Ops true).wp Tryd.prog Q { tmps := List.toArray (z0 :: z1 :: (.pointer (some ⟨b2, 0, none⟩)) :: z3 :: z4 :: z5 :: z6 :: z7 :: z8 :: z9 :: z10 :: z11 :: z12 :: z13 :: z14 :: z15 :: zz), defers := [] } w := by
  have fc2_22 := hO.fits i2 h2
  have s0 : ∀ (n7 : Nat) (w : World), Own u w ((n7, ps [0, 0], 29) :: L) → wpAnyH Tryd.prog .any f103r3Ops Q (Has [(b2, c2, 22)]) 1 (ls 5 15) (Fr [z0, z1, D b2, z3, z4, z5, z6, D n7, z8, z9, z10, z11, z12, A c2, A e14, A e15] zz) w := by
    intro n7 w hO
    refine d_one 4 f103r3Op4 (ls 5 31) (fun K hK => ?_)
    refine k_st hK hO 29 0 rfl e15 fe15_29 (fun _ hO => ⟨hO.row _ (gs h2), trivial⟩) ?_
    intro w1 hO
    exact wpAnyH_done (by kernel_rfl) (H n7 _ hO) _
  have s1 : ∀ (n7 : Nat) (w : World), Own u w ((n7, ps [0, 0], 29) :: L) → wpAnyH Tryd.prog .any f103r3Ops Q (Has [(b2, c2, 22)]) 2 (ls 5 11) (Fr [z0, z1, D b2, z3, z4, z5, z6, D n7, z8, z9, z10, z11, z12, A c2, A e14, z15] zz) w := by
    intro n7 w hO
    refine d_one 2 f103r3Op2 (ls 5 15) (fun K hK => ?_)
    refine k_call hK hO (fun _ hO => ⟨hO.row _ (gs h2), trivial⟩) 5 #[.agg c2, .agg e14] (.agg e15) r15 ?_
    intro w2 hO
    exact d_fr _ _ (s0 n7 _ hO)
  refine wp_region_held_drew (S := Has [(b2, c2, 22)]) (by kernel_rfl) ⟨hO.drew.row _ h2, trivial⟩ (fun hS => ?_)
  replace hO := hO.drew
  refine d_tk 0 f103r3Op0 (.agg c2) hQ (y_l 22 (fun _ h => h.1) fc2_22 Tryd.underlying22) hS ?_
  refine d_fr (ls 5 1) (Fr [z0, z1, D b2, z3, z4, z5, z6, z7, z8, z9, z10, z11, z12, A c2, z14, z15] zz) ?_
  refine wpAnyH_ready (rs := [1, 3]) (by kernel_rfl) (by simp) ?_
  refine d_cons 1 f103r3Op1 (ls 5 3) (fun K hK => ?_) ?_
  · skip
    refine k_call hK hO (fun _ hO => ⟨hO.row _ h2, trivial⟩) 6 #[] (.agg e14) r14 ?_
    intro w3 hO
    refine wpAnyH_ready (rs := [2, 3]) (by kernel_rfl) (by simp) ?_
    refine d_cons 2 f103r3Op2 (ls 5 7) (fun K hK => ?_) ?_
    · skip
      refine k_call hK hO (fun _ hO => ⟨hO.row _ h2, trivial⟩) 5 #[.agg c2, .agg e14] (.agg e15) r15 ?_
      intro w4 hO
      refine d_one 3 f103r3Op3 (ls 5 15) (fun K hK => ?_)
      refine k_new hK hO (ps [0, 0]) 29 (al29 rfl) (fit_pt _ _) (fun _ _ hO => ⟨hO.row _ (gs h2), trivial⟩) ?_
      intro n7 w5 hO
      exact d_fr _ _ (s0 n7 _ hO)
    refine d_cons 3 f103r3Op3 (ls 5 11) (fun K hK => ?_) ?_
    · skip
      refine k_new hK hO (ps [0, 0]) 29 (al29 rfl) (fit_pt _ _) (fun _ _ hO => ⟨hO.row _ (gs h2), trivial⟩) ?_
      intro n7 w6 hO
      exact d_fr _ _ (s1 n7 _ hO)
    exact AllReadyH.nil
  refine d_cons 3 f103r3Op3 (ls 5 9) (fun K hK => ?_) ?_
  · skip
    refine k_new hK hO (ps [0, 0]) 29 (al29 rfl) (fit_pt _ _) (fun _ _ hO => ⟨hO.row _ (gs h2), trivial⟩) ?_
    intro n7 w7 hO
    refine d_one 1 f103r3Op1 (ls 5 11) (fun K hK => ?_)
    refine k_call hK hO (fun _ hO => ⟨hO.row _ (gs h2), trivial⟩) 6 #[] (.agg e14) r14 ?_
    intro w8 hO
    exact d_fr _ _ (s1 n7 _ hO)
  exact AllReadyH.nil
def f103r4Op0 : Oper := ⟨some 16, .load 22 (.tmp 3), 22, "law.go:99", #[], none⟩
def f103r4Op1 : Oper := ⟨some 17, .call { callee := .value (.func 6), args := #[], argTypes := #[] }, 29, "law.go:99", #[], none⟩
def f103r4Op2 : Oper := ⟨some 18, .call { callee := .value (.func 5), args := #[.tmp 16, .tmp 17], argTypes := #[22, 29] }, 29, "law.go:99", #[⟨0, .data⟩, ⟨1, .data⟩, ⟨1, .chain⟩], none⟩
def f103r4Op3 : Oper := ⟨some 8, .alloc 29, 0, "law.go:99", #[], none⟩
def f103r4Op4 : Oper := ⟨none, .store 29 (.tmp 8) (.tmp 18), 0, "law.go:99", #[⟨3, .data⟩, ⟨2, .data⟩, ⟨2, .chain⟩, ⟨0, .phase⟩, ⟨1, .phase⟩, ⟨2, .phase⟩, ⟨3, .phase⟩], none⟩
def f103r4Ops : Array Oper := #[f103r4Op0, f103r4Op1, f103r4Op2, f103r4Op3, f103r4Op4]
set_option maxRecDepth 100000 in
set_option maxHeartbeats 2000000 in
theorem f103r4_r {Q : Exit → Act → World → Prop} {u w : World} {L : List Row} {z0 z1 z2 z4 z5 z6 z7 z8 z9 z10 z11 z12 z13 z14 z15 z16 z17 z18 : Value} {zz : List Value} {b3 : Nat} {c3 : Array Value} {e17 e18 : Array Value} (hQ : ∀ c a w n v, Q (.panic c) (a.put (some n) v) w → Q (.panic c) a w) (hO : Own u w L) (i3 : Nat) (h3 : L[i3]? = some (b3, c3, 22)) (r17 : ∀ w, Ret 6 #[] w (.agg e17)) (r18 : ∀ w, Ret 5 #[.agg c3, .agg e17] w (.agg e18)) (fe18_29 : Fit 29 e18) (H : ∀ (n8 : Nat) (w' : World), Own u w' ((n8, e18, 29) :: L) → Q .normal { tmps := List.toArray (z0 :: z1 :: z2 :: (.pointer (some ⟨b3, 0, none⟩)) :: z4 :: z5 :: z6 :: z7 :: (.pointer (some ⟨n8, 0, none⟩)) :: z9 :: z10 :: z11 :: z12 :: z13 :: z14 :: z15 :: (.agg c3) :: (.agg e17) :: (.agg e18) :: zz), defers := [] } w') :
    (Code.region 4 f103r4Ops true).wp Tryd.prog Q { tmps := List.toArray (z0 :: z1 :: z2 :: (.pointer (some ⟨b3, 0, none⟩)) :: z4 :: z5 :: z6 :: z7 :: z8 :: z9 :: z10 :: z11 :: z12 :: z13 :: z14 :: z15 :: z16 :: z17 :: z18 :: zz), defers := [] } w := by
  have fc3_22 := hO.fits i3 h3
  have s0 : ∀ (n8 : Nat) (w : World), Own u w ((n8, ps [0, 0], 29) :: L) → wpAnyH Tryd.prog .any f103r4Ops Q (Has [(b3, c3, 22)]) 1 (ls 5 15) (Fr [z0, z1, z2, D b3, z4, z5, z6, z7, D n8, z9, z10, z11, z12, z13, z14, z15, A c3, A e17, A e18] zz) w := by
    intro n8 w hO
    refine d_one 4 f103r4Op4 (ls 5 31) (fun K hK => ?_)
    refine k_st hK hO 29 0 rfl e18 fe18_29 (fun _ hO => ⟨hO.row _ (gs h3), trivial⟩) ?_
    intro w1 hO
    exact wpAnyH_done (by kernel_rfl) (H n8 _ hO) _
  have s1 : ∀ (n8 : Nat) (w : World), Own u w ((n8, ps [0, 0], 29) :: L) → wpAnyH Tryd.prog .any f103r4Ops Q (Has [(b3, c3, 22)]) 2 (ls 5 11) (Fr [z0, z1, z2, D b3, z4, z5, z6, z7, D n8, z9, z10, z11, z12, z13, z14, z15, A c3, A e17, z18] zz) w := by
    intro n8 w hO
    refine d_one 2 f103r4Op2 (ls 5 15) (fun K hK => ?_)
    refine k_call hK hO (fun _ hO => ⟨hO.row _ (gs h3), trivial⟩) 5 #[.agg c3, .agg e17] (.agg e18) r18 ?_
    intro w2 hO
    exact d_fr _ _ (s0 n8 _ hO)
  refine wp_region_held_drew (S := Has [(b3, c3, 22)]) (by kernel_rfl) ⟨hO.drew.row _ h3, trivial⟩ (fun hS => ?_)
  replace hO := hO.drew
  refine d_tk 0 f103r4Op0 (.agg c3) hQ (y_l 22 (fun _ h => h.1) fc3_22 Tryd.underlying22) hS ?_
  refine d_fr (ls 5 1) (Fr [z0, z1, z2, D b3, z4, z5, z6, z7, z8, z9, z10, z11, z12, z13, z14, z15, A c3, z17, z18] zz) ?_
  refine wpAnyH_ready (rs := [1, 3]) (by kernel_rfl) (by simp) ?_
  refine d_cons 1 f103r4Op1 (ls 5 3) (fun K hK => ?_) ?_
  · skip
    refine k_call hK hO (fun _ hO => ⟨hO.row _ h3, trivial⟩) 6 #[] (.agg e17) r17 ?_
    intro w3 hO
    refine wpAnyH_ready (rs := [2, 3]) (by kernel_rfl) (by simp) ?_
    refine d_cons 2 f103r4Op2 (ls 5 7) (fun K hK => ?_) ?_
    · skip
      refine k_call hK hO (fun _ hO => ⟨hO.row _ h3, trivial⟩) 5 #[.agg c3, .agg e17] (.agg e18) r18 ?_
      intro w4 hO
      refine d_one 3 f103r4Op3 (ls 5 15) (fun K hK => ?_)
      refine k_new hK hO (ps [0, 0]) 29 (al29 rfl) (fit_pt _ _) (fun _ _ hO => ⟨hO.row _ (gs h3), trivial⟩) ?_
      intro n8 w5 hO
      exact d_fr _ _ (s0 n8 _ hO)
    refine d_cons 3 f103r4Op3 (ls 5 11) (fun K hK => ?_) ?_
    · skip
      refine k_new hK hO (ps [0, 0]) 29 (al29 rfl) (fit_pt _ _) (fun _ _ hO => ⟨hO.row _ (gs h3), trivial⟩) ?_
      intro n8 w6 hO
      exact d_fr _ _ (s1 n8 _ hO)
    exact AllReadyH.nil
  refine d_cons 3 f103r4Op3 (ls 5 9) (fun K hK => ?_) ?_
  · skip
    refine k_new hK hO (ps [0, 0]) 29 (al29 rfl) (fit_pt _ _) (fun _ _ hO => ⟨hO.row _ (gs h3), trivial⟩) ?_
    intro n8 w7 hO
    refine d_one 1 f103r4Op1 (ls 5 11) (fun K hK => ?_)
    refine k_call hK hO (fun _ hO => ⟨hO.row _ (gs h3), trivial⟩) 6 #[] (.agg e17) r17 ?_
    intro w8 hO
    exact d_fr _ _ (s1 n8 _ hO)
  exact AllReadyH.nil
def f103r5Op0 : Oper := ⟨some 19, .load 22 (.tmp 3), 22, "law.go:100", #[], none⟩
def f103r5Op1 : Oper := ⟨some 20, .load 29 (.tmp 7), 29, "law.go:100", #[], none⟩
def f103r5Op2 : Oper := ⟨some 21, .call { callee := .value (.func 5), args := #[.tmp 19, .tmp 20], argTypes := #[22, 29] }, 29, "law.go:100", #[⟨0, .data⟩, ⟨1, .data⟩], none⟩
def f103r5Op3 : Oper := ⟨some 22, .load 22 (.tmp 2), 22, "law.go:100", #[], none⟩
def f103r5Op4 : Oper := ⟨some 23, .load 22 (.tmp 3), 22, "law.go:100", #[], none⟩
def f103r5Op5 : Oper := ⟨some 24, .load 22 (.tmp 6), 22, "law.go:100", #[], none⟩
def f103r5Op6 : Oper := ⟨some 25, .call { callee := .value (.func 8), args := #[.tmp 22, .tmp 23, .tmp 24], argTypes := #[22, 22, 22] }, 22, "law.go:100", #[⟨3, .data⟩, ⟨4, .data⟩, ⟨5, .data⟩, ⟨2, .chain⟩], none⟩
def f103r5Op7 : Oper := ⟨some 26, .call { callee := .value (.func 6), args := #[], argTypes := #[] }, 29, "law.go:100", #[⟨6, .chain⟩], none⟩
def f103r5Op8 : Oper := ⟨some 27, .call { callee := .value (.func 5), args := #[.tmp 25, .tmp 26], argTypes := #[22, 29] }, 29, "law.go:100", #[⟨6, .data⟩, ⟨7, .data⟩, ⟨7, .chain⟩], none⟩
def f103r5Op9 : Oper := ⟨some 28, .call { callee := .value (.func 7), args := #[.tmp 21, .tmp 27], argTypes := #[29, 29] }, 4, "law.go:100", #[⟨2, .data⟩, ⟨8, .data⟩, ⟨8, .chain⟩], none⟩
def f103r5Op10 : Oper := ⟨some 9, .assign (.tmp 28), 4, "law.go:100", #[⟨9, .data⟩, ⟨9, .chain⟩, ⟨0, .phase⟩, ⟨1, .phase⟩, ⟨2, .phase⟩, ⟨3, .phase⟩, ⟨4, .phase⟩, ⟨5, .phase⟩, ⟨6, .phase⟩, ⟨7, .phase⟩, ⟨8, .phase⟩, ⟨9, .phase⟩], none⟩
def f103r5Ops : Array Oper := #[f103r5Op0, f103r5Op1, f103r5Op2, f103r5Op3, f103r5Op4, f103r5Op5, f103r5Op6, f103r5Op7, f103r5Op8, f103r5Op9, f103r5Op10]
set_option maxRecDepth 100000 in
set_option maxHeartbeats 2000000 in
theorem f103r5_r {Q : Exit → Act → World → Prop} {u w : World} {L : List Row} {z0 z1 z4 z5 z8 z9 z10 z11 z12 z13 z14 z15 z16 z17 z18 z19 z20 z21 z22 z23 z24 z25 z26 z27 z28 : Value} {zz : List Value} {b2 b3 b6 b7 : Nat} {c2 c3 c6 c7 : Array Value} {e21 e25 e26 e27 : Array Value} (hQ : ∀ c a w n v, Q (.panic c) (a.put (some n) v) w → Q (.panic c) a w) (hO : Own u w L) (i2 : Nat) (h2 : L[i2]? = some (b2, c2, 22)) (i3 : Nat) (h3 : L[i3]? = some (b3, c3, 22)) (i6 : Nat) (h6 : L[i6]? = some (b6, c6, 22)) (i7 : Nat) (h7 : L[i7]? = some (b7, c7, 29)) (r21 : ∀ w, Ret 5 #[.agg c3, .agg c7] w (.agg e21)) (r25 : ∀ w, Below u.heap.size u w → Ret 8 #[.agg c2, .agg c3, .agg c6] w (.agg e25)) (r26 : ∀ w, Ret 6 #[] w (.agg e26)) (r27 : ∀ w, Ret 5 #[.agg e25, .agg e26] w (.agg e27)) (r28 : ∀ w, Ret 7 #[.agg e21, .agg e27] w (.bool true)) (H : ∀ (w' : World), Own u w' (L) → Q .normal { tmps := List.toArray (z0 :: z1 :: (.pointer (some ⟨b2, 0, none⟩)) :: (.pointer (some ⟨b3, 0, none⟩)) :: z4 :: z5 :: (.pointer (some ⟨b6, 0, none⟩)) :: (.pointer (some ⟨b7, 0, none⟩)) :: z8 :: (.bool true) :: z10 :: z11 :: z12 :: z13 :: z14 :: z15 :: z16 :: z17 :: z18 :: (.agg c3) :: (.agg c7) :: (.agg e21) :: (.agg c2) :: (.agg c3) :: (.agg c6) :: (.agg e25) :: (.agg e26) :: (.agg e27) :: (.bool true) :: zz), defers := [] } w') :
    (Code.region 5 f103r5Ops true).wp Tryd.prog Q { tmps := List.toArray (z0 :: z1 :: (.pointer (some ⟨b2, 0, none⟩)) :: (.pointer (some ⟨b3, 0, none⟩)) :: z4 :: z5 :: (.pointer (some ⟨b6, 0, none⟩)) :: (.pointer (some ⟨b7, 0, none⟩)) :: z8 :: z9 :: z10 :: z11 :: z12 :: z13 :: z14 :: z15 :: z16 :: z17 :: z18 :: z19 :: z20 :: z21 :: z22 :: z23 :: z24 :: z25 :: z26 :: z27 :: z28 :: zz), defers := [] } w := by
  have fc2_22 := hO.fits i2 h2
  have fc3_22 := hO.fits i3 h3
  have fc6_22 := hO.fits i6 h6
  have fc7_29 := hO.fits i7 h7
  refine wp_region_held_drew (S := Has [(b2, c2, 22), (b3, c3, 22), (b6, c6, 22), (b7, c7, 29)]) (by kernel_rfl) ⟨hO.drew.row _ h2, hO.drew.row _ h3, hO.drew.row _ h6, hO.drew.row _ h7, trivial⟩ (fun hS => ?_)
  replace hO := hO.drew
  refine d_tk 0 f103r5Op0 (.agg c3) hQ (y_l 22 (fun _ h => h.2.1) fc3_22 Tryd.underlying22) hS ?_
  refine d_tk 1 f103r5Op1 (.agg c7) hQ (y_l 29 (fun _ h => h.2.2.2.1) fc7_29 Tryd.underlying29) hS ?_
  refine d_tk 3 f103r5Op3 (.agg c2) hQ (y_l 22 (fun _ h => h.1) fc2_22 Tryd.underlying22) hS ?_
  refine d_fr (ls 11 11) (Fr [z0, z1, D b2, D b3, z4, z5, D b6, D b7, z8, z9, z10, z11, z12, z13, z14, z15, z16, z17, z18, A c3, A c7, z21, A c2, z23, z24, z25, z26, z27, z28] zz) ?_
  refine d_tk 4 f103r5Op4 (.agg c3) hQ (y_l 22 (fun _ h => h.2.1) fc3_22 Tryd.underlying22) hS ?_
  refine d_tk 5 f103r5Op5 (.agg c6) hQ (y_l 22 (fun _ h => h.2.2.1) fc6_22 Tryd.underlying22) hS ?_
  refine d_fr (ls 11 59) (Fr [z0, z1, D b2, D b3, z4, z5, D b6, D b7, z8, z9, z10, z11, z12, z13, z14, z15, z16, z17, z18, A c3, A c7, z21, A c2, A c3, A c6, z25, z26, z27, z28] zz) ?_
  refine d_one 2 f103r5Op2 (ls 11 63) (fun K hK => ?_)
  refine k_call hK hO (fun _ hO => ⟨hO.row _ h2, hO.row _ h3, hO.row _ h6, hO.row _ h7, trivial⟩) 5 #[.agg c3, .agg c7] (.agg e21) r21 ?_
  intro w1 hO
  refine d_one 6 f103r5Op6 (ls 11 127) (fun K hK => ?_)
  refine k_call1 hK hO (fun _ hO => ⟨hO.row _ h2, hO.row _ h3, hO.row _ h6, hO.row _ h7, trivial⟩) 8 #[.agg c2, .agg c3, .agg c6] (.agg e25) (r25 _ hO.low) ?_
  intro w2 hO
  refine d_one 7 f103r5Op7 (ls 11 255) (fun K hK => ?_)
  refine k_call hK hO (fun _ hO => ⟨hO.row _ h2, hO.row _ h3, hO.row _ h6, hO.row _ h7, trivial⟩) 6 #[] (.agg e26) r26 ?_
  intro w3 hO
  refine d_fr (ls 11 255) (Fr [z0, z1, D b2, D b3, z4, z5, D b6, D b7, z8, z9, z10, z11, z12, z13, z14, z15, z16, z17, z18, A c3, A c7, A e21, A c2, A c3, A c6, A e25, A e26, z27, z28] zz) ?_
  refine d_one 8 f103r5Op8 (ls 11 511) (fun K hK => ?_)
  refine k_call hK hO (fun _ hO => ⟨hO.row _ h2, hO.row _ h3, hO.row _ h6, hO.row _ h7, trivial⟩) 5 #[.agg e25, .agg e26] (.agg e27) r27 ?_
  intro w4 hO
  refine d_one 9 f103r5Op9 (ls 11 1023) (fun K hK => ?_)
  refine k_call hK hO (fun _ hO => ⟨hO.row _ h2, hO.row _ h3, hO.row _ h6, hO.row _ h7, trivial⟩) 7 #[.agg e21, .agg e27] (.bool true) r28 ?_
  intro w5 hO
  have hS : Has [(b2, c2, 22), (b3, c3, 22), (b6, c6, 22), (b7, c7, 29)] w5 := ⟨hO.row _ h2, hO.row _ h3, hO.row _ h6, hO.row _ h7, trivial⟩
  refine d_tk 10 f103r5Op10 (.bool true) hQ (y_val (fun _ => by kernel_rfl)) hS ?_
  exact d_fr (ls 11 2047) _ (wpAnyH_done (by kernel_rfl) (H  _ hO) _)
def f103r6Op0 : Oper := ⟨some 29, .load 29 (.tmp 7), 29, "law.go:101", #[], none⟩
def f103r6Op1 : Oper := ⟨some 30, .load 29 (.tmp 8), 29, "law.go:101", #[], none⟩
def f103r6Op2 : Oper := ⟨some 31, .call { callee := .value (.func 9), args := #[.tmp 29, .tmp 30], argTypes := #[29, 29] }, 29, "law.go:101", #[⟨0, .data⟩, ⟨1, .data⟩], none⟩
def f103r6Op3 : Oper := ⟨some 32, .load 22 (.tmp 2), 22, "law.go:101", #[], none⟩
def f103r6Op4 : Oper := ⟨some 33, .build 22 #[(0, .const (.int .u8 1))], 22, "law.go:101", #[], none⟩
def f103r6Op5 : Oper := ⟨some 34, .load 22 (.tmp 3), 22, "law.go:101", #[], none⟩
def f103r6Op6 : Oper := ⟨some 35, .call { callee := .value (.func 8), args := #[.tmp 32, .tmp 33, .tmp 34], argTypes := #[22, 22, 22] }, 22, "law.go:101", #[⟨3, .data⟩, ⟨4, .data⟩, ⟨5, .data⟩, ⟨2, .chain⟩], none⟩
def f103r6Op7 : Oper := ⟨some 36, .call { callee := .value (.func 6), args := #[], argTypes := #[] }, 29, "law.go:101", #[⟨6, .chain⟩], none⟩
def f103r6Op8 : Oper := ⟨some 37, .call { callee := .value (.func 5), args := #[.tmp 35, .tmp 36], argTypes := #[22, 29] }, 29, "law.go:101", #[⟨6, .data⟩, ⟨7, .data⟩, ⟨7, .chain⟩], none⟩
def f103r6Op9 : Oper := ⟨some 38, .call { callee := .value (.func 7), args := #[.tmp 31, .tmp 37], argTypes := #[29, 29] }, 4, "law.go:101", #[⟨2, .data⟩, ⟨8, .data⟩, ⟨8, .chain⟩], none⟩
def f103r6Op10 : Oper := ⟨some 10, .assign (.tmp 38), 4, "law.go:101", #[⟨9, .data⟩, ⟨9, .chain⟩, ⟨0, .phase⟩, ⟨1, .phase⟩, ⟨2, .phase⟩, ⟨3, .phase⟩, ⟨4, .phase⟩, ⟨5, .phase⟩, ⟨6, .phase⟩, ⟨7, .phase⟩, ⟨8, .phase⟩, ⟨9, .phase⟩], none⟩
def f103r6Ops : Array Oper := #[f103r6Op0, f103r6Op1, f103r6Op2, f103r6Op3, f103r6Op4, f103r6Op5, f103r6Op6, f103r6Op7, f103r6Op8, f103r6Op9, f103r6Op10]
set_option maxRecDepth 100000 in
set_option maxHeartbeats 2000000 in
theorem f103r6_r {Q : Exit → Act → World → Prop} {u w : World} {L : List Row} {z0 z1 z4 z5 z6 z9 z10 z11 z12 z13 z14 z15 z16 z17 z18 z19 z20 z21 z22 z23 z24 z25 z26 z27 z28 z29 z30 z31 z32 z33 z34 z35 z36 z37 z38 : Value} {zz : List Value} {b2 b3 b7 b8 : Nat} {c2 c3 c7 c8 : Array Value} {e31 e33 e35 e36 e37 : Array Value} (hQ : ∀ c a w n v, Q (.panic c) (a.put (some n) v) w → Q (.panic c) a w) (hO : Own u w L) (i2 : Nat) (h2 : L[i2]? = some (b2, c2, 22)) (i3 : Nat) (h3 : L[i3]? = some (b3, c3, 22)) (i7 : Nat) (h7 : L[i7]? = some (b7, c7, 29)) (i8 : Nat) (h8 : L[i8]? = some (b8, c8, 29)) (r31 : ∀ w, Ret 9 #[.agg c7, .agg c8] w (.agg e31)) (q33 : Tryd.prog.built 22 [(0, .int IntKind.u8 1)] = some e33) (r35 : ∀ w, Below u.heap.size u w → Ret 8 #[.agg c2, .agg e33, .agg c3] w (.agg e35)) (r36 : ∀ w, Ret 6 #[] w (.agg e36)) (r37 : ∀ w, Ret 5 #[.agg e35, .agg e36] w (.agg e37)) (r38 : ∀ w, Ret 7 #[.agg e31, .agg e37] w (.bool true)) (H : ∀ (w' : World), Own u w' (L) → Q .normal { tmps := List.toArray (z0 :: z1 :: (.pointer (some ⟨b2, 0, none⟩)) :: (.pointer (some ⟨b3, 0, none⟩)) :: z4 :: z5 :: z6 :: (.pointer (some ⟨b7, 0, none⟩)) :: (.pointer (some ⟨b8, 0, none⟩)) :: z9 :: (.bool true) :: z11 :: z12 :: z13 :: z14 :: z15 :: z16 :: z17 :: z18 :: z19 :: z20 :: z21 :: z22 :: z23 :: z24 :: z25 :: z26 :: z27 :: z28 :: (.agg c7) :: (.agg c8) :: (.agg e31) :: (.agg c2) :: (.agg e33) :: (.agg c3) :: (.agg e35) :: (.agg e36) :: (.agg e37) :: (.bool true) :: zz), defers := [] } w') :
    (Code.region 6 f103r6Ops true).wp Tryd.prog Q { tmps := List.toArray (z0 :: z1 :: (.pointer (some ⟨b2, 0, none⟩)) :: (.pointer (some ⟨b3, 0, none⟩)) :: z4 :: z5 :: z6 :: (.pointer (some ⟨b7, 0, none⟩)) :: (.pointer (some ⟨b8, 0, none⟩)) :: z9 :: z10 :: z11 :: z12 :: z13 :: z14 :: z15 :: z16 :: z17 :: z18 :: z19 :: z20 :: z21 :: z22 :: z23 :: z24 :: z25 :: z26 :: z27 :: z28 :: z29 :: z30 :: z31 :: z32 :: z33 :: z34 :: z35 :: z36 :: z37 :: z38 :: zz), defers := [] } w := by
  have fc2_22 := hO.fits i2 h2
  have fc3_22 := hO.fits i3 h3
  have fc7_29 := hO.fits i7 h7
  have fc8_29 := hO.fits i8 h8
  refine wp_region_held_drew (S := Has [(b2, c2, 22), (b3, c3, 22), (b7, c7, 29), (b8, c8, 29)]) (by kernel_rfl) ⟨hO.drew.row _ h2, hO.drew.row _ h3, hO.drew.row _ h7, hO.drew.row _ h8, trivial⟩ (fun hS => ?_)
  replace hO := hO.drew
  refine d_tk 0 f103r6Op0 (.agg c7) hQ (y_l 29 (fun _ h => h.2.2.1) fc7_29 Tryd.underlying29) hS ?_
  refine d_tk 1 f103r6Op1 (.agg c8) hQ (y_l 29 (fun _ h => h.2.2.2.1) fc8_29 Tryd.underlying29) hS ?_
  refine d_tk 3 f103r6Op3 (.agg c2) hQ (y_l 22 (fun _ h => h.1) fc2_22 Tryd.underlying22) hS ?_
  refine d_fr (ls 11 11) (Fr [z0, z1, D b2, D b3, z4, z5, z6, D b7, D b8, z9, z10, z11, z12, z13, z14, z15, z16, z17, z18, z19, z20, z21, z22, z23, z24, z25, z26, z27, z28, A c7, A c8, z31, A c2, z33, z34, z35, z36, z37, z38] zz) ?_
  refine d_tk 4 f103r6Op4 (.agg e33) hQ (y_val (run_bd 22 _ rfl [(0, .int IntKind.u8 1)] (by kernel_rfl) e33 q33)) hS ?_
  refine d_tk 5 f103r6Op5 (.agg c3) hQ (y_l 22 (fun _ h => h.2.1) fc3_22 Tryd.underlying22) hS ?_
  refine d_fr (ls 11 59) (Fr [z0, z1, D b2, D b3, z4, z5, z6, D b7, D b8, z9, z10, z11, z12, z13, z14, z15, z16, z17, z18, z19, z20, z21, z22, z23, z24, z25, z26, z27, z28, A c7, A c8, z31, A c2, A e33, A c3, z35, z36, z37, z38] zz) ?_
  refine d_one 2 f103r6Op2 (ls 11 63) (fun K hK => ?_)
  refine k_call hK hO (fun _ hO => ⟨hO.row _ h2, hO.row _ h3, hO.row _ h7, hO.row _ h8, trivial⟩) 9 #[.agg c7, .agg c8] (.agg e31) r31 ?_
  intro w1 hO
  refine d_one 6 f103r6Op6 (ls 11 127) (fun K hK => ?_)
  refine k_call1 hK hO (fun _ hO => ⟨hO.row _ h2, hO.row _ h3, hO.row _ h7, hO.row _ h8, trivial⟩) 8 #[.agg c2, .agg e33, .agg c3] (.agg e35) (r35 _ hO.low) ?_
  intro w2 hO
  refine d_one 7 f103r6Op7 (ls 11 255) (fun K hK => ?_)
  refine k_call hK hO (fun _ hO => ⟨hO.row _ h2, hO.row _ h3, hO.row _ h7, hO.row _ h8, trivial⟩) 6 #[] (.agg e36) r36 ?_
  intro w3 hO
  refine d_fr (ls 11 255) (Fr [z0, z1, D b2, D b3, z4, z5, z6, D b7, D b8, z9, z10, z11, z12, z13, z14, z15, z16, z17, z18, z19, z20, z21, z22, z23, z24, z25, z26, z27, z28, A c7, A c8, A e31, A c2, A e33, A c3, A e35, A e36, z37, z38] zz) ?_
  refine d_one 8 f103r6Op8 (ls 11 511) (fun K hK => ?_)
  refine k_call hK hO (fun _ hO => ⟨hO.row _ h2, hO.row _ h3, hO.row _ h7, hO.row _ h8, trivial⟩) 5 #[.agg e35, .agg e36] (.agg e37) r37 ?_
  intro w4 hO
  refine d_one 9 f103r6Op9 (ls 11 1023) (fun K hK => ?_)
  refine k_call hK hO (fun _ hO => ⟨hO.row _ h2, hO.row _ h3, hO.row _ h7, hO.row _ h8, trivial⟩) 7 #[.agg e31, .agg e37] (.bool true) r38 ?_
  intro w5 hO
  have hS : Has [(b2, c2, 22), (b3, c3, 22), (b7, c7, 29), (b8, c8, 29)] w5 := ⟨hO.row _ h2, hO.row _ h3, hO.row _ h7, hO.row _ h8, trivial⟩
  refine d_tk 10 f103r6Op10 (.bool true) hQ (y_val (fun _ => by kernel_rfl)) hS ?_
  exact d_fr (ls 11 2047) _ (wpAnyH_done (by kernel_rfl) (H  _ hO) _)
def f103r7Op0 : Oper := ⟨some 39, .move (.tmp 5), 4, "law.go:102", #[], none⟩
def f103r7Op1 : Oper := ⟨some 40, .move (.tmp 39), 4, "law.go:102", #[⟨0, .data⟩], none⟩
def f103r7Op2 : Oper := ⟨some 41, .move (.tmp 9), 4, "law.go:102", #[⟨1, .guard⟩], some (1, true)⟩
def f103r7Op3 : Oper := ⟨some 42, .pick (.tmp 40) (.tmp 41) (.const (.bool false)), 4, "law.go:102", #[⟨1, .data⟩, ⟨2, .data⟩], none⟩
def f103r7Op4 : Oper := ⟨some 43, .move (.tmp 42), 4, "law.go:102", #[⟨3, .data⟩, ⟨1, .chain⟩], none⟩
def f103r7Op5 : Oper := ⟨some 44, .move (.tmp 10), 4, "law.go:102", #[⟨4, .guard⟩], some (4, true)⟩
def f103r7Op6 : Oper := ⟨some 45, .pick (.tmp 43) (.tmp 44) (.const (.bool false)), 4, "law.go:102", #[⟨4, .data⟩, ⟨5, .data⟩], none⟩
def f103r7Op7 : Oper := ⟨some 46, .move (.tmp 45), 4, "law.go:102", #[⟨6, .data⟩, ⟨4, .chain⟩], none⟩
def f103r7Op8 : Oper := ⟨some 47, .call { callee := .value (.func 10), args := #[], argTypes := #[] }, 22, "law.go:102", #[⟨7, .chain⟩, ⟨7, .guard⟩], some (7, true)⟩
def f103r7Op9 : Oper := ⟨some 48, .call { callee := .value (.func 6), args := #[], argTypes := #[] }, 29, "law.go:102", #[⟨8, .chain⟩, ⟨7, .guard⟩], some (7, true)⟩
def f103r7Op10 : Oper := ⟨some 49, .call { callee := .value (.func 5), args := #[.tmp 47, .tmp 48], argTypes := #[22, 29] }, 29, "law.go:102", #[⟨8, .data⟩, ⟨9, .data⟩, ⟨9, .chain⟩, ⟨7, .guard⟩], some (7, true)⟩
def f103r7Op11 : Oper := ⟨some 50, .call { callee := .value (.func 11), args := #[], argTypes := #[] }, 29, "law.go:102", #[⟨10, .chain⟩, ⟨7, .guard⟩], some (7, true)⟩
def f103r7Op12 : Oper := ⟨some 51, .call { callee := .value (.func 7), args := #[.tmp 49, .tmp 50], argTypes := #[29, 29] }, 4, "law.go:102", #[⟨10, .data⟩, ⟨11, .data⟩, ⟨11, .chain⟩, ⟨7, .guard⟩], some (7, true)⟩
def f103r7Op13 : Oper := ⟨some 52, .pick (.tmp 46) (.tmp 51) (.const (.bool false)), 4, "law.go:102", #[⟨7, .data⟩, ⟨12, .data⟩], none⟩
def f103r7Op14 : Oper := ⟨some 53, .move (.tmp 52), 4, "law.go:102", #[⟨13, .data⟩, ⟨12, .chain⟩], none⟩
def f103r7Op15 : Oper := ⟨some 54, .load 22 (.tmp 6), 22, "law.go:102", #[⟨14, .guard⟩], some (14, true)⟩
def f103r7Op16 : Oper := ⟨some 55, .load 29 (.tmp 7), 29, "law.go:102", #[⟨14, .guard⟩], some (14, true)⟩
def f103r7Op17 : Oper := ⟨some 56, .call { callee := .value (.func 5), args := #[.tmp 54, .tmp 55], argTypes := #[22, 29] }, 29, "law.go:102", #[⟨15, .data⟩, ⟨16, .data⟩, ⟨14, .chain⟩, ⟨14, .guard⟩], some (14, true)⟩
def f103r7Op18 : Oper := ⟨some 57, .call { callee := .value (.func 11), args := #[], argTypes := #[] }, 29, "law.go:102", #[⟨17, .chain⟩, ⟨14, .guard⟩], some (14, true)⟩
def f103r7Op19 : Oper := ⟨some 58, .call { callee := .value (.func 7), args := #[.tmp 56, .tmp 57], argTypes := #[29, 29] }, 4, "law.go:102", #[⟨17, .data⟩, ⟨18, .data⟩, ⟨18, .chain⟩, ⟨14, .guard⟩], some (14, true)⟩
def f103r7Op20 : Oper := ⟨some 59, .pick (.tmp 53) (.tmp 58) (.const (.bool false)), 4, "law.go:102", #[⟨14, .data⟩, ⟨19, .data⟩], none⟩
def f103r7Op21 : Oper := ⟨some 60, .move (.tmp 59), 4, "law.go:102", #[⟨20, .data⟩, ⟨19, .chain⟩], none⟩
def f103r7Op22 : Oper := ⟨some 61, .build 22 #[(0, .const (.int .u8 1))], 22, "law.go:102", #[⟨21, .guard⟩], some (21, true)⟩
def f103r7Op23 : Oper := ⟨some 62, .load 29 (.tmp 7), 29, "law.go:102", #[⟨21, .guard⟩], some (21, true)⟩
def f103r7Op24 : Oper := ⟨some 63, .call { callee := .value (.func 5), args := #[.tmp 61, .tmp 62], argTypes := #[22, 29] }, 29, "law.go:102", #[⟨22, .data⟩, ⟨23, .data⟩, ⟨21, .chain⟩, ⟨21, .guard⟩], some (21, true)⟩
def f103r7Op25 : Oper := ⟨some 64, .load 29 (.tmp 7), 29, "law.go:102", #[⟨21, .guard⟩], some (21, true)⟩
def f103r7Op26 : Oper := ⟨some 65, .call { callee := .value (.func 7), args := #[.tmp 63, .tmp 64], argTypes := #[29, 29] }, 4, "law.go:102", #[⟨24, .data⟩, ⟨25, .data⟩, ⟨24, .chain⟩, ⟨21, .guard⟩], some (21, true)⟩
def f103r7Op27 : Oper := ⟨some 66, .pick (.tmp 60) (.tmp 65) (.const (.bool false)), 4, "law.go:102", #[⟨21, .data⟩, ⟨26, .data⟩], none⟩
def f103r7Op28 : Oper := ⟨some 4, .assign (.tmp 66), 4, "law.go:102", #[⟨27, .data⟩, ⟨26, .chain⟩, ⟨0, .phase⟩, ⟨1, .phase⟩, ⟨2, .phase⟩, ⟨3, .phase⟩, ⟨4, .phase⟩, ⟨5, .phase⟩, ⟨6, .phase⟩, ⟨7, .phase⟩, ⟨8, .phase⟩, ⟨9, .phase⟩, ⟨10, .phase⟩, ⟨11, .phase⟩, ⟨12, .phase⟩, ⟨13, .phase⟩, ⟨14, .phase⟩, ⟨15, .phase⟩, ⟨16, .phase⟩, ⟨17, .phase⟩, ⟨18, .phase⟩, ⟨19, .phase⟩, ⟨20, .phase⟩, ⟨21, .phase⟩, ⟨22, .phase⟩, ⟨23, .phase⟩, ⟨24, .phase⟩, ⟨25, .phase⟩, ⟨26, .phase⟩, ⟨27, .phase⟩], none⟩
def f103r7Ops : Array Oper := #[f103r7Op0, f103r7Op1, f103r7Op2, f103r7Op3, f103r7Op4, f103r7Op5, f103r7Op6, f103r7Op7, f103r7Op8, f103r7Op9, f103r7Op10, f103r7Op11, f103r7Op12, f103r7Op13, f103r7Op14, f103r7Op15, f103r7Op16, f103r7Op17, f103r7Op18, f103r7Op19, f103r7Op20, f103r7Op21, f103r7Op22, f103r7Op23, f103r7Op24, f103r7Op25, f103r7Op26, f103r7Op27, f103r7Op28]
set_option maxRecDepth 100000 in
set_option maxHeartbeats 2000000 in
theorem f103r7_r {Q : Exit → Act → World → Prop} {u w : World} {L : List Row} {z0 z1 z2 z3 z4 z8 z11 z12 z13 z14 z15 z16 z17 z18 z19 z20 z21 z22 z23 z24 z25 z26 z27 z28 z29 z30 z31 z32 z33 z34 z35 z36 z37 z38 z39 z40 z41 z42 z43 z44 z45 z46 z47 z48 z49 z50 z51 z52 z53 z54 z55 z56 z57 z58 z59 z60 z61 z62 z63 z64 z65 z66 : Value} {b6 b7 : Nat} {c6 c7 : Array Value} {e47 e48 e49 e50 e56 e57 e61 e63 : Array Value} (hQ : ∀ c a w n v, Q (.panic c) (a.put (some n) v) w → Q (.panic c) a w) (hO : Own u w L) (i6 : Nat) (h6 : L[i6]? = some (b6, c6, 22)) (i7 : Nat) (h7 : L[i7]? = some (b7, c7, 29)) (r47 : ∀ w, Below u.heap.size u w → Ret 10 #[] w (.agg e47)) (r48 : ∀ w, Ret 6 #[] w (.agg e48)) (r49 : ∀ w, Ret 5 #[.agg e47, .agg e48] w (.agg e49)) (r50 : ∀ w, Ret 11 #[] w (.agg e50)) (r51 : ∀ w, Ret 7 #[.agg e49, .agg e50] w (.bool true)) (r56 : ∀ w, Ret 5 #[.agg c6, .agg c7] w (.agg e56)) (r57 : ∀ w, Ret 11 #[] w (.agg e57)) (r58 : ∀ w, Ret 7 #[.agg e56, .agg e57] w (.bool true)) (q61 : Tryd.prog.built 22 [(0, .int IntKind.u8 1)] = some e61) (r63 : ∀ w, Ret 5 #[.agg e61, .agg c7] w (.agg e63)) (r65 : ∀ w, Ret 7 #[.agg e63, .agg c7] w (.bool true)) (H : ∀ (w' : World), Own u w' (L) → Q .normal { tmps := List.toArray (z0 :: z1 :: z2 :: z3 :: (.bool true) :: (.bool true) :: (.pointer (some ⟨b6, 0, none⟩)) :: (.pointer (some ⟨b7, 0, none⟩)) :: z8 :: (.bool true) :: (.bool true) :: z11 :: z12 :: z13 :: z14 :: z15 :: z16 :: z17 :: z18 :: z19 :: z20 :: z21 :: z22 :: z23 :: z24 :: z25 :: z26 :: z27 :: z28 :: z29 :: z30 :: z31 :: z32 :: z33 :: z34 :: z35 :: z36 :: z37 :: z38 :: (.bool true) :: (.bool true) :: (.bool true) :: (.bool true) :: (.bool true) :: (.bool true) :: (.bool true) :: (.bool true) :: (.agg e47) :: (.agg e48) :: (.agg e49) :: (.agg e50) :: (.bool true) :: (.bool true) :: (.bool true) :: (.agg c6) :: (.agg c7) :: (.agg e56) :: (.agg e57) :: (.bool true) :: (.bool true) :: (.bool true) :: (.agg e61) :: (.agg c7) :: (.agg e63) :: (.agg c7) :: (.bool true) :: (.bool true) :: []), defers := [] } w') :
    (Code.region 7 f103r7Ops true).wp Tryd.prog Q { tmps := List.toArray (z0 :: z1 :: z2 :: z3 :: z4 :: (.bool true) :: (.pointer (some ⟨b6, 0, none⟩)) :: (.pointer (some ⟨b7, 0, none⟩)) :: z8 :: (.bool true) :: (.bool true) :: z11 :: z12 :: z13 :: z14 :: z15 :: z16 :: z17 :: z18 :: z19 :: z20 :: z21 :: z22 :: z23 :: z24 :: z25 :: z26 :: z27 :: z28 :: z29 :: z30 :: z31 :: z32 :: z33 :: z34 :: z35 :: z36 :: z37 :: z38 :: z39 :: z40 :: z41 :: z42 :: z43 :: z44 :: z45 :: z46 :: z47 :: z48 :: z49 :: z50 :: z51 :: z52 :: z53 :: z54 :: z55 :: z56 :: z57 :: z58 :: z59 :: z60 :: z61 :: z62 :: z63 :: z64 :: z65 :: z66 :: []), defers := [] } w := by
  have fc6_22 := hO.fits i6 h6
  have fc7_29 := hO.fits i7 h7
  refine wp_region_held_drew (S := Has [(b6, c6, 22), (b7, c7, 29)]) (by kernel_rfl) ⟨hO.drew.row _ h6, hO.drew.row _ h7, trivial⟩ (fun hS => ?_)
  replace hO := hO.drew
  refine d_tk 0 f103r7Op0 (.bool true) hQ (y_val (fun _ => by kernel_rfl)) hS ?_
  refine d_tk 1 f103r7Op1 (.bool true) hQ (y_val (fun _ => by kernel_rfl)) hS ?_
  refine d_tk 2 f103r7Op2 (.bool true) hQ (y_val (fun _ => by kernel_rfl)) hS ?_
  refine d_fr (ls 29 7) (Fr [z0, z1, z2, z3, z4, .bool true, D b6, D b7, z8, .bool true, .bool true, z11, z12, z13, z14, z15, z16, z17, z18, z19, z20, z21, z22, z23, z24, z25, z26, z27, z28, z29, z30, z31, z32, z33, z34, z35, z36, z37, z38, .bool true, .bool true, .bool true, z42, z43, z44, z45, z46, z47, z48, z49, z50, z51, z52, z53, z54, z55, z56, z57, z58, z59, z60, z61, z62, z63, z64, z65, z66] []) ?_
  refine d_tk 3 f103r7Op3 (.bool true) hQ (y_val (fun _ => by kernel_rfl)) hS ?_
  refine d_tk 4 f103r7Op4 (.bool true) hQ (y_val (fun _ => by kernel_rfl)) hS ?_
  refine d_tk 5 f103r7Op5 (.bool true) hQ (y_val (fun _ => by kernel_rfl)) hS ?_
  refine d_fr (ls 29 63) (Fr [z0, z1, z2, z3, z4, .bool true, D b6, D b7, z8, .bool true, .bool true, z11, z12, z13, z14, z15, z16, z17, z18, z19, z20, z21, z22, z23, z24, z25, z26, z27, z28, z29, z30, z31, z32, z33, z34, z35, z36, z37, z38, .bool true, .bool true, .bool true, .bool true, .bool true, .bool true, z45, z46, z47, z48, z49, z50, z51, z52, z53, z54, z55, z56, z57, z58, z59, z60, z61, z62, z63, z64, z65, z66] []) ?_
  refine d_tk 6 f103r7Op6 (.bool true) hQ (y_val (fun _ => by kernel_rfl)) hS ?_
  refine d_tk 7 f103r7Op7 (.bool true) hQ (y_val (fun _ => by kernel_rfl)) hS ?_
  refine d_fr (ls 29 255) (Fr [z0, z1, z2, z3, z4, .bool true, D b6, D b7, z8, .bool true, .bool true, z11, z12, z13, z14, z15, z16, z17, z18, z19, z20, z21, z22, z23, z24, z25, z26, z27, z28, z29, z30, z31, z32, z33, z34, z35, z36, z37, z38, .bool true, .bool true, .bool true, .bool true, .bool true, .bool true, .bool true, .bool true, z47, z48, z49, z50, z51, z52, z53, z54, z55, z56, z57, z58, z59, z60, z61, z62, z63, z64, z65, z66] []) ?_
  refine d_one 8 f103r7Op8 (ls 29 511) (fun K hK => ?_)
  refine k_call1 hK hO (fun _ hO => ⟨hO.row _ h6, hO.row _ h7, trivial⟩) 10 #[] (.agg e47) (r47 _ hO.low) ?_
  intro w1 hO
  refine d_one 9 f103r7Op9 (ls 29 1023) (fun K hK => ?_)
  refine k_call hK hO (fun _ hO => ⟨hO.row _ h6, hO.row _ h7, trivial⟩) 6 #[] (.agg e48) r48 ?_
  intro w2 hO
  refine d_one 10 f103r7Op10 (ls 29 2047) (fun K hK => ?_)
  refine k_call hK hO (fun _ hO => ⟨hO.row _ h6, hO.row _ h7, trivial⟩) 5 #[.agg e47, .agg e48] (.agg e49) r49 ?_
  intro w3 hO
  refine d_fr (ls 29 2047) (Fr [z0, z1, z2, z3, z4, .bool true, D b6, D b7, z8, .bool true, .bool true, z11, z12, z13, z14, z15, z16, z17, z18, z19, z20, z21, z22, z23, z24, z25, z26, z27, z28, z29, z30, z31, z32, z33, z34, z35, z36, z37, z38, .bool true, .bool true, .bool true, .bool true, .bool true, .bool true, .bool true, .bool true, A e47, A e48, A e49, z50, z51, z52, z53, z54, z55, z56, z57, z58, z59, z60, z61, z62, z63, z64, z65, z66] []) ?_
  refine d_one 11 f103r7Op11 (ls 29 4095) (fun K hK => ?_)
  refine k_call hK hO (fun _ hO => ⟨hO.row _ h6, hO.row _ h7, trivial⟩) 11 #[] (.agg e50) r50 ?_
  intro w4 hO
  refine d_one 12 f103r7Op12 (ls 29 8191) (fun K hK => ?_)
  refine k_call hK hO (fun _ hO => ⟨hO.row _ h6, hO.row _ h7, trivial⟩) 7 #[.agg e49, .agg e50] (.bool true) r51 ?_
  intro w5 hO
  have hS : Has [(b6, c6, 22), (b7, c7, 29)] w5 := ⟨hO.row _ h6, hO.row _ h7, trivial⟩
  refine d_tk 13 f103r7Op13 (.bool true) hQ (y_val (fun _ => by kernel_rfl)) hS ?_
  refine d_tk 14 f103r7Op14 (.bool true) hQ (y_val (fun _ => by kernel_rfl)) hS ?_
  refine d_tk 15 f103r7Op15 (.agg c6) hQ (y_l 22 (fun _ h => h.1) fc6_22 Tryd.underlying22) hS ?_
  refine d_fr (ls 29 65535) (Fr [z0, z1, z2, z3, z4, .bool true, D b6, D b7, z8, .bool true, .bool true, z11, z12, z13, z14, z15, z16, z17, z18, z19, z20, z21, z22, z23, z24, z25, z26, z27, z28, z29, z30, z31, z32, z33, z34, z35, z36, z37, z38, .bool true, .bool true, .bool true, .bool true, .bool true, .bool true, .bool true, .bool true, A e47, A e48, A e49, A e50, .bool true, .bool true, .bool true, A c6, z55, z56, z57, z58, z59, z60, z61, z62, z63, z64, z65, z66] []) ?_
  refine d_tk 16 f103r7Op16 (.agg c7) hQ (y_l 29 (fun _ h => h.2.1) fc7_29 Tryd.underlying29) hS ?_
  refine d_fr (ls 29 131071) (Fr [z0, z1, z2, z3, z4, .bool true, D b6, D b7, z8, .bool true, .bool true, z11, z12, z13, z14, z15, z16, z17, z18, z19, z20, z21, z22, z23, z24, z25, z26, z27, z28, z29, z30, z31, z32, z33, z34, z35, z36, z37, z38, .bool true, .bool true, .bool true, .bool true, .bool true, .bool true, .bool true, .bool true, A e47, A e48, A e49, A e50, .bool true, .bool true, .bool true, A c6, A c7, z56, z57, z58, z59, z60, z61, z62, z63, z64, z65, z66] []) ?_
  refine d_one 17 f103r7Op17 (ls 29 262143) (fun K hK => ?_)
  refine k_call hK hO (fun _ hO => ⟨hO.row _ h6, hO.row _ h7, trivial⟩) 5 #[.agg c6, .agg c7] (.agg e56) r56 ?_
  intro w6 hO
  refine d_one 18 f103r7Op18 (ls 29 524287) (fun K hK => ?_)
  refine k_call hK hO (fun _ hO => ⟨hO.row _ h6, hO.row _ h7, trivial⟩) 11 #[] (.agg e57) r57 ?_
  intro w7 hO
  refine d_one 19 f103r7Op19 (ls 29 1048575) (fun K hK => ?_)
  refine k_call hK hO (fun _ hO => ⟨hO.row _ h6, hO.row _ h7, trivial⟩) 7 #[.agg e56, .agg e57] (.bool true) r58 ?_
  intro w8 hO
  have hS : Has [(b6, c6, 22), (b7, c7, 29)] w8 := ⟨hO.row _ h6, hO.row _ h7, trivial⟩
  refine d_tk 20 f103r7Op20 (.bool true) hQ (y_val (fun _ => by kernel_rfl)) hS ?_
  refine d_tk 21 f103r7Op21 (.bool true) hQ (y_val (fun _ => by kernel_rfl)) hS ?_
  refine d_tk 22 f103r7Op22 (.agg e61) hQ (y_val (run_bd 22 _ rfl [(0, .int IntKind.u8 1)] (by kernel_rfl) e61 q61)) hS ?_
  refine d_fr (ls 29 8388607) (Fr [z0, z1, z2, z3, z4, .bool true, D b6, D b7, z8, .bool true, .bool true, z11, z12, z13, z14, z15, z16, z17, z18, z19, z20, z21, z22, z23, z24, z25, z26, z27, z28, z29, z30, z31, z32, z33, z34, z35, z36, z37, z38, .bool true, .bool true, .bool true, .bool true, .bool true, .bool true, .bool true, .bool true, A e47, A e48, A e49, A e50, .bool true, .bool true, .bool true, A c6, A c7, A e56, A e57, .bool true, .bool true, .bool true, A e61, z62, z63, z64, z65, z66] []) ?_
  refine d_tk 23 f103r7Op23 (.agg c7) hQ (y_l 29 (fun _ h => h.2.1) fc7_29 Tryd.underlying29) hS ?_
  refine d_tk 25 f103r7Op25 (.agg c7) hQ (y_l 29 (fun _ h => h.2.1) fc7_29 Tryd.underlying29) hS ?_
  refine d_fr (ls 29 50331647) (Fr [z0, z1, z2, z3, z4, .bool true, D b6, D b7, z8, .bool true, .bool true, z11, z12, z13, z14, z15, z16, z17, z18, z19, z20, z21, z22, z23, z24, z25, z26, z27, z28, z29, z30, z31, z32, z33, z34, z35, z36, z37, z38, .bool true, .bool true, .bool true, .bool true, .bool true, .bool true, .bool true, .bool true, A e47, A e48, A e49, A e50, .bool true, .bool true, .bool true, A c6, A c7, A e56, A e57, .bool true, .bool true, .bool true, A e61, A c7, z63, A c7, z65, z66] []) ?_
  refine d_one 24 f103r7Op24 (ls 29 67108863) (fun K hK => ?_)
  refine k_call hK hO (fun _ hO => ⟨hO.row _ h6, hO.row _ h7, trivial⟩) 5 #[.agg e61, .agg c7] (.agg e63) r63 ?_
  intro w9 hO
  refine d_one 26 f103r7Op26 (ls 29 134217727) (fun K hK => ?_)
  refine k_call hK hO (fun _ hO => ⟨hO.row _ h6, hO.row _ h7, trivial⟩) 7 #[.agg e63, .agg c7] (.bool true) r65 ?_
  intro w10 hO
  have hS : Has [(b6, c6, 22), (b7, c7, 29)] w10 := ⟨hO.row _ h6, hO.row _ h7, trivial⟩
  refine d_tk 27 f103r7Op27 (.bool true) hQ (y_val (fun _ => by kernel_rfl)) hS ?_
  refine d_tk 28 f103r7Op28 (.bool true) hQ (y_val (fun _ => by kernel_rfl)) hS ?_
  exact d_fr (ls 29 536870911) _ (wpAnyH_done (by kernel_rfl) (H  _ hO) _)
theorem qL_lt : S.qL < 2 ^ 256 := by unfold S.qL; omega
theorem nb_mod {n : Nat} : nb (byt (n % S.qL)) 32 = n % S.qL := nb_byt32 (Nat.lt_trans (Nat.mod_lt _ (by unfold S.qL; omega)) qL_lt)
theorem base_q (n : Nat) : mul7 base7 (n % S.qL) = mul7 base7 n := base_mod n
theorem nb_z : nb (fun _ => 0) 32 = 0 := by decide +kernel
theorem times_mul (f g : Nat → Nat) : mul7 (mul7 base7 (nb f 32)) (nb g 32) = mul7 base7 (nb (byt ((nb f 32 * nb g 32 + nb (fun _ => 0) 32) % S.qL)) 32) := by
  rw [nb_mod, base_q, nb_z, Nat.add_zero, mul7_mul ok_base]
theorem times_add (f g : Nat → Nat) : add7 (mul7 base7 (nb f 32)) (mul7 base7 (nb g 32)) = mul7 base7 (nb (byt ((nb f 32 * nb (cb [1]) 32 + nb g 32) % S.qL)) 32) := by
  rw [nb_mod, base_q, show nb (cb [1]) 32 = 1 by decide +kernel, Nat.mul_one, mul7_add ok_base]
theorem times_order : mul7 base7 (nb (byt S.qL) 32) = zero7 := by rw [nb_byt32 qL_lt]; exact base_order
set_option maxRecDepth 100000 in
set_option maxHeartbeats 4000000 in
theorem times_walk (f g : Nat → Nat) (w : World) (hG : S.Glob w) (hf : ∀ i, f i < 256) (hg : ∀ i, g i < 256) : Ret 3 #[.agg (vals .u8 32 f), .agg (vals .u8 32 g)] w (.bool true) := by
  have HG := hide hG
  clear hG
  go_enter Tryd.func3, Tryd.ntmps3
  have hO := Own.start w
  go_upto_region 0 with (fail)
  refine f103r0_r hO (fit_by _) (fit_by _) ?_
  intro n2 n3 w1 hO
  replace hO : Own w w1 [(n3, vals .u8 32 g, 22), (n2, vals .u8 32 f, 22)] := hO
  go_upto_region 1 with (fail)
  refine f103r1_r hO awake_c ?_
  intro w2 hO
  replace hO : Own w w2 [(n3, vals .u8 32 g, 22), (n2, vals .u8 32 f, 22)] := hO
  go_upto_region 2 with (fail)
  refine f103r2_r hO (e12 := vals .u8 32 (fun _ => 0)) (by kernel_rfl) (fit_by _) ?_
  intro n6 w3 hO
  replace hO : Own w w3 [(n6, vals .u8 32 (fun _ => 0), 22), (n3, vals .u8 32 g, 22), (n2, vals .u8 32 f, 22)] := hO
  go_upto_region 3 with (fail)
  refine f103r3_r (fun _ _ _ _ _ h => h) hO 2 rfl base_p (mul7_c _ hf ok_base) (fit_pt _ _) ?_
  intro n7 w4 hO
  replace hO : Own w w4 [(n7, pt (mul7 base7 (nb f 32)), 29), (n6, vals .u8 32 (fun _ => 0), 22), (n3, vals .u8 32 g, 22), (n2, vals .u8 32 f, 22)] := hO
  go_upto_region 4 with (fail)
  refine f103r4_r (fun _ _ _ _ _ h => h) hO 2 rfl base_p (mul7_c _ hg ok_base) (fit_pt _ _) ?_
  intro n8 w5 hO
  replace hO : Own w w5 [(n8, pt (mul7 base7 (nb g 32)), 29), (n7, pt (mul7 base7 (nb f 32)), 29), (n6, vals .u8 32 (fun _ => 0), 22), (n3, vals .u8 32 g, 22), (n2, vals .u8 32 f, 22)] := hO
  go_upto_region 5 with (fail)
  refine f103r5_r (fun _ _ _ _ _ h => h) hO 4 rfl 3 rfl 2 rfl 1 rfl (mul7_c _ hg (ok_mul ok_base _)) (fun w hb => S.muladd_any f g (fun _ => 0) w (HG.out.low hb) hf hg (fun _ => by omega)) base_p (mul7_c _ (byt_lt _) ok_base) (same_t (ok_mul (ok_mul ok_base _) _) (ok_mul ok_base _) (times_mul f g)) ?_
  intro w6 hO
  replace hO : Own w w6 [(n8, pt (mul7 base7 (nb g 32)), 29), (n7, pt (mul7 base7 (nb f 32)), 29), (n6, vals .u8 32 (fun _ => 0), 22), (n3, vals .u8 32 g, 22), (n2, vals .u8 32 f, 22)] := hO
  go_upto_region 6 with (fail)
  refine f103r6_r (fun _ _ _ _ _ h => h) hO 4 rfl 3 rfl 1 rfl 0 rfl (add7_c (ok_mul ok_base _) (ok_mul ok_base _)) (e33 := vals .u8 32 (cb [1])) (by kernel_rfl) (fun w hb => S.muladd_any f (cb [1]) g w (HG.out.low hb) hf (cb_lt _ (by decide +kernel)) hg) base_p (mul7_c _ (byt_lt _) ok_base) (same_t (ok_add (ok_mul ok_base _) (ok_mul ok_base _)) (ok_mul ok_base _) (times_add f g)) ?_
  intro w7 hO
  replace hO : Own w w7 [(n8, pt (mul7 base7 (nb g 32)), 29), (n7, pt (mul7 base7 (nb f 32)), 29), (n6, vals .u8 32 (fun _ => 0), 22), (n3, vals .u8 32 g, 22), (n2, vals .u8 32 f, 22)] := hO
  go_upto_region 7 with (fail)
  refine f103r7_r (fun _ _ _ _ _ h => h) hO 2 rfl 1 rfl (fun w hb => S.order_any w (HG.out.low hb)) base_p (mul7_c _ (byt_lt _) ok_base) zero_c (same_t (ok_mul ok_base _) ok_zero7 times_order) (mul7_c _ (fun _ => by omega) (ok_mul ok_base _)) zero_c (same_t (ok_mul (ok_mul ok_base _) _) ok_zero7 (by rw [nb_z]; exact mul7_zero _)) (e61 := vals .u8 32 (cb [1])) (by kernel_rfl) (mul7_c _ (cb_lt _ (by decide +kernel)) (ok_mul ok_base _)) (same_t (ok_mul (ok_mul ok_base _) _) (ok_mul ok_base _) (by rw [show nb (cb [1]) 32 = 1 by decide +kernel]; exact mul7_one (ok_mul ok_base _))) ?_
  intro w8 hO
  replace hO : Own w w8 [(n8, pt (mul7 base7 (nb g 32)), 29), (n7, pt (mul7 base7 (nb f 32)), 29), (n6, vals .u8 32 (fun _ => 0), 22), (n3, vals .u8 32 g, 22), (n2, vals .u8 32 f, 22)] := hO
  go_wp2_with fail
  refine bodyPost_ret (v := .bool true) (results_tmp Tryd.results3 _ _ _) rfl ⟨rfl, hO.low⟩
end Go.Proofs.YtalnkcijebdpbaaDoor

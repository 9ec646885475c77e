/- Walks: one, d, pointAt, Base, Places, Neg, sides, joined, reckoned, addendOf, whole. Numbers below p; no other condition. -/
import Derived.Test.YtbpmakegimgbpaaDoorPc
namespace Go.Proofs.YtbpmakegimgbpaaDoor
set_option maxRecDepth 100000
open F Go.RowKit

def f40r0Op0 : Oper := ⟨some 0, .alloc 39, 0, "edwards.go:172", #[], none⟩
def f40r0Ops : Array Oper := #[f40r0Op0]
set_option maxHeartbeats 2000000 in
theorem f40r0_r {Q : Exit → Act → World → Prop} {u w : World} {L : List Row} {z0 : Value} {zz : List Value} (hO : Own u w L) (H : ∀ (n0 : Nat) (w' : World), Own u w' ((n0, arr 4 (limb 0), 39) :: L) → Q .normal { tmps := List.toArray ((.pointer (some ⟨n0, 0, none⟩)) :: zz), defers := [] } w') :
    (Code.region 0 f40r0Ops false).wp Tryd.prog Q { tmps := List.toArray (z0 :: zz), defers := [] } w := by
  refine wp_region_list (show wpList _ f40r0Ops _ [f40r0Op0] _ _ from ?_)
  refine l_new hO (arr 4 (limb 0)) 39 (al27 rfl) (fit_fe _) ?_
  intro n0 w1 hO
  exact l_fr _ (wpList_nil (H n0 _ hO))
def f40r1Op0 : Oper := ⟨some 1, .build 22 #[(0, .const (.int .u8 1))], 22, "edwards.go:172", #[], none⟩
def f40r1Op1 : Oper := ⟨some 2, .call { callee := .value (.func 30), args := #[.tmp 1], argTypes := #[22] }, 39, "edwards.go:172", #[⟨0, .data⟩], none⟩
def f40r1Op2 : Oper := ⟨none, .store 39 (.tmp 0) (.tmp 2), 0, "edwards.go:172", #[⟨1, .data⟩, ⟨1, .chain⟩, ⟨0, .phase⟩, ⟨1, .phase⟩], none⟩
def f40r1Ops : Array Oper := #[f40r1Op0, f40r1Op1, f40r1Op2]
set_option maxHeartbeats 2000000 in
theorem f40r1_r {Q : Exit → Act → World → Prop} {u w : World} {L : List Row} {z1 z2 : Value} {b0 : Nat} {c0 : Array Value} {e1 e2 : Array Value} (hO : Own u w L) (i0 : Nat) (h0 : L[i0]? = some (b0, c0, 39)) (q1 : Tryd.prog.built 22 [(0, .int IntKind.u8 1)] = some e1) (r2 : ∀ w, Ret 30 #[.agg e1] w (.agg e2)) (fe2_27 : Fit 39 e2) (H : ∀ (w' : World), Own u w' ((L.set i0 (b0, e2, 39))) → Q .normal { tmps := List.toArray ((.pointer (some ⟨b0, 0, none⟩)) :: (.agg e1) :: (.agg e2) :: []), defers := [] } w') :
    (Code.region 1 f40r1Ops false).wp Tryd.prog Q { tmps := List.toArray ((.pointer (some ⟨b0, 0, none⟩)) :: z1 :: z2 :: []), defers := [] } w := by
  refine wp_region_list (show wpList _ f40r1Ops _ [f40r1Op0, f40r1Op1, f40r1Op2] _ _ from ?_)
  refine l_val (.agg e1) (run_bd 22 _ rfl [(0, .int IntKind.u8 1)] (by kernel_rfl) e1 q1 _) ?_
  refine l_call hO 30 #[.agg e1] (.agg e2) r2 ?_
  intro w1 hO
  refine l_st hO 39 i0 h0 e2 fe2_27 ?_
  intro w2 hO
  exact l_fr _ (wpList_nil (H  _ hO))
set_option maxHeartbeats 4000000 in
theorem one_c (w : World) : Ret 35 #[] w (.agg (arr 4 (limb 1))) := by
  go_enter Tryd.func35, Tryd.ntmps35
  have hO := Own.start w
  go_upto_region 0 with (fail)
  refine f40r0_r hO ?_
  intro n0 w1 hO
  replace hO : Own w w1 [(n0, arr 4 (limb 0), 39)] := hO
  go_upto_region 1 with (fail)
  refine f40r1_r hO 0 rfl (e1 := vals .u8 32 (cb [1])) (by kernel_rfl) (load_k _ 1 (cb_lt _ (by decide +kernel)) (by decide +kernel)) (fit_fe _) ?_
  intro w2 hO
  replace hO : Own w w2 [(n0, arr 4 (limb 1), 39)] := hO
  go_wp2_with fail
  refine bodyPost_ret (v := .agg (arr 4 (limb 1))) (results_cell_row Tryd.results35 _ _ n0 39 _ (0, 0) _ rfl (hO.row 0 rfl) Tryd.underlying39 rfl (fit_fe _).size) rfl ⟨rfl, hO.low⟩
def f43r0Op0 : Oper := ⟨some 0, .alloc 39, 0, "edwards.go:175", #[], none⟩
def f43r0Ops : Array Oper := #[f43r0Op0]
set_option maxHeartbeats 2000000 in
theorem f43r0_r {Q : Exit → Act → World → Prop} {u w : World} {L : List Row} {z0 : Value} {zz : List Value} (hO : Own u w L) (H : ∀ (n0 : Nat) (w' : World), Own u w' ((n0, arr 4 (limb 0), 39) :: L) → Q .normal { tmps := List.toArray ((.pointer (some ⟨n0, 0, none⟩)) :: zz), defers := [] } w') :
    (Code.region 0 f43r0Ops false).wp Tryd.prog Q { tmps := List.toArray (z0 :: zz), defers := [] } w := by
  refine wp_region_list (show wpList _ f43r0Ops _ [f43r0Op0] _ _ from ?_)
  refine l_new hO (arr 4 (limb 0)) 39 (al27 rfl) (fit_fe _) ?_
  intro n0 w1 hO
  exact l_fr _ (wpList_nil (H n0 _ hO))
def f43r1Op0 : Oper := ⟨some 1, .build 22 #[(0, .const (.int .u8 163)), (1, .const (.int .u8 120)), (2, .const (.int .u8 89)), (3, .const (.int .u8 19)), (4, .const (.int .u8 202)), (5, .const (.int .u8 77)), (6, .const (.int .u8 235)), (7, .const (.int .u8 117)), (8, .const (.int .u8 171)), (9, .const (.int .u8 216)), (10, .const (.int .u8 65)), (11, .const (.int .u8 65)), (12, .const (.int .u8 77)), (13, .const (.int .u8 10)), (14, .const (.int .u8 112)), (15, .const (.int .u8 0)), (16, .const (.int .u8 152)), (17, .const (.int .u8 232)), (18, .const (.int .u8 121)), (19, .const (.int .u8 119)), (20, .const (.int .u8 121)), (21, .const (.int .u8 64)), (22, .const (.int .u8 199)), (23, .const (.int .u8 140)), (24, .const (.int .u8 115)), (25, .const (.int .u8 254)), (26, .const (.int .u8 111)), (27, .const (.int .u8 43)), (28, .const (.int .u8 238)), (29, .const (.int .u8 108)), (30, .const (.int .u8 3)), (31, .const (.int .u8 82))], 22, "edwards.go:176", #[], none⟩
def f43r1Op1 : Oper := ⟨some 2, .call { callee := .value (.func 30), args := #[.tmp 1], argTypes := #[22] }, 39, "edwards.go:176", #[⟨0, .data⟩], none⟩
def f43r1Op2 : Oper := ⟨none, .store 39 (.tmp 0) (.tmp 2), 0, "edwards.go:176", #[⟨1, .data⟩, ⟨1, .chain⟩, ⟨0, .phase⟩, ⟨1, .phase⟩], none⟩
def f43r1Ops : Array Oper := #[f43r1Op0, f43r1Op1, f43r1Op2]
set_option maxHeartbeats 2000000 in
theorem f43r1_r {Q : Exit → Act → World → Prop} {u w : World} {L : List Row} {z1 z2 : Value} {b0 : Nat} {c0 : Array Value} {e1 e2 : Array Value} (hO : Own u w L) (i0 : Nat) (h0 : L[i0]? = some (b0, c0, 39)) (q1 : Tryd.prog.built 22 [(0, .int IntKind.u8 163), (1, .int IntKind.u8 120), (2, .int IntKind.u8 89), (3, .int IntKind.u8 19), (4, .int IntKind.u8 202), (5, .int IntKind.u8 77), (6, .int IntKind.u8 235), (7, .int IntKind.u8 117), (8, .int IntKind.u8 171), (9, .int IntKind.u8 216), (10, .int IntKind.u8 65), (11, .int IntKind.u8 65), (12, .int IntKind.u8 77), (13, .int IntKind.u8 10), (14, .int IntKind.u8 112), (15, .int IntKind.u8 0), (16, .int IntKind.u8 152), (17, .int IntKind.u8 232), (18, .int IntKind.u8 121), (19, .int IntKind.u8 119), (20, .int IntKind.u8 121), (21, .int IntKind.u8 64), (22, .int IntKind.u8 199), (23, .int IntKind.u8 140), (24, .int IntKind.u8 115), (25, .int IntKind.u8 254), (26, .int IntKind.u8 111), (27, .int IntKind.u8 43), (28, .int IntKind.u8 238), (29, .int IntKind.u8 108), (30, .int IntKind.u8 3), (31, .int IntKind.u8 82)] = some e1) (r2 : ∀ w, Ret 30 #[.agg e1] w (.agg e2)) (fe2_27 : Fit 39 e2) (H : ∀ (w' : World), Own u w' ((L.set i0 (b0, e2, 39))) → Q .normal { tmps := List.toArray ((.pointer (some ⟨b0, 0, none⟩)) :: (.agg e1) :: (.agg e2) :: []), defers := [] } w') :
    (Code.region 1 f43r1Ops false).wp Tryd.prog Q { tmps := List.toArray ((.pointer (some ⟨b0, 0, none⟩)) :: z1 :: z2 :: []), defers := [] } w := by
  refine wp_region_list (show wpList _ f43r1Ops _ [f43r1Op0, f43r1Op1, f43r1Op2] _ _ from ?_)
  refine l_val (.agg e1) (run_bd 22 _ rfl [(0, .int IntKind.u8 163), (1, .int IntKind.u8 120), (2, .int IntKind.u8 89), (3, .int IntKind.u8 19), (4, .int IntKind.u8 202), (5, .int IntKind.u8 77), (6, .int IntKind.u8 235), (7, .int IntKind.u8 117), (8, .int IntKind.u8 171), (9, .int IntKind.u8 216), (10, .int IntKind.u8 65), (11, .int IntKind.u8 65), (12, .int IntKind.u8 77), (13, .int IntKind.u8 10), (14, .int IntKind.u8 112), (15, .int IntKind.u8 0), (16, .int IntKind.u8 152), (17, .int IntKind.u8 232), (18, .int IntKind.u8 121), (19, .int IntKind.u8 119), (20, .int IntKind.u8 121), (21, .int IntKind.u8 64), (22, .int IntKind.u8 199), (23, .int IntKind.u8 140), (24, .int IntKind.u8 115), (25, .int IntKind.u8 254), (26, .int IntKind.u8 111), (27, .int IntKind.u8 43), (28, .int IntKind.u8 238), (29, .int IntKind.u8 108), (30, .int IntKind.u8 3), (31, .int IntKind.u8 82)] (by kernel_rfl) e1 q1 _) ?_
  refine l_call hO 30 #[.agg e1] (.agg e2) r2 ?_
  intro w1 hO
  refine l_st hO 39 i0 h0 e2 fe2_27 ?_
  intro w2 hO
  exact l_fr _ (wpList_nil (H  _ hO))
set_option maxHeartbeats 4000000 in
theorem d_c (w : World) : Ret 38 #[] w (.agg (arr 4 (limb d7N))) := by
  go_enter Tryd.func38, Tryd.ntmps38
  have hO := Own.start w
  go_upto_region 0 with (fail)
  refine f43r0_r hO ?_
  intro n0 w1 hO
  replace hO : Own w w1 [(n0, arr 4 (limb 0), 39)] := hO
  go_upto_region 1 with (fail)
  refine f43r1_r hO 0 rfl (e1 := vals .u8 32 (cb [163, 120, 89, 19, 202, 77, 235, 117, 171, 216, 65, 65, 77, 10, 112, 0, 152, 232, 121, 119, 121, 64, 199, 140, 115, 254, 111, 43, 238, 108, 3, 82])) (by kernel_rfl) (load_k _ d7N (cb_lt _ (by decide +kernel)) (by decide +kernel)) (fit_fe _) ?_
  intro w2 hO
  replace hO : Own w w2 [(n0, arr 4 (limb d7N), 39)] := hO
  go_wp2_with fail
  refine bodyPost_ret (v := .agg (arr 4 (limb d7N))) (results_cell_row Tryd.results38 _ _ n0 39 _ (0, 0) _ rfl (hO.row 0 rfl) Tryd.underlying39 rfl (fit_fe _).size) rfl ⟨rfl, hO.low⟩
def f44r0Op0 : Oper := ⟨some 2, .box 39 (.tmp 0), 0, "edwards.go:169", #[], none⟩
def f44r0Op1 : Oper := ⟨some 3, .box 39 (.tmp 1), 0, "edwards.go:169", #[], none⟩
def f44r0Op2 : Oper := ⟨some 4, .alloc 41, 0, "edwards.go:169", #[], none⟩
def f44r0Ops : Array Oper := #[f44r0Op0, f44r0Op1, f44r0Op2]
set_option maxHeartbeats 2000000 in
theorem f44r0_r {Q : Exit → Act → World → Prop} {u w : World} {L : List Row} {z2 z3 z4 : Value} {zz : List Value} {e0 e1 : Array Value} (hO : Own u w L) (fe0_27 : Fit 39 e0) (fe1_27 : Fit 39 e1) (H : ∀ (n2 : Nat) (n3 : Nat) (n4 : Nat) (w' : World), Own u w' ((n4, ps [0, 0], 41) :: (n3, e1, 39) :: (n2, e0, 39) :: L) → Q .normal { tmps := List.toArray ((.agg e0) :: (.agg e1) :: (.pointer (some ⟨n2, 0, none⟩)) :: (.pointer (some ⟨n3, 0, none⟩)) :: (.pointer (some ⟨n4, 0, none⟩)) :: zz), defers := [] } w') :
    (Code.region 0 f44r0Ops false).wp Tryd.prog Q { tmps := List.toArray ((.agg e0) :: (.agg e1) :: z2 :: z3 :: z4 :: zz), defers := [] } w := by
  refine wp_region_list (show wpList _ f44r0Ops _ [f44r0Op0, f44r0Op1, f44r0Op2] _ _ from ?_)
  refine l_new hO (e0) 39 (run_box 39 _ rfl _ (by kernel_rfl)) fe0_27 ?_
  intro n2 w1 hO
  refine l_new hO (e1) 39 (run_box 39 _ rfl _ (by kernel_rfl)) fe1_27 ?_
  intro n3 w2 hO
  refine l_new hO (ps [0, 0]) 41 (al29 rfl) (fit_pt _ _) ?_
  intro n4 w3 hO
  exact l_fr _ (wpList_nil (H n2 n3 n4 _ hO))
def f44r1Op0 : Oper := ⟨some 5, .load 39 (.tmp 2), 39, "edwards.go:169", #[], none⟩
def f44r1Op1 : Oper := ⟨some 6, .load 39 (.tmp 3), 39, "edwards.go:169", #[], none⟩
def f44r1Op2 : Oper := ⟨some 7, .call { callee := .value (.func 35), args := #[], argTypes := #[] }, 39, "edwards.go:169", #[], none⟩
def f44r1Op3 : Oper := ⟨some 8, .call { callee := .value (.func 34), args := #[.tmp 6, .tmp 7], argTypes := #[39, 39] }, 39, "edwards.go:169", #[⟨1, .data⟩, ⟨2, .data⟩, ⟨2, .chain⟩], none⟩
def f44r1Op4 : Oper := ⟨some 9, .build 41 #[(0, .tmp 5), (1, .tmp 8)], 41, "edwards.go:169", #[⟨0, .data⟩, ⟨3, .data⟩], none⟩
def f44r1Op5 : Oper := ⟨none, .store 41 (.tmp 4) (.tmp 9), 0, "edwards.go:169", #[⟨4, .data⟩, ⟨3, .chain⟩, ⟨0, .phase⟩, ⟨1, .phase⟩, ⟨2, .phase⟩, ⟨3, .phase⟩, ⟨4, .phase⟩], none⟩
def f44r1Ops : Array Oper := #[f44r1Op0, f44r1Op1, f44r1Op2, f44r1Op3, f44r1Op4, f44r1Op5]
set_option maxHeartbeats 2000000 in
theorem f44r1_r {Q : Exit → Act → World → Prop} {u w : World} {L : List Row} {z0 z1 z5 z6 z7 z8 z9 : Value} {b2 b3 b4 : Nat} {c2 c3 c4 : Array Value} {e7 e8 e9 : Array Value} (hQ : ∀ c a w n v, Q (.panic c) (a.put (some n) v) w → Q (.panic c) a w) (hO : Own u w L) (i2 : Nat) (h2 : L[i2]? = some (b2, c2, 39)) (i3 : Nat) (h3 : L[i3]? = some (b3, c3, 39)) (i4 : Nat) (h4 : L[i4]? = some (b4, c4, 41)) (e4_2 : i4 ≠ i2) (e4_3 : i4 ≠ i3) (r7 : ∀ w, Ret 35 #[] w (.agg e7)) (r8 : ∀ w, Ret 34 #[.agg c3, .agg e7] w (.agg e8)) (q9 : Tryd.prog.built 41 [(0, .agg c2), (1, .agg e8)] = some e9) (fe9_29 : Fit 41 e9) (H : ∀ (w' : World), Own u w' ((L.set i4 (b4, e9, 41))) → Q .normal { tmps := List.toArray (z0 :: z1 :: (.pointer (some ⟨b2, 0, none⟩)) :: (.pointer (some ⟨b3, 0, none⟩)) :: (.pointer (some ⟨b4, 0, none⟩)) :: (.agg c2) :: (.agg c3) :: (.agg e7) :: (.agg e8) :: (.agg e9) :: []), defers := [] } w') :
    (Code.region 1 f44r1Ops true).wp Tryd.prog Q { tmps := List.toArray (z0 :: z1 :: (.pointer (some ⟨b2, 0, none⟩)) :: (.pointer (some ⟨b3, 0, none⟩)) :: (.pointer (some ⟨b4, 0, none⟩)) :: z5 :: z6 :: z7 :: z8 :: z9 :: []), defers := [] } w := by
  have fc2_27 := hO.fits i2 h2
  have fc3_27 := hO.fits i3 h3
  refine wp_region_held_drew (S := Has [(b2, c2, 39), (b3, c3, 39)]) (by kernel_rfl) ⟨hO.drew.row _ h2, hO.drew.row _ h3, trivial⟩ (fun hS => ?_)
  replace hO := hO.drew
  refine d_tk 0 f44r1Op0 (.agg c2) hQ (y_l 39 (fun _ h => h.1) fc2_27 Tryd.underlying39) hS ?_
  refine d_tk 1 f44r1Op1 (.agg c3) hQ (y_l 39 (fun _ h => h.2.1) fc3_27 Tryd.underlying39) hS ?_
  refine d_fr (ls 6 3) (Fr [z0, z1, D b2, D b3, D b4, A c2, A c3, z7, z8, z9] []) ?_
  refine d_one 2 f44r1Op2 (ls 6 7) (fun K hK => ?_)
  refine k_call hK hO (fun _ hO => ⟨hO.row _ h2, hO.row _ h3, trivial⟩) 35 #[] (.agg e7) r7 ?_
  intro w1 hO
  refine d_one 3 f44r1Op3 (ls 6 15) (fun K hK => ?_)
  refine k_call hK hO (fun _ hO => ⟨hO.row _ h2, hO.row _ h3, trivial⟩) 34 #[.agg c3, .agg e7] (.agg e8) r8 ?_
  intro w2 hO
  have hS : Has [(b2, c2, 39), (b3, c3, 39)] _ := ⟨hO.row _ h2, hO.row _ h3, trivial⟩
  refine d_tk 4 f44r1Op4 (.agg e9) hQ (y_val (run_bd 41 _ rfl [(0, .agg c2), (1, .agg e8)] (by kernel_rfl) e9 q9)) hS ?_
  refine d_fr (ls 6 31) (Fr [z0, z1, D b2, D b3, D b4, A c2, A c3, A e7, A e8, A e9] []) ?_
  refine d_one 5 f44r1Op5 (ls 6 63) (fun K hK => ?_)
  refine k_st hK hO 41 i4 h4 e9 fe9_29 (fun _ hO => ⟨hO.row _ (get_set h2 e4_2), hO.row _ (get_set h3 e4_3), trivial⟩) ?_
  intro w3 hO
  exact wpAnyH_done (by kernel_rfl) (H  _ hO) _
set_option maxHeartbeats 4000000 in
theorem pointAt_c (x y : Nat) (hy : y < pP) (w : World) : Ret 40 #[.agg (arr 4 (limb x)), .agg (arr 4 (limb y))] w (.agg (ps [x, sm y 1])) := by
  go_enter Tryd.func40, Tryd.ntmps40
  have hO := Own.start w
  go_upto_region 0 with (fail)
  refine f44r0_r hO (fit_fe _) (fit_fe _) ?_
  intro n2 n3 n4 w1 hO
  replace hO : Own w w1 [(n4, ps [0, 0], 41), (n3, arr 4 (limb y), 39), (n2, arr 4 (limb x), 39)] := hO
  go_upto_region 1 with (fail)
  refine f44r1_r (fun _ _ _ _ _ h => h) hO 2 rfl 1 rfl 0 rfl (by decide) (by decide) one_c (sub_c _ _ hy (of_lt (by omega))) (bd_pt _ _) (fit_pt _ _) ?_
  intro w2 hO
  replace hO : Own w w2 [(n4, ps [x, sm y 1], 41), (n3, arr 4 (limb y), 39), (n2, arr 4 (limb x), 39)] := hO
  go_wp2_with fail
  refine bodyPost_ret (v := .agg (ps [x, sm y 1])) (results_cell_row Tryd.results40 _ _ n4 41 _ (0, 0) _ rfl (hO.row 0 rfl) Tryd.underlying41 rfl (fit_pt _ _).size) rfl ⟨rfl, hO.low⟩
def f27r0Op0 : Oper := ⟨some 0, .alloc 41, 0, "edwards.go:19", #[], none⟩
def f27r0Ops : Array Oper := #[f27r0Op0]
set_option maxHeartbeats 2000000 in
theorem f27r0_r {Q : Exit → Act → World → Prop} {u w : World} {L : List Row} {z0 : Value} {zz : List Value} (hO : Own u w L) (H : ∀ (n0 : Nat) (w' : World), Own u w' ((n0, ps [0, 0], 41) :: L) → Q .normal { tmps := List.toArray ((.pointer (some ⟨n0, 0, none⟩)) :: zz), defers := [] } w') :
    (Code.region 0 f27r0Ops false).wp Tryd.prog Q { tmps := List.toArray (z0 :: zz), defers := [] } w := by
  refine wp_region_list (show wpList _ f27r0Ops _ [f27r0Op0] _ _ from ?_)
  refine l_new hO (ps [0, 0]) 41 (al29 rfl) (fit_pt _ _) ?_
  intro n0 w1 hO
  exact l_fr _ (wpList_nil (H n0 _ hO))
def f27r1Op0 : Oper := ⟨some 3, .build 22 #[(0, .const (.int .u8 26)), (1, .const (.int .u8 213)), (2, .const (.int .u8 37)), (3, .const (.int .u8 143)), (4, .const (.int .u8 96)), (5, .const (.int .u8 45)), (6, .const (.int .u8 86)), (7, .const (.int .u8 201)), (8, .const (.int .u8 178)), (9, .const (.int .u8 167)), (10, .const (.int .u8 37)), (11, .const (.int .u8 149)), (12, .const (.int .u8 96)), (13, .const (.int .u8 199)), (14, .const (.int .u8 44)), (15, .const (.int .u8 105)), (16, .const (.int .u8 92)), (17, .const (.int .u8 220)), (18, .const (.int .u8 214)), (19, .const (.int .u8 253)), (20, .const (.int .u8 49)), (21, .const (.int .u8 226)), (22, .const (.int .u8 164)), (23, .const (.int .u8 192)), (24, .const (.int .u8 254)), (25, .const (.int .u8 83)), (26, .const (.int .u8 110)), (27, .const (.int .u8 205)), (28, .const (.int .u8 211)), (29, .const (.int .u8 54)), (30, .const (.int .u8 105)), (31, .const (.int .u8 33))], 22, "edwards.go:20", #[], none⟩
def f27r1Op1 : Oper := ⟨some 4, .call { callee := .value (.func 30), args := #[.tmp 3], argTypes := #[22] }, 39, "edwards.go:20", #[⟨0, .data⟩], none⟩
def f27r1Op2 : Oper := ⟨some 1, .alloc 39, 0, "edwards.go:20", #[], none⟩
def f27r1Op3 : Oper := ⟨none, .store 39 (.tmp 1) (.tmp 4), 0, "edwards.go:20", #[⟨2, .data⟩, ⟨1, .data⟩, ⟨1, .chain⟩, ⟨0, .phase⟩, ⟨1, .phase⟩, ⟨2, .phase⟩], none⟩
def f27r1Ops : Array Oper := #[f27r1Op0, f27r1Op1, f27r1Op2, f27r1Op3]
set_option maxHeartbeats 2000000 in
theorem f27r1_r {Q : Exit → Act → World → Prop} {u w : World} {L : List Row} {z0 z1 z2 z3 z4 : Value} {zz : List Value} {e3 e4 : Array Value} (hO : Own u w L) (q3 : Tryd.prog.built 22 [(0, .int IntKind.u8 26), (1, .int IntKind.u8 213), (2, .int IntKind.u8 37), (3, .int IntKind.u8 143), (4, .int IntKind.u8 96), (5, .int IntKind.u8 45), (6, .int IntKind.u8 86), (7, .int IntKind.u8 201), (8, .int IntKind.u8 178), (9, .int IntKind.u8 167), (10, .int IntKind.u8 37), (11, .int IntKind.u8 149), (12, .int IntKind.u8 96), (13, .int IntKind.u8 199), (14, .int IntKind.u8 44), (15, .int IntKind.u8 105), (16, .int IntKind.u8 92), (17, .int IntKind.u8 220), (18, .int IntKind.u8 214), (19, .int IntKind.u8 253), (20, .int IntKind.u8 49), (21, .int IntKind.u8 226), (22, .int IntKind.u8 164), (23, .int IntKind.u8 192), (24, .int IntKind.u8 254), (25, .int IntKind.u8 83), (26, .int IntKind.u8 110), (27, .int IntKind.u8 205), (28, .int IntKind.u8 211), (29, .int IntKind.u8 54), (30, .int IntKind.u8 105), (31, .int IntKind.u8 33)] = some e3) (r4 : ∀ w, Ret 30 #[.agg e3] w (.agg e4)) (fe4_27 : Fit 39 e4) (H : ∀ (n1 : Nat) (w' : World), Own u w' ((n1, e4, 39) :: L) → Q .normal { tmps := List.toArray (z0 :: (.pointer (some ⟨n1, 0, none⟩)) :: z2 :: (.agg e3) :: (.agg e4) :: zz), defers := [] } w') :
    (Code.region 1 f27r1Ops false).wp Tryd.prog Q { tmps := List.toArray (z0 :: z1 :: z2 :: z3 :: z4 :: zz), defers := [] } w := by
  refine wp_region_list (show wpList _ f27r1Ops _ [f27r1Op0, f27r1Op1, f27r1Op2, f27r1Op3] _ _ from ?_)
  refine l_val (.agg e3) (run_bd 22 _ rfl [(0, .int IntKind.u8 26), (1, .int IntKind.u8 213), (2, .int IntKind.u8 37), (3, .int IntKind.u8 143), (4, .int IntKind.u8 96), (5, .int IntKind.u8 45), (6, .int IntKind.u8 86), (7, .int IntKind.u8 201), (8, .int IntKind.u8 178), (9, .int IntKind.u8 167), (10, .int IntKind.u8 37), (11, .int IntKind.u8 149), (12, .int IntKind.u8 96), (13, .int IntKind.u8 199), (14, .int IntKind.u8 44), (15, .int IntKind.u8 105), (16, .int IntKind.u8 92), (17, .int IntKind.u8 220), (18, .int IntKind.u8 214), (19, .int IntKind.u8 253), (20, .int IntKind.u8 49), (21, .int IntKind.u8 226), (22, .int IntKind.u8 164), (23, .int IntKind.u8 192), (24, .int IntKind.u8 254), (25, .int IntKind.u8 83), (26, .int IntKind.u8 110), (27, .int IntKind.u8 205), (28, .int IntKind.u8 211), (29, .int IntKind.u8 54), (30, .int IntKind.u8 105), (31, .int IntKind.u8 33)] (by kernel_rfl) e3 q3 _) ?_
  refine l_call hO 30 #[.agg e3] (.agg e4) r4 ?_
  intro w1 hO
  refine l_new hO (arr 4 (limb 0)) 39 (al27 rfl) (fit_fe _) ?_
  intro n1 w2 hO
  refine l_fr (Fr [z0, D n1, z2, A e3, A e4] zz) ?_
  refine l_st hO 39 0 rfl e4 fe4_27 ?_
  intro w3 hO
  exact l_fr _ (wpList_nil (H n1 _ hO))
def f27r2Op0 : Oper := ⟨some 5, .build 22 #[(0, .const (.int .u8 88)), (1, .const (.int .u8 102)), (2, .const (.int .u8 102)), (3, .const (.int .u8 102)), (4, .const (.int .u8 102)), (5, .const (.int .u8 102)), (6, .const (.int .u8 102)), (7, .const (.int .u8 102)), (8, .const (.int .u8 102)), (9, .const (.int .u8 102)), (10, .const (.int .u8 102)), (11, .const (.int .u8 102)), (12, .const (.int .u8 102)), (13, .const (.int .u8 102)), (14, .const (.int .u8 102)), (15, .const (.int .u8 102)), (16, .const (.int .u8 102)), (17, .const (.int .u8 102)), (18, .const (.int .u8 102)), (19, .const (.int .u8 102)), (20, .const (.int .u8 102)), (21, .const (.int .u8 102)), (22, .const (.int .u8 102)), (23, .const (.int .u8 102)), (24, .const (.int .u8 102)), (25, .const (.int .u8 102)), (26, .const (.int .u8 102)), (27, .const (.int .u8 102)), (28, .const (.int .u8 102)), (29, .const (.int .u8 102)), (30, .const (.int .u8 102)), (31, .const (.int .u8 102))], 22, "edwards.go:24", #[], none⟩
def f27r2Op1 : Oper := ⟨some 6, .call { callee := .value (.func 30), args := #[.tmp 5], argTypes := #[22] }, 39, "edwards.go:24", #[⟨0, .data⟩], none⟩
def f27r2Op2 : Oper := ⟨some 2, .alloc 39, 0, "edwards.go:24", #[], none⟩
def f27r2Op3 : Oper := ⟨none, .store 39 (.tmp 2) (.tmp 6), 0, "edwards.go:24", #[⟨2, .data⟩, ⟨1, .data⟩, ⟨1, .chain⟩, ⟨0, .phase⟩, ⟨1, .phase⟩, ⟨2, .phase⟩], none⟩
def f27r2Ops : Array Oper := #[f27r2Op0, f27r2Op1, f27r2Op2, f27r2Op3]
set_option maxHeartbeats 2000000 in
theorem f27r2_r {Q : Exit → Act → World → Prop} {u w : World} {L : List Row} {z0 z1 z2 z3 z4 z5 z6 : Value} {zz : List Value} {e5 e6 : Array Value} (hO : Own u w L) (q5 : Tryd.prog.built 22 [(0, .int IntKind.u8 88), (1, .int IntKind.u8 102), (2, .int IntKind.u8 102), (3, .int IntKind.u8 102), (4, .int IntKind.u8 102), (5, .int IntKind.u8 102), (6, .int IntKind.u8 102), (7, .int IntKind.u8 102), (8, .int IntKind.u8 102), (9, .int IntKind.u8 102), (10, .int IntKind.u8 102), (11, .int IntKind.u8 102), (12, .int IntKind.u8 102), (13, .int IntKind.u8 102), (14, .int IntKind.u8 102), (15, .int IntKind.u8 102), (16, .int IntKind.u8 102), (17, .int IntKind.u8 102), (18, .int IntKind.u8 102), (19, .int IntKind.u8 102), (20, .int IntKind.u8 102), (21, .int IntKind.u8 102), (22, .int IntKind.u8 102), (23, .int IntKind.u8 102), (24, .int IntKind.u8 102), (25, .int IntKind.u8 102), (26, .int IntKind.u8 102), (27, .int IntKind.u8 102), (28, .int IntKind.u8 102), (29, .int IntKind.u8 102), (30, .int IntKind.u8 102), (31, .int IntKind.u8 102)] = some e5) (r6 : ∀ w, Ret 30 #[.agg e5] w (.agg e6)) (fe6_27 : Fit 39 e6) (H : ∀ (n2 : Nat) (w' : World), Own u w' ((n2, e6, 39) :: L) → Q .normal { tmps := List.toArray (z0 :: z1 :: (.pointer (some ⟨n2, 0, none⟩)) :: z3 :: z4 :: (.agg e5) :: (.agg e6) :: zz), defers := [] } w') :
    (Code.region 2 f27r2Ops false).wp Tryd.prog Q { tmps := List.toArray (z0 :: z1 :: z2 :: z3 :: z4 :: z5 :: z6 :: zz), defers := [] } w := by
  refine wp_region_list (show wpList _ f27r2Ops _ [f27r2Op0, f27r2Op1, f27r2Op2, f27r2Op3] _ _ from ?_)
  refine l_val (.agg e5) (run_bd 22 _ rfl [(0, .int IntKind.u8 88), (1, .int IntKind.u8 102), (2, .int IntKind.u8 102), (3, .int IntKind.u8 102), (4, .int IntKind.u8 102), (5, .int IntKind.u8 102), (6, .int IntKind.u8 102), (7, .int IntKind.u8 102), (8, .int IntKind.u8 102), (9, .int IntKind.u8 102), (10, .int IntKind.u8 102), (11, .int IntKind.u8 102), (12, .int IntKind.u8 102), (13, .int IntKind.u8 102), (14, .int IntKind.u8 102), (15, .int IntKind.u8 102), (16, .int IntKind.u8 102), (17, .int IntKind.u8 102), (18, .int IntKind.u8 102), (19, .int IntKind.u8 102), (20, .int IntKind.u8 102), (21, .int IntKind.u8 102), (22, .int IntKind.u8 102), (23, .int IntKind.u8 102), (24, .int IntKind.u8 102), (25, .int IntKind.u8 102), (26, .int IntKind.u8 102), (27, .int IntKind.u8 102), (28, .int IntKind.u8 102), (29, .int IntKind.u8 102), (30, .int IntKind.u8 102), (31, .int IntKind.u8 102)] (by kernel_rfl) e5 q5 _) ?_
  refine l_call hO 30 #[.agg e5] (.agg e6) r6 ?_
  intro w1 hO
  refine l_new hO (arr 4 (limb 0)) 39 (al27 rfl) (fit_fe _) ?_
  intro n2 w2 hO
  refine l_fr (Fr [z0, z1, D n2, z3, z4, A e5, A e6] zz) ?_
  refine l_st hO 39 0 rfl e6 fe6_27 ?_
  intro w3 hO
  exact l_fr _ (wpList_nil (H n2 _ hO))
def f27r3Op0 : Oper := ⟨some 7, .load 39 (.tmp 1), 39, "edwards.go:28", #[], none⟩
def f27r3Op1 : Oper := ⟨some 8, .load 39 (.tmp 2), 39, "edwards.go:28", #[], none⟩
def f27r3Op2 : Oper := ⟨some 9, .call { callee := .value (.func 40), args := #[.tmp 7, .tmp 8], argTypes := #[39, 39] }, 41, "edwards.go:28", #[⟨0, .data⟩, ⟨1, .data⟩], none⟩
def f27r3Op3 : Oper := ⟨none, .store 41 (.tmp 0) (.tmp 9), 0, "edwards.go:28", #[⟨2, .data⟩, ⟨2, .chain⟩, ⟨0, .phase⟩, ⟨1, .phase⟩, ⟨2, .phase⟩], none⟩
def f27r3Ops : Array Oper := #[f27r3Op0, f27r3Op1, f27r3Op2, f27r3Op3]
set_option maxHeartbeats 2000000 in
theorem f27r3_r {Q : Exit → Act → World → Prop} {u w : World} {L : List Row} {z3 z4 z5 z6 z7 z8 z9 : Value} {b0 b1 b2 : Nat} {c0 c1 c2 : Array Value} {e9 : Array Value} (hO : Own u w L) (i0 : Nat) (h0 : L[i0]? = some (b0, c0, 41)) (i1 : Nat) (h1 : L[i1]? = some (b1, c1, 39)) (i2 : Nat) (h2 : L[i2]? = some (b2, c2, 39)) (r9 : ∀ w, Ret 40 #[.agg c1, .agg c2] w (.agg e9)) (fe9_29 : Fit 41 e9) (H : ∀ (w' : World), Own u w' ((L.set i0 (b0, e9, 41))) → Q .normal { tmps := List.toArray ((.pointer (some ⟨b0, 0, none⟩)) :: (.pointer (some ⟨b1, 0, none⟩)) :: (.pointer (some ⟨b2, 0, none⟩)) :: z3 :: z4 :: z5 :: z6 :: (.agg c1) :: (.agg c2) :: (.agg e9) :: []), defers := [] } w') :
    (Code.region 3 f27r3Ops false).wp Tryd.prog Q { tmps := List.toArray ((.pointer (some ⟨b0, 0, none⟩)) :: (.pointer (some ⟨b1, 0, none⟩)) :: (.pointer (some ⟨b2, 0, none⟩)) :: z3 :: z4 :: z5 :: z6 :: z7 :: z8 :: z9 :: []), defers := [] } w := by
  refine wp_region_list (show wpList _ f27r3Ops _ [f27r3Op0, f27r3Op1, f27r3Op2, f27r3Op3] _ _ from ?_)
  refine l_ld hO 39 i1 h1 Tryd.underlying39 ?_
  refine l_ld hO 39 i2 h2 Tryd.underlying39 ?_
  refine l_call hO 40 #[.agg c1, .agg c2] (.agg e9) r9 ?_
  intro w1 hO
  refine l_fr (Fr [D b0, D b1, D b2, z3, z4, z5, z6, A c1, A c2, A e9] []) ?_
  refine l_st hO 41 i0 h0 e9 fe9_29 ?_
  intro w2 hO
  exact l_fr _ (wpList_nil (H  _ hO))
set_option maxHeartbeats 4000000 in
theorem base_c (w : World) : Ret 22 #[] w (.agg (ps [x7N, sm yN 1])) := by
  go_enter Tryd.func22, Tryd.ntmps22
  have hO := Own.start w
  go_upto_region 0 with (fail)
  refine f27r0_r hO ?_
  intro n0 w1 hO
  replace hO : Own w w1 [(n0, ps [0, 0], 41)] := hO
  go_upto_region 1 with (fail)
  refine f27r1_r hO (e3 := vals .u8 32 (cb [26, 213, 37, 143, 96, 45, 86, 201, 178, 167, 37, 149, 96, 199, 44, 105, 92, 220, 214, 253, 49, 226, 164, 192, 254, 83, 110, 205, 211, 54, 105, 33])) (by kernel_rfl) (load_k _ x7N (cb_lt _ (by decide +kernel)) (by decide +kernel)) (fit_fe _) ?_
  intro n1 w2 hO
  replace hO : Own w w2 [(n1, arr 4 (limb x7N), 39), (n0, ps [0, 0], 41)] := hO
  go_upto_region 2 with (fail)
  refine f27r2_r hO (e5 := vals .u8 32 (cb [88, 102, 102, 102, 102, 102, 102, 102, 102, 102, 102, 102, 102, 102, 102, 102, 102, 102, 102, 102, 102, 102, 102, 102, 102, 102, 102, 102, 102, 102, 102, 102])) (by kernel_rfl) (load_k _ yN (cb_lt _ (by decide +kernel)) (by decide +kernel)) (fit_fe _) ?_
  intro n2 w3 hO
  replace hO : Own w w3 [(n2, arr 4 (limb yN), 39), (n1, arr 4 (limb x7N), 39), (n0, ps [0, 0], 41)] := hO
  go_upto_region 3 with (fail)
  refine f27r3_r hO 2 rfl 1 rfl 0 rfl (pointAt_c _ _ ok_base.y) (fit_pt _ _) ?_
  intro w4 hO
  replace hO : Own w w4 [(n2, arr 4 (limb yN), 39), (n1, arr 4 (limb x7N), 39), (n0, ps [x7N, sm yN 1], 41)] := hO
  go_wp2_with fail
  refine bodyPost_ret (v := .agg (ps [x7N, sm yN 1])) (results_cell_row Tryd.results22 _ _ n0 41 _ (0, 0) _ rfl (hO.row 2 rfl) Tryd.underlying41 rfl (fit_pt _ _).size) rfl ⟨rfl, hO.low⟩
def f14r0Op0 : Oper := ⟨some 1, .box 41 (.tmp 0), 0, "edwards.go:60", #[], none⟩
def f14r0Op1 : Oper := ⟨some 2, .alloc 39, 0, "edwards.go:60", #[], none⟩
def f14r0Op2 : Oper := ⟨some 3, .alloc 39, 0, "edwards.go:60", #[], none⟩
def f14r0Ops : Array Oper := #[f14r0Op0, f14r0Op1, f14r0Op2]
set_option maxHeartbeats 2000000 in
theorem f14r0_r {Q : Exit → Act → World → Prop} {u w : World} {L : List Row} {z1 z2 z3 : Value} {zz : List Value} {e0 : Array Value} (hO : Own u w L) (fe0_29 : Fit 41 e0) (H : ∀ (n1 : Nat) (n2 : Nat) (n3 : Nat) (w' : World), Own u w' ((n3, arr 4 (limb 0), 39) :: (n2, arr 4 (limb 0), 39) :: (n1, e0, 41) :: L) → Q .normal { tmps := List.toArray ((.agg e0) :: (.pointer (some ⟨n1, 0, none⟩)) :: (.pointer (some ⟨n2, 0, none⟩)) :: (.pointer (some ⟨n3, 0, none⟩)) :: zz), defers := [] } w') :
    (Code.region 0 f14r0Ops false).wp Tryd.prog Q { tmps := List.toArray ((.agg e0) :: z1 :: z2 :: z3 :: zz), defers := [] } w := by
  refine wp_region_list (show wpList _ f14r0Ops _ [f14r0Op0, f14r0Op1, f14r0Op2] _ _ from ?_)
  refine l_new hO (e0) 41 (run_box 41 _ rfl _ (by kernel_rfl)) fe0_29 ?_
  intro n1 w1 hO
  refine l_new hO (arr 4 (limb 0)) 39 (al27 rfl) (fit_fe _) ?_
  intro n2 w2 hO
  refine l_new hO (arr 4 (limb 0)) 39 (al27 rfl) (fit_fe _) ?_
  intro n3 w3 hO
  exact l_fr _ (wpList_nil (H n1 n2 n3 _ hO))
def f14r1Op0 : Oper := ⟨some 4, .fieldAddr 41 (.tmp 1) 0, 0, "edwards.go:60", #[], none⟩
def f14r1Op1 : Oper := ⟨some 5, .load 39 (.tmp 4), 39, "edwards.go:60", #[⟨0, .data⟩], none⟩
def f14r1Op2 : Oper := ⟨some 6, .fieldAddr 41 (.tmp 1) 1, 0, "edwards.go:60", #[], none⟩
def f14r1Op3 : Oper := ⟨some 7, .load 39 (.tmp 6), 39, "edwards.go:60", #[⟨2, .data⟩], none⟩
def f14r1Op4 : Oper := ⟨some 8, .call { callee := .value (.func 35), args := #[], argTypes := #[] }, 39, "edwards.go:60", #[], none⟩
def f14r1Op5 : Oper := ⟨some 9, .call { callee := .value (.func 36), args := #[.tmp 7, .tmp 8], argTypes := #[39, 39] }, 39, "edwards.go:60", #[⟨3, .data⟩, ⟨4, .data⟩, ⟨4, .chain⟩], none⟩
def f14r1Op6 : Oper := ⟨none, .store 39 (.tmp 2) (.tmp 5), 0, "edwards.go:60", #[⟨1, .data⟩, ⟨5, .chain⟩, ⟨0, .phase⟩, ⟨1, .phase⟩, ⟨2, .textOnly .lateStores⟩, ⟨3, .textOnly .lateStores⟩, ⟨4, .textOnly .lateStoresUnsure⟩, ⟨5, .textOnly .lateStoresUnsure⟩], none⟩
def f14r1Op7 : Oper := ⟨none, .store 39 (.tmp 3) (.tmp 9), 0, "edwards.go:60", #[⟨5, .data⟩, ⟨6, .chain⟩, ⟨0, .phase⟩, ⟨1, .phase⟩, ⟨2, .phase⟩, ⟨3, .phase⟩, ⟨4, .phase⟩, ⟨5, .phase⟩, ⟨6, .phase⟩], none⟩
def f14r1Ops : Array Oper := #[f14r1Op0, f14r1Op1, f14r1Op2, f14r1Op3, f14r1Op4, f14r1Op5, f14r1Op6, f14r1Op7]
set_option maxHeartbeats 2000000 in
theorem f14r1_r {Q : Exit → Act → World → Prop} {u w : World} {L : List Row} {z0 z4 z5 z6 z7 z8 z9 : Value} {b1 b2 b3 : Nat} {c1 c2 c3 : Array Value} {e5 e7 e8 e9 : Array Value} (hQ : ∀ c a w n v, Q (.panic c) (a.put (some n) v) w → Q (.panic c) a w) (hO : Own u w L) (i1 : Nat) (h1 : L[i1]? = some (b1, c1, 41)) (i2 : Nat) (h2 : L[i2]? = some (b2, c2, 39)) (i3 : Nat) (h3 : L[i3]? = some (b3, c3, 39)) (e2_1 : i2 ≠ i1) (e2_3 : i2 ≠ i3) (e3_1 : i3 ≠ i1) (q5 : Part c1 0 39 e5) (q7 : Part c1 4 39 e7) (r8 : ∀ w, Ret 35 #[] w (.agg e8)) (r9 : ∀ w, Ret 36 #[.agg e7, .agg e8] w (.agg e9)) (fe5_27 : Fit 39 e5) (fe9_27 : Fit 39 e9) (H : ∀ (w' : World), Own u w' (((L.set i2 (b2, e5, 39)).set i3 (b3, e9, 39))) → Q .normal { tmps := List.toArray (z0 :: (.pointer (some ⟨b1, 0, none⟩)) :: (.pointer (some ⟨b2, 0, none⟩)) :: (.pointer (some ⟨b3, 0, none⟩)) :: (.pointer (some ⟨b1, 0, none⟩)) :: (.agg e5) :: (.pointer (some ⟨b1, 4, none⟩)) :: (.agg e7) :: (.agg e8) :: (.agg e9) :: []), defers := [] } w') :
    (Code.region 1 f14r1Ops true).wp Tryd.prog Q { tmps := List.toArray (z0 :: (.pointer (some ⟨b1, 0, none⟩)) :: (.pointer (some ⟨b2, 0, none⟩)) :: (.pointer (some ⟨b3, 0, none⟩)) :: z4 :: z5 :: z6 :: z7 :: z8 :: z9 :: []), defers := [] } w := by
  refine wp_region_held_drew (S := Has [(b1, c1, 41)]) (by kernel_rfl) ⟨hO.drew.row _ h1, trivial⟩ (fun hS => ?_)
  replace hO := hO.drew
  refine d_tk 0 f14r1Op0 (.pointer (some ⟨b1, 0, none⟩)) hQ (y_val (fun _ => by kernel_rfl)) hS ?_
  refine d_tk 1 f14r1Op1 (.agg e5) hQ (y_p 39 (fun _ h => h.1) q5 Tryd.underlying39) hS ?_
  refine d_tk 2 f14r1Op2 (.pointer (some ⟨b1, 4, none⟩)) hQ (y_val (fun _ => by kernel_rfl)) hS ?_
  refine d_fr (ls 8 7) (Fr [z0, D b1, D b2, D b3, .pointer (some ⟨b1, 0, none⟩), A e5, .pointer (some ⟨b1, 4, none⟩), z7, z8, z9] []) ?_
  refine d_tk 3 f14r1Op3 (.agg e7) hQ (y_p 39 (fun _ h => h.1) q7 Tryd.underlying39) hS ?_
  refine d_fr (ls 8 15) (Fr [z0, D b1, D b2, D b3, .pointer (some ⟨b1, 0, none⟩), A e5, .pointer (some ⟨b1, 4, none⟩), A e7, z8, z9] []) ?_
  refine d_one 4 f14r1Op4 (ls 8 31) (fun K hK => ?_)
  refine k_call hK hO (fun _ hO => ⟨hO.row _ h1, trivial⟩) 35 #[] (.agg e8) r8 ?_
  intro w1 hO
  refine d_one 5 f14r1Op5 (ls 8 63) (fun K hK => ?_)
  refine k_call hK hO (fun _ hO => ⟨hO.row _ h1, trivial⟩) 36 #[.agg e7, .agg e8] (.agg e9) r9 ?_
  intro w2 hO
  refine d_one 6 f14r1Op6 (ls 8 127) (fun K hK => ?_)
  refine k_st hK hO 39 i2 h2 e5 fe5_27 (fun _ hO => ⟨hO.row _ (get_set h1 e2_1), trivial⟩) ?_
  intro w3 hO
  replace hO : Own u w3 ((L.set i2 (b2, e5, 39))) := hO
  refine d_one 7 f14r1Op7 (ls 8 255) (fun K hK => ?_)
  refine k_st hK hO 39 i3 (get_set h3 e2_3) e9 fe9_27 (fun _ hO => ⟨hO.row _ (get_set (get_set h1 e2_1) e3_1), trivial⟩) ?_
  intro w4 hO
  exact d_fr (ls 8 255) _ (wpAnyH_done (by kernel_rfl) (H  _ hO) _)
set_option maxHeartbeats 4000000 in
theorem places_c (x y : Nat) (hy : y < pP) (w : World) : Ret 66 #[.agg (ps [x, y])] w (.tuple #[.agg (arr 4 (limb x)), .agg (arr 4 (limb (am y 1)))]) := by
  go_enter Tryd.func66, Tryd.ntmps66
  have hO := Own.start w
  go_upto_region 0 with (fail)
  refine f14r0_r hO (fit_pt _ _) ?_
  intro n1 n2 n3 w1 hO
  replace hO : Own w w1 [(n3, arr 4 (limb 0), 39), (n2, arr 4 (limb 0), 39), (n1, ps [x, y], 41)] := hO
  go_upto_region 1 with (fail)
  refine f14r1_r (fun _ _ _ _ _ h => h) hO 2 rfl 1 rfl 0 rfl (by decide) (by decide) (by decide) (part_pt0 _ _) (part_pt1 _ _) one_c (add_c _ _ hy (of_lt (by omega))) (fit_fe _) (fit_fe _) ?_
  intro w2 hO
  replace hO : Own w w2 [(n3, arr 4 (limb (am y 1)), 39), (n2, arr 4 (limb x), 39), (n1, ps [x, y], 41)] := hO
  go_wp2_with fail
  refine bodyPost_ret (v := .tuple #[.agg (arr 4 (limb x)), .agg (arr 4 (limb (am y 1)))]) (results_two Tryd.results66 _ _ n2 n3 39 39 _ _ (0, 0) (0, 0) _ _ rfl (hO.row 1 rfl) Tryd.underlying39 rfl (fit_fe _).size rfl (hO.row 0 rfl) Tryd.underlying39 rfl (fit_fe _).size) rfl ⟨rfl, hO.low⟩
def f25r0Op0 : Oper := ⟨some 1, .box 41 (.tmp 0), 0, "edwards.go:66", #[], none⟩
def f25r0Op1 : Oper := ⟨some 2, .alloc 41, 0, "edwards.go:66", #[], none⟩
def f25r0Ops : Array Oper := #[f25r0Op0, f25r0Op1]
set_option maxHeartbeats 2000000 in
theorem f25r0_r {Q : Exit → Act → World → Prop} {u w : World} {L : List Row} {z1 z2 : Value} {zz : List Value} {e0 : Array Value} (hO : Own u w L) (fe0_29 : Fit 41 e0) (H : ∀ (n1 : Nat) (n2 : Nat) (w' : World), Own u w' ((n2, ps [0, 0], 41) :: (n1, e0, 41) :: L) → Q .normal { tmps := List.toArray ((.agg e0) :: (.pointer (some ⟨n1, 0, none⟩)) :: (.pointer (some ⟨n2, 0, none⟩)) :: zz), defers := [] } w') :
    (Code.region 0 f25r0Ops false).wp Tryd.prog Q { tmps := List.toArray ((.agg e0) :: z1 :: z2 :: zz), defers := [] } w := by
  refine wp_region_list (show wpList _ f25r0Ops _ [f25r0Op0, f25r0Op1] _ _ from ?_)
  refine l_new hO (e0) 41 (run_box 41 _ rfl _ (by kernel_rfl)) fe0_29 ?_
  intro n1 w1 hO
  refine l_new hO (ps [0, 0]) 41 (al29 rfl) (fit_pt _ _) ?_
  intro n2 w2 hO
  exact l_fr _ (wpList_nil (H n1 n2 _ hO))
def f25r1Op0 : Oper := ⟨some 3, .fieldAddr 41 (.tmp 1) 0, 0, "edwards.go:66", #[], none⟩
def f25r1Op1 : Oper := ⟨some 4, .load 39 (.tmp 3), 39, "edwards.go:66", #[⟨0, .data⟩], none⟩
def f25r1Op2 : Oper := ⟨some 5, .call { callee := .value (.func 42), args := #[.tmp 4], argTypes := #[39] }, 39, "edwards.go:66", #[⟨1, .data⟩], none⟩
def f25r1Op3 : Oper := ⟨some 6, .fieldAddr 41 (.tmp 1) 1, 0, "edwards.go:66", #[], none⟩
def f25r1Op4 : Oper := ⟨some 7, .load 39 (.tmp 6), 39, "edwards.go:66", #[⟨3, .data⟩], none⟩
def f25r1Op5 : Oper := ⟨some 8, .build 41 #[(0, .tmp 5), (1, .tmp 7)], 41, "edwards.go:66", #[⟨2, .data⟩, ⟨4, .data⟩], none⟩
def f25r1Op6 : Oper := ⟨none, .store 41 (.tmp 2) (.tmp 8), 0, "edwards.go:66", #[⟨5, .data⟩, ⟨2, .chain⟩, ⟨0, .phase⟩, ⟨1, .phase⟩, ⟨2, .phase⟩, ⟨3, .phase⟩, ⟨4, .phase⟩, ⟨5, .phase⟩], none⟩
def f25r1Ops : Array Oper := #[f25r1Op0, f25r1Op1, f25r1Op2, f25r1Op3, f25r1Op4, f25r1Op5, f25r1Op6]
set_option maxHeartbeats 2000000 in
theorem f25r1_r {Q : Exit → Act → World → Prop} {u w : World} {L : List Row} {z0 z3 z4 z5 z6 z7 z8 : Value} {b1 b2 : Nat} {c1 c2 : Array Value} {e4 e5 e7 e8 : Array Value} (hQ : ∀ c a w n v, Q (.panic c) (a.put (some n) v) w → Q (.panic c) a w) (hO : Own u w L) (i1 : Nat) (h1 : L[i1]? = some (b1, c1, 41)) (i2 : Nat) (h2 : L[i2]? = some (b2, c2, 41)) (e2_1 : i2 ≠ i1) (q4 : Part c1 0 39 e4) (r5 : ∀ w, Ret 42 #[.agg e4] w (.agg e5)) (q7 : Part c1 4 39 e7) (q8 : Tryd.prog.built 41 [(0, .agg e5), (1, .agg e7)] = some e8) (fe8_29 : Fit 41 e8) (H : ∀ (w' : World), Own u w' ((L.set i2 (b2, e8, 41))) → Q .normal { tmps := List.toArray (z0 :: (.pointer (some ⟨b1, 0, none⟩)) :: (.pointer (some ⟨b2, 0, none⟩)) :: (.pointer (some ⟨b1, 0, none⟩)) :: (.agg e4) :: (.agg e5) :: (.pointer (some ⟨b1, 4, none⟩)) :: (.agg e7) :: (.agg e8) :: []), defers := [] } w') :
    (Code.region 1 f25r1Ops true).wp Tryd.prog Q { tmps := List.toArray (z0 :: (.pointer (some ⟨b1, 0, none⟩)) :: (.pointer (some ⟨b2, 0, none⟩)) :: z3 :: z4 :: z5 :: z6 :: z7 :: z8 :: []), defers := [] } w := by
  refine wp_region_held_drew (S := Has [(b1, c1, 41)]) (by kernel_rfl) ⟨hO.drew.row _ h1, trivial⟩ (fun hS => ?_)
  replace hO := hO.drew
  refine d_tk 0 f25r1Op0 (.pointer (some ⟨b1, 0, none⟩)) hQ (y_val (fun _ => by kernel_rfl)) hS ?_
  refine d_tk 1 f25r1Op1 (.agg e4) hQ (y_p 39 (fun _ h => h.1) q4 Tryd.underlying39) hS ?_
  refine d_tk 3 f25r1Op3 (.pointer (some ⟨b1, 4, none⟩)) hQ (y_val (fun _ => by kernel_rfl)) hS ?_
  refine d_fr (ls 7 11) (Fr [z0, D b1, D b2, .pointer (some ⟨b1, 0, none⟩), A e4, z5, .pointer (some ⟨b1, 4, none⟩), z7, z8] []) ?_
  refine d_tk 4 f25r1Op4 (.agg e7) hQ (y_p 39 (fun _ h => h.1) q7 Tryd.underlying39) hS ?_
  refine d_fr (ls 7 27) (Fr [z0, D b1, D b2, .pointer (some ⟨b1, 0, none⟩), A e4, z5, .pointer (some ⟨b1, 4, none⟩), A e7, z8] []) ?_
  refine d_one 2 f25r1Op2 (ls 7 31) (fun K hK => ?_)
  refine k_call hK hO (fun _ hO => ⟨hO.row _ h1, trivial⟩) 42 #[.agg e4] (.agg e5) r5 ?_
  intro w1 hO
  have hS : Has [(b1, c1, 41)] _ := ⟨hO.row _ h1, trivial⟩
  refine d_tk 5 f25r1Op5 (.agg e8) hQ (y_val (run_bd 41 _ rfl [(0, .agg e5), (1, .agg e7)] (by kernel_rfl) e8 q8)) hS ?_
  refine d_one 6 f25r1Op6 (ls 7 127) (fun K hK => ?_)
  refine k_st hK hO 41 i2 h2 e8 fe8_29 (fun _ hO => ⟨hO.row _ (get_set h1 e2_1), trivial⟩) ?_
  intro w2 hO
  exact d_fr (ls 7 127) _ (wpAnyH_done (by kernel_rfl) (H  _ hO) _)
set_option maxHeartbeats 4000000 in
theorem neg7_c (x y : Nat) (hx : x < pP) (w : World) : Ret 23 #[.agg (ps [x, y])] w (.agg (ps [ng x, y])) := by
  go_enter Tryd.func23, Tryd.ntmps23
  have hO := Own.start w
  go_upto_region 0 with (fail)
  refine f25r0_r hO (fit_pt _ _) ?_
  intro n1 n2 w1 hO
  replace hO : Own w w1 [(n2, ps [0, 0], 41), (n1, ps [x, y], 41)] := hO
  go_upto_region 1 with (fail)
  refine f25r1_r (fun _ _ _ _ _ h => h) hO 1 rfl 0 rfl (by decide) (part_pt0 _ _) (neg_c _ hx) (part_pt1 _ _) (bd_pt _ _) (fit_pt _ _) ?_
  intro w2 hO
  replace hO : Own w w2 [(n2, ps [ng x, y], 41), (n1, ps [x, y], 41)] := hO
  go_wp2_with fail
  refine bodyPost_ret (v := .agg (ps [ng x, y])) (results_cell_row Tryd.results23 _ _ n2 41 _ (0, 0) _ rfl (hO.row 0 rfl) Tryd.underlying41 rfl (fit_pt _ _).size) rfl ⟨rfl, hO.low⟩
def f76r0Op0 : Oper := ⟨some 1, .box 107 (.tmp 0), 0, "edwards.go:99", #[], none⟩
def f76r0Op1 : Oper := ⟨some 2, .alloc 39, 0, "edwards.go:99", #[], none⟩
def f76r0Op2 : Oper := ⟨some 3, .alloc 39, 0, "edwards.go:99", #[], none⟩
def f76r0Ops : Array Oper := #[f76r0Op0, f76r0Op1, f76r0Op2]
set_option maxHeartbeats 2000000 in
theorem f76r0_r {Q : Exit → Act → World → Prop} {u w : World} {L : List Row} {z1 z2 z3 : Value} {zz : List Value} {e0 : Array Value} (hO : Own u w L) (fe0_81 : Fit 107 e0) (H : ∀ (n1 : Nat) (n2 : Nat) (n3 : Nat) (w' : World), Own u w' ((n3, arr 4 (limb 0), 39) :: (n2, arr 4 (limb 0), 39) :: (n1, e0, 107) :: L) → Q .normal { tmps := List.toArray ((.agg e0) :: (.pointer (some ⟨n1, 0, none⟩)) :: (.pointer (some ⟨n2, 0, none⟩)) :: (.pointer (some ⟨n3, 0, none⟩)) :: zz), defers := [] } w') :
    (Code.region 0 f76r0Ops false).wp Tryd.prog Q { tmps := List.toArray ((.agg e0) :: z1 :: z2 :: z3 :: zz), defers := [] } w := by
  refine wp_region_list (show wpList _ f76r0Ops _ [f76r0Op0, f76r0Op1, f76r0Op2] _ _ from ?_)
  refine l_new hO (e0) 107 (run_box 107 _ rfl _ (by kernel_rfl)) fe0_81 ?_
  intro n1 w1 hO
  refine l_new hO (arr 4 (limb 0)) 39 (al27 rfl) (fit_fe _) ?_
  intro n2 w2 hO
  refine l_new hO (arr 4 (limb 0)) 39 (al27 rfl) (fit_fe _) ?_
  intro n3 w3 hO
  exact l_fr _ (wpList_nil (H n1 n2 n3 _ hO))
def f76r1Op0 : Oper := ⟨some 4, .fieldAddr 107 (.tmp 1) 1, 0, "edwards.go:100", #[], none⟩
def f76r1Op1 : Oper := ⟨some 5, .load 39 (.tmp 4), 39, "edwards.go:100", #[⟨0, .data⟩], none⟩
def f76r1Op2 : Oper := ⟨some 6, .fieldAddr 107 (.tmp 1) 0, 0, "edwards.go:100", #[], none⟩
def f76r1Op3 : Oper := ⟨some 7, .load 39 (.tmp 6), 39, "edwards.go:100", #[⟨2, .data⟩], none⟩
def f76r1Op4 : Oper := ⟨some 8, .call { callee := .value (.func 36), args := #[.tmp 5, .tmp 7], argTypes := #[39, 39] }, 39, "edwards.go:100", #[⟨1, .data⟩, ⟨3, .data⟩], none⟩
def f76r1Op5 : Oper := ⟨some 9, .fieldAddr 107 (.tmp 1) 1, 0, "edwards.go:100", #[], none⟩
def f76r1Op6 : Oper := ⟨some 10, .load 39 (.tmp 9), 39, "edwards.go:100", #[⟨5, .data⟩], none⟩
def f76r1Op7 : Oper := ⟨some 11, .fieldAddr 107 (.tmp 1) 0, 0, "edwards.go:100", #[], none⟩
def f76r1Op8 : Oper := ⟨some 12, .load 39 (.tmp 11), 39, "edwards.go:100", #[⟨7, .data⟩], none⟩
def f76r1Op9 : Oper := ⟨some 13, .call { callee := .value (.func 34), args := #[.tmp 10, .tmp 12], argTypes := #[39, 39] }, 39, "edwards.go:100", #[⟨6, .data⟩, ⟨8, .data⟩, ⟨4, .chain⟩], none⟩
def f76r1Op10 : Oper := ⟨none, .store 39 (.tmp 2) (.tmp 8), 0, "edwards.go:100", #[⟨4, .data⟩, ⟨9, .chain⟩, ⟨0, .phase⟩, ⟨1, .phase⟩, ⟨2, .phase⟩, ⟨3, .phase⟩, ⟨4, .phase⟩, ⟨5, .textOnly .lateStores⟩, ⟨6, .textOnly .lateStores⟩, ⟨7, .textOnly .lateStores⟩, ⟨8, .textOnly .lateStores⟩, ⟨9, .textOnly .lateStoresUnsure⟩], none⟩
def f76r1Op11 : Oper := ⟨none, .store 39 (.tmp 3) (.tmp 13), 0, "edwards.go:100", #[⟨9, .data⟩, ⟨10, .chain⟩, ⟨0, .phase⟩, ⟨1, .phase⟩, ⟨2, .phase⟩, ⟨3, .phase⟩, ⟨4, .phase⟩, ⟨5, .phase⟩, ⟨6, .phase⟩, ⟨7, .phase⟩, ⟨8, .phase⟩, ⟨9, .phase⟩, ⟨10, .phase⟩], none⟩
def f76r1Ops : Array Oper := #[f76r1Op0, f76r1Op1, f76r1Op2, f76r1Op3, f76r1Op4, f76r1Op5, f76r1Op6, f76r1Op7, f76r1Op8, f76r1Op9, f76r1Op10, f76r1Op11]
set_option maxHeartbeats 2000000 in
theorem f76r1_r {Q : Exit → Act → World → Prop} {u w : World} {L : List Row} {z0 z4 z5 z6 z7 z8 z9 z10 z11 z12 z13 : Value} {b1 b2 b3 : Nat} {c1 c2 c3 : Array Value} {e5 e7 e8 e10 e12 e13 : Array Value} (hQ : ∀ c a w n v, Q (.panic c) (a.put (some n) v) w → Q (.panic c) a w) (hO : Own u w L) (i1 : Nat) (h1 : L[i1]? = some (b1, c1, 107)) (i2 : Nat) (h2 : L[i2]? = some (b2, c2, 39)) (i3 : Nat) (h3 : L[i3]? = some (b3, c3, 39)) (e2_1 : i2 ≠ i1) (e2_3 : i2 ≠ i3) (e3_1 : i3 ≠ i1) (q5 : Part c1 4 39 e5) (q7 : Part c1 0 39 e7) (r8 : ∀ w, Ret 36 #[.agg e5, .agg e7] w (.agg e8)) (q10 : Part c1 4 39 e10) (q12 : Part c1 0 39 e12) (r13 : ∀ w, Ret 34 #[.agg e10, .agg e12] w (.agg e13)) (fe8_27 : Fit 39 e8) (fe13_27 : Fit 39 e13) (H : ∀ (w' : World), Own u w' (((L.set i2 (b2, e8, 39)).set i3 (b3, e13, 39))) → Q .normal { tmps := List.toArray (z0 :: (.pointer (some ⟨b1, 0, none⟩)) :: (.pointer (some ⟨b2, 0, none⟩)) :: (.pointer (some ⟨b3, 0, none⟩)) :: (.pointer (some ⟨b1, 4, none⟩)) :: (.agg e5) :: (.pointer (some ⟨b1, 0, none⟩)) :: (.agg e7) :: (.agg e8) :: (.pointer (some ⟨b1, 4, none⟩)) :: (.agg e10) :: (.pointer (some ⟨b1, 0, none⟩)) :: (.agg e12) :: (.agg e13) :: []), defers := [] } w') :
    (Code.region 1 f76r1Ops true).wp Tryd.prog Q { tmps := List.toArray (z0 :: (.pointer (some ⟨b1, 0, none⟩)) :: (.pointer (some ⟨b2, 0, none⟩)) :: (.pointer (some ⟨b3, 0, none⟩)) :: z4 :: z5 :: z6 :: z7 :: z8 :: z9 :: z10 :: z11 :: z12 :: z13 :: []), defers := [] } w := by
  refine wp_region_held_drew (S := Has [(b1, c1, 107)]) (by kernel_rfl) ⟨hO.drew.row _ h1, trivial⟩ (fun hS => ?_)
  replace hO := hO.drew
  refine d_tk 0 f76r1Op0 (.pointer (some ⟨b1, 4, none⟩)) hQ (y_val (fun _ => by kernel_rfl)) hS ?_
  refine d_tk 1 f76r1Op1 (.agg e5) hQ (y_p 39 (fun _ h => h.1) q5 Tryd.underlying39) hS ?_
  refine d_tk 2 f76r1Op2 (.pointer (some ⟨b1, 0, none⟩)) hQ (y_val (fun _ => by kernel_rfl)) hS ?_
  refine d_fr (ls 12 7) (Fr [z0, D b1, D b2, D b3, .pointer (some ⟨b1, 4, none⟩), A e5, .pointer (some ⟨b1, 0, none⟩), z7, z8, z9, z10, z11, z12, z13] []) ?_
  refine d_tk 3 f76r1Op3 (.agg e7) hQ (y_p 39 (fun _ h => h.1) q7 Tryd.underlying39) hS ?_
  refine d_tk 5 f76r1Op5 (.pointer (some ⟨b1, 4, none⟩)) hQ (y_val (fun _ => by kernel_rfl)) hS ?_
  refine d_tk 6 f76r1Op6 (.agg e10) hQ (y_p 39 (fun _ h => h.1) q10 Tryd.underlying39) hS ?_
  refine d_fr (ls 12 111) (Fr [z0, D b1, D b2, D b3, .pointer (some ⟨b1, 4, none⟩), A e5, .pointer (some ⟨b1, 0, none⟩), A e7, z8, .pointer (some ⟨b1, 4, none⟩), A e10, z11, z12, z13] []) ?_
  refine d_tk 7 f76r1Op7 (.pointer (some ⟨b1, 0, none⟩)) hQ (y_val (fun _ => by kernel_rfl)) hS ?_
  refine d_tk 8 f76r1Op8 (.agg e12) hQ (y_p 39 (fun _ h => h.1) q12 Tryd.underlying39) hS ?_
  refine d_fr (ls 12 495) (Fr [z0, D b1, D b2, D b3, .pointer (some ⟨b1, 4, none⟩), A e5, .pointer (some ⟨b1, 0, none⟩), A e7, z8, .pointer (some ⟨b1, 4, none⟩), A e10, .pointer (some ⟨b1, 0, none⟩), A e12, z13] []) ?_
  refine d_one 4 f76r1Op4 (ls 12 511) (fun K hK => ?_)
  refine k_call hK hO (fun _ hO => ⟨hO.row _ h1, trivial⟩) 36 #[.agg e5, .agg e7] (.agg e8) r8 ?_
  intro w1 hO
  refine d_one 9 f76r1Op9 (ls 12 1023) (fun K hK => ?_)
  refine k_call hK hO (fun _ hO => ⟨hO.row _ h1, trivial⟩) 34 #[.agg e10, .agg e12] (.agg e13) r13 ?_
  intro w2 hO
  refine d_one 10 f76r1Op10 (ls 12 2047) (fun K hK => ?_)
  refine k_st hK hO 39 i2 h2 e8 fe8_27 (fun _ hO => ⟨hO.row _ (get_set h1 e2_1), trivial⟩) ?_
  intro w3 hO
  replace hO : Own u w3 ((L.set i2 (b2, e8, 39))) := hO
  refine d_one 11 f76r1Op11 (ls 12 4095) (fun K hK => ?_)
  refine k_st hK hO 39 i3 (get_set h3 e2_3) e13 fe13_27 (fun _ hO => ⟨hO.row _ (get_set (get_set h1 e2_1) e3_1), trivial⟩) ?_
  intro w4 hO
  exact d_fr (ls 12 4095) _ (wpAnyH_done (by kernel_rfl) (H  _ hO) _)
set_option maxHeartbeats 4000000 in
theorem sides_c (x y z : Nat) (hx : x < pP) (hy : y < pP) (w : World) : Ret 77 #[.agg (ps [x, y, z])] w (.tuple #[.agg (arr 4 (limb (am y x))), .agg (arr 4 (limb (sm y x)))]) := by
  go_enter Tryd.func77, Tryd.ntmps77
  have hO := Own.start w
  go_upto_region 0 with (fail)
  refine f76r0_r hO (fit_co _ _ _) ?_
  intro n1 n2 n3 w1 hO
  replace hO : Own w w1 [(n3, arr 4 (limb 0), 39), (n2, arr 4 (limb 0), 39), (n1, ps [x, y, z], 107)] := hO
  go_upto_region 1 with (fail)
  refine f76r1_r (fun _ _ _ _ _ h => h) hO 2 rfl 1 rfl 0 rfl (by decide) (by decide) (by decide) (part_co1 _ _ _) (part_co0 _ _ _) (add_c _ _ hy hx) (part_co1 _ _ _) (part_co0 _ _ _) (sub_c _ _ hy hx) (fit_fe _) (fit_fe _) ?_
  intro w2 hO
  replace hO : Own w w2 [(n3, arr 4 (limb (sm y x)), 39), (n2, arr 4 (limb (am y x)), 39), (n1, ps [x, y, z], 107)] := hO
  go_wp2_with fail
  refine bodyPost_ret (v := .tuple #[.agg (arr 4 (limb (am y x))), .agg (arr 4 (limb (sm y x)))]) (results_two Tryd.results77 _ _ n2 n3 39 39 _ _ (0, 0) (0, 0) _ _ rfl (hO.row 1 rfl) Tryd.underlying39 rfl (fit_fe _).size rfl (hO.row 0 rfl) Tryd.underlying39 rfl (fit_fe _).size) rfl ⟨rfl, hO.low⟩
def f77r0Op0 : Oper := ⟨some 4, .box 39 (.tmp 0), 0, "edwards.go:124", #[], none⟩
def f77r0Op1 : Oper := ⟨some 5, .box 39 (.tmp 1), 0, "edwards.go:124", #[], none⟩
def f77r0Op2 : Oper := ⟨some 6, .box 39 (.tmp 2), 0, "edwards.go:124", #[], none⟩
def f77r0Op3 : Oper := ⟨some 7, .box 39 (.tmp 3), 0, "edwards.go:124", #[], none⟩
def f77r0Op4 : Oper := ⟨some 8, .alloc 109, 0, "edwards.go:124", #[], none⟩
def f77r0Ops : Array Oper := #[f77r0Op0, f77r0Op1, f77r0Op2, f77r0Op3, f77r0Op4]
set_option maxHeartbeats 2000000 in
theorem f77r0_r {Q : Exit → Act → World → Prop} {u w : World} {L : List Row} {z4 z5 z6 z7 z8 : Value} {zz : List Value} {e0 e1 e2 e3 : Array Value} (hO : Own u w L) (fe0_27 : Fit 39 e0) (fe1_27 : Fit 39 e1) (fe2_27 : Fit 39 e2) (fe3_27 : Fit 39 e3) (H : ∀ (n4 : Nat) (n5 : Nat) (n6 : Nat) (n7 : Nat) (n8 : Nat) (w' : World), Own u w' ((n8, ps [0, 0, 0, 0], 109) :: (n7, e3, 39) :: (n6, e2, 39) :: (n5, e1, 39) :: (n4, e0, 39) :: L) → Q .normal { tmps := List.toArray ((.agg e0) :: (.agg e1) :: (.agg e2) :: (.agg e3) :: (.pointer (some ⟨n4, 0, none⟩)) :: (.pointer (some ⟨n5, 0, none⟩)) :: (.pointer (some ⟨n6, 0, none⟩)) :: (.pointer (some ⟨n7, 0, none⟩)) :: (.pointer (some ⟨n8, 0, none⟩)) :: zz), defers := [] } w') :
    (Code.region 0 f77r0Ops false).wp Tryd.prog Q { tmps := List.toArray ((.agg e0) :: (.agg e1) :: (.agg e2) :: (.agg e3) :: z4 :: z5 :: z6 :: z7 :: z8 :: zz), defers := [] } w := by
  refine wp_region_list (show wpList _ f77r0Ops _ [f77r0Op0, f77r0Op1, f77r0Op2, f77r0Op3, f77r0Op4] _ _ from ?_)
  refine l_new hO (e0) 39 (run_box 39 _ rfl _ (by kernel_rfl)) fe0_27 ?_
  intro n4 w1 hO
  refine l_new hO (e1) 39 (run_box 39 _ rfl _ (by kernel_rfl)) fe1_27 ?_
  intro n5 w2 hO
  refine l_new hO (e2) 39 (run_box 39 _ rfl _ (by kernel_rfl)) fe2_27 ?_
  intro n6 w3 hO
  refine l_fr (Fr [A e0, A e1, A e2, A e3, D n4, D n5, D n6, z7, z8] zz) ?_
  refine l_new hO (e3) 39 (run_box 39 _ rfl _ (by kernel_rfl)) fe3_27 ?_
  intro n7 w4 hO
  refine l_new hO (ps [0, 0, 0, 0]) 109 (al83 rfl) (fit_ru _ _ _ _) ?_
  intro n8 w5 hO
  exact l_fr _ (wpList_nil (H n4 n5 n6 n7 n8 _ hO))
def f77r1Op0 : Oper := ⟨some 9, .load 39 (.tmp 4), 39, "edwards.go:125", #[], none⟩
def f77r1Op1 : Oper := ⟨some 10, .load 39 (.tmp 5), 39, "edwards.go:125", #[], none⟩
def f77r1Op2 : Oper := ⟨some 11, .call { callee := .value (.func 37), args := #[.tmp 9, .tmp 10], argTypes := #[39, 39] }, 39, "edwards.go:125", #[⟨0, .data⟩, ⟨1, .data⟩], none⟩
def f77r1Op3 : Oper := ⟨some 12, .load 39 (.tmp 6), 39, "edwards.go:125", #[], none⟩
def f77r1Op4 : Oper := ⟨some 13, .load 39 (.tmp 7), 39, "edwards.go:125", #[], none⟩
def f77r1Op5 : Oper := ⟨some 14, .call { callee := .value (.func 37), args := #[.tmp 12, .tmp 13], argTypes := #[39, 39] }, 39, "edwards.go:125", #[⟨3, .data⟩, ⟨4, .data⟩, ⟨2, .chain⟩], none⟩
def f77r1Op6 : Oper := ⟨some 15, .load 39 (.tmp 5), 39, "edwards.go:125", #[], none⟩
def f77r1Op7 : Oper := ⟨some 16, .load 39 (.tmp 6), 39, "edwards.go:125", #[], none⟩
def f77r1Op8 : Oper := ⟨some 17, .call { callee := .value (.func 37), args := #[.tmp 15, .tmp 16], argTypes := #[39, 39] }, 39, "edwards.go:125", #[⟨6, .data⟩, ⟨7, .data⟩, ⟨5, .chain⟩], none⟩
def f77r1Op9 : Oper := ⟨some 18, .build 107 #[(0, .tmp 11), (1, .tmp 14), (2, .tmp 17)], 107, "edwards.go:125", #[⟨2, .data⟩, ⟨5, .data⟩, ⟨8, .data⟩], none⟩
def f77r1Op10 : Oper := ⟨some 19, .load 39 (.tmp 4), 39, "edwards.go:125", #[], none⟩
def f77r1Op11 : Oper := ⟨some 20, .load 39 (.tmp 7), 39, "edwards.go:125", #[], none⟩
def f77r1Op12 : Oper := ⟨some 21, .call { callee := .value (.func 37), args := #[.tmp 19, .tmp 20], argTypes := #[39, 39] }, 39, "edwards.go:125", #[⟨10, .data⟩, ⟨11, .data⟩, ⟨8, .chain⟩], none⟩
def f77r1Op13 : Oper := ⟨some 22, .build 109 #[(0, .tmp 18), (1, .tmp 21)], 109, "edwards.go:125", #[⟨9, .data⟩, ⟨12, .data⟩], none⟩
def f77r1Op14 : Oper := ⟨none, .store 109 (.tmp 8) (.tmp 22), 0, "edwards.go:125", #[⟨13, .data⟩, ⟨12, .chain⟩, ⟨0, .phase⟩, ⟨1, .phase⟩, ⟨2, .phase⟩, ⟨3, .phase⟩, ⟨4, .phase⟩, ⟨5, .phase⟩, ⟨6, .phase⟩, ⟨7, .phase⟩, ⟨8, .phase⟩, ⟨9, .phase⟩, ⟨10, .phase⟩, ⟨11, .phase⟩, ⟨12, .phase⟩, ⟨13, .phase⟩], none⟩
def f77r1Ops : Array Oper := #[f77r1Op0, f77r1Op1, f77r1Op2, f77r1Op3, f77r1Op4, f77r1Op5, f77r1Op6, f77r1Op7, f77r1Op8, f77r1Op9, f77r1Op10, f77r1Op11, f77r1Op12, f77r1Op13, f77r1Op14]
set_option maxHeartbeats 2000000 in
theorem f77r1_r {Q : Exit → Act → World → Prop} {u w : World} {L : List Row} {z0 z1 z2 z3 z9 z10 z11 z12 z13 z14 z15 z16 z17 z18 z19 z20 z21 z22 : Value} {b4 b5 b6 b7 b8 : Nat} {c4 c5 c6 c7 c8 : Array Value} {e11 e14 e17 e18 e21 e22 : Array Value} (hQ : ∀ c a w n v, Q (.panic c) (a.put (some n) v) w → Q (.panic c) a w) (hO : Own u w L) (i4 : Nat) (h4 : L[i4]? = some (b4, c4, 39)) (i5 : Nat) (h5 : L[i5]? = some (b5, c5, 39)) (i6 : Nat) (h6 : L[i6]? = some (b6, c6, 39)) (i7 : Nat) (h7 : L[i7]? = some (b7, c7, 39)) (i8 : Nat) (h8 : L[i8]? = some (b8, c8, 109)) (e8_4 : i8 ≠ i4) (e8_5 : i8 ≠ i5) (e8_6 : i8 ≠ i6) (e8_7 : i8 ≠ i7) (r11 : ∀ w, Ret 37 #[.agg c4, .agg c5] w (.agg e11)) (r14 : ∀ w, Ret 37 #[.agg c6, .agg c7] w (.agg e14)) (r17 : ∀ w, Ret 37 #[.agg c5, .agg c6] w (.agg e17)) (q18 : Tryd.prog.built 107 [(0, .agg e11), (1, .agg e14), (2, .agg e17)] = some e18) (r21 : ∀ w, Ret 37 #[.agg c4, .agg c7] w (.agg e21)) (q22 : Tryd.prog.built 109 [(0, .agg e18), (1, .agg e21)] = some e22) (fe22_83 : Fit 109 e22) (H : ∀ (w' : World), Own u w' ((L.set i8 (b8, e22, 109))) → Q .normal { tmps := List.toArray (z0 :: z1 :: z2 :: z3 :: (.pointer (some ⟨b4, 0, none⟩)) :: (.pointer (some ⟨b5, 0, none⟩)) :: (.pointer (some ⟨b6, 0, none⟩)) :: (.pointer (some ⟨b7, 0, none⟩)) :: (.pointer (some ⟨b8, 0, none⟩)) :: (.agg c4) :: (.agg c5) :: (.agg e11) :: (.agg c6) :: (.agg c7) :: (.agg e14) :: (.agg c5) :: (.agg c6) :: (.agg e17) :: (.agg e18) :: (.agg c4) :: (.agg c7) :: (.agg e21) :: (.agg e22) :: []), defers := [] } w') :
    (Code.region 1 f77r1Ops true).wp Tryd.prog Q { tmps := List.toArray (z0 :: z1 :: z2 :: z3 :: (.pointer (some ⟨b4, 0, none⟩)) :: (.pointer (some ⟨b5, 0, none⟩)) :: (.pointer (some ⟨b6, 0, none⟩)) :: (.pointer (some ⟨b7, 0, none⟩)) :: (.pointer (some ⟨b8, 0, none⟩)) :: z9 :: z10 :: z11 :: z12 :: z13 :: z14 :: z15 :: z16 :: z17 :: z18 :: z19 :: z20 :: z21 :: z22 :: []), defers := [] } w := by
  have fc4_27 := hO.fits i4 h4
  have fc5_27 := hO.fits i5 h5
  have fc6_27 := hO.fits i6 h6
  have fc7_27 := hO.fits i7 h7
  refine wp_region_held_drew (S := Has [(b4, c4, 39), (b5, c5, 39), (b6, c6, 39), (b7, c7, 39)]) (by kernel_rfl) ⟨hO.drew.row _ h4, hO.drew.row _ h5, hO.drew.row _ h6, hO.drew.row _ h7, trivial⟩ (fun hS => ?_)
  replace hO := hO.drew
  refine d_tk 0 f77r1Op0 (.agg c4) hQ (y_l 39 (fun _ h => h.1) fc4_27 Tryd.underlying39) hS ?_
  refine d_tk 1 f77r1Op1 (.agg c5) hQ (y_l 39 (fun _ h => h.2.1) fc5_27 Tryd.underlying39) hS ?_
  refine d_tk 3 f77r1Op3 (.agg c6) hQ (y_l 39 (fun _ h => h.2.2.1) fc6_27 Tryd.underlying39) hS ?_
  refine d_fr (ls 15 11) (Fr [z0, z1, z2, z3, D b4, D b5, D b6, D b7, D b8, A c4, A c5, z11, A c6, z13, z14, z15, z16, z17, z18, z19, z20, z21, z22] []) ?_
  refine d_tk 4 f77r1Op4 (.agg c7) hQ (y_l 39 (fun _ h => h.2.2.2.1) fc7_27 Tryd.underlying39) hS ?_
  refine d_tk 6 f77r1Op6 (.agg c5) hQ (y_l 39 (fun _ h => h.2.1) fc5_27 Tryd.underlying39) hS ?_
  refine d_tk 7 f77r1Op7 (.agg c6) hQ (y_l 39 (fun _ h => h.2.2.1) fc6_27 Tryd.underlying39) hS ?_
  refine d_fr (ls 15 219) (Fr [z0, z1, z2, z3, D b4, D b5, D b6, D b7, D b8, A c4, A c5, z11, A c6, A c7, z14, A c5, A c6, z17, z18, z19, z20, z21, z22] []) ?_
  refine d_tk 10 f77r1Op10 (.agg c4) hQ (y_l 39 (fun _ h => h.1) fc4_27 Tryd.underlying39) hS ?_
  refine d_tk 11 f77r1Op11 (.agg c7) hQ (y_l 39 (fun _ h => h.2.2.2.1) fc7_27 Tryd.underlying39) hS ?_
  refine d_fr (ls 15 3291) (Fr [z0, z1, z2, z3, D b4, D b5, D b6, D b7, D b8, A c4, A c5, z11, A c6, A c7, z14, A c5, A c6, z17, z18, A c4, A c7, z21, z22] []) ?_
  refine d_one 2 f77r1Op2 (ls 15 3295) (fun K hK => ?_)
  refine k_call hK hO (fun _ hO => ⟨hO.row _ h4, hO.row _ h5, hO.row _ h6, hO.row _ h7, trivial⟩) 37 #[.agg c4, .agg c5] (.agg e11) r11 ?_
  intro w1 hO
  refine d_one 5 f77r1Op5 (ls 15 3327) (fun K hK => ?_)
  refine k_call hK hO (fun _ hO => ⟨hO.row _ h4, hO.row _ h5, hO.row _ h6, hO.row _ h7, trivial⟩) 37 #[.agg c6, .agg c7] (.agg e14) r14 ?_
  intro w2 hO
  refine d_one 8 f77r1Op8 (ls 15 3583) (fun K hK => ?_)
  refine k_call hK hO (fun _ hO => ⟨hO.row _ h4, hO.row _ h5, hO.row _ h6, hO.row _ h7, trivial⟩) 37 #[.agg c5, .agg c6] (.agg e17) r17 ?_
  intro w3 hO
  have hS : Has [(b4, c4, 39), (b5, c5, 39), (b6, c6, 39), (b7, c7, 39)] _ := ⟨hO.row _ h4, hO.row _ h5, hO.row _ h6, hO.row _ h7, trivial⟩
  refine d_tk 9 f77r1Op9 (.agg e18) hQ (y_val (run_bd 107 _ rfl [(0, .agg e11), (1, .agg e14), (2, .agg e17)] (by kernel_rfl) e18 q18)) hS ?_
  refine d_fr (ls 15 4095) (Fr [z0, z1, z2, z3, D b4, D b5, D b6, D b7, D b8, A c4, A c5, A e11, A c6, A c7, A e14, A c5, A c6, A e17, A e18, A c4, A c7, z21, z22] []) ?_
  refine d_one 12 f77r1Op12 (ls 15 8191) (fun K hK => ?_)
  refine k_call hK hO (fun _ hO => ⟨hO.row _ h4, hO.row _ h5, hO.row _ h6, hO.row _ h7, trivial⟩) 37 #[.agg c4, .agg c7] (.agg e21) r21 ?_
  intro w4 hO
  have hS : Has [(b4, c4, 39), (b5, c5, 39), (b6, c6, 39), (b7, c7, 39)] _ := ⟨hO.row _ h4, hO.row _ h5, hO.row _ h6, hO.row _ h7, trivial⟩
  refine d_tk 13 f77r1Op13 (.agg e22) hQ (y_val (run_bd 109 _ rfl [(0, .agg e18), (1, .agg e21)] (by kernel_rfl) e22 q22)) hS ?_
  refine d_one 14 f77r1Op14 (ls 15 32767) (fun K hK => ?_)
  refine k_st hK hO 109 i8 h8 e22 fe22_83 (fun _ hO => ⟨hO.row _ (get_set h4 e8_4), hO.row _ (get_set h5 e8_5), hO.row _ (get_set h6 e8_6), hO.row _ (get_set h7 e8_7), trivial⟩) ?_
  intro w5 hO
  exact d_fr (ls 15 32767) _ (wpAnyH_done (by kernel_rfl) (H  _ hO) _)
set_option maxHeartbeats 4000000 in
theorem joined_c (e f g h : Nat) (he : e < pP) (hf : f < pP) (hg : g < pP) (hh : h < pP) (w : World) : Ret 81 #[.agg (arr 4 (limb e)), .agg (arr 4 (limb f)), .agg (arr 4 (limb g)), .agg (arr 4 (limb h))] w (.agg (ps [mm e f, mm g h, mm f g, mm e h])) := by
  go_enter Tryd.func81, Tryd.ntmps81
  have hO := Own.start w
  go_upto_region 0 with (fail)
  refine f77r0_r hO (fit_fe _) (fit_fe _) (fit_fe _) (fit_fe _) ?_
  intro n4 n5 n6 n7 n8 w1 hO
  replace hO : Own w w1 [(n8, ps [0, 0, 0, 0], 109), (n7, arr 4 (limb h), 39), (n6, arr 4 (limb g), 39), (n5, arr 4 (limb f), 39), (n4, arr 4 (limb e), 39)] := hO
  go_upto_region 1 with (fail)
  refine f77r1_r (fun _ _ _ _ _ h => h) hO 4 rfl 3 rfl 2 rfl 1 rfl 0 rfl (by decide) (by decide) (by decide) (by decide) (mul_c _ _ he hf) (mul_c _ _ hg hh) (mul_c _ _ hf hg) (bd_co _ _ _) (mul_c _ _ he hh) (bd_ru _ _ _ _) (fit_ru _ _ _ _) ?_
  intro w2 hO
  replace hO : Own w w2 [(n8, ps [mm e f, mm g h, mm f g, mm e h], 109), (n7, arr 4 (limb h), 39), (n6, arr 4 (limb g), 39), (n5, arr 4 (limb f), 39), (n4, arr 4 (limb e), 39)] := hO
  go_wp2_with fail
  refine bodyPost_ret (v := .agg (ps [mm e f, mm g h, mm f g, mm e h])) (results_cell_row Tryd.results81 _ _ n8 109 _ (0, 0) _ rfl (hO.row 0 rfl) Tryd.underlying109 rfl (fit_ru _ _ _ _).size) rfl ⟨rfl, hO.low⟩
def f55r0Op0 : Oper := ⟨some 1, .box 41 (.tmp 0), 0, "edwards.go:110", #[], none⟩
def f55r0Op1 : Oper := ⟨some 2, .alloc 109, 0, "edwards.go:110", #[], none⟩
def f55r0Ops : Array Oper := #[f55r0Op0, f55r0Op1]
set_option maxHeartbeats 2000000 in
theorem f55r0_r {Q : Exit → Act → World → Prop} {u w : World} {L : List Row} {z1 z2 : Value} {zz : List Value} {e0 : Array Value} (hO : Own u w L) (fe0_29 : Fit 41 e0) (H : ∀ (n1 : Nat) (n2 : Nat) (w' : World), Own u w' ((n2, ps [0, 0, 0, 0], 109) :: (n1, e0, 41) :: L) → Q .normal { tmps := List.toArray ((.agg e0) :: (.pointer (some ⟨n1, 0, none⟩)) :: (.pointer (some ⟨n2, 0, none⟩)) :: zz), defers := [] } w') :
    (Code.region 0 f55r0Ops false).wp Tryd.prog Q { tmps := List.toArray ((.agg e0) :: z1 :: z2 :: zz), defers := [] } w := by
  refine wp_region_list (show wpList _ f55r0Ops _ [f55r0Op0, f55r0Op1] _ _ from ?_)
  refine l_new hO (e0) 41 (run_box 41 _ rfl _ (by kernel_rfl)) fe0_29 ?_
  intro n1 w1 hO
  refine l_new hO (ps [0, 0, 0, 0]) 109 (al83 rfl) (fit_ru _ _ _ _) ?_
  intro n2 w2 hO
  exact l_fr _ (wpList_nil (H n1 n2 _ hO))
def f55r1Op0 : Oper := ⟨some 6, .load 41 (.tmp 1), 41, "edwards.go:111", #[], none⟩
def f55r1Op1 : Oper := ⟨some 7, .call { callee := .value (.func 66), args := #[.tmp 6], argTypes := #[41] }, 97, "edwards.go:111", #[⟨0, .data⟩], none⟩
def f55r1Op2 : Oper := ⟨some 5, .move (.tmp 7), 97, "edwards.go:111", #[⟨1, .data⟩], none⟩
def f55r1Op3 : Oper := ⟨some 8, .extract (.tmp 5) 0, 39, "edwards.go:111", #[⟨2, .data⟩], none⟩
def f55r1Op4 : Oper := ⟨some 9, .extract (.tmp 5) 1, 39, "edwards.go:111", #[⟨2, .data⟩, ⟨7, .gcOnly .lateStores⟩], none⟩
def f55r1Op5 : Oper := ⟨some 3, .alloc 39, 0, "edwards.go:111", #[], none⟩
def f55r1Op6 : Oper := ⟨some 4, .alloc 39, 0, "edwards.go:111", #[], none⟩
def f55r1Op7 : Oper := ⟨none, .store 39 (.tmp 3) (.tmp 8), 0, "edwards.go:111", #[⟨5, .data⟩, ⟨3, .data⟩, ⟨1, .chain⟩, ⟨0, .phase⟩, ⟨1, .phase⟩, ⟨2, .phase⟩, ⟨3, .phase⟩, ⟨4, .textOnly .lateStores⟩, ⟨5, .phase⟩, ⟨6, .phase⟩], none⟩
def f55r1Op8 : Oper := ⟨none, .store 39 (.tmp 4) (.tmp 9), 0, "edwards.go:111", #[⟨6, .data⟩, ⟨4, .data⟩, ⟨7, .chain⟩, ⟨0, .phase⟩, ⟨1, .phase⟩, ⟨2, .phase⟩, ⟨3, .phase⟩, ⟨4, .phase⟩, ⟨5, .phase⟩, ⟨6, .phase⟩, ⟨7, .phase⟩], none⟩
def f55r1Ops : Array Oper := #[f55r1Op0, f55r1Op1, f55r1Op2, f55r1Op3, f55r1Op4, f55r1Op5, f55r1Op6, f55r1Op7, f55r1Op8]
set_option maxHeartbeats 2000000 in
theorem f55r1_r {Q : Exit → Act → World → Prop} {u w : World} {L : List Row} {z0 z2 z3 z4 z5 z6 z7 z8 z9 : Value} {zz : List Value} {b1 : Nat} {c1 : Array Value} {e7a e7b : Array Value} (hO : Own u w L) (i1 : Nat) (h1 : L[i1]? = some (b1, c1, 41)) (r7 : ∀ w, Ret 66 #[.agg c1] w (.tuple #[.agg e7a, .agg e7b])) (fe7a_27 : Fit 39 e7a) (fe7b_27 : Fit 39 e7b) (H : ∀ (n3 : Nat) (n4 : Nat) (w' : World), Own u w' ((n4, e7b, 39) :: (n3, e7a, 39) :: L) → Q .normal { tmps := List.toArray (z0 :: (.pointer (some ⟨b1, 0, none⟩)) :: z2 :: (.pointer (some ⟨n3, 0, none⟩)) :: (.pointer (some ⟨n4, 0, none⟩)) :: (.tuple #[.agg e7a, .agg e7b]) :: (.agg c1) :: (.tuple #[.agg e7a, .agg e7b]) :: (.agg e7a) :: (.agg e7b) :: zz), defers := [] } w') :
    (Code.region 1 f55r1Ops false).wp Tryd.prog Q { tmps := List.toArray (z0 :: (.pointer (some ⟨b1, 0, none⟩)) :: z2 :: z3 :: z4 :: z5 :: z6 :: z7 :: z8 :: z9 :: zz), defers := [] } w := by
  refine wp_region_list (show wpList _ f55r1Ops _ [f55r1Op0, f55r1Op1, f55r1Op2, f55r1Op3, f55r1Op4, f55r1Op5, f55r1Op6, f55r1Op7, f55r1Op8] _ _ from ?_)
  refine l_ld hO 41 i1 h1 Tryd.underlying41 ?_
  refine l_call hO 66 #[.agg c1] (.tuple #[.agg e7a, .agg e7b]) r7 ?_
  intro w1 hO
  refine l_val (.tuple #[.agg e7a, .agg e7b]) (by kernel_rfl) ?_
  refine l_fr (Fr [z0, D b1, z2, z3, z4, .tuple #[.agg e7a, .agg e7b], A c1, .tuple #[.agg e7a, .agg e7b], z8, z9] zz) ?_
  refine l_val (.agg e7a) (by kernel_rfl) ?_
  refine l_val (.agg e7b) (by kernel_rfl) ?_
  refine l_new hO (arr 4 (limb 0)) 39 (al27 rfl) (fit_fe _) ?_
  intro n3 w2 hO
  refine l_fr (Fr [z0, D b1, z2, D n3, z4, .tuple #[.agg e7a, .agg e7b], A c1, .tuple #[.agg e7a, .agg e7b], A e7a, A e7b] zz) ?_
  refine l_new hO (arr 4 (limb 0)) 39 (al27 rfl) (fit_fe _) ?_
  intro n4 w3 hO
  refine l_st hO 39 1 rfl e7a fe7a_27 ?_
  intro w4 hO
  replace hO : Own u w4 ((n4, arr 4 (limb 0), 39) :: (n3, e7a, 39) :: L) := hO
  refine l_st hO 39 0 rfl e7b fe7b_27 ?_
  intro w5 hO
  exact l_fr _ (wpList_nil (H n3 n4 _ hO))
def f55r2Op0 : Oper := ⟨some 10, .load 39 (.tmp 3), 39, "edwards.go:112", #[], none⟩
def f55r2Op1 : Oper := ⟨some 11, .load 39 (.tmp 4), 39, "edwards.go:112", #[], none⟩
def f55r2Op2 : Oper := ⟨some 12, .call { callee := .value (.func 35), args := #[], argTypes := #[] }, 39, "edwards.go:112", #[], none⟩
def f55r2Op3 : Oper := ⟨some 13, .build 107 #[(0, .tmp 10), (1, .tmp 11), (2, .tmp 12)], 107, "edwards.go:112", #[⟨0, .data⟩, ⟨1, .data⟩, ⟨2, .data⟩], none⟩
def f55r2Op4 : Oper := ⟨some 14, .load 39 (.tmp 3), 39, "edwards.go:112", #[], none⟩
def f55r2Op5 : Oper := ⟨some 15, .load 39 (.tmp 4), 39, "edwards.go:112", #[], none⟩
def f55r2Op6 : Oper := ⟨some 16, .call { callee := .value (.func 37), args := #[.tmp 14, .tmp 15], argTypes := #[39, 39] }, 39, "edwards.go:112", #[⟨4, .data⟩, ⟨5, .data⟩, ⟨2, .chain⟩], none⟩
def f55r2Op7 : Oper := ⟨some 17, .build 109 #[(0, .tmp 13), (1, .tmp 16)], 109, "edwards.go:112", #[⟨3, .data⟩, ⟨6, .data⟩], none⟩
def f55r2Op8 : Oper := ⟨none, .store 109 (.tmp 2) (.tmp 17), 0, "edwards.go:112", #[⟨7, .data⟩, ⟨6, .chain⟩, ⟨0, .phase⟩, ⟨1, .phase⟩, ⟨2, .phase⟩, ⟨3, .phase⟩, ⟨4, .phase⟩, ⟨5, .phase⟩, ⟨6, .phase⟩, ⟨7, .phase⟩], none⟩
def f55r2Ops : Array Oper := #[f55r2Op0, f55r2Op1, f55r2Op2, f55r2Op3, f55r2Op4, f55r2Op5, f55r2Op6, f55r2Op7, f55r2Op8]
set_option maxHeartbeats 2000000 in
theorem f55r2_r {Q : Exit → Act → World → Prop} {u w : World} {L : List Row} {z0 z1 z5 z6 z7 z8 z9 z10 z11 z12 z13 z14 z15 z16 z17 : Value} {b2 b3 b4 : Nat} {c2 c3 c4 : Array Value} {e12 e13 e16 e17 : Array Value} (hQ : ∀ c a w n v, Q (.panic c) (a.put (some n) v) w → Q (.panic c) a w) (hO : Own u w L) (i2 : Nat) (h2 : L[i2]? = some (b2, c2, 109)) (i3 : Nat) (h3 : L[i3]? = some (b3, c3, 39)) (i4 : Nat) (h4 : L[i4]? = some (b4, c4, 39)) (e2_3 : i2 ≠ i3) (e2_4 : i2 ≠ i4) (r12 : ∀ w, Ret 35 #[] w (.agg e12)) (q13 : Tryd.prog.built 107 [(0, .agg c3), (1, .agg c4), (2, .agg e12)] = some e13) (r16 : ∀ w, Ret 37 #[.agg c3, .agg c4] w (.agg e16)) (q17 : Tryd.prog.built 109 [(0, .agg e13), (1, .agg e16)] = some e17) (fe17_83 : Fit 109 e17) (H : ∀ (w' : World), Own u w' ((L.set i2 (b2, e17, 109))) → Q .normal { tmps := List.toArray (z0 :: z1 :: (.pointer (some ⟨b2, 0, none⟩)) :: (.pointer (some ⟨b3, 0, none⟩)) :: (.pointer (some ⟨b4, 0, none⟩)) :: z5 :: z6 :: z7 :: z8 :: z9 :: (.agg c3) :: (.agg c4) :: (.agg e12) :: (.agg e13) :: (.agg c3) :: (.agg c4) :: (.agg e16) :: (.agg e17) :: []), defers := [] } w') :
    (Code.region 2 f55r2Ops true).wp Tryd.prog Q { tmps := List.toArray (z0 :: z1 :: (.pointer (some ⟨b2, 0, none⟩)) :: (.pointer (some ⟨b3, 0, none⟩)) :: (.pointer (some ⟨b4, 0, none⟩)) :: z5 :: z6 :: z7 :: z8 :: z9 :: z10 :: z11 :: z12 :: z13 :: z14 :: z15 :: z16 :: z17 :: []), defers := [] } w := by
  have fc3_27 := hO.fits i3 h3
  have fc4_27 := hO.fits i4 h4
  refine wp_region_held_drew (S := Has [(b3, c3, 39), (b4, c4, 39)]) (by kernel_rfl) ⟨hO.drew.row _ h3, hO.drew.row _ h4, trivial⟩ (fun hS => ?_)
  replace hO := hO.drew
  refine d_tk 0 f55r2Op0 (.agg c3) hQ (y_l 39 (fun _ h => h.1) fc3_27 Tryd.underlying39) hS ?_
  refine d_tk 1 f55r2Op1 (.agg c4) hQ (y_l 39 (fun _ h => h.2.1) fc4_27 Tryd.underlying39) hS ?_
  refine d_tk 4 f55r2Op4 (.agg c3) hQ (y_l 39 (fun _ h => h.1) fc3_27 Tryd.underlying39) hS ?_
  refine d_fr (ls 9 19) (Fr [z0, z1, D b2, D b3, D b4, z5, z6, z7, z8, z9, A c3, A c4, z12, z13, A c3, z15, z16, z17] []) ?_
  refine d_tk 5 f55r2Op5 (.agg c4) hQ (y_l 39 (fun _ h => h.2.1) fc4_27 Tryd.underlying39) hS ?_
  refine d_fr (ls 9 51) (Fr [z0, z1, D b2, D b3, D b4, z5, z6, z7, z8, z9, A c3, A c4, z12, z13, A c3, A c4, z16, z17] []) ?_
  refine d_one 2 f55r2Op2 (ls 9 55) (fun K hK => ?_)
  refine k_call hK hO (fun _ hO => ⟨hO.row _ h3, hO.row _ h4, trivial⟩) 35 #[] (.agg e12) r12 ?_
  intro w1 hO
  have hS : Has [(b3, c3, 39), (b4, c4, 39)] _ := ⟨hO.row _ h3, hO.row _ h4, trivial⟩
  refine d_tk 3 f55r2Op3 (.agg e13) hQ (y_val (run_bd 107 _ rfl [(0, .agg c3), (1, .agg c4), (2, .agg e12)] (by kernel_rfl) e13 q13)) hS ?_
  refine d_one 6 f55r2Op6 (ls 9 127) (fun K hK => ?_)
  refine k_call hK hO (fun _ hO => ⟨hO.row _ h3, hO.row _ h4, trivial⟩) 37 #[.agg c3, .agg c4] (.agg e16) r16 ?_
  intro w2 hO
  have hS : Has [(b3, c3, 39), (b4, c4, 39)] _ := ⟨hO.row _ h3, hO.row _ h4, trivial⟩
  refine d_tk 7 f55r2Op7 (.agg e17) hQ (y_val (run_bd 109 _ rfl [(0, .agg e13), (1, .agg e16)] (by kernel_rfl) e17 q17)) hS ?_
  refine d_fr (ls 9 255) (Fr [z0, z1, D b2, D b3, D b4, z5, z6, z7, z8, z9, A c3, A c4, A e12, A e13, A c3, A c4, A e16, A e17] []) ?_
  refine d_one 8 f55r2Op8 (ls 9 511) (fun K hK => ?_)
  refine k_st hK hO 109 i2 h2 e17 fe17_83 (fun _ hO => ⟨hO.row _ (get_set h3 e2_3), hO.row _ (get_set h4 e2_4), trivial⟩) ?_
  intro w3 hO
  exact wpAnyH_done (by kernel_rfl) (H  _ hO) _
set_option maxHeartbeats 4000000 in
theorem reckoned_c (x y : Nat) (hx : x < pP) (hy : y < pP) (w : World) : Ret 72 #[.agg (ps [x, y])] w (.agg (ps [x, am y 1, 1, mm x (am y 1)])) := by
  go_enter Tryd.func72, Tryd.ntmps72
  have hO := Own.start w
  go_upto_region 0 with (fail)
  refine f55r0_r hO (fit_pt _ _) ?_
  intro n1 n2 w1 hO
  replace hO : Own w w1 [(n2, ps [0, 0, 0, 0], 109), (n1, ps [x, y], 41)] := hO
  go_upto_region 1 with (fail)
  refine f55r1_r hO 1 rfl (places_c _ _ hy) (fit_fe _) (fit_fe _) ?_
  intro n3 n4 w2 hO
  replace hO : Own w w2 [(n4, arr 4 (limb (am y 1)), 39), (n3, arr 4 (limb x), 39), (n2, ps [0, 0, 0, 0], 109), (n1, ps [x, y], 41)] := hO
  go_upto_region 2 with (fail)
  refine f55r2_r (fun _ _ _ _ _ h => h) hO 2 rfl 1 rfl 0 rfl (by decide) (by decide) one_c (bd_co _ _ _) (mul_c _ _ hx (am_lt _ _)) (bd_ru _ _ _ _) (fit_ru _ _ _ _) ?_
  intro w3 hO
  replace hO : Own w w3 [(n4, arr 4 (limb (am y 1)), 39), (n3, arr 4 (limb x), 39), (n2, ps [x, am y 1, 1, mm x (am y 1)], 109), (n1, ps [x, y], 41)] := hO
  go_wp2_with fail
  refine bodyPost_ret (v := .agg (ps [x, am y 1, 1, mm x (am y 1)])) (results_cell_row Tryd.results72 _ _ n2 109 _ (0, 0) _ rfl (hO.row 2 rfl) Tryd.underlying109 rfl (fit_ru _ _ _ _).size) rfl ⟨rfl, hO.low⟩
def f57r0Op0 : Oper := ⟨some 1, .box 41 (.tmp 0), 0, "edwards.go:134", #[], none⟩
def f57r0Op1 : Oper := ⟨some 2, .alloc 81, 0, "edwards.go:134", #[], none⟩
def f57r0Ops : Array Oper := #[f57r0Op0, f57r0Op1]
set_option maxHeartbeats 2000000 in
theorem f57r0_r {Q : Exit → Act → World → Prop} {u w : World} {L : List Row} {z1 z2 : Value} {zz : List Value} {e0 : Array Value} (hO : Own u w L) (fe0_29 : Fit 41 e0) (H : ∀ (n1 : Nat) (n2 : Nat) (w' : World), Own u w' ((n2, ps [0, 0, 0], 81) :: (n1, e0, 41) :: L) → Q .normal { tmps := List.toArray ((.agg e0) :: (.pointer (some ⟨n1, 0, none⟩)) :: (.pointer (some ⟨n2, 0, none⟩)) :: zz), defers := [] } w') :
    (Code.region 0 f57r0Ops false).wp Tryd.prog Q { tmps := List.toArray ((.agg e0) :: z1 :: z2 :: zz), defers := [] } w := by
  refine wp_region_list (show wpList _ f57r0Ops _ [f57r0Op0, f57r0Op1] _ _ from ?_)
  refine l_new hO (e0) 41 (run_box 41 _ rfl _ (by kernel_rfl)) fe0_29 ?_
  intro n1 w1 hO
  refine l_new hO (ps [0, 0, 0]) 81 (al87 rfl) (fit_ad _ _ _) ?_
  intro n2 w2 hO
  exact l_fr _ (wpList_nil (H n1 n2 _ hO))
def f57r1Op0 : Oper := ⟨some 6, .load 41 (.tmp 1), 41, "edwards.go:135", #[], none⟩
def f57r1Op1 : Oper := ⟨some 7, .call { callee := .value (.func 72), args := #[.tmp 6], argTypes := #[41] }, 109, "edwards.go:135", #[⟨0, .data⟩], none⟩
def f57r1Op2 : Oper := ⟨some 3, .alloc 109, 0, "edwards.go:135", #[], none⟩
def f57r1Op3 : Oper := ⟨none, .store 109 (.tmp 3) (.tmp 7), 0, "edwards.go:135", #[⟨2, .data⟩, ⟨1, .data⟩, ⟨1, .chain⟩, ⟨0, .phase⟩, ⟨1, .phase⟩, ⟨2, .phase⟩], none⟩
def f57r1Ops : Array Oper := #[f57r1Op0, f57r1Op1, f57r1Op2, f57r1Op3]
set_option maxHeartbeats 2000000 in
theorem f57r1_r {Q : Exit → Act → World → Prop} {u w : World} {L : List Row} {z0 z2 z3 z4 z5 z6 z7 : Value} {zz : List Value} {b1 : Nat} {c1 : Array Value} {e7 : Array Value} (hO : Own u w L) (i1 : Nat) (h1 : L[i1]? = some (b1, c1, 41)) (r7 : ∀ w, Ret 72 #[.agg c1] w (.agg e7)) (fe7_83 : Fit 109 e7) (H : ∀ (n3 : Nat) (w' : World), Own u w' ((n3, e7, 109) :: L) → Q .normal { tmps := List.toArray (z0 :: (.pointer (some ⟨b1, 0, none⟩)) :: z2 :: (.pointer (some ⟨n3, 0, none⟩)) :: z4 :: z5 :: (.agg c1) :: (.agg e7) :: zz), defers := [] } w') :
    (Code.region 1 f57r1Ops false).wp Tryd.prog Q { tmps := List.toArray (z0 :: (.pointer (some ⟨b1, 0, none⟩)) :: z2 :: z3 :: z4 :: z5 :: z6 :: z7 :: zz), defers := [] } w := by
  refine wp_region_list (show wpList _ f57r1Ops _ [f57r1Op0, f57r1Op1, f57r1Op2, f57r1Op3] _ _ from ?_)
  refine l_ld hO 41 i1 h1 Tryd.underlying41 ?_
  refine l_call hO 72 #[.agg c1] (.agg e7) r7 ?_
  intro w1 hO
  refine l_new hO (ps [0, 0, 0, 0]) 109 (al83 rfl) (fit_ru _ _ _ _) ?_
  intro n3 w2 hO
  refine l_fr (Fr [z0, D b1, z2, D n3, z4, z5, A c1, A e7] zz) ?_
  refine l_st hO 109 0 rfl e7 fe7_83 ?_
  intro w3 hO
  exact l_fr _ (wpList_nil (H n3 _ hO))
def f57r2Op0 : Oper := ⟨some 9, .fieldAddr 109 (.tmp 3) 0, 0, "edwards.go:136", #[], none⟩
def f57r2Op1 : Oper := ⟨some 10, .load 107 (.tmp 9), 107, "edwards.go:136", #[⟨0, .data⟩], none⟩
def f57r2Op2 : Oper := ⟨some 11, .call { callee := .value (.func 77), args := #[.tmp 10], argTypes := #[107] }, 97, "edwards.go:136", #[⟨1, .data⟩], none⟩
def f57r2Op3 : Oper := ⟨some 8, .move (.tmp 11), 97, "edwards.go:136", #[⟨2, .data⟩], none⟩
def f57r2Op4 : Oper := ⟨some 12, .extract (.tmp 8) 0, 39, "edwards.go:136", #[⟨3, .data⟩], none⟩
def f57r2Op5 : Oper := ⟨some 13, .extract (.tmp 8) 1, 39, "edwards.go:136", #[⟨3, .data⟩, ⟨8, .gcOnly .lateStores⟩], none⟩
def f57r2Op6 : Oper := ⟨some 4, .alloc 39, 0, "edwards.go:136", #[], none⟩
def f57r2Op7 : Oper := ⟨some 5, .alloc 39, 0, "edwards.go:136", #[], none⟩
def f57r2Op8 : Oper := ⟨none, .store 39 (.tmp 4) (.tmp 12), 0, "edwards.go:136", #[⟨6, .data⟩, ⟨4, .data⟩, ⟨2, .chain⟩, ⟨0, .phase⟩, ⟨1, .phase⟩, ⟨2, .phase⟩, ⟨3, .phase⟩, ⟨4, .phase⟩, ⟨5, .textOnly .lateStores⟩, ⟨6, .phase⟩, ⟨7, .phase⟩], none⟩
def f57r2Op9 : Oper := ⟨none, .store 39 (.tmp 5) (.tmp 13), 0, "edwards.go:136", #[⟨7, .data⟩, ⟨5, .data⟩, ⟨8, .chain⟩, ⟨0, .phase⟩, ⟨1, .phase⟩, ⟨2, .phase⟩, ⟨3, .phase⟩, ⟨4, .phase⟩, ⟨5, .phase⟩, ⟨6, .phase⟩, ⟨7, .phase⟩, ⟨8, .phase⟩], none⟩
def f57r2Ops : Array Oper := #[f57r2Op0, f57r2Op1, f57r2Op2, f57r2Op3, f57r2Op4, f57r2Op5, f57r2Op6, f57r2Op7, f57r2Op8, f57r2Op9]
set_option maxHeartbeats 2000000 in
theorem f57r2_r {Q : Exit → Act → World → Prop} {u w : World} {L : List Row} {z0 z1 z2 z4 z5 z6 z7 z8 z9 z10 z11 z12 z13 : Value} {zz : List Value} {b3 : Nat} {c3 : Array Value} {e10 e11a e11b : Array Value} (hO : Own u w L) (i3 : Nat) (h3 : L[i3]? = some (b3, c3, 109)) (q10 : Part c3 0 107 e10) (r11 : ∀ w, Ret 77 #[.agg e10] w (.tuple #[.agg e11a, .agg e11b])) (fe11a_27 : Fit 39 e11a) (fe11b_27 : Fit 39 e11b) (H : ∀ (n4 : Nat) (n5 : Nat) (w' : World), Own u w' ((n5, e11b, 39) :: (n4, e11a, 39) :: L) → Q .normal { tmps := List.toArray (z0 :: z1 :: z2 :: (.pointer (some ⟨b3, 0, none⟩)) :: (.pointer (some ⟨n4, 0, none⟩)) :: (.pointer (some ⟨n5, 0, none⟩)) :: z6 :: z7 :: (.tuple #[.agg e11a, .agg e11b]) :: (.pointer (some ⟨b3, 0, none⟩)) :: (.agg e10) :: (.tuple #[.agg e11a, .agg e11b]) :: (.agg e11a) :: (.agg e11b) :: zz), defers := [] } w') :
    (Code.region 2 f57r2Ops false).wp Tryd.prog Q { tmps := List.toArray (z0 :: z1 :: z2 :: (.pointer (some ⟨b3, 0, none⟩)) :: z4 :: z5 :: z6 :: z7 :: z8 :: z9 :: z10 :: z11 :: z12 :: z13 :: zz), defers := [] } w := by
  refine wp_region_list (show wpList _ f57r2Ops _ [f57r2Op0, f57r2Op1, f57r2Op2, f57r2Op3, f57r2Op4, f57r2Op5, f57r2Op6, f57r2Op7, f57r2Op8, f57r2Op9] _ _ from ?_)
  refine l_val (.pointer (some ⟨b3, 0, none⟩)) (by kernel_rfl) ?_
  refine l_part hO 107 i3 h3 q10 Tryd.underlying107 ?_
  refine l_call hO 77 #[.agg e10] (.tuple #[.agg e11a, .agg e11b]) r11 ?_
  intro w1 hO
  refine l_fr (Fr [z0, z1, z2, D b3, z4, z5, z6, z7, z8, .pointer (some ⟨b3, 0, none⟩), A e10, .tuple #[.agg e11a, .agg e11b], z12, z13] zz) ?_
  refine l_val (.tuple #[.agg e11a, .agg e11b]) (by kernel_rfl) ?_
  refine l_val (.agg e11a) (by kernel_rfl) ?_
  refine l_val (.agg e11b) (by kernel_rfl) ?_
  refine l_fr (Fr [z0, z1, z2, D b3, z4, z5, z6, z7, .tuple #[.agg e11a, .agg e11b], .pointer (some ⟨b3, 0, none⟩), A e10, .tuple #[.agg e11a, .agg e11b], A e11a, A e11b] zz) ?_
  refine l_new hO (arr 4 (limb 0)) 39 (al27 rfl) (fit_fe _) ?_
  intro n4 w2 hO
  refine l_new hO (arr 4 (limb 0)) 39 (al27 rfl) (fit_fe _) ?_
  intro n5 w3 hO
  refine l_st hO 39 1 rfl e11a fe11a_27 ?_
  intro w4 hO
  replace hO : Own u w4 ((n5, arr 4 (limb 0), 39) :: (n4, e11a, 39) :: L) := hO
  refine l_st hO 39 0 rfl e11b fe11b_27 ?_
  intro w5 hO
  exact l_fr _ (wpList_nil (H n4 n5 _ hO))
def f57r3Op0 : Oper := ⟨some 14, .load 39 (.tmp 4), 39, "edwards.go:137", #[], none⟩
def f57r3Op1 : Oper := ⟨some 15, .load 39 (.tmp 5), 39, "edwards.go:137", #[], none⟩
def f57r3Op2 : Oper := ⟨some 16, .call { callee := .value (.func 38), args := #[], argTypes := #[] }, 39, "edwards.go:137", #[], none⟩
def f57r3Op3 : Oper := ⟨some 17, .call { callee := .value (.func 38), args := #[], argTypes := #[] }, 39, "edwards.go:137", #[⟨2, .chain⟩], none⟩
def f57r3Op4 : Oper := ⟨some 18, .call { callee := .value (.func 36), args := #[.tmp 16, .tmp 17], argTypes := #[39, 39] }, 39, "edwards.go:137", #[⟨2, .data⟩, ⟨3, .data⟩, ⟨3, .chain⟩], none⟩
def f57r3Op5 : Oper := ⟨some 19, .fieldAddr 109 (.tmp 3) 1, 0, "edwards.go:137", #[], none⟩
def f57r3Op6 : Oper := ⟨some 20, .load 39 (.tmp 19), 39, "edwards.go:137", #[⟨5, .data⟩], none⟩
def f57r3Op7 : Oper := ⟨some 21, .call { callee := .value (.func 37), args := #[.tmp 18, .tmp 20], argTypes := #[39, 39] }, 39, "edwards.go:137", #[⟨4, .data⟩, ⟨6, .data⟩, ⟨4, .chain⟩], none⟩
def f57r3Op8 : Oper := ⟨some 22, .build 81 #[(0, .tmp 14), (1, .tmp 15), (2, .tmp 21)], 81, "edwards.go:137", #[⟨0, .data⟩, ⟨1, .data⟩, ⟨7, .data⟩], none⟩
def f57r3Op9 : Oper := ⟨none, .store 81 (.tmp 2) (.tmp 22), 0, "edwards.go:137", #[⟨8, .data⟩, ⟨7, .chain⟩, ⟨0, .phase⟩, ⟨1, .phase⟩, ⟨2, .phase⟩, ⟨3, .phase⟩, ⟨4, .phase⟩, ⟨5, .phase⟩, ⟨6, .phase⟩, ⟨7, .phase⟩, ⟨8, .phase⟩], none⟩
def f57r3Ops : Array Oper := #[f57r3Op0, f57r3Op1, f57r3Op2, f57r3Op3, f57r3Op4, f57r3Op5, f57r3Op6, f57r3Op7, f57r3Op8, f57r3Op9]
set_option maxHeartbeats 2000000 in
theorem f57r3_r {Q : Exit → Act → World → Prop} {u w : World} {L : List Row} {z0 z1 z6 z7 z8 z9 z10 z11 z12 z13 z14 z15 z16 z17 z18 z19 z20 z21 z22 : Value} {b2 b3 b4 b5 : Nat} {c2 c3 c4 c5 : Array Value} {e16 e17 e18 e20 e21 e22 : Array Value} (hQ : ∀ c a w n v, Q (.panic c) (a.put (some n) v) w → Q (.panic c) a w) (hO : Own u w L) (i2 : Nat) (h2 : L[i2]? = some (b2, c2, 81)) (i3 : Nat) (h3 : L[i3]? = some (b3, c3, 109)) (i4 : Nat) (h4 : L[i4]? = some (b4, c4, 39)) (i5 : Nat) (h5 : L[i5]? = some (b5, c5, 39)) (e2_3 : i2 ≠ i3) (e2_4 : i2 ≠ i4) (e2_5 : i2 ≠ i5) (r16 : ∀ w, Ret 38 #[] w (.agg e16)) (r17 : ∀ w, Ret 38 #[] w (.agg e17)) (r18 : ∀ w, Ret 36 #[.agg e16, .agg e17] w (.agg e18)) (q20 : Part c3 12 39 e20) (r21 : ∀ w, Ret 37 #[.agg e18, .agg e20] w (.agg e21)) (q22 : Tryd.prog.built 81 [(0, .agg c4), (1, .agg c5), (2, .agg e21)] = some e22) (fe22_87 : Fit 81 e22) (H : ∀ (w' : World), Own u w' ((L.set i2 (b2, e22, 81))) → Q .normal { tmps := List.toArray (z0 :: z1 :: (.pointer (some ⟨b2, 0, none⟩)) :: (.pointer (some ⟨b3, 0, none⟩)) :: (.pointer (some ⟨b4, 0, none⟩)) :: (.pointer (some ⟨b5, 0, none⟩)) :: z6 :: z7 :: z8 :: z9 :: z10 :: z11 :: z12 :: z13 :: (.agg c4) :: (.agg c5) :: (.agg e16) :: (.agg e17) :: (.agg e18) :: (.pointer (some ⟨b3, 12, none⟩)) :: (.agg e20) :: (.agg e21) :: (.agg e22) :: []), defers := [] } w') :
    (Code.region 3 f57r3Ops true).wp Tryd.prog Q { tmps := List.toArray (z0 :: z1 :: (.pointer (some ⟨b2, 0, none⟩)) :: (.pointer (some ⟨b3, 0, none⟩)) :: (.pointer (some ⟨b4, 0, none⟩)) :: (.pointer (some ⟨b5, 0, none⟩)) :: z6 :: z7 :: z8 :: z9 :: z10 :: z11 :: z12 :: z13 :: z14 :: z15 :: z16 :: z17 :: z18 :: z19 :: z20 :: z21 :: z22 :: []), defers := [] } w := by
  have fc4_27 := hO.fits i4 h4
  have fc5_27 := hO.fits i5 h5
  refine wp_region_held_drew (S := Has [(b3, c3, 109), (b4, c4, 39), (b5, c5, 39)]) (by kernel_rfl) ⟨hO.drew.row _ h3, hO.drew.row _ h4, hO.drew.row _ h5, trivial⟩ (fun hS => ?_)
  replace hO := hO.drew
  refine d_tk 0 f57r3Op0 (.agg c4) hQ (y_l 39 (fun _ h => h.2.1) fc4_27 Tryd.underlying39) hS ?_
  refine d_tk 1 f57r3Op1 (.agg c5) hQ (y_l 39 (fun _ h => h.2.2.1) fc5_27 Tryd.underlying39) hS ?_
  refine d_tk 5 f57r3Op5 (.pointer (some ⟨b3, 12, none⟩)) hQ (y_val (fun _ => by kernel_rfl)) hS ?_
  refine d_fr (ls 10 35) (Fr [z0, z1, D b2, D b3, D b4, D b5, z6, z7, z8, z9, z10, z11, z12, z13, A c4, A c5, z16, z17, z18, .pointer (some ⟨b3, 12, none⟩), z20, z21, z22] []) ?_
  refine d_tk 6 f57r3Op6 (.agg e20) hQ (y_p 39 (fun _ h => h.1) q20 Tryd.underlying39) hS ?_
  refine d_fr (ls 10 99) (Fr [z0, z1, D b2, D b3, D b4, D b5, z6, z7, z8, z9, z10, z11, z12, z13, A c4, A c5, z16, z17, z18, .pointer (some ⟨b3, 12, none⟩), A e20, z21, z22] []) ?_
  refine d_one 2 f57r3Op2 (ls 10 103) (fun K hK => ?_)
  refine k_call hK hO (fun _ hO => ⟨hO.row _ h3, hO.row _ h4, hO.row _ h5, trivial⟩) 38 #[] (.agg e16) r16 ?_
  intro w1 hO
  refine d_one 3 f57r3Op3 (ls 10 111) (fun K hK => ?_)
  refine k_call hK hO (fun _ hO => ⟨hO.row _ h3, hO.row _ h4, hO.row _ h5, trivial⟩) 38 #[] (.agg e17) r17 ?_
  intro w2 hO
  refine d_one 4 f57r3Op4 (ls 10 127) (fun K hK => ?_)
  refine k_call hK hO (fun _ hO => ⟨hO.row _ h3, hO.row _ h4, hO.row _ h5, trivial⟩) 36 #[.agg e16, .agg e17] (.agg e18) r18 ?_
  intro w3 hO
  refine d_fr (ls 10 127) (Fr [z0, z1, D b2, D b3, D b4, D b5, z6, z7, z8, z9, z10, z11, z12, z13, A c4, A c5, A e16, A e17, A e18, .pointer (some ⟨b3, 12, none⟩), A e20, z21, z22] []) ?_
  refine d_one 7 f57r3Op7 (ls 10 255) (fun K hK => ?_)
  refine k_call hK hO (fun _ hO => ⟨hO.row _ h3, hO.row _ h4, hO.row _ h5, trivial⟩) 37 #[.agg e18, .agg e20] (.agg e21) r21 ?_
  intro w4 hO
  have hS : Has [(b3, c3, 109), (b4, c4, 39), (b5, c5, 39)] _ := ⟨hO.row _ h3, hO.row _ h4, hO.row _ h5, trivial⟩
  refine d_tk 8 f57r3Op8 (.agg e22) hQ (y_val (run_bd 81 _ rfl [(0, .agg c4), (1, .agg c5), (2, .agg e21)] (by kernel_rfl) e22 q22)) hS ?_
  refine d_one 9 f57r3Op9 (ls 10 1023) (fun K hK => ?_)
  refine k_st hK hO 81 i2 h2 e22 fe22_87 (fun _ hO => ⟨hO.row _ (get_set h3 e2_3), hO.row _ (get_set h4 e2_4), hO.row _ (get_set h5 e2_5), trivial⟩) ?_
  intro w5 hO
  exact d_fr (ls 10 1023) _ (wpAnyH_done (by kernel_rfl) (H  _ hO) _)
set_option maxHeartbeats 4000000 in
theorem addendOf_c (x y : Nat) (hx : x < pP) (hy : y < pP) (w : World) : Ret 53 #[.agg (ps [x, y])] w (.agg (ps [am (am y 1) x, sm (am y 1) x, mm dd7 (mm x (am y 1))])) := by
  go_enter Tryd.func53, Tryd.ntmps53
  have hO := Own.start w
  go_upto_region 0 with (fail)
  refine f57r0_r hO (fit_pt _ _) ?_
  intro n1 n2 w1 hO
  replace hO : Own w w1 [(n2, ps [0, 0, 0], 81), (n1, ps [x, y], 41)] := hO
  go_upto_region 1 with (fail)
  refine f57r1_r hO 1 rfl (reckoned_c _ _ hx hy) (fit_ru _ _ _ _) ?_
  intro n3 w2 hO
  replace hO : Own w w2 [(n3, ps [x, am y 1, 1, mm x (am y 1)], 109), (n2, ps [0, 0, 0], 81), (n1, ps [x, y], 41)] := hO
  go_upto_region 2 with (fail)
  refine f57r2_r hO 0 rfl (part_ruc _ _ _ _) (sides_c _ _ _ hx (am_lt _ _)) (fit_fe _) (fit_fe _) ?_
  intro n4 n5 w3 hO
  replace hO : Own w w3 [(n5, arr 4 (limb (sm (am y 1) x)), 39), (n4, arr 4 (limb (am (am y 1) x)), 39), (n3, ps [x, am y 1, 1, mm x (am y 1)], 109), (n2, ps [0, 0, 0], 81), (n1, ps [x, y], 41)] := hO
  go_upto_region 3 with (fail)
  refine f57r3_r (fun _ _ _ _ _ h => h) hO 3 rfl 2 rfl 1 rfl 0 rfl (by decide) (by decide) (by decide) d_c d_c (add_c _ _ d7_lt d7_lt) (part_ru3 _ _ _ _) (mul_c _ _ (am_lt _ _) (mm_lt _ _)) (bd_ad _ _ _) (fit_ad _ _ _) ?_
  intro w4 hO
  replace hO : Own w w4 [(n5, arr 4 (limb (sm (am y 1) x)), 39), (n4, arr 4 (limb (am (am y 1) x)), 39), (n3, ps [x, am y 1, 1, mm x (am y 1)], 109), (n2, ps [am (am y 1) x, sm (am y 1) x, mm (am d7N d7N) (mm x (am y 1))], 81), (n1, ps [x, y], 41)] := hO
  go_wp2_with fail
  refine bodyPost_ret (v := .agg (ps [am (am y 1) x, sm (am y 1) x, mm (am d7N d7N) (mm x (am y 1))])) (results_cell_row Tryd.results53 _ _ n2 81 _ (0, 0) _ rfl (hO.row 3 rfl) Tryd.underlying81 rfl (fit_ad _ _ _).size) rfl ⟨rfl, hO.low⟩
def f58r0Op0 : Oper := ⟨some 1, .box 107 (.tmp 0), 0, "edwards.go:85", #[], none⟩
def f58r0Op1 : Oper := ⟨some 2, .alloc 41, 0, "edwards.go:85", #[], none⟩
def f58r0Ops : Array Oper := #[f58r0Op0, f58r0Op1]
set_option maxHeartbeats 2000000 in
theorem f58r0_r {Q : Exit → Act → World → Prop} {u w : World} {L : List Row} {z1 z2 : Value} {zz : List Value} {e0 : Array Value} (hO : Own u w L) (fe0_81 : Fit 107 e0) (H : ∀ (n1 : Nat) (n2 : Nat) (w' : World), Own u w' ((n2, ps [0, 0], 41) :: (n1, e0, 107) :: L) → Q .normal { tmps := List.toArray ((.agg e0) :: (.pointer (some ⟨n1, 0, none⟩)) :: (.pointer (some ⟨n2, 0, none⟩)) :: zz), defers := [] } w') :
    (Code.region 0 f58r0Ops false).wp Tryd.prog Q { tmps := List.toArray ((.agg e0) :: z1 :: z2 :: zz), defers := [] } w := by
  refine wp_region_list (show wpList _ f58r0Ops _ [f58r0Op0, f58r0Op1] _ _ from ?_)
  refine l_new hO (e0) 107 (run_box 107 _ rfl _ (by kernel_rfl)) fe0_81 ?_
  intro n1 w1 hO
  refine l_new hO (ps [0, 0]) 41 (al29 rfl) (fit_pt _ _) ?_
  intro n2 w2 hO
  exact l_fr _ (wpList_nil (H n1 n2 _ hO))
def f58r1Op0 : Oper := ⟨some 4, .fieldAddr 107 (.tmp 1) 2, 0, "edwards.go:86", #[], none⟩
def f58r1Op1 : Oper := ⟨some 5, .load 39 (.tmp 4), 39, "edwards.go:86", #[⟨0, .data⟩], none⟩
def f58r1Op2 : Oper := ⟨some 6, .call { callee := .value (.func 82), args := #[.tmp 5], argTypes := #[39] }, 39, "edwards.go:86", #[⟨1, .data⟩], none⟩
def f58r1Op3 : Oper := ⟨some 3, .alloc 39, 0, "edwards.go:86", #[], none⟩
def f58r1Op4 : Oper := ⟨none, .store 39 (.tmp 3) (.tmp 6), 0, "edwards.go:86", #[⟨3, .data⟩, ⟨2, .data⟩, ⟨2, .chain⟩, ⟨0, .phase⟩, ⟨1, .phase⟩, ⟨2, .phase⟩, ⟨3, .phase⟩], none⟩
def f58r1Ops : Array Oper := #[f58r1Op0, f58r1Op1, f58r1Op2, f58r1Op3, f58r1Op4]
set_option maxHeartbeats 2000000 in
theorem f58r1_r {Q : Exit → Act → World → Prop} {u w : World} {L : List Row} {z0 z2 z3 z4 z5 z6 : Value} {zz : List Value} {b1 : Nat} {c1 : Array Value} {e5 e6 : Array Value} (hO : Own u w L) (i1 : Nat) (h1 : L[i1]? = some (b1, c1, 107)) (q5 : Part c1 8 39 e5) (r6 : ∀ w, Ret 82 #[.agg e5] w (.agg e6)) (fe6_27 : Fit 39 e6) (H : ∀ (n3 : Nat) (w' : World), Own u w' ((n3, e6, 39) :: L) → Q .normal { tmps := List.toArray (z0 :: (.pointer (some ⟨b1, 0, none⟩)) :: z2 :: (.pointer (some ⟨n3, 0, none⟩)) :: (.pointer (some ⟨b1, 8, none⟩)) :: (.agg e5) :: (.agg e6) :: zz), defers := [] } w') :
    (Code.region 1 f58r1Ops false).wp Tryd.prog Q { tmps := List.toArray (z0 :: (.pointer (some ⟨b1, 0, none⟩)) :: z2 :: z3 :: z4 :: z5 :: z6 :: zz), defers := [] } w := by
  refine wp_region_list (show wpList _ f58r1Ops _ [f58r1Op0, f58r1Op1, f58r1Op2, f58r1Op3, f58r1Op4] _ _ from ?_)
  refine l_val (.pointer (some ⟨b1, 8, none⟩)) (by kernel_rfl) ?_
  refine l_part hO 39 i1 h1 q5 Tryd.underlying39 ?_
  refine l_call hO 82 #[.agg e5] (.agg e6) r6 ?_
  intro w1 hO
  refine l_fr (Fr [z0, D b1, z2, z3, .pointer (some ⟨b1, 8, none⟩), A e5, A e6] zz) ?_
  refine l_new hO (arr 4 (limb 0)) 39 (al27 rfl) (fit_fe _) ?_
  intro n3 w2 hO
  refine l_st hO 39 0 rfl e6 fe6_27 ?_
  intro w3 hO
  exact l_fr _ (wpList_nil (H n3 _ hO))
def f58r2Op0 : Oper := ⟨some 7, .fieldAddr 107 (.tmp 1) 0, 0, "edwards.go:87", #[], none⟩
def f58r2Op1 : Oper := ⟨some 8, .load 39 (.tmp 7), 39, "edwards.go:87", #[⟨0, .data⟩], none⟩
def f58r2Op2 : Oper := ⟨some 9, .load 39 (.tmp 3), 39, "edwards.go:87", #[], none⟩
def f58r2Op3 : Oper := ⟨some 10, .call { callee := .value (.func 37), args := #[.tmp 8, .tmp 9], argTypes := #[39, 39] }, 39, "edwards.go:87", #[⟨1, .data⟩, ⟨2, .data⟩], none⟩
def f58r2Op4 : Oper := ⟨some 11, .fieldAddr 107 (.tmp 1) 1, 0, "edwards.go:87", #[], none⟩
def f58r2Op5 : Oper := ⟨some 12, .load 39 (.tmp 11), 39, "edwards.go:87", #[⟨4, .data⟩], none⟩
def f58r2Op6 : Oper := ⟨some 13, .load 39 (.tmp 3), 39, "edwards.go:87", #[], none⟩
def f58r2Op7 : Oper := ⟨some 14, .call { callee := .value (.func 37), args := #[.tmp 12, .tmp 13], argTypes := #[39, 39] }, 39, "edwards.go:87", #[⟨5, .data⟩, ⟨6, .data⟩, ⟨3, .chain⟩], none⟩
def f58r2Op8 : Oper := ⟨some 15, .call { callee := .value (.func 40), args := #[.tmp 10, .tmp 14], argTypes := #[39, 39] }, 41, "edwards.go:87", #[⟨3, .data⟩, ⟨7, .data⟩, ⟨7, .chain⟩], none⟩
def f58r2Op9 : Oper := ⟨none, .store 41 (.tmp 2) (.tmp 15), 0, "edwards.go:87", #[⟨8, .data⟩, ⟨8, .chain⟩, ⟨0, .phase⟩, ⟨1, .phase⟩, ⟨2, .phase⟩, ⟨3, .phase⟩, ⟨4, .phase⟩, ⟨5, .phase⟩, ⟨6, .phase⟩, ⟨7, .phase⟩, ⟨8, .phase⟩], none⟩
def f58r2Ops : Array Oper := #[f58r2Op0, f58r2Op1, f58r2Op2, f58r2Op3, f58r2Op4, f58r2Op5, f58r2Op6, f58r2Op7, f58r2Op8, f58r2Op9]
set_option maxHeartbeats 2000000 in
theorem f58r2_r {Q : Exit → Act → World → Prop} {u w : World} {L : List Row} {z0 z4 z5 z6 z7 z8 z9 z10 z11 z12 z13 z14 z15 : Value} {b1 b2 b3 : Nat} {c1 c2 c3 : Array Value} {e8 e10 e12 e14 e15 : Array Value} (hQ : ∀ c a w n v, Q (.panic c) (a.put (some n) v) w → Q (.panic c) a w) (hO : Own u w L) (i1 : Nat) (h1 : L[i1]? = some (b1, c1, 107)) (i2 : Nat) (h2 : L[i2]? = some (b2, c2, 41)) (i3 : Nat) (h3 : L[i3]? = some (b3, c3, 39)) (e2_1 : i2 ≠ i1) (e2_3 : i2 ≠ i3) (q8 : Part c1 0 39 e8) (r10 : ∀ w, Ret 37 #[.agg e8, .agg c3] w (.agg e10)) (q12 : Part c1 4 39 e12) (r14 : ∀ w, Ret 37 #[.agg e12, .agg c3] w (.agg e14)) (r15 : ∀ w, Ret 40 #[.agg e10, .agg e14] w (.agg e15)) (fe15_29 : Fit 41 e15) (H : ∀ (w' : World), Own u w' ((L.set i2 (b2, e15, 41))) → Q .normal { tmps := List.toArray (z0 :: (.pointer (some ⟨b1, 0, none⟩)) :: (.pointer (some ⟨b2, 0, none⟩)) :: (.pointer (some ⟨b3, 0, none⟩)) :: z4 :: z5 :: z6 :: (.pointer (some ⟨b1, 0, none⟩)) :: (.agg e8) :: (.agg c3) :: (.agg e10) :: (.pointer (some ⟨b1, 4, none⟩)) :: (.agg e12) :: (.agg c3) :: (.agg e14) :: (.agg e15) :: []), defers := [] } w') :
    (Code.region 2 f58r2Ops true).wp Tryd.prog Q { tmps := List.toArray (z0 :: (.pointer (some ⟨b1, 0, none⟩)) :: (.pointer (some ⟨b2, 0, none⟩)) :: (.pointer (some ⟨b3, 0, none⟩)) :: z4 :: z5 :: z6 :: z7 :: z8 :: z9 :: z10 :: z11 :: z12 :: z13 :: z14 :: z15 :: []), defers := [] } w := by
  have fc3_27 := hO.fits i3 h3
  refine wp_region_held_drew (S := Has [(b1, c1, 107), (b3, c3, 39)]) (by kernel_rfl) ⟨hO.drew.row _ h1, hO.drew.row _ h3, trivial⟩ (fun hS => ?_)
  replace hO := hO.drew
  refine d_tk 0 f58r2Op0 (.pointer (some ⟨b1, 0, none⟩)) hQ (y_val (fun _ => by kernel_rfl)) hS ?_
  refine d_tk 1 f58r2Op1 (.agg e8) hQ (y_p 39 (fun _ h => h.1) q8 Tryd.underlying39) hS ?_
  refine d_tk 2 f58r2Op2 (.agg c3) hQ (y_l 39 (fun _ h => h.2.1) fc3_27 Tryd.underlying39) hS ?_
  refine d_fr (ls 10 7) (Fr [z0, D b1, D b2, D b3, z4, z5, z6, .pointer (some ⟨b1, 0, none⟩), A e8, A c3, z10, z11, z12, z13, z14, z15] []) ?_
  refine d_tk 4 f58r2Op4 (.pointer (some ⟨b1, 4, none⟩)) hQ (y_val (fun _ => by kernel_rfl)) hS ?_
  refine d_tk 5 f58r2Op5 (.agg e12) hQ (y_p 39 (fun _ h => h.1) q12 Tryd.underlying39) hS ?_
  refine d_tk 6 f58r2Op6 (.agg c3) hQ (y_l 39 (fun _ h => h.2.1) fc3_27 Tryd.underlying39) hS ?_
  refine d_fr (ls 10 119) (Fr [z0, D b1, D b2, D b3, z4, z5, z6, .pointer (some ⟨b1, 0, none⟩), A e8, A c3, z10, .pointer (some ⟨b1, 4, none⟩), A e12, A c3, z14, z15] []) ?_
  refine d_one 3 f58r2Op3 (ls 10 127) (fun K hK => ?_)
  refine k_call hK hO (fun _ hO => ⟨hO.row _ h1, hO.row _ h3, trivial⟩) 37 #[.agg e8, .agg c3] (.agg e10) r10 ?_
  intro w1 hO
  refine d_one 7 f58r2Op7 (ls 10 255) (fun K hK => ?_)
  refine k_call hK hO (fun _ hO => ⟨hO.row _ h1, hO.row _ h3, trivial⟩) 37 #[.agg e12, .agg c3] (.agg e14) r14 ?_
  intro w2 hO
  refine d_one 8 f58r2Op8 (ls 10 511) (fun K hK => ?_)
  refine k_call hK hO (fun _ hO => ⟨hO.row _ h1, hO.row _ h3, trivial⟩) 40 #[.agg e10, .agg e14] (.agg e15) r15 ?_
  intro w3 hO
  refine d_fr (ls 10 511) (Fr [z0, D b1, D b2, D b3, z4, z5, z6, .pointer (some ⟨b1, 0, none⟩), A e8, A c3, A e10, .pointer (some ⟨b1, 4, none⟩), A e12, A c3, A e14, A e15] []) ?_
  refine d_one 9 f58r2Op9 (ls 10 1023) (fun K hK => ?_)
  refine k_st hK hO 41 i2 h2 e15 fe15_29 (fun _ hO => ⟨hO.row _ (get_set h1 e2_1), hO.row _ (get_set h3 e2_3), trivial⟩) ?_
  intro w4 hO
  exact wpAnyH_done (by kernel_rfl) (H  _ hO) _
set_option maxHeartbeats 4000000 in
theorem whole_c (x y z : Nat) (hx : x < pP) (hy : y < pP) (hz : z < pP) (w : World) : Ret 76 #[.agg (ps [x, y, z])] w (.agg (ps [mm x (iN z), sm (mm y (iN z)) 1])) := by
  go_enter Tryd.func76, Tryd.ntmps76
  have hO := Own.start w
  go_upto_region 0 with (fail)
  refine f58r0_r hO (fit_co _ _ _) ?_
  intro n1 n2 w1 hO
  replace hO : Own w w1 [(n2, ps [0, 0], 41), (n1, ps [x, y, z], 107)] := hO
  go_upto_region 1 with (fail)
  refine f58r1_r hO 1 rfl (part_co2 _ _ _) (inv_c _ hz) (fit_fe _) ?_
  intro n3 w2 hO
  replace hO : Own w w2 [(n3, arr 4 (limb (iN z)), 39), (n2, ps [0, 0], 41), (n1, ps [x, y, z], 107)] := hO
  go_upto_region 2 with (fail)
  refine f58r2_r (fun _ _ _ _ _ h => h) hO 2 rfl 1 rfl 0 rfl (by decide) (by decide) (part_co0 _ _ _) (mul_c _ _ hx (iN_lt _)) (part_co1 _ _ _) (mul_c _ _ hy (iN_lt _)) (pointAt_c _ _ (mm_lt _ _)) (fit_pt _ _) ?_
  intro w3 hO
  replace hO : Own w w3 [(n3, arr 4 (limb (iN z)), 39), (n2, ps [mm x (iN z), sm (mm y (iN z)) 1], 41), (n1, ps [x, y, z], 107)] := hO
  go_wp2_with fail
  refine bodyPost_ret (v := .agg (ps [mm x (iN z), sm (mm y (iN z)) 1])) (results_cell_row Tryd.results76 _ _ n2 41 _ (0, 0) _ rfl (hO.row 1 rfl) Tryd.underlying41 rfl (fit_pt _ _).size) rfl ⟨rfl, hO.low⟩
end Go.Proofs.YtbpmakegimgbpaaDoor

/- Walks: Add, total, of points of the curve. No other condition. -/
import Derived.Test.YtbpmakegimgbpaaDoorPm
namespace Go.Proofs.YtbpmakegimgbpaaDoor
set_option maxRecDepth 100000
open F Go.RowKit

theorem rec_p {P : Nat × Nat} (hP : Ok7 P) (w : World) : Ret 72 #[.agg (pt P)] w (.agg (pq (q4 P))) := by
  have h := reckoned_c P.1 (sm P.2 1) hP.x (sm_lt _ _) w
  rw [sm_am hP.y] at h
  exact h
theorem add_p {P : Nat × Nat} (hP : Ok7 P) (w : World) : Ret 53 #[.agg (pt P)] w (.agg (ad P)) := by
  have h := addendOf_c P.1 (sm P.2 1) hP.x (sm_lt _ _) w
  rw [sm_am hP.y] at h
  exact h
theorem plus_p {P Q : Nat × Nat} {r : Q4} (h : Rp P r) (w : World) : Ret 74 #[.agg (pq r), .agg (ad Q)] w (.agg (pq (sum4 r (q4 Q)))) := by
  have h1 := plus_c r.1 r.2.1 r.2.2.1 r.2.2.2 (am Q.2 Q.1) (sm Q.2 Q.1) (mm dd7 (mm Q.1 Q.2)) h.x h.y h.z h.t (am_lt _ _) (sm_lt _ _) (mm_lt _ _) w
  rw [pl4_sum _ _ _ _ _ h.z] at h1
  exact h1
theorem twice_p {P : Nat × Nat} {r : Q4} (h : Rp P r) (w : World) : Ret 73 #[.agg (ps [r.1, r.2.1, r.2.2.1])] w (.agg (pq (dbl4 r.1 r.2.1 r.2.2.1))) := twice_c _ _ _ h.x h.y h.z w
theorem whole_p {P : Nat × Nat} {r : Q4} (hP : Ok7 P) (h : Rp P r) (w : World) : Ret 76 #[.agg (ps [r.1, r.2.1, r.2.2.1])] w (.agg (pt P)) := by
  have h1 := whole_c _ _ _ h.x h.y h.z w
  have h2 := rp_out hP h
  rw [show mm r.1 (iN r.2.2.1) = P.1 from congrArg Prod.fst h2, show mm r.2.1 (iN r.2.2.1) = P.2 from congrArg Prod.snd h2] at h1
  exact h1
theorem cond_ap (F : Nat × Nat → Nat) (c : Bool) (P Z : Nat × Nat) : cond c (F P) (F Z) = F (cond c P Z) := by cases c <;> rfl
theorem ad_cond (c : Bool) (P Z : Nat × Nat) : ps [cond c (am P.2 P.1) (am Z.2 Z.1), cond c (sm P.2 P.1) (sm Z.2 Z.1), cond c (mm dd7 (mm P.1 P.2)) (mm dd7 (mm Z.1 Z.2))] = ad (cond c P Z) := by
  have e1 := cond_ap (fun Q => am Q.2 Q.1) c P Z
  have e2 := cond_ap (fun Q => sm Q.2 Q.1) c P Z
  have e3 := cond_ap (fun Q => mm dd7 (mm Q.1 Q.2)) c P Z
  rw [e1, e2, e3]
theorem at_z (m : Mult) (k : Nat) (hf : ∀ i, m.1 i < 256) (hk : k < 256) (w : World) (Z : Nat × Nat) (c : Bool) (hc : (nb m.1 32).testBit k = c) : Ret 75 #[.agg (mq m.1 m.2), .int .i64 ((k : Nat) : Int), .agg (ad Z)] w (.agg (ad (cond c m.2 Z))) := by
  have h := at_c m.1 k (am m.2.2 m.2.1) (sm m.2.2 m.2.1) (mm dd7 (mm m.2.1 m.2.2)) (am Z.2 Z.1) (sm Z.2 Z.1) (mm dd7 (mm Z.1 Z.2)) hf hk w
  rw [hc, ad_cond] at h
  exact h
theorem at_p (m : Mult) (k : Nat) (hf : ∀ i, m.1 i < 256) (hk : k < 256) (w : World) : Ret 75 #[.agg (mq m.1 m.2), .int .i64 ((k : Nat) : Int), .agg (ad zero7)] w (.agg (ad (bitP k m))) := at_z m k hf hk w zero7 _ rfl
theorem pt_zero : pt zero7 = ps [0, 0] := by show ps [0, sm 1 1] = _; rw [pt_one]
theorem rec_zero (w : World) : Ret 72 #[.agg (ps [0, 0])] w (.agg (pq (q4 zero7))) := pt_zero ▸ rec_p ok_zero7 w
theorem add_zero (w : World) : Ret 53 #[.agg (ps [0, 0])] w (.agg (ad zero7)) := pt_zero ▸ add_p ok_zero7 w
theorem Own.tail {u w : World} {r : Row} {L : List Row} (h : Own u w (r :: L)) : Own u w L :=
  ⟨h.low, fun x hx => h.blk x (List.mem_cons_of_mem _ hx), fun x hx => h.new x (List.mem_cons_of_mem _ hx), fun x hx => h.fit x (List.mem_cons_of_mem _ hx), (List.nodup_cons.1 h.dist).2⟩
def f21r0Op0 : Oper := ⟨some 2, .box 41 (.tmp 0), 0, "edwards.go:63", #[], none⟩
def f21r0Op1 : Oper := ⟨some 3, .box 41 (.tmp 1), 0, "edwards.go:63", #[], none⟩
def f21r0Op2 : Oper := ⟨some 4, .alloc 41, 0, "edwards.go:63", #[], none⟩
def f21r0Ops : Array Oper := #[f21r0Op0, f21r0Op1, f21r0Op2]
set_option maxHeartbeats 2000000 in
theorem f21r0_r {Q : Exit → Act → World → Prop} {u w : World} {L : List Row} {z2 z3 z4 : Value} {zz : List Value} {e0 e1 : Array Value} (hO : Own u w L) (fe0_29 : Fit 41 e0) (fe1_29 : Fit 41 e1) (H : ∀ (n2 : Nat) (n3 : Nat) (n4 : Nat) (w' : World), Own u w' ((n4, ps [0, 0], 41) :: (n3, e1, 41) :: (n2, e0, 41) :: L) → Q .normal { tmps := List.toArray ((.agg e0) :: (.agg e1) :: (.pointer (some ⟨n2, 0, none⟩)) :: (.pointer (some ⟨n3, 0, none⟩)) :: (.pointer (some ⟨n4, 0, none⟩)) :: zz), defers := [] } w') :
    (Code.region 0 f21r0Ops false).wp Tryd.prog Q { tmps := List.toArray ((.agg e0) :: (.agg e1) :: z2 :: z3 :: z4 :: zz), defers := [] } w := by
  refine wp_region_list (show wpList _ f21r0Ops _ [f21r0Op0, f21r0Op1, f21r0Op2] _ _ from ?_)
  refine l_new hO (e0) 41 (run_box 41 _ rfl _ (by kernel_rfl)) fe0_29 ?_
  intro n2 w1 hO
  refine l_new hO (e1) 41 (run_box 41 _ rfl _ (by kernel_rfl)) fe1_29 ?_
  intro n3 w2 hO
  refine l_new hO (ps [0, 0]) 41 (al29 rfl) (fit_pt _ _) ?_
  intro n4 w3 hO
  exact l_fr _ (wpList_nil (H n2 n3 n4 _ hO))
def f21r1Op0 : Oper := ⟨some 5, .load 41 (.tmp 2), 41, "edwards.go:63", #[], none⟩
def f21r1Op1 : Oper := ⟨some 6, .call { callee := .value (.func 72), args := #[.tmp 5], argTypes := #[41] }, 109, "edwards.go:63", #[⟨0, .data⟩], none⟩
def f21r1Op2 : Oper := ⟨some 7, .load 41 (.tmp 3), 41, "edwards.go:63", #[], none⟩
def f21r1Op3 : Oper := ⟨some 8, .call { callee := .value (.func 53), args := #[.tmp 7], argTypes := #[41] }, 81, "edwards.go:63", #[⟨2, .data⟩, ⟨1, .chain⟩], none⟩
def f21r1Op4 : Oper := ⟨some 9, .call { callee := .value (.func 74), args := #[.tmp 6, .tmp 8], argTypes := #[109, 81] }, 109, "edwards.go:63", #[⟨1, .data⟩, ⟨3, .data⟩, ⟨3, .chain⟩], none⟩
def f21r1Op5 : Oper := ⟨some 10, .field 109 (.tmp 9) 0, 107, "edwards.go:63", #[⟨4, .data⟩], none⟩
def f21r1Op6 : Oper := ⟨some 11, .call { callee := .value (.func 76), args := #[.tmp 10], argTypes := #[107] }, 41, "edwards.go:63", #[⟨5, .data⟩, ⟨4, .chain⟩], none⟩
def f21r1Op7 : Oper := ⟨none, .store 41 (.tmp 4) (.tmp 11), 0, "edwards.go:63", #[⟨6, .data⟩, ⟨6, .chain⟩, ⟨0, .phase⟩, ⟨1, .phase⟩, ⟨2, .phase⟩, ⟨3, .phase⟩, ⟨4, .phase⟩, ⟨5, .phase⟩, ⟨6, .phase⟩], none⟩
def f21r1Ops : Array Oper := #[f21r1Op0, f21r1Op1, f21r1Op2, f21r1Op3, f21r1Op4, f21r1Op5, f21r1Op6, f21r1Op7]
set_option maxHeartbeats 2000000 in
theorem f21r1_r {Q : Exit → Act → World → Prop} {u w : World} {L : List Row} {z0 z1 z5 z6 z7 z8 z9 z10 z11 : Value} {b2 b3 b4 : Nat} {c2 c3 c4 : Array Value} {e6 e8 e9 e10 e11 : Array Value} (hQ : ∀ c a w n v, Q (.panic c) (a.put (some n) v) w → Q (.panic c) a w) (hO : Own u w L) (i2 : Nat) (h2 : L[i2]? = some (b2, c2, 41)) (i3 : Nat) (h3 : L[i3]? = some (b3, c3, 41)) (i4 : Nat) (h4 : L[i4]? = some (b4, c4, 41)) (e4_2 : i4 ≠ i2) (e4_3 : i4 ≠ i3) (r6 : ∀ w, Ret 72 #[.agg c2] w (.agg e6)) (r8 : ∀ w, Ret 53 #[.agg c3] w (.agg e8)) (r9 : ∀ w, Ret 74 #[.agg e6, .agg e8] w (.agg e9)) (q10 : Part e9 0 107 e10) (r11 : ∀ w, Ret 76 #[.agg e10] w (.agg e11)) (fe11_29 : Fit 41 e11) (H : ∀ (w' : World), Own u w' ((L.set i4 (b4, e11, 41))) → Q .normal { tmps := List.toArray (z0 :: z1 :: (.pointer (some ⟨b2, 0, none⟩)) :: (.pointer (some ⟨b3, 0, none⟩)) :: (.pointer (some ⟨b4, 0, none⟩)) :: (.agg c2) :: (.agg e6) :: (.agg c3) :: (.agg e8) :: (.agg e9) :: (.agg e10) :: (.agg e11) :: []), defers := [] } w') :
    (Code.region 1 f21r1Ops true).wp Tryd.prog Q { tmps := List.toArray (z0 :: z1 :: (.pointer (some ⟨b2, 0, none⟩)) :: (.pointer (some ⟨b3, 0, none⟩)) :: (.pointer (some ⟨b4, 0, none⟩)) :: z5 :: z6 :: z7 :: z8 :: z9 :: z10 :: z11 :: []), defers := [] } w := by
  have fc2_29 := hO.fits i2 h2
  have fc3_29 := hO.fits i3 h3
  refine wp_region_held_drew (S := Has [(b2, c2, 41), (b3, c3, 41)]) (by kernel_rfl) ⟨hO.drew.row _ h2, hO.drew.row _ h3, trivial⟩ (fun hS => ?_)
  replace hO := hO.drew
  refine d_tk 0 f21r1Op0 (.agg c2) hQ (y_l 41 (fun _ h => h.1) fc2_29 Tryd.underlying41) hS ?_
  refine d_tk 2 f21r1Op2 (.agg c3) hQ (y_l 41 (fun _ h => h.2.1) fc3_29 Tryd.underlying41) hS ?_
  refine d_fr (ls 8 5) (Fr [z0, z1, D b2, D b3, D b4, A c2, z6, A c3, z8, z9, z10, z11] []) ?_
  refine d_one 1 f21r1Op1 (ls 8 7) (fun K hK => ?_)
  refine k_call hK hO (fun _ hO => ⟨hO.row _ h2, hO.row _ h3, trivial⟩) 72 #[.agg c2] (.agg e6) r6 ?_
  intro w1 hO
  refine d_one 3 f21r1Op3 (ls 8 15) (fun K hK => ?_)
  refine k_call hK hO (fun _ hO => ⟨hO.row _ h2, hO.row _ h3, trivial⟩) 53 #[.agg c3] (.agg e8) r8 ?_
  intro w2 hO
  refine d_one 4 f21r1Op4 (ls 8 31) (fun K hK => ?_)
  refine k_call hK hO (fun _ hO => ⟨hO.row _ h2, hO.row _ h3, trivial⟩) 74 #[.agg e6, .agg e8] (.agg e9) r9 ?_
  intro w3 hO
  have hS : Has [(b2, c2, 41), (b3, c3, 41)] _ := ⟨hO.row _ h2, hO.row _ h3, trivial⟩
  refine d_tk 5 f21r1Op5 (.agg e10) hQ (y_val (run_fld 109 107 _ 0 0 _ _ _ rfl (by kernel_rfl) Tryd.underlying109 rfl rfl rfl Tryd.underlying107 rfl q10)) hS ?_
  refine d_fr (ls 8 63) (Fr [z0, z1, D b2, D b3, D b4, A c2, A e6, A c3, A e8, A e9, A e10, z11] []) ?_
  refine d_one 6 f21r1Op6 (ls 8 127) (fun K hK => ?_)
  refine k_call hK hO (fun _ hO => ⟨hO.row _ h2, hO.row _ h3, trivial⟩) 76 #[.agg e10] (.agg e11) r11 ?_
  intro w4 hO
  refine d_one 7 f21r1Op7 (ls 8 255) (fun K hK => ?_)
  refine k_st hK hO 41 i4 h4 e11 fe11_29 (fun _ hO => ⟨hO.row _ (get_set h2 e4_2), hO.row _ (get_set h3 e4_3), trivial⟩) ?_
  intro w5 hO
  exact d_fr (ls 8 255) _ (wpAnyH_done (by kernel_rfl) (H  _ hO) _)
def f61r0Op0 : Oper := ⟨some 2, .alloc 41, 0, "edwards.go:157", #[], none⟩
def f61r0Ops : Array Oper := #[f61r0Op0]
set_option maxHeartbeats 2000000 in
theorem f61r0_r {Q : Exit → Act → World → Prop} {u w : World} {L : List Row} {z0 z1 z2 : Value} {zz : List Value} (hO : Own u w L) (H : ∀ (n2 : Nat) (w' : World), Own u w' ((n2, ps [0, 0], 41) :: L) → Q .normal { tmps := List.toArray (z0 :: z1 :: (.pointer (some ⟨n2, 0, none⟩)) :: zz), defers := [] } w') :
    (Code.region 0 f61r0Ops false).wp Tryd.prog Q { tmps := List.toArray (z0 :: z1 :: z2 :: zz), defers := [] } w := by
  refine wp_region_list (show wpList _ f61r0Ops _ [f61r0Op0] _ _ from ?_)
  refine l_new hO (ps [0, 0]) 41 (al29 rfl) (fit_pt _ _) ?_
  intro n2 w1 hO
  exact l_fr _ (wpList_nil (H n2 _ hO))
def f61r1Op0 : Oper := ⟨some 8, .build 41 #[], 41, "edwards.go:158", #[], none⟩
def f61r1Op1 : Oper := ⟨some 9, .call { callee := .value (.func 72), args := #[.tmp 8], argTypes := #[41] }, 109, "edwards.go:158", #[⟨0, .data⟩], none⟩
def f61r1Op2 : Oper := ⟨some 10, .build 41 #[], 41, "edwards.go:158", #[], none⟩
def f61r1Op3 : Oper := ⟨some 11, .call { callee := .value (.func 53), args := #[.tmp 10], argTypes := #[41] }, 81, "edwards.go:158", #[⟨2, .data⟩, ⟨1, .chain⟩], none⟩
def f61r1Op4 : Oper := ⟨some 3, .alloc 109, 0, "edwards.go:158", #[], none⟩
def f61r1Op5 : Oper := ⟨some 4, .alloc 81, 0, "edwards.go:158", #[], none⟩
def f61r1Op6 : Oper := ⟨none, .store 109 (.tmp 3) (.tmp 9), 0, "edwards.go:158", #[⟨4, .data⟩, ⟨1, .data⟩, ⟨3, .chain⟩, ⟨0, .phase⟩, ⟨1, .phase⟩, ⟨2, .textOnly .lateStores⟩, ⟨3, .textOnly .lateStoresUnsure⟩, ⟨4, .phase⟩, ⟨5, .phase⟩], none⟩
def f61r1Op7 : Oper := ⟨none, .store 81 (.tmp 4) (.tmp 11), 0, "edwards.go:158", #[⟨5, .data⟩, ⟨3, .data⟩, ⟨6, .chain⟩, ⟨0, .phase⟩, ⟨1, .phase⟩, ⟨2, .phase⟩, ⟨3, .phase⟩, ⟨4, .phase⟩, ⟨5, .phase⟩, ⟨6, .phase⟩], none⟩
def f61r1Ops : Array Oper := #[f61r1Op0, f61r1Op1, f61r1Op2, f61r1Op3, f61r1Op4, f61r1Op5, f61r1Op6, f61r1Op7]
set_option maxHeartbeats 2000000 in
theorem f61r1_r {Q : Exit → Act → World → Prop} {u w : World} {L : List Row} {z0 z1 z2 z3 z4 z5 z6 z7 z8 z9 z10 z11 : Value} {zz : List Value} {e8 e9 e10 e11 : Array Value} (hO : Own u w L) (q8 : Tryd.prog.built 41 [] = some e8) (r9 : ∀ w, Ret 72 #[.agg e8] w (.agg e9)) (q10 : Tryd.prog.built 41 [] = some e10) (r11 : ∀ w, Ret 53 #[.agg e10] w (.agg e11)) (fe9_83 : Fit 109 e9) (fe11_87 : Fit 81 e11) (H : ∀ (n3 : Nat) (n4 : Nat) (w' : World), Own u w' ((n4, e11, 81) :: (n3, e9, 109) :: L) → Q .normal { tmps := List.toArray (z0 :: z1 :: z2 :: (.pointer (some ⟨n3, 0, none⟩)) :: (.pointer (some ⟨n4, 0, none⟩)) :: z5 :: z6 :: z7 :: (.agg e8) :: (.agg e9) :: (.agg e10) :: (.agg e11) :: zz), defers := [] } w') :
    (Code.region 1 f61r1Ops false).wp Tryd.prog Q { tmps := List.toArray (z0 :: z1 :: z2 :: z3 :: z4 :: z5 :: z6 :: z7 :: z8 :: z9 :: z10 :: z11 :: zz), defers := [] } w := by
  refine wp_region_list (show wpList _ f61r1Ops _ [f61r1Op0, f61r1Op1, f61r1Op2, f61r1Op3, f61r1Op4, f61r1Op5, f61r1Op6, f61r1Op7] _ _ from ?_)
  refine l_val (.agg e8) (run_bd 41 _ rfl [] (by kernel_rfl) e8 q8 _) ?_
  refine l_call hO 72 #[.agg e8] (.agg e9) r9 ?_
  intro w1 hO
  refine l_val (.agg e10) (run_bd 41 _ rfl [] (by kernel_rfl) e10 q10 _) ?_
  refine l_fr (Fr [z0, z1, z2, z3, z4, z5, z6, z7, A e8, A e9, A e10, z11] zz) ?_
  refine l_call hO 53 #[.agg e10] (.agg e11) r11 ?_
  intro w2 hO
  refine l_new hO (ps [0, 0, 0, 0]) 109 (al83 rfl) (fit_ru _ _ _ _) ?_
  intro n3 w3 hO
  refine l_new hO (ps [0, 0, 0]) 81 (al87 rfl) (fit_ad _ _ _) ?_
  intro n4 w4 hO
  refine l_fr (Fr [z0, z1, z2, D n3, D n4, z5, z6, z7, A e8, A e9, A e10, A e11] zz) ?_
  refine l_st hO 109 1 rfl e9 fe9_83 ?_
  intro w5 hO
  replace hO : Own u w5 ((n4, ps [0, 0, 0], 81) :: (n3, e9, 109) :: L) := hO
  refine l_st hO 81 0 rfl e11 fe11_87 ?_
  intro w6 hO
  exact l_fr _ (wpList_nil (H n3 n4 _ hO))
def f61r5Op0 : Oper := ⟨some 15, .fieldAddr 109 (.tmp 3) 0, 0, "edwards.go:160", #[], none⟩
def f61r5Op1 : Oper := ⟨some 16, .load 107 (.tmp 15), 107, "edwards.go:160", #[⟨0, .data⟩], none⟩
def f61r5Op2 : Oper := ⟨some 17, .call { callee := .value (.func 73), args := #[.tmp 16], argTypes := #[107] }, 109, "edwards.go:160", #[⟨1, .data⟩], none⟩
def f61r5Op3 : Oper := ⟨none, .store 109 (.tmp 3) (.tmp 17), 0, "edwards.go:160", #[⟨2, .data⟩, ⟨2, .chain⟩, ⟨0, .phase⟩, ⟨1, .phase⟩, ⟨2, .phase⟩], none⟩
def f61r5Ops : Array Oper := #[f61r5Op0, f61r5Op1, f61r5Op2, f61r5Op3]
set_option maxHeartbeats 2000000 in
theorem f61r5_r {Q : Exit → Act → World → Prop} {u w : World} {L : List Row} {z0 z1 z2 z4 z5 z6 z7 z8 z9 z10 z11 z12 z13 z14 z15 z16 z17 : Value} {zz : List Value} {b3 : Nat} {c3 : Array Value} {e16 e17 : Array Value} (hO : Own u w L) (i3 : Nat) (h3 : L[i3]? = some (b3, c3, 109)) (q16 : Part c3 0 107 e16) (r17 : ∀ w, Ret 73 #[.agg e16] w (.agg e17)) (fe17_83 : Fit 109 e17) (H : ∀ (w' : World), Own u w' ((L.set i3 (b3, e17, 109))) → Q .normal { tmps := List.toArray (z0 :: z1 :: z2 :: (.pointer (some ⟨b3, 0, none⟩)) :: z4 :: z5 :: z6 :: z7 :: z8 :: z9 :: z10 :: z11 :: z12 :: z13 :: z14 :: (.pointer (some ⟨b3, 0, none⟩)) :: (.agg e16) :: (.agg e17) :: zz), defers := [] } w') :
    (Code.region 5 f61r5Ops false).wp Tryd.prog Q { tmps := List.toArray (z0 :: z1 :: z2 :: (.pointer (some ⟨b3, 0, none⟩)) :: z4 :: z5 :: z6 :: z7 :: z8 :: z9 :: z10 :: z11 :: z12 :: z13 :: z14 :: z15 :: z16 :: z17 :: zz), defers := [] } w := by
  refine wp_region_list (show wpList _ f61r5Ops _ [f61r5Op0, f61r5Op1, f61r5Op2, f61r5Op3] _ _ from ?_)
  refine l_val (.pointer (some ⟨b3, 0, none⟩)) (by kernel_rfl) ?_
  refine l_part hO 107 i3 h3 q16 Tryd.underlying107 ?_
  refine l_call hO 73 #[.agg e16] (.agg e17) r17 ?_
  intro w1 hO
  refine l_fr (Fr [z0, z1, z2, D b3, z4, z5, z6, z7, z8, z9, z10, z11, z12, z13, z14, .pointer (some ⟨b3, 0, none⟩), A e16, A e17] zz) ?_
  refine l_st hO 109 i3 h3 e17 fe17_83 ?_
  intro w2 hO
  exact l_fr _ (wpList_nil (H  _ hO))
def f61r9Op0 : Oper := ⟨some 24, .load 109 (.tmp 3), 109, "edwards.go:162", #[], none⟩
def f61r9Op1 : Oper := ⟨some 25, .load 84 (.tmp 7), 84, "edwards.go:162", #[], none⟩
def f61r9Op2 : Oper := ⟨some 26, .move (.tmp 5), 3, "edwards.go:162", #[], none⟩
def f61r9Op3 : Oper := ⟨some 27, .binOp .sub 3 (.const (.int .i64 255)) (.tmp 26) 3, 3, "edwards.go:162", #[⟨2, .data⟩], none⟩
def f61r9Op4 : Oper := ⟨some 28, .load 81 (.tmp 4), 81, "edwards.go:162", #[], none⟩
def f61r9Op5 : Oper := ⟨some 29, .call { callee := .value (.func 75), args := #[.tmp 25, .tmp 27, .tmp 28], argTypes := #[84, 3, 81] }, 81, "edwards.go:162", #[⟨1, .data⟩, ⟨3, .data⟩, ⟨4, .data⟩], none⟩
def f61r9Op6 : Oper := ⟨some 30, .call { callee := .value (.func 74), args := #[.tmp 24, .tmp 29], argTypes := #[109, 81] }, 109, "edwards.go:162", #[⟨0, .data⟩, ⟨5, .data⟩, ⟨5, .chain⟩], none⟩
def f61r9Op7 : Oper := ⟨none, .store 109 (.tmp 3) (.tmp 30), 0, "edwards.go:162", #[⟨6, .data⟩, ⟨6, .chain⟩, ⟨0, .phase⟩, ⟨1, .phase⟩, ⟨2, .phase⟩, ⟨3, .phase⟩, ⟨4, .phase⟩, ⟨5, .phase⟩, ⟨6, .phase⟩], none⟩
def f61r9Ops : Array Oper := #[f61r9Op0, f61r9Op1, f61r9Op2, f61r9Op3, f61r9Op4, f61r9Op5, f61r9Op6, f61r9Op7]
set_option maxHeartbeats 2000000 in
theorem f61r9_r {Q : Exit → Act → World → Prop} {u w : World} {L : List Row} {z0 z1 z2 z6 z8 z9 z10 z11 z12 z13 z14 z15 z16 z17 z18 z19 z20 z21 z22 z23 z24 z25 z26 z27 z28 z29 z30 : Value} {x5 x27 : Value} {zz : List Value} {b3 b4 b7 : Nat} {c3 c4 c7 : Array Value} {e29 e30 : Array Value} (hQ : ∀ c a w n v, Q (.panic c) (a.put (some n) v) w → Q (.panic c) a w) (hO : Own u w L) (i3 : Nat) (h3 : L[i3]? = some (b3, c3, 109)) (i4 : Nat) (h4 : L[i4]? = some (b4, c4, 81)) (i7 : Nat) (h7 : L[i7]? = some (b7, c7, 84)) (e3_4 : i3 ≠ i4) (e3_7 : i3 ≠ i7) (k27 : ∀ (a : Act) (w : World), a.eval (.tmp 26) = x5 → (execOp a.eval f61r9Op3).run Tryd.prog w = .ok (.value x27) w) (r29 : ∀ w, Ret 75 #[.agg c7, x27, .agg c4] w (.agg e29)) (r30 : ∀ w, Ret 74 #[.agg c3, .agg e29] w (.agg e30)) (fe30_83 : Fit 109 e30) (H : ∀ (w' : World), Own u w' ((L.set i3 (b3, e30, 109))) → Q .normal { tmps := List.toArray (z0 :: z1 :: z2 :: (.pointer (some ⟨b3, 0, none⟩)) :: (.pointer (some ⟨b4, 0, none⟩)) :: x5 :: z6 :: (.pointer (some ⟨b7, 0, none⟩)) :: z8 :: z9 :: z10 :: z11 :: z12 :: z13 :: z14 :: z15 :: z16 :: z17 :: z18 :: z19 :: z20 :: z21 :: z22 :: z23 :: (.agg c3) :: (.agg c7) :: x5 :: x27 :: (.agg c4) :: (.agg e29) :: (.agg e30) :: zz), defers := [] } w') :
    (Code.region 9 f61r9Ops true).wp Tryd.prog Q { tmps := List.toArray (z0 :: z1 :: z2 :: (.pointer (some ⟨b3, 0, none⟩)) :: (.pointer (some ⟨b4, 0, none⟩)) :: x5 :: z6 :: (.pointer (some ⟨b7, 0, none⟩)) :: z8 :: z9 :: z10 :: z11 :: z12 :: z13 :: z14 :: z15 :: z16 :: z17 :: z18 :: z19 :: z20 :: z21 :: z22 :: z23 :: z24 :: z25 :: z26 :: z27 :: z28 :: z29 :: z30 :: zz), defers := [] } w := by
  have fc4_87 := hO.fits i4 h4
  have fc7_95 := hO.fits i7 h7
  have s0 : ∀ (w : World), Own u w (L) → wpAnyH Tryd.prog .any f61r9Ops Q (Has [(b4, c4, 81), (b7, c7, 84)]) 2 (ls 8 63) (Fr [z0, z1, z2, D b3, D b4, x5, z6, D b7, z8, z9, z10, z11, z12, z13, z14, z15, z16, z17, z18, z19, z20, z21, z22, z23, A c3, A c7, x5, x27, A c4, A e29, z30] zz) w := by
    intro w hO
    refine d_one 6 f61r9Op6 (ls 8 127) (fun K hK => ?_)
    refine k_call hK hO (fun _ hO => ⟨hO.row _ h4, hO.row _ h7, trivial⟩) 74 #[.agg c3, .agg e29] (.agg e30) r30 ?_
    intro w1 hO
    refine d_one 7 f61r9Op7 (ls 8 255) (fun K hK => ?_)
    refine k_st hK hO 109 i3 h3 e30 fe30_83 (fun _ hO => ⟨hO.row _ (get_set h4 e3_4), hO.row _ (get_set h7 e3_7), trivial⟩) ?_
    intro w2 hO
    exact d_fr (ls 8 255) _ (wpAnyH_done (by kernel_rfl) (H  _ hO) _)
  refine wp_region_held_drew (S := Has [(b4, c4, 81), (b7, c7, 84)]) (by kernel_rfl) ⟨hO.drew.row _ h4, hO.drew.row _ h7, trivial⟩ (fun hS => ?_)
  replace hO := hO.drew
  refine d_tk 1 f61r9Op1 (.agg c7) hQ (y_l 84 (fun _ h => h.2.1) fc7_95 Tryd.underlying84) hS ?_
  refine d_tk 2 f61r9Op2 (x5) hQ (y_val (fun _ => by kernel_rfl)) hS ?_
  refine d_tk 3 f61r9Op3 (x27) hQ (y_val (fun _ => k27 _ _ (by kernel_rfl))) hS ?_
  refine d_fr (ls 8 14) (Fr [z0, z1, z2, D b3, D b4, x5, z6, D b7, z8, z9, z10, z11, z12, z13, z14, z15, z16, z17, z18, z19, z20, z21, z22, z23, z24, A c7, x5, x27, z28, z29, z30] zz) ?_
  refine d_tk 4 f61r9Op4 (.agg c4) hQ (y_l 81 (fun _ h => h.1) fc4_87 Tryd.underlying81) hS ?_
  refine d_fr (ls 8 30) (Fr [z0, z1, z2, D b3, D b4, x5, z6, D b7, z8, z9, z10, z11, z12, z13, z14, z15, z16, z17, z18, z19, z20, z21, z22, z23, z24, A c7, x5, x27, A c4, z29, z30] zz) ?_
  refine wpAnyH_ready (rs := [0, 5]) (by kernel_rfl) (by simp) ?_
  refine d_cons 0 f61r9Op0 (ls 8 31) (fun K hK => ?_) ?_
  · skip
    refine k_ld hK hO hS 109 i3 h3 Tryd.underlying109 ?_
    refine d_one 5 f61r9Op5 (ls 8 63) (fun K hK => ?_)
    refine k_call hK hO (fun _ hO => ⟨hO.row _ h4, hO.row _ h7, trivial⟩) 75 #[.agg c7, x27, .agg c4] (.agg e29) r29 ?_
    intro w4 hO
    exact d_fr _ _ (s0 _ hO)
  refine d_cons 5 f61r9Op5 (ls 8 62) (fun K hK => ?_) ?_
  · skip
    refine k_call hK hO (fun _ hO => ⟨hO.row _ h4, hO.row _ h7, trivial⟩) 75 #[.agg c7, x27, .agg c4] (.agg e29) r29 ?_
    intro w5 hO
    have hS : Has [(b4, c4, 81), (b7, c7, 84)] _ := ⟨hO.row _ h4, hO.row _ h7, trivial⟩
    refine d_one 0 f61r9Op0 (ls 8 63) (fun K hK => ?_)
    refine k_ld hK hO hS 109 i3 h3 Tryd.underlying109 ?_
    exact d_fr _ _ (s0 _ hO)
  exact AllReadyH.nil
def f61r12Op0 : Oper := ⟨some 33, .fieldAddr 109 (.tmp 3) 0, 0, "edwards.go:165", #[], none⟩
def f61r12Op1 : Oper := ⟨some 34, .load 107 (.tmp 33), 107, "edwards.go:165", #[⟨0, .data⟩], none⟩
def f61r12Op2 : Oper := ⟨some 35, .call { callee := .value (.func 76), args := #[.tmp 34], argTypes := #[107] }, 41, "edwards.go:165", #[⟨1, .data⟩], none⟩
def f61r12Op3 : Oper := ⟨none, .store 41 (.tmp 2) (.tmp 35), 0, "edwards.go:165", #[⟨2, .data⟩, ⟨2, .chain⟩, ⟨0, .phase⟩, ⟨1, .phase⟩, ⟨2, .phase⟩], none⟩
def f61r12Ops : Array Oper := #[f61r12Op0, f61r12Op1, f61r12Op2, f61r12Op3]
set_option maxHeartbeats 2000000 in
theorem f61r12_r {Q : Exit → Act → World → Prop} {u w : World} {L : List Row} {z0 z1 z4 z5 z6 z7 z8 z9 z10 z11 z12 z13 z14 z15 z16 z17 z18 z19 z20 z21 z22 z23 z24 z25 z26 z27 z28 z29 z30 z31 z32 z33 z34 z35 : Value} {b2 b3 : Nat} {c2 c3 : Array Value} {e34 e35 : Array Value} (hO : Own u w L) (i2 : Nat) (h2 : L[i2]? = some (b2, c2, 41)) (i3 : Nat) (h3 : L[i3]? = some (b3, c3, 109)) (q34 : Part c3 0 107 e34) (r35 : ∀ w, Ret 76 #[.agg e34] w (.agg e35)) (fe35_29 : Fit 41 e35) (H : ∀ (w' : World), Own u w' ((L.set i2 (b2, e35, 41))) → Q .normal { tmps := List.toArray (z0 :: z1 :: (.pointer (some ⟨b2, 0, none⟩)) :: (.pointer (some ⟨b3, 0, none⟩)) :: z4 :: z5 :: z6 :: z7 :: z8 :: z9 :: z10 :: z11 :: z12 :: z13 :: z14 :: z15 :: z16 :: z17 :: z18 :: z19 :: z20 :: z21 :: z22 :: z23 :: z24 :: z25 :: z26 :: z27 :: z28 :: z29 :: z30 :: z31 :: z32 :: (.pointer (some ⟨b3, 0, none⟩)) :: (.agg e34) :: (.agg e35) :: []), defers := [] } w') :
    (Code.region 12 f61r12Ops false).wp Tryd.prog Q { tmps := List.toArray (z0 :: z1 :: (.pointer (some ⟨b2, 0, none⟩)) :: (.pointer (some ⟨b3, 0, none⟩)) :: z4 :: z5 :: z6 :: z7 :: z8 :: z9 :: z10 :: z11 :: z12 :: z13 :: z14 :: z15 :: z16 :: z17 :: z18 :: z19 :: z20 :: z21 :: z22 :: z23 :: z24 :: z25 :: z26 :: z27 :: z28 :: z29 :: z30 :: z31 :: z32 :: z33 :: z34 :: z35 :: []), defers := [] } w := by
  refine wp_region_list (show wpList _ f61r12Ops _ [f61r12Op0, f61r12Op1, f61r12Op2, f61r12Op3] _ _ from ?_)
  refine l_val (.pointer (some ⟨b3, 0, none⟩)) (by kernel_rfl) ?_
  refine l_part hO 107 i3 h3 q34 Tryd.underlying107 ?_
  refine l_call hO 76 #[.agg e34] (.agg e35) r35 ?_
  intro w1 hO
  refine l_fr (Fr [z0, z1, D b2, D b3, z4, z5, z6, z7, z8, z9, z10, z11, z12, z13, z14, z15, z16, z17, z18, z19, z20, z21, z22, z23, z24, z25, z26, z27, z28, z29, z30, z31, z32, .pointer (some ⟨b3, 0, none⟩), A e34, A e35] []) ?_
  refine l_st hO 41 i2 h2 e35 fe35_29 ?_
  intro w2 hO
  exact l_fr _ (wpList_nil (H  _ hO))
def f61r8Op0 : Oper := ⟨some 22, .indexAddr 105 (.tmp 18) (.tmp 20), 0, "edwards.go:161", #[], none⟩
def f61r8Op1 : Oper := ⟨some 23, .load 84 (.tmp 22), 84, "edwards.go:161", #[⟨0, .data⟩], none⟩
def f61r8Op2 : Oper := ⟨some 7, .alloc 84, 0, "edwards.go:161", #[], none⟩
def f61r8Op3 : Oper := ⟨none, .store 84 (.tmp 7) (.tmp 23), 0, "edwards.go:161", #[⟨2, .data⟩, ⟨1, .data⟩, ⟨0, .phase⟩, ⟨1, .phase⟩, ⟨2, .phase⟩], none⟩
def f61r8Ops : Array Oper := #[f61r8Op0, f61r8Op1, f61r8Op2, f61r8Op3]
theorem idx_run (ρ : Operand → Value) (b j n : Nat) (hj : j < n) (w : World) (h1 : ρ (.tmp 18) = .slice (some ⟨b, 0, none⟩) n n) (h2 : ρ (.tmp 20) = .int .i64 ((j : Nat) : Int)) : (execOp ρ f61r8Op0).run Tryd.prog w = .ok (.value (.pointer (some ⟨b, 44 * j, none⟩))) w := by
  unfold execOp f61r8Op0
  simp only [h1, h2]
  have hj0 : (0 : Int) ≤ (j : Int) := by omega
  have hu := Tryd.underlying105
  have hs : (Tryd.prog.info? 84).map (·.size) = some 44 := by kernel_rfl
  cases hq : Tryd.prog.info? 84 with
  | none => simp [hq] at hs
  | some i =>
    have hsz : i.size = 44 := by simpa [hq] using hs
    simp [Instr.indexAt, run_underlying hu, asIntOf, sizeOf, typeInfo, hq, hsz, hj0]
    rw [if_pos hj, Addr.add_mid, Nat.zero_add, Nat.mul_comm]
set_option maxHeartbeats 2000000 in
theorem f61r8_r {Q : Exit → Act → World → Prop} {u w : World} {L : List Row} {z0 z1 z2 z3 z4 z5 z6 z7 z8 z9 z10 z11 z12 z13 z14 z15 z16 z17 z19 z21 z22 z23 : Value} {zz : List Value} {b n : Nat} {l : List Mult} {m : Mult} (hO : Own u w L) (j : Nat) (hj : j < n) (hm : l[j]? = some m) (hB : Blk w b (sl l) 84) (H : ∀ (n7 : Nat) (w' : World), Own u w' ((n7, mq m.1 m.2, 84) :: L) → Q .normal { tmps := List.toArray (z0 :: z1 :: z2 :: z3 :: z4 :: z5 :: z6 :: (.pointer (some ⟨n7, 0, none⟩)) :: z8 :: z9 :: z10 :: z11 :: z12 :: z13 :: z14 :: z15 :: z16 :: z17 :: (.slice (some ⟨b, 0, none⟩) n n) :: z19 :: (.int .i64 ((j : Nat) : Int)) :: z21 :: (.pointer (some ⟨b, 44 * j, none⟩)) :: (.agg (mq m.1 m.2)) :: zz), defers := [] } w') :
    (Code.region 8 f61r8Ops false).wp Tryd.prog Q { tmps := List.toArray (z0 :: z1 :: z2 :: z3 :: z4 :: z5 :: z6 :: z7 :: z8 :: z9 :: z10 :: z11 :: z12 :: z13 :: z14 :: z15 :: z16 :: z17 :: (.slice (some ⟨b, 0, none⟩) n n) :: z19 :: (.int .i64 ((j : Nat) : Int)) :: z21 :: z22 :: z23 :: zz), defers := [] } w := by
  refine wp_region_list (show wpList _ f61r8Ops _ [f61r8Op0, f61r8Op1, f61r8Op2, f61r8Op3] _ _ from ?_)
  refine l_val (.pointer (some ⟨b, 44 * j, none⟩)) (idx_run _ b j n hj _ (by kernel_rfl) (by kernel_rfl)) ?_
  refine l_fr (Fr [z0, z1, z2, z3, z4, z5, z6, z7, z8, z9, z10, z11, z12, z13, z14, z15, z16, z17, .slice (some ⟨b, 0, none⟩) n n, z19, .int .i64 ((j : Nat) : Int), z21, .pointer (some ⟨b, 44 * j, none⟩), z23] zz) ?_
  refine l_any (by kernel_rfl) fun K hK => ?_
  refine wp_load_mid 84 _ rfl b (44 * j) (by kernel_rfl) _ _ (sl_range hB j m hm) Tryd.underlying84 rfl (by rw [Array.length_toList, mq_size]; kernel_rfl) (hK _ _ ?_)
  rw [Array.toArray_toList]
  clear hK K
  refine o_fr (a' := (Fr [z0, z1, z2, z3, z4, z5, z6, z7, z8, z9, z10, z11, z12, z13, z14, z15, z16, z17, .slice (some ⟨b, 0, none⟩) n n, z19, .int .i64 ((j : Nat) : Int), z21, .pointer (some ⟨b, 44 * j, none⟩), .agg (mq m.1 m.2)] zz)) (by kernel_rfl) ?_
  refine l_new hO (mu (fun _ => 0) [0, 0, 0]) 84 (al95 rfl) (fit_mu _ _ _ _) ?_
  intro n7 w1 hO
  refine l_fr (Fr [z0, z1, z2, z3, z4, z5, z6, .pointer (some ⟨n7, 0, none⟩), z8, z9, z10, z11, z12, z13, z14, z15, z16, z17, .slice (some ⟨b, 0, none⟩) n n, z19, .int .i64 ((j : Nat) : Int), z21, .pointer (some ⟨b, 44 * j, none⟩), .agg (mq m.1 m.2)] zz) ?_
  refine l_st hO 84 0 rfl (mq m.1 m.2) (fit_mu _ _ _ _) ?_
  intro w2 hO
  exact wpList_nil (H n7 _ hO)
theorem sub_run (a : Act) (w : World) (k : Nat) (hk : k < 256) (h : a.eval (.tmp 26) = .int .i64 ((k : Nat) : Int)) : (execOp a.eval f61r9Op3).run Tryd.prog w = .ok (.value (.int .i64 ((255 - k : Nat) : Int))) w := by
  unfold execOp f61r9Op3
  simp only [h]
  have e0 : a.eval (.const (.int .i64 255)) = .int .i64 255 := rfl
  have e : IntKind.i64.wrap (255 - (k : Int)) = ((255 - k : Nat) : Int) := by rw [wrap_i64_small' _ (by omega) (by omega)]; omega
  go_simp
set_option maxHeartbeats 4000000 in
theorem total_c (l : List Mult) (b : Nat) (hl : ∀ m ∈ l, Ok7 m.2 ∧ ∀ i, m.1 i < 256) (hlen : l.length ≤ 2) (w : World) (hB : Blk w b (sl l) 84) : Ret 52 #[.slice (some ⟨b, 0, none⟩) l.length l.length] w (.agg (pt (totP l 256))) := by
  go_enter Tryd.func52, Tryd.ntmps52
  have Hl := hide hl
  clear hl
  have hO := Own.start w
  go_upto_region 0 with (fail)
  refine f61r0_r hO ?_
  intro n2 w1 hO
  replace hO : Own w w1 [(n2, ps [0, 0], 41)] := hO
  go_upto_region 1 with (fail)
  refine f61r1_r hO bd_pt0 rec_zero bd_pt0 add_zero (fit_ru _ _ _ _) (fit_ad _ _ _) ?_
  intro n3 n4 w2 hO
  replace hO : Own w w2 [(n4, ad zero7, 81), (n3, pq (q4 zero7), 109), (n2, ps [0, 0], 41)] := hO
  have HB := hide hB
  clear hB
  go_wp2_with fail
  go_loopw [12] (fun i wr => ∃ (k : Nat) (r : Q4), k ≤ 256 ∧ i = .int .i64 k ∧ Rp (totP l k) r ∧ Own w wr [(n4, ad zero7, 81), (n3, pq r, 109), (n2, ps [0, 0], 41)]) (fun i _ => (256 - intOf i).toNat)
  case atStart => exact ⟨0, q4 zero7, by omega, rfl, rp_of ok_zero7, hO⟩
  case round =>
    clear hO
    obtain ⟨k, r, hk, rfl, hR, hO⟩ := hrel
    by_cases hlt : k < 256
    · have hlt' : (k : Int) < 256 := by omega
      have hok := ok_tot l (fun m hm => (Hl.out m hm).1) k
      go_upto_region 5 with (fail)
      refine f61r5_r hO 1 rfl (part_ruc _ _ _ _) (twice_p hR) (fit_ru _ _ _ _) ?_
      intro w3 hO
      replace hO : Own w w3 [(n4, ad zero7, 81), (n3, pq (dbl4 r.1 r.2.1 r.2.2.1), 109), (n2, ps [0, 0], 41)] := hO
      have hR2 := rp_dbl hok hR
      generalize dbl4 r.1 r.2.1 r.2.2.1 = r2 at hR2 hO
      clear hR
      go_wp2_with fail
      go_loopw [20] (fun i wr => ∃ (j : Nat) (r : Q4), j ≤ l.length ∧ i = .int .i64 j ∧ Rp ((l.take j).foldl (addM (255 - k)) (add7 (totP l k) (totP l k))) r ∧ Own w wr [(n4, ad zero7, 81), (n3, pq r, 109), (n2, ps [0, 0], 41)]) (fun i _ => ((l.length : Int) - intOf i).toNat)
      case atStart => exact ⟨0, r2, by omega, rfl, hR2, hO⟩
      case round =>
        clear hO hR2
        obtain ⟨j, r, hj, rfl, hR, hO⟩ := hrel
        by_cases hjl : j < l.length
        · have hjl' : (j : Int) < (l.length : Int) := by omega
          obtain ⟨m, hm⟩ : ∃ m, l[j]? = some m := ⟨_, List.getElem?_eq_getElem hjl⟩
          have Hm := hide hm
          clear hm
          go_upto_region 8 with (fail)
          refine f61r8_r hO j hjl Hm.out (HB.out.call hO.low) ?_
          intro n7 w9 hO
          go_upto_region 9 with (fail)
          refine f61r9_r (fun _ _ _ _ _ h => h) hO 2 rfl 1 rfl 0 rfl (by decide) (by decide) (fun a w h => sub_run a w k hlt h) (at_p m (255 - k) (Hl.out m (List.mem_of_getElem? Hm.out)).2 (by omega)) (plus_p hR) (fit_ru _ _ _ _) ?_
          intro w10 hO
          replace hO : Own w w10 [(n7, mq m.1 m.2, 84), (n4, ad zero7, 81), (n3, pq (sum4 r (q4 (bitP (255 - k) m))), 109), (n2, ps [0, 0], 41)] := hO
          have hok2 := ok_fold (k := 255 - k) (l.take j) _ (fun m hm => (Hl.out m (List.mem_of_mem_take hm)).1) (ok_add hok hok)
          have hokm := ok_bit (k := 255 - k) (Hl.out m (List.mem_of_getElem? Hm.out)).1
          have hR2 := rp_sum hok2 hokm hR (rp_of hokm)
          have ht : (l.take (j + 1)).foldl (addM (255 - k)) (add7 (totP l k) (totP l k)) = add7 ((l.take j).foldl (addM (255 - k)) (add7 (totP l k) (totP l k))) (bitP (255 - k) m) := by rw [List.take_add_one, Hm.out, Option.toList_some, List.foldl_append]; rfl
          have Ht := hide ht
          clear ht
          replace hO := hO.tail
          go_wp2_with fail
          go_roundw
          case rel => exact ⟨j + 1, _, by omega, by go_num, Ht.out ▸ hR2, hO⟩
          case measure => simp [intOf]; omega
        · have hje : j = l.length := by omega
          have Hj := hide hje
          clear hje
          have hR2 : Rp (totP l (k + 1)) r := by have := hR; rw [Hj.out, List.take_length] at this; exact this
          have hjl' : ¬ (j : Int) < (l.length : Int) := by omega
          go_wp2_with fail
          go_roundw
          case rel => exact ⟨k + 1, r, by omega, by go_num, hR2, hO⟩
          case measure => simp [intOf]; omega
    · have hk6 : k = 256 := by omega
      subst hk6
      go_upto_region 12 with (fail)
      refine f61r12_r hO 2 rfl 1 rfl (part_ruc _ _ _ _) (whole_p (ok_tot l (fun m hm => (Hl.out m hm).1) 256) hR) (fit_pt _ _) ?_
      intro w11 hO
      replace hO : Own w w11 [(n4, ad zero7, 81), (n3, pq r, 109), (n2, pt (totP l 256), 41)] := hO
      go_wp2_with fail
      refine bodyPost_ret (v := .agg (pt (totP l 256))) (results_cell_row Tryd.results52 _ _ n2 41 _ (0, 0) _ rfl (hO.row 2 rfl) Tryd.underlying41 rfl (fit_pt _ _).size) rfl ⟨rfl, hO.low⟩
end Go.Proofs.YtbpmakegimgbpaaDoor

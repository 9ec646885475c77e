/- Walks: halves, baseTimes, secretOf, behind and its closure, number, joined. Bytes below 256; the package's variables lie as they were laid. -/
import Derived.Test.YtbpmakegimgbpaaDoorPn
import Derived.Test.YtbpmakegimgbpaaDoorSh
namespace Go.Proofs.YtbpmakegimgbpaaDoor
set_option maxRecDepth 100000
open F Go.RowKit

/-- A multiple of the base point, as bytes. -/
def ptb (n : Nat) : Nat → Nat := byt (num7 (mul7 base7 n))
/-- A list's digest, below the order. -/
def dgn (l : List Nat) : Nat := nb (T.dg l) 64 % S.qL
theorem dgn_lt (l : List Nat) : dgn l < 2 ^ 256 := Nat.lt_trans (Nat.mod_lt _ S.qL_pos) S.qL_lt256
def sec (f : Nat → Nat) : Nat → Nat := clb (T.dg (bl f))
def pre (f : Nat → Nat) (j : Nat) : Nat := T.dg (bl f) (32 + j)
theorem sec_lt (f : Nat → Nat) (i : Nat) : sec f i < 256 := clb_lt _ (T.dg_lt _) i
theorem pre_lt (f : Nat → Nat) (j : Nat) : pre f j < 256 := T.dg_lt _ _
theorem byl_lt (n i : Nat) : byt n i < 256 := byt_lt n i
/-- The package's variables. -/
def Glb (w : World) : Prop := S.Glob w ∧ T.Glob w
theorem Glb.low {w w' : World} (h : Glb w) (hb : Below w.heap.size w w') : Glb w' := ⟨h.1.low hb, h.2.low hb⟩
theorem u8_and_248 (n : Nat) (h : n < 256) : bits .and .u8 (n : Int) 248 = ((n / 8 * 8 : Nat) : Int) := by
  have := (by decide +kernel : ∀ i : Fin 256, bits .and .u8 ((i.val : Nat) : Int) 248 = ((i.val / 8 * 8 : Nat) : Int)) ⟨n, h⟩
  exact this
theorem u8_and_63 (n : Nat) (h : n < 256) : bits .and .u8 (n : Int) 63 = ((n % 64 : Nat) : Int) := by
  have := (by decide +kernel : ∀ i : Fin 256, bits .and .u8 ((i.val : Nat) : Int) 63 = ((i.val % 64 : Nat) : Int)) ⟨n, h⟩
  exact this
theorem u8_or_64 (n : Nat) (h : n < 64) : bits .or .u8 (n : Int) 64 = ((n + 64 : Nat) : Int) := by
  have := (by decide +kernel : ∀ i : Fin 64, bits .or .u8 ((i.val : Nat) : Int) 64 = ((i.val + 64 : Nat) : Int)) ⟨n, h⟩
  exact this
def s19r0Op0 : Oper := ⟨some 1, .box 28 (.tmp 0), 0, "sign.go:63", #[], none⟩
def s19r0Op1 : Oper := ⟨some 2, .alloc 22, 0, "sign.go:63", #[], none⟩
def s19r0Op2 : Oper := ⟨some 3, .alloc 22, 0, "sign.go:63", #[], none⟩
def s19r0Ops : Array Oper := #[s19r0Op0, s19r0Op1, s19r0Op2]
set_option maxHeartbeats 2000000 in
theorem s19r0_r {Q : Exit → Act → World → Prop} {u w : World} {L : List Row} {z1 z2 z3 : Value} {zz : List Value} {e0 : Array Value} (hO : Own u w L) (fe0_28 : Fit 28 e0) (H : ∀ (n1 : Nat) (n2 : Nat) (n3 : Nat) (w' : World), Own u w' ((n3, vals .u8 32 (fun _ => 0), 22) :: (n2, vals .u8 32 (fun _ => 0), 22) :: (n1, e0, 28) :: L) → Q .normal { tmps := List.toArray ((.agg e0) :: (.pointer (some ⟨n1, 0, none⟩)) :: (.pointer (some ⟨n2, 0, none⟩)) :: (.pointer (some ⟨n3, 0, none⟩)) :: zz), defers := [] } w') :
    (Code.region 0 s19r0Ops false).wp Tryd.prog Q { tmps := List.toArray ((.agg e0) :: z1 :: z2 :: z3 :: zz), defers := [] } w := by
  refine wp_region_list (show wpList _ s19r0Ops _ [s19r0Op0, s19r0Op1, s19r0Op2] _ _ from ?_)
  refine l_new hO (e0) 28 (run_box 28 _ rfl _ (by kernel_rfl)) fe0_28 ?_
  intro n1 w1 hO
  refine l_new hO (vals .u8 32 (fun _ => 0)) 22 (al22 rfl) (fit_by _) ?_
  intro n2 w2 hO
  refine l_new hO (vals .u8 32 (fun _ => 0)) 22 (al22 rfl) (fit_by _) ?_
  intro n3 w3 hO
  exact l_fr _ (wpList_nil (H n1 n2 n3 _ hO))
def s19r1Op0 : Oper := ⟨some 4, .slice 28 (.tmp 1) none (some (.const (.int .i64 32))) none, 23, "sign.go:63", #[], none⟩
def s19r1Op1 : Oper := ⟨some 5, .sliceToArrayPointer 22 (.tmp 4), 0, "sign.go:63", #[⟨0, .data⟩], none⟩
def s19r1Op2 : Oper := ⟨some 6, .load 22 (.tmp 5), 22, "sign.go:63", #[⟨1, .data⟩], none⟩
def s19r1Op3 : Oper := ⟨some 7, .slice 28 (.tmp 1) (some (.const (.int .i64 32))) none none, 23, "sign.go:63", #[], none⟩
def s19r1Op4 : Oper := ⟨some 8, .sliceToArrayPointer 22 (.tmp 7), 0, "sign.go:63", #[⟨3, .data⟩, ⟨6, .gcOnly .lateStores⟩], none⟩
def s19r1Op5 : Oper := ⟨some 9, .load 22 (.tmp 8), 22, "sign.go:63", #[⟨4, .data⟩, ⟨6, .gcOnly .lateStores⟩], none⟩
def s19r1Op6 : Oper := ⟨none, .store 22 (.tmp 2) (.tmp 6), 0, "sign.go:63", #[⟨2, .data⟩, ⟨0, .phase⟩, ⟨1, .phase⟩, ⟨2, .phase⟩, ⟨3, .textOnly .lateStoresUnsure⟩, ⟨4, .textOnly .lateStores⟩, ⟨5, .textOnly .lateStores⟩], none⟩
def s19r1Op7 : Oper := ⟨none, .store 22 (.tmp 3) (.tmp 9), 0, "sign.go:63", #[⟨5, .data⟩, ⟨6, .chain⟩, ⟨0, .phase⟩, ⟨1, .phase⟩, ⟨2, .phase⟩, ⟨3, .phase⟩, ⟨4, .phase⟩, ⟨5, .phase⟩, ⟨6, .phase⟩], none⟩
def s19r1Ops : Array Oper := #[s19r1Op0, s19r1Op1, s19r1Op2, s19r1Op3, s19r1Op4, s19r1Op5, s19r1Op6, s19r1Op7]
set_option maxHeartbeats 2000000 in
theorem s19r1_r {Q : Exit → Act → World → Prop} {u w : World} {L : List Row} {z0 z4 z5 z6 z7 z8 z9 : Value} {b1 b2 b3 : Nat} {c1 c2 c3 : Array Value} {e6 e9 : Array Value} (hQ : ∀ c a w n v, Q (.panic c) (a.put (some n) v) w → Q (.panic c) a w) (hO : Own u w L) (i1 : Nat) (h1 : L[i1]? = some (b1, c1, 28)) (i2 : Nat) (h2 : L[i2]? = some (b2, c2, 22)) (i3 : Nat) (h3 : L[i3]? = some (b3, c3, 22)) (e2_1 : i2 ≠ i1) (e2_3 : i2 ≠ i3) (e3_1 : i3 ≠ i1) (q6 : Part c1 0 22 e6) (q9 : Part c1 32 22 e9) (fe6_22 : Fit 22 e6) (fe9_22 : Fit 22 e9) (H : ∀ (w' : World), Own u w' (((L.set i2 (b2, e6, 22)).set i3 (b3, e9, 22))) → Q .normal { tmps := List.toArray (z0 :: (.pointer (some ⟨b1, 0, none⟩)) :: (.pointer (some ⟨b2, 0, none⟩)) :: (.pointer (some ⟨b3, 0, none⟩)) :: (.slice (some ⟨b1, 0, none⟩) 32 64) :: (.pointer (some ⟨b1, 0, none⟩)) :: (.agg e6) :: (.slice (some ⟨b1, 32, none⟩) 32 32) :: (.pointer (some ⟨b1, 32, none⟩)) :: (.agg e9) :: []), defers := [] } w') :
    (Code.region 1 s19r1Ops true).wp Tryd.prog Q { tmps := List.toArray (z0 :: (.pointer (some ⟨b1, 0, none⟩)) :: (.pointer (some ⟨b2, 0, none⟩)) :: (.pointer (some ⟨b3, 0, none⟩)) :: z4 :: z5 :: z6 :: z7 :: z8 :: z9 :: []), defers := [] } w := by
  refine wp_region_held_drew (S := Has [(b1, c1, 28)]) (by kernel_rfl) ⟨hO.drew.row _ h1, trivial⟩ (fun hS => ?_)
  replace hO := hO.drew
  refine d_tk 0 s19r1Op0 (.slice (some ⟨b1, 0, none⟩) 32 64) hQ (y_val (fun _ => by kernel_rfl)) hS ?_
  refine d_tk 1 s19r1Op1 (.pointer (some ⟨b1, 0, none⟩)) hQ (y_val (fun _ => by kernel_rfl)) hS ?_
  refine d_tk 2 s19r1Op2 (.agg e6) hQ (y_p 22 (fun _ h => h.1) q6 Tryd.underlying22) hS ?_
  refine d_fr (ls 8 7) (Fr [z0, D b1, D b2, D b3, .slice (some ⟨b1, 0, none⟩) 32 64, .pointer (some ⟨b1, 0, none⟩), A e6, z7, z8, z9] []) ?_
  refine d_tk 3 s19r1Op3 (.slice (some ⟨b1, 32, none⟩) 32 32) hQ (y_val (fun _ => by kernel_rfl)) hS ?_
  refine d_tk 4 s19r1Op4 (.pointer (some ⟨b1, 32, none⟩)) hQ (y_val (fun _ => by kernel_rfl)) hS ?_
  refine d_tk 5 s19r1Op5 (.agg e9) hQ (y_p 22 (fun _ h => h.1) q9 Tryd.underlying22) hS ?_
  refine d_fr (ls 8 63) (Fr [z0, D b1, D b2, D b3, .slice (some ⟨b1, 0, none⟩) 32 64, .pointer (some ⟨b1, 0, none⟩), A e6, .slice (some ⟨b1, 32, none⟩) 32 32, .pointer (some ⟨b1, 32, none⟩), A e9] []) ?_
  refine d_one 6 s19r1Op6 (ls 8 127) (fun K hK => ?_)
  refine k_st hK hO 22 i2 h2 e6 fe6_22 (fun _ hO => ⟨hO.row _ (get_set h1 e2_1), trivial⟩) ?_
  intro w1 hO
  replace hO : Own u w1 ((L.set i2 (b2, e6, 22))) := hO
  refine d_one 7 s19r1Op7 (ls 8 255) (fun K hK => ?_)
  refine k_st hK hO 22 i3 (get_set h3 e2_3) e9 fe9_22 (fun _ hO => ⟨hO.row _ (get_set (get_set h1 e2_1) e3_1), trivial⟩) ?_
  intro w2 hO
  exact wpAnyH_done (by kernel_rfl) (H  _ hO) _
set_option maxHeartbeats 4000000 in
theorem halves_c (f : Nat → Nat) (w : World) : Ret 19 #[.agg (vals .u8 64 f)] w (.tuple #[.agg (vals .u8 32 f), .agg (vals .u8 32 (fun j => f (32 + j)))]) := by
  go_enter Tryd.func19, Tryd.ntmps19
  have hO := Own.start w
  go_upto_region 0 with (fail)
  refine s19r0_r hO (fit_b6 f) ?_
  intro n1 n2 n3 w1 hO
  replace hO : Own w w1 [(n3, vals .u8 32 (fun _ => 0), 22), (n2, vals .u8 32 (fun _ => 0), 22), (n1, vals .u8 64 f, 28)] := hO
  go_upto_region 1 with (fail)
  refine s19r1_r (fun _ _ _ _ _ h => h) hO 2 rfl 1 rfl 0 rfl (by decide) (by decide) (by decide) (part_b60 _) (part_b632 _) (fit_by _) (fit_by _) ?_
  intro w2 hO
  replace hO : Own w w2 [(n3, vals .u8 32 (fun j => f (32 + j)), 22), (n2, vals .u8 32 f, 22), (n1, vals .u8 64 f, 28)] := hO
  go_wp2_with fail
  exact bodyPost_ret (v := .tuple #[.agg (vals .u8 32 f), .agg (vals .u8 32 (fun j => f (32 + j)))]) (results_two Tryd.results19 _ _ n2 n3 22 22 _ _ (0, 0) (0, 0) _ _ rfl (hO.row 1 rfl) Tryd.underlying22 rfl (fit_by _).size rfl (hO.row 0 rfl) Tryd.underlying22 rfl (fit_by _).size) rfl ⟨rfl, hO.low⟩
def s15r0Op0 : Oper := ⟨some 1, .box 22 (.tmp 0), 0, "sign.go:52", #[], none⟩
def s15r0Op1 : Oper := ⟨some 2, .alloc 22, 0, "sign.go:52", #[], none⟩
def s15r0Ops : Array Oper := #[s15r0Op0, s15r0Op1]
set_option maxHeartbeats 2000000 in
theorem s15r0_r {Q : Exit → Act → World → Prop} {u w : World} {L : List Row} {z1 z2 : Value} {zz : List Value} {e0 : Array Value} (hO : Own u w L) (fe0_22 : Fit 22 e0) (H : ∀ (n1 : Nat) (n2 : Nat) (w' : World), Own u w' ((n2, vals .u8 32 (fun _ => 0), 22) :: (n1, e0, 22) :: L) → Q .normal { tmps := List.toArray ((.agg e0) :: (.pointer (some ⟨n1, 0, none⟩)) :: (.pointer (some ⟨n2, 0, none⟩)) :: zz), defers := [] } w') :
    (Code.region 0 s15r0Ops false).wp Tryd.prog Q { tmps := List.toArray ((.agg e0) :: z1 :: z2 :: zz), defers := [] } w := by
  refine wp_region_list (show wpList _ s15r0Ops _ [s15r0Op0, s15r0Op1] _ _ from ?_)
  refine l_new hO (e0) 22 (run_box 22 _ rfl _ (by kernel_rfl)) fe0_22 ?_
  intro n1 w1 hO
  refine l_new hO (vals .u8 32 (fun _ => 0)) 22 (al22 rfl) (fit_by _) ?_
  intro n2 w2 hO
  exact l_fr _ (wpList_nil (H n1 n2 _ hO))
def s15r1Op0 : Oper := ⟨some 3, .load 22 (.tmp 1), 22, "sign.go:52", #[], none⟩
def s15r1Op1 : Oper := ⟨some 4, .call { callee := .value (.func 22), args := #[], argTypes := #[] }, 41, "sign.go:52", #[], none⟩
def s15r1Op2 : Oper := ⟨some 5, .call { callee := .value (.func 44), args := #[.tmp 3, .tmp 4], argTypes := #[22, 41] }, 41, "sign.go:52", #[⟨0, .data⟩, ⟨1, .data⟩, ⟨1, .chain⟩], none⟩
def s15r1Op3 : Oper := ⟨some 6, .call { callee := .value (.func 45), args := #[.tmp 5], argTypes := #[41] }, 22, "sign.go:52", #[⟨2, .data⟩, ⟨2, .chain⟩], none⟩
def s15r1Op4 : Oper := ⟨none, .store 22 (.tmp 2) (.tmp 6), 0, "sign.go:52", #[⟨3, .data⟩, ⟨3, .chain⟩, ⟨0, .phase⟩, ⟨1, .phase⟩, ⟨2, .phase⟩, ⟨3, .phase⟩], none⟩
def s15r1Ops : Array Oper := #[s15r1Op0, s15r1Op1, s15r1Op2, s15r1Op3, s15r1Op4]
set_option maxHeartbeats 2000000 in
theorem s15r1_r {Q : Exit → Act → World → Prop} {u w : World} {L : List Row} {z0 z3 z4 z5 z6 : Value} {b1 b2 : Nat} {c1 c2 : Array Value} {e4 e5 e6 : Array Value} (hQ : ∀ c a w n v, Q (.panic c) (a.put (some n) v) w → Q (.panic c) a w) (hO : Own u w L) (i1 : Nat) (h1 : L[i1]? = some (b1, c1, 22)) (i2 : Nat) (h2 : L[i2]? = some (b2, c2, 22)) (e2_1 : i2 ≠ i1) (r4 : ∀ w, Ret 22 #[] w (.agg e4)) (r5 : ∀ w, Ret 44 #[.agg c1, .agg e4] w (.agg e5)) (r6 : ∀ w, Ret 45 #[.agg e5] w (.agg e6)) (fe6_22 : Fit 22 e6) (H : ∀ (w' : World), Own u w' ((L.set i2 (b2, e6, 22))) → Q .normal { tmps := List.toArray (z0 :: (.pointer (some ⟨b1, 0, none⟩)) :: (.pointer (some ⟨b2, 0, none⟩)) :: (.agg c1) :: (.agg e4) :: (.agg e5) :: (.agg e6) :: []), defers := [] } w') :
    (Code.region 1 s15r1Ops true).wp Tryd.prog Q { tmps := List.toArray (z0 :: (.pointer (some ⟨b1, 0, none⟩)) :: (.pointer (some ⟨b2, 0, none⟩)) :: z3 :: z4 :: z5 :: z6 :: []), defers := [] } w := by
  have fc1_22 := hO.fits i1 h1
  refine wp_region_held_drew (S := Has [(b1, c1, 22)]) (by kernel_rfl) ⟨hO.drew.row _ h1, trivial⟩ (fun hS => ?_)
  replace hO := hO.drew
  refine d_tk 0 s15r1Op0 (.agg c1) hQ (y_l 22 (fun _ h => h.1) fc1_22 Tryd.underlying22) hS ?_
  refine d_fr (ls 5 1) (Fr [z0, D b1, D b2, A c1, z4, z5, z6] []) ?_
  refine d_one 1 s15r1Op1 (ls 5 3) (fun K hK => ?_)
  refine k_call hK hO (fun _ hO => ⟨hO.row _ h1, trivial⟩) 22 #[] (.agg e4) r4 ?_
  intro w1 hO
  refine d_one 2 s15r1Op2 (ls 5 7) (fun K hK => ?_)
  refine k_call hK hO (fun _ hO => ⟨hO.row _ h1, trivial⟩) 44 #[.agg c1, .agg e4] (.agg e5) r5 ?_
  intro w2 hO
  refine d_one 3 s15r1Op3 (ls 5 15) (fun K hK => ?_)
  refine k_call hK hO (fun _ hO => ⟨hO.row _ h1, trivial⟩) 45 #[.agg e5] (.agg e6) r6 ?_
  intro w3 hO
  refine d_fr (ls 5 15) (Fr [z0, D b1, D b2, A c1, A e4, A e5, A e6] []) ?_
  refine d_one 4 s15r1Op4 (ls 5 31) (fun K hK => ?_)
  refine k_st hK hO 22 i2 h2 e6 fe6_22 (fun _ hO => ⟨hO.row _ (get_set h1 e2_1), trivial⟩) ?_
  intro w4 hO
  exact wpAnyH_done (by kernel_rfl) (H  _ hO) _
set_option maxHeartbeats 4000000 in
theorem times_c (f : Nat → Nat) (hf : ∀ i, f i < 256) (w : World) : Ret 15 #[.agg (vals .u8 32 f)] w (.agg (vals .u8 32 (ptb (nb f 32)))) := by
  go_enter Tryd.func15, Tryd.ntmps15
  have hO := Own.start w
  go_upto_region 0 with (fail)
  refine s15r0_r hO (fit_by _) ?_
  intro n1 n2 w1 hO
  replace hO : Own w w1 [(n2, vals .u8 32 (fun _ => 0), 22), (n1, vals .u8 32 f, 22)] := hO
  go_upto_region 1 with (fail)
  refine s15r1_r (fun _ _ _ _ _ h => h) hO 1 rfl 0 rfl (by decide) base_p (mul7_c _ hf ok_base) (bytes_p (ok_mul ok_base _)) (fit_by _) ?_
  intro w2 hO
  replace hO : Own w w2 [(n2, vals .u8 32 (byt (num7 (mul7 base7 (nb f 32)))), 22), (n1, vals .u8 32 f, 22)] := hO
  go_wp2_with fail
  refine bodyPost_ret (v := .agg (vals .u8 32 (byt (num7 (mul7 base7 (nb f 32)))))) (results_cell_row Tryd.results15 _ _ n2 22 _ (0, 0) _ rfl (hO.row 0 rfl) Tryd.underlying22 rfl (fit_by _).size) rfl ⟨rfl, hO.low⟩
theorem sum1_c {b q : Nat} {f : Nat → Nat} {w : World} {t : TypeId} (hf : ∀ i, f i < 256) (hG : Glb w) (hB : Blk w b (vals .u8 32 f) t) (hq : Blk w q #[.slice (some ⟨b, 0, none⟩) 32 32] 23) : Ret 43 #[.slice (some ⟨q, 0, none⟩) 1 1] w (.agg (vals .u8 64 (T.dg (bl f)))) := by
  have h := T.all_at (some ⟨q, 0, none⟩) [pt32 b f] 1 _ w rfl hG.2 (pt_one1 hq (bl_len f)) (fun p hp => by
    obtain rfl : p = pt32 b f := by simpa using hp
    exact ok32 hB hf) (by rw [cat_one]; show (bl f).length < _; rw [bl_len]; omega) (by simp)
  rw [cat_one] at h
  exact h
theorem reduce_c (l : List Nat) {w : World} (hG : Glb w) : Ret 67 #[.agg (vals .u8 64 (T.dg l))] w (.agg (vals .u8 32 (byt (dgn l)))) := S.reduce_at _ _ w rfl hG.1 (T.dg_lt l)
def s14r0Op0 : Oper := ⟨some 1, .box 22 (.tmp 0), 0, "sign.go:44", #[], none⟩
def s14r0Op1 : Oper := ⟨some 2, .alloc 22, 0, "sign.go:44", #[], none⟩
def s14r0Op2 : Oper := ⟨some 3, .alloc 22, 0, "sign.go:44", #[], none⟩
def s14r0Ops : Array Oper := #[s14r0Op0, s14r0Op1, s14r0Op2]
set_option maxHeartbeats 2000000 in
theorem s14r0_r {Q : Exit → Act → World → Prop} {u w : World} {L : List Row} {z1 z2 z3 : Value} {zz : List Value} {e0 : Array Value} (hO : Own u w L) (fe0_22 : Fit 22 e0) (H : ∀ (n1 : Nat) (n2 : Nat) (n3 : Nat) (w' : World), Own u w' ((n3, vals .u8 32 (fun _ => 0), 22) :: (n2, vals .u8 32 (fun _ => 0), 22) :: (n1, e0, 22) :: L) → Q .normal { tmps := List.toArray ((.agg e0) :: (.pointer (some ⟨n1, 0, none⟩)) :: (.pointer (some ⟨n2, 0, none⟩)) :: (.pointer (some ⟨n3, 0, none⟩)) :: zz), defers := [] } w') :
    (Code.region 0 s14r0Ops false).wp Tryd.prog Q { tmps := List.toArray ((.agg e0) :: z1 :: z2 :: z3 :: zz), defers := [] } w := by
  refine wp_region_list (show wpList _ s14r0Ops _ [s14r0Op0, s14r0Op1, s14r0Op2] _ _ from ?_)
  refine l_new hO (e0) 22 (run_box 22 _ rfl _ (by kernel_rfl)) fe0_22 ?_
  intro n1 w1 hO
  refine l_new hO (vals .u8 32 (fun _ => 0)) 22 (al22 rfl) (fit_by _) ?_
  intro n2 w2 hO
  refine l_new hO (vals .u8 32 (fun _ => 0)) 22 (al22 rfl) (fit_by _) ?_
  intro n3 w3 hO
  exact l_fr _ (wpList_nil (H n1 n2 n3 _ hO))
def s14r1Op0 : Oper := ⟨some 5, .slice 22 (.tmp 1) none none none, 23, "sign.go:45", #[], none⟩
def s14r1Op1 : Oper := ⟨some 6, .buildSlice 26 1 #[(0, .tmp 5)], 26, "sign.go:45", #[⟨0, .data⟩], none⟩
def s14r1Op2 : Oper := ⟨some 7, .call { callee := .value (.func 43), args := #[.tmp 6], argTypes := #[26] }, 28, "sign.go:45", #[⟨1, .data⟩], none⟩
def s14r1Op3 : Oper := ⟨some 8, .call { callee := .value (.func 19), args := #[.tmp 7], argTypes := #[28] }, 44, "sign.go:45", #[⟨2, .data⟩, ⟨2, .chain⟩], none⟩
def s14r1Op4 : Oper := ⟨some 4, .move (.tmp 8), 44, "sign.go:45", #[⟨3, .data⟩], none⟩
def s14r1Op5 : Oper := ⟨some 9, .extract (.tmp 4) 0, 22, "sign.go:45", #[⟨4, .data⟩], none⟩
def s14r1Op6 : Oper := ⟨some 10, .extract (.tmp 4) 1, 22, "sign.go:45", #[⟨4, .data⟩, ⟨7, .gcOnly .lateStores⟩], none⟩
def s14r1Op7 : Oper := ⟨none, .store 22 (.tmp 2) (.tmp 9), 0, "sign.go:45", #[⟨5, .data⟩, ⟨3, .chain⟩, ⟨0, .phase⟩, ⟨1, .phase⟩, ⟨2, .phase⟩, ⟨3, .phase⟩, ⟨4, .phase⟩, ⟨5, .phase⟩, ⟨6, .textOnly .lateStores⟩], none⟩
def s14r1Op8 : Oper := ⟨none, .store 22 (.tmp 3) (.tmp 10), 0, "sign.go:45", #[⟨6, .data⟩, ⟨7, .chain⟩, ⟨0, .phase⟩, ⟨1, .phase⟩, ⟨2, .phase⟩, ⟨3, .phase⟩, ⟨4, .phase⟩, ⟨5, .phase⟩, ⟨6, .phase⟩, ⟨7, .phase⟩], none⟩
def s14r1Ops : Array Oper := #[s14r1Op0, s14r1Op1, s14r1Op2, s14r1Op3, s14r1Op4, s14r1Op5, s14r1Op6, s14r1Op7, s14r1Op8]
set_option maxHeartbeats 2000000 in
theorem s14r1_r {Q : Exit → Act → World → Prop} {u w : World} {L : List Row} {z0 z4 z5 z6 z7 z8 z9 z10 : Value} {zz : List Value} {b1 b2 b3 : Nat} {c1 c2 c3 : Array Value} {e7 e8a e8b : Array Value} (hO : Own u w L) (i1 : Nat) (h1 : L[i1]? = some (b1, c1, 22)) (i2 : Nat) (h2 : L[i2]? = some (b2, c2, 22)) (i3 : Nat) (h3 : L[i3]? = some (b3, c3, 22)) (e2_3 : i2 ≠ i3) (r7 : ∀ (q6 : Nat) (w : World), Below u.heap.size u w → Blk w b1 c1 22 → Blk w b2 c2 22 → Blk w b3 c3 22 → Blk w q6 #[.slice (some ⟨b1, 0, none⟩) 32 32] 23 → Ret 43 #[.slice (some ⟨q6, 0, none⟩) 1 1] w (.agg e7)) (r8 : ∀ w, Ret 19 #[.agg e7] w (.tuple #[.agg e8a, .agg e8b])) (fe8a_22 : Fit 22 e8a) (fe8b_22 : Fit 22 e8b) (H : ∀ (q6 : Nat) (w' : World), Own u w' (((L.set i2 (b2, e8a, 22)).set i3 (b3, e8b, 22))) → Q .normal { tmps := List.toArray (z0 :: (.pointer (some ⟨b1, 0, none⟩)) :: (.pointer (some ⟨b2, 0, none⟩)) :: (.pointer (some ⟨b3, 0, none⟩)) :: (.tuple #[.agg e8a, .agg e8b]) :: (.slice (some ⟨b1, 0, none⟩) 32 32) :: (.slice (some ⟨q6, 0, none⟩) 1 1) :: (.agg e7) :: (.tuple #[.agg e8a, .agg e8b]) :: (.agg e8a) :: (.agg e8b) :: zz), defers := [] } w') :
    (Code.region 1 s14r1Ops false).wp Tryd.prog Q { tmps := List.toArray (z0 :: (.pointer (some ⟨b1, 0, none⟩)) :: (.pointer (some ⟨b2, 0, none⟩)) :: (.pointer (some ⟨b3, 0, none⟩)) :: z4 :: z5 :: z6 :: z7 :: z8 :: z9 :: z10 :: zz), defers := [] } w := by
  refine wp_region_list (show wpList _ s14r1Ops _ [s14r1Op0, s14r1Op1, s14r1Op2, s14r1Op3, s14r1Op4, s14r1Op5, s14r1Op6, s14r1Op7, s14r1Op8] _ _ from ?_)
  refine l_val (.slice (some ⟨b1, 0, none⟩) 32 32) (by kernel_rfl) ?_
  refine l_bs hO 1 #[.slice (some ⟨b1, 0, none⟩) 32 32] 23 (fun w => run_bsl 26 23 1 _ rfl #[(0, .slice (some ⟨b1, 0, none⟩) 32 32)] (by kernel_rfl) (by kernel_rfl)) ?_
  intro q6 w1 hb hB6 hO
  clear hb
  refine l_cw hO 43 #[.slice (some ⟨q6, 0, none⟩) 1 1] (.agg e7) (r7 q6 _ hO.low (hO.row (i1) h1) (hO.row (i2) h2) (hO.row (i3) h3) hB6) ?_
  intro w2 _ hO
  clear hB6
  refine l_fr (Fr [z0, D b1, D b2, D b3, z4, .slice (some ⟨b1, 0, none⟩) 32 32, .slice (some ⟨q6, 0, none⟩) 1 1, A e7, z8, z9, z10] zz) ?_
  refine l_call hO 19 #[.agg e7] (.tuple #[.agg e8a, .agg e8b]) r8 ?_
  intro w3 hO
  refine l_val (.tuple #[.agg e8a, .agg e8b]) (by kernel_rfl) ?_
  refine l_val (.agg e8a) (by kernel_rfl) ?_
  refine l_fr (Fr [z0, D b1, D b2, D b3, .tuple #[.agg e8a, .agg e8b], .slice (some ⟨b1, 0, none⟩) 32 32, .slice (some ⟨q6, 0, none⟩) 1 1, A e7, .tuple #[.agg e8a, .agg e8b], A e8a, z10] zz) ?_
  refine l_val (.agg e8b) (by kernel_rfl) ?_
  refine l_st hO 22 i2 h2 e8a fe8a_22 ?_
  intro w4 hO
  replace hO : Own u w4 ((L.set i2 (b2, e8a, 22))) := hO
  refine l_st hO 22 i3 (get_set h3 e2_3) e8b fe8b_22 ?_
  intro w5 hO
  exact l_fr _ (wpList_nil (H q6 _ hO))
def s14r2Op0 : Oper := ⟨some 11, .indexAddr 22 (.tmp 2) (.const (.int .i64 0)), 0, "sign.go:46", #[], none⟩
def s14r2Op1 : Oper := ⟨some 12, .load 5 (.tmp 11), 5, "sign.go:46", #[⟨0, .data⟩], none⟩
def s14r2Op2 : Oper := ⟨some 13, .binOp .and 5 (.tmp 12) (.const (.int .u8 248)) 5, 5, "sign.go:46", #[⟨1, .data⟩], none⟩
def s14r2Op3 : Oper := ⟨some 14, .indexAddr 22 (.tmp 2) (.const (.int .i64 0)), 0, "sign.go:46", #[⟨0, .phase⟩, ⟨1, .phase⟩, ⟨2, .phase⟩], none⟩
def s14r2Op4 : Oper := ⟨none, .store 5 (.tmp 14) (.tmp 13), 0, "sign.go:46", #[⟨3, .data⟩, ⟨2, .data⟩, ⟨0, .phase⟩, ⟨1, .phase⟩, ⟨2, .phase⟩], none⟩
def s14r2Ops : Array Oper := #[s14r2Op0, s14r2Op1, s14r2Op2, s14r2Op3, s14r2Op4]
set_option maxHeartbeats 2000000 in
theorem s14r2_r {Q : Exit → Act → World → Prop} {u w : World} {L : List Row} {z0 z1 z3 z4 z5 z6 z7 z8 z9 z10 z11 z12 z13 z14 : Value} {zz : List Value} {b2 : Nat} {c2 : Array Value} {e904 : Array Value} {g12 g13 : Nat} (hO : Own u w L) (i2 : Nat) (h2 : L[i2]? = some (b2, c2, 22)) (v12 : c2[0]? = some (.int .u8 ((g12 : Nat) : Int))) (k13 : ∀ (a : Act) (w : World), a.eval (.tmp 12) = .int .u8 ((g12 : Nat) : Int) → (execOp a.eval s14r2Op2).run Tryd.prog w = .ok (.value (.int .u8 ((g13 : Nat) : Int))) w) (s4 : c2.setIfInBounds 0 (.int .u8 ((g13 : Nat) : Int)) = e904) (fe904_22 : Fit 22 e904) (H : ∀ (w' : World), Own u w' ((L.set i2 (b2, e904, 22))) → Q .normal { tmps := List.toArray (z0 :: z1 :: (.pointer (some ⟨b2, 0, none⟩)) :: z3 :: z4 :: z5 :: z6 :: z7 :: z8 :: z9 :: z10 :: (.pointer (some ⟨b2, 0, none⟩)) :: (.int .u8 ((g12 : Nat) : Int)) :: (.int .u8 ((g13 : Nat) : Int)) :: (.pointer (some ⟨b2, 0, none⟩)) :: zz), defers := [] } w') :
    (Code.region 2 s14r2Ops false).wp Tryd.prog Q { tmps := List.toArray (z0 :: z1 :: (.pointer (some ⟨b2, 0, none⟩)) :: z3 :: z4 :: z5 :: z6 :: z7 :: z8 :: z9 :: z10 :: z11 :: z12 :: z13 :: z14 :: zz), defers := [] } w := by
  refine wp_region_list (show wpList _ s14r2Ops _ [s14r2Op0, s14r2Op1, s14r2Op2, s14r2Op3, s14r2Op4] _ _ from ?_)
  refine l_val (.pointer (some ⟨b2, 0, none⟩)) (by kernel_rfl) ?_
  refine l_c8 hO i2 h2 v12 ?_
  refine l_val (.int .u8 ((g13 : Nat) : Int)) (k13 _ _ (by kernel_rfl)) ?_
  refine l_fr (Fr [z0, z1, D b2, z3, z4, z5, z6, z7, z8, z9, z10, .pointer (some ⟨b2, 0, none⟩), .int .u8 ((g12 : Nat) : Int), .int .u8 ((g13 : Nat) : Int), z14] zz) ?_
  refine l_val (.pointer (some ⟨b2, 0, none⟩)) (by kernel_rfl) ?_
  refine l_stc hO i2 h2 g13 v12 s4 fe904_22 ?_
  intro w1 hO
  exact l_fr _ (wpList_nil (H  _ hO))
def s14r3Op0 : Oper := ⟨some 15, .indexAddr 22 (.tmp 2) (.const (.int .i64 31)), 0, "sign.go:47", #[], none⟩
def s14r3Op1 : Oper := ⟨some 16, .load 5 (.tmp 15), 5, "sign.go:47", #[⟨0, .data⟩], none⟩
def s14r3Op2 : Oper := ⟨some 17, .binOp .and 5 (.tmp 16) (.const (.int .u8 63)) 5, 5, "sign.go:47", #[⟨1, .data⟩], none⟩
def s14r3Op3 : Oper := ⟨some 18, .binOp .or 5 (.tmp 17) (.const (.int .u8 64)) 5, 5, "sign.go:47", #[⟨2, .data⟩], none⟩
def s14r3Op4 : Oper := ⟨some 19, .indexAddr 22 (.tmp 2) (.const (.int .i64 31)), 0, "sign.go:47", #[⟨0, .phase⟩, ⟨1, .phase⟩, ⟨2, .phase⟩, ⟨3, .phase⟩], none⟩
def s14r3Op5 : Oper := ⟨none, .store 5 (.tmp 19) (.tmp 18), 0, "sign.go:47", #[⟨4, .data⟩, ⟨3, .data⟩, ⟨0, .phase⟩, ⟨1, .phase⟩, ⟨2, .phase⟩, ⟨3, .phase⟩], none⟩
def s14r3Ops : Array Oper := #[s14r3Op0, s14r3Op1, s14r3Op2, s14r3Op3, s14r3Op4, s14r3Op5]
set_option maxHeartbeats 2000000 in
theorem s14r3_r {Q : Exit → Act → World → Prop} {u w : World} {L : List Row} {z0 z1 z3 z4 z5 z6 z7 z8 z9 z10 z11 z12 z13 z14 z15 z16 z17 z18 z19 : Value} {zz : List Value} {b2 : Nat} {c2 : Array Value} {e905 : Array Value} {g16 g17 g18 : Nat} (hO : Own u w L) (i2 : Nat) (h2 : L[i2]? = some (b2, c2, 22)) (v16 : c2[31]? = some (.int .u8 ((g16 : Nat) : Int))) (k17 : ∀ (a : Act) (w : World), a.eval (.tmp 16) = .int .u8 ((g16 : Nat) : Int) → (execOp a.eval s14r3Op2).run Tryd.prog w = .ok (.value (.int .u8 ((g17 : Nat) : Int))) w) (k18 : ∀ (a : Act) (w : World), a.eval (.tmp 17) = .int .u8 ((g17 : Nat) : Int) → (execOp a.eval s14r3Op3).run Tryd.prog w = .ok (.value (.int .u8 ((g18 : Nat) : Int))) w) (s5 : c2.setIfInBounds 31 (.int .u8 ((g18 : Nat) : Int)) = e905) (fe905_22 : Fit 22 e905) (H : ∀ (w' : World), Own u w' ((L.set i2 (b2, e905, 22))) → Q .normal { tmps := List.toArray (z0 :: z1 :: (.pointer (some ⟨b2, 0, none⟩)) :: z3 :: z4 :: z5 :: z6 :: z7 :: z8 :: z9 :: z10 :: z11 :: z12 :: z13 :: z14 :: (.pointer (some ⟨b2, 31, none⟩)) :: (.int .u8 ((g16 : Nat) : Int)) :: (.int .u8 ((g17 : Nat) : Int)) :: (.int .u8 ((g18 : Nat) : Int)) :: (.pointer (some ⟨b2, 31, none⟩)) :: zz), defers := [] } w') :
    (Code.region 3 s14r3Ops false).wp Tryd.prog Q { tmps := List.toArray (z0 :: z1 :: (.pointer (some ⟨b2, 0, none⟩)) :: z3 :: z4 :: z5 :: z6 :: z7 :: z8 :: z9 :: z10 :: z11 :: z12 :: z13 :: z14 :: z15 :: z16 :: z17 :: z18 :: z19 :: zz), defers := [] } w := by
  refine wp_region_list (show wpList _ s14r3Ops _ [s14r3Op0, s14r3Op1, s14r3Op2, s14r3Op3, s14r3Op4, s14r3Op5] _ _ from ?_)
  refine l_val (.pointer (some ⟨b2, 31, none⟩)) (by kernel_rfl) ?_
  refine l_c8 hO i2 h2 v16 ?_
  refine l_val (.int .u8 ((g17 : Nat) : Int)) (k17 _ _ (by kernel_rfl)) ?_
  refine l_fr (Fr [z0, z1, D b2, z3, z4, z5, z6, z7, z8, z9, z10, z11, z12, z13, z14, .pointer (some ⟨b2, 31, none⟩), .int .u8 ((g16 : Nat) : Int), .int .u8 ((g17 : Nat) : Int), z18, z19] zz) ?_
  refine l_val (.int .u8 ((g18 : Nat) : Int)) (k18 _ _ (by kernel_rfl)) ?_
  refine l_val (.pointer (some ⟨b2, 31, none⟩)) (by kernel_rfl) ?_
  refine l_stc hO i2 h2 g18 v16 s5 fe905_22 ?_
  intro w1 hO
  exact l_fr _ (wpList_nil (H  _ hO))
def s14r4Op0 : Oper := ⟨some 20, .load 22 (.tmp 2), 22, "sign.go:48", #[], none⟩
def s14r4Op1 : Oper := ⟨some 21, .load 22 (.tmp 3), 22, "sign.go:48", #[⟨2, .gcOnly .lateStores⟩], none⟩
def s14r4Op2 : Oper := ⟨none, .store 22 (.tmp 2) (.tmp 20), 0, "sign.go:48", #[⟨0, .data⟩, ⟨0, .phase⟩, ⟨1, .textOnly .lateStores⟩], none⟩
def s14r4Op3 : Oper := ⟨none, .store 22 (.tmp 3) (.tmp 21), 0, "sign.go:48", #[⟨1, .data⟩, ⟨2, .chain⟩, ⟨0, .phase⟩, ⟨1, .phase⟩, ⟨2, .phase⟩], none⟩
def s14r4Ops : Array Oper := #[s14r4Op0, s14r4Op1, s14r4Op2, s14r4Op3]
set_option maxHeartbeats 2000000 in
theorem s14r4_r {Q : Exit → Act → World → Prop} {u w : World} {L : List Row} {z0 z1 z4 z5 z6 z7 z8 z9 z10 z11 z12 z13 z14 z15 z16 z17 z18 z19 z20 z21 : Value} {b2 b3 : Nat} {c2 c3 : Array Value} (_hQ : ∀ c a w n v, Q (.panic c) (a.put (some n) v) w → Q (.panic c) a w) (hO : Own u w L) (i2 : Nat) (h2 : L[i2]? = some (b2, c2, 22)) (i3 : Nat) (h3 : L[i3]? = some (b3, c3, 22)) (e2_3 : i2 ≠ i3) (H : ∀ (w' : World), Own u w' (((L.set i2 (b2, c2, 22)).set i3 (b3, c3, 22))) → Q .normal { tmps := List.toArray (z0 :: z1 :: (.pointer (some ⟨b2, 0, none⟩)) :: (.pointer (some ⟨b3, 0, none⟩)) :: z4 :: z5 :: z6 :: z7 :: z8 :: z9 :: z10 :: z11 :: z12 :: z13 :: z14 :: z15 :: z16 :: z17 :: z18 :: z19 :: (.agg c2) :: (.agg c3) :: []), defers := [] } w') :
    (Code.region 4 s14r4Ops true).wp Tryd.prog Q { tmps := List.toArray (z0 :: z1 :: (.pointer (some ⟨b2, 0, none⟩)) :: (.pointer (some ⟨b3, 0, none⟩)) :: z4 :: z5 :: z6 :: z7 :: z8 :: z9 :: z10 :: z11 :: z12 :: z13 :: z14 :: z15 :: z16 :: z17 :: z18 :: z19 :: z20 :: z21 :: []), defers := [] } w := by
  have fc2_22 := hO.fits i2 h2
  have fc3_22 := hO.fits i3 h3
  have s0 : ∀ (w : World), Own u w ((L.set i2 (b2, c2, 22))) → wpAnyH Tryd.prog .any s14r4Ops Q (Has []) 1 (ls 4 7) (Fr [z0, z1, D b2, D b3, z4, z5, z6, z7, z8, z9, z10, z11, z12, z13, z14, z15, z16, z17, z18, z19, A c2, A c3] []) w := by
    intro w hO
    refine d_one 3 s14r4Op3 (ls 4 15) (fun K hK => ?_)
    refine k_st hK hO 22 i3 (get_set h3 e2_3) c3 fc3_22 (fun _ hO => trivial) ?_
    intro w1 hO
    exact wpAnyH_done (by kernel_rfl) (H  _ hO) _
  have s1 : ∀ (w : World), Own u w (L) → wpAnyH Tryd.prog .any s14r4Ops Q (Has []) 2 (ls 4 3) (Fr [z0, z1, D b2, D b3, z4, z5, z6, z7, z8, z9, z10, z11, z12, z13, z14, z15, z16, z17, z18, z19, A c2, A c3] []) w := by
    intro w hO
    refine d_one 2 s14r4Op2 (ls 4 7) (fun K hK => ?_)
    refine k_st hK hO 22 i2 h2 c2 fc2_22 (fun _ hO => trivial) ?_
    intro w2 hO
    replace hO : Own u w2 ((L.set i2 (b2, c2, 22))) := hO
    exact d_fr _ _ (s0 _ hO)
  refine wp_region_held_drew (S := Has []) (by kernel_rfl) trivial (fun hS => ?_)
  replace hO := hO.drew
  refine d_fr (ls 4 0) (Fr [z0, z1, D b2, D b3, z4, z5, z6, z7, z8, z9, z10, z11, z12, z13, z14, z15, z16, z17, z18, z19, z20, z21] []) ?_
  refine wpAnyH_ready (rs := [0, 1]) (by kernel_rfl) (by simp) ?_
  refine d_cons 0 s14r4Op0 (ls 4 1) (fun K hK => ?_) ?_
  · skip
    refine k_ld hK hO hS 22 i2 h2 Tryd.underlying22 ?_
    refine wpAnyH_ready (rs := [1, 2]) (by kernel_rfl) (by simp) ?_
    refine d_cons 1 s14r4Op1 (ls 4 3) (fun K hK => ?_) ?_
    · skip
      refine k_ld hK hO hS 22 i3 h3 Tryd.underlying22 ?_
      exact d_fr _ _ (s1 _ hO)
    refine d_cons 2 s14r4Op2 (ls 4 5) (fun K hK => ?_) ?_
    · skip
      refine k_st hK hO 22 i2 h2 c2 fc2_22 (fun _ hO => trivial) ?_
      intro w5 hO
      replace hO : Own u w5 ((L.set i2 (b2, c2, 22))) := hO
      have hS : Has [] w5 := trivial
      refine d_one 1 s14r4Op1 (ls 4 7) (fun K hK => ?_)
      refine k_ld hK hO hS 22 i3 (get_set h3 e2_3) Tryd.underlying22 ?_
      exact d_fr _ _ (s0 _ hO)
    exact AllReadyH.nil
  refine d_cons 1 s14r4Op1 (ls 4 2) (fun K hK => ?_) ?_
  · skip
    refine k_ld hK hO hS 22 i3 h3 Tryd.underlying22 ?_
    refine d_one 0 s14r4Op0 (ls 4 3) (fun K hK => ?_)
    refine k_ld hK hO hS 22 i2 h2 Tryd.underlying22 ?_
    exact d_fr _ _ (s1 _ hO)
  exact AllReadyH.nil
theorem clb_step (g : Nat → Nat) : vals .u8 32 (fun j => if j = 31 then g 31 % 64 + 64 else (fun j => if j = 0 then g 0 / 8 * 8 else g j) j) = vals .u8 32 (clb g) := vals_congr _ _ _ _ fun j _ => by
  unfold clb
  dsimp only
  by_cases h0 : j = 0
  · subst h0; rw [if_pos rfl, if_pos rfl, if_neg (by omega)]
  · by_cases h1 : j = 31
    · subst h1; rw [if_pos rfl, if_neg (by omega), if_pos rfl]
    · rw [if_neg h1, if_neg h0, if_neg h0, if_neg h1]
theorem sec_and (a : Act) (w : World) (g : Nat) (hg : g < 256) (h0 : a.eval (.tmp 12) = .int .u8 ((g : Nat) : Int)) : (execOp a.eval s14r2Op2).run Tryd.prog w = .ok (.value (.int .u8 ((g / 8 * 8 : Nat) : Int))) w := by
  unfold execOp s14r2Op2
  simp only [h0]
  have e0 : a.eval (.const (.int .u8 248)) = .int .u8 248 := rfl
  have e := u8_and_248 g hg
  go_simp
theorem sec_low (a : Act) (w : World) (g : Nat) (hg : g < 256) (h0 : a.eval (.tmp 16) = .int .u8 ((g : Nat) : Int)) : (execOp a.eval s14r3Op2).run Tryd.prog w = .ok (.value (.int .u8 ((g % 64 : Nat) : Int))) w := by
  unfold execOp s14r3Op2
  simp only [h0]
  have e0 : a.eval (.const (.int .u8 63)) = .int .u8 63 := rfl
  have e := u8_and_63 g hg
  go_simp
theorem sec_or (a : Act) (w : World) (g : Nat) (hg : g < 64) (h0 : a.eval (.tmp 17) = .int .u8 ((g : Nat) : Int)) : (execOp a.eval s14r3Op3).run Tryd.prog w = .ok (.value (.int .u8 ((g + 64 : Nat) : Int))) w := by
  unfold execOp s14r3Op3
  simp only [h0]
  have e0 : a.eval (.const (.int .u8 64)) = .int .u8 64 := rfl
  have e := u8_or_64 g hg
  go_simp
set_option maxHeartbeats 4000000 in
theorem secret_g (f g : Nat → Nat) (hf : ∀ i, f i < 256) (hg : Hid (T.dg (bl f) = g)) (hgl : ∀ i, g i < 256) (w : World) (hG : Glb w) : Ret 14 #[.agg (vals .u8 32 f)] w (.tuple #[.agg (vals .u8 32 (clb g)), .agg (vals .u8 32 (fun j => g (32 + j)))]) := by
  go_enter Tryd.func14, Tryd.ntmps14
  have hO := Own.start w
  have HG := hide hG
  clear hG
  go_upto_region 0 with (fail)
  refine s14r0_r hO (fit_by _) ?_
  intro n1 n2 n3 w1 hO
  replace hO : Own w w1 [(n3, vals .u8 32 (fun _ => 0), 22), (n2, vals .u8 32 (fun _ => 0), 22), (n1, vals .u8 32 f, 22)] := hO
  go_upto_region 1 with (fail)
  refine s14r1_r hO 2 rfl 1 rfl 0 rfl (by decide) (fun q w hL hB _ _ hq => hg.out ▸ sum1_c hf (HG.out.low hL) hB hq) (halves_c g) (fit_by _) (fit_by _) ?_
  intro q6 w2 hO
  replace hO : Own w w2 [(n3, vals .u8 32 (fun j => g (32 + j)), 22), (n2, vals .u8 32 g, 22), (n1, vals .u8 32 f, 22)] := hO
  go_upto_region 2 with (fail)
  refine s14r2_r hO 1 rfl (get_by _ 0 (by omega)) (fun a w h => sec_and a w _ (hgl _) h) (set_by _ _ _) (fit_by _) ?_
  intro w3 hO
  replace hO : Own w w3 [(n3, vals .u8 32 (fun j => g (32 + j)), 22), (n2, vals .u8 32 (fun j => if j = 0 then g 0 / 8 * 8 else g j), 22), (n1, vals .u8 32 f, 22)] := hO
  go_upto_region 3 with (fail)
  refine s14r3_r hO 1 rfl ((get_by _ 31 (by omega)).trans rfl) (fun a w h => sec_low a w _ (hgl _) h) (fun a w h => sec_or a w _ (Nat.mod_lt _ (by omega)) h) (set_by _ _ _) (fit_by _) ?_
  intro w4 hO
  replace hO : Own w w4 [(n3, vals .u8 32 (fun j => g (32 + j)), 22), (n2, vals .u8 32 (fun j => if j = 31 then g 31 % 64 + 64 else (fun j => if j = 0 then g 0 / 8 * 8 else g j) j), 22), (n1, vals .u8 32 f, 22)] := hO
  rw [clb_step g] at hO
  go_upto_region 4 with (fail)
  refine s14r4_r (fun _ _ _ _ _ h => h) hO 1 rfl 0 rfl (by decide) ?_
  intro w5 hO
  replace hO : Own w w5 [(n3, vals .u8 32 (fun j => g (32 + j)), 22), (n2, vals .u8 32 (clb g), 22), (n1, vals .u8 32 f, 22)] := hO
  go_wp2_with fail
  exact bodyPost_ret (v := .tuple #[.agg (vals .u8 32 (clb g)), .agg (vals .u8 32 (fun j => g (32 + j)))]) (results_two Tryd.results14 _ _ n2 n3 22 22 _ _ (0, 0) (0, 0) _ _ rfl (hO.row 1 rfl) Tryd.underlying22 rfl (fit_by _).size rfl (hO.row 0 rfl) Tryd.underlying22 rfl (fit_by _).size) rfl ⟨rfl, hO.low⟩
theorem secret_c (f : Nat → Nat) (hf : ∀ i, f i < 256) (w : World) (hG : Glb w) : Ret 14 #[.agg (vals .u8 32 f)] w (.tuple #[.agg (vals .u8 32 (sec f)), .agg (vals .u8 32 (pre f))]) := secret_g f _ hf (hide rfl) (T.dg_lt _) w hG
def s47r0Op0 : Oper := ⟨some 2, .alloc 22, 0, "sign.go:60", #[], none⟩
def s47r0Ops : Array Oper := #[s47r0Op0]
set_option maxHeartbeats 2000000 in
theorem s47r0_r {Q : Exit → Act → World → Prop} {u w : World} {L : List Row} {z0 z1 z2 : Value} {zz : List Value} (hO : Own u w L) (H : ∀ (n2 : Nat) (w' : World), Own u w' ((n2, vals .u8 32 (fun _ => 0), 22) :: L) → Q .normal { tmps := List.toArray (z0 :: z1 :: (.pointer (some ⟨n2, 0, none⟩)) :: zz), defers := [] } w') :
    (Code.region 0 s47r0Ops false).wp Tryd.prog Q { tmps := List.toArray (z0 :: z1 :: z2 :: zz), defers := [] } w := by
  refine wp_region_list (show wpList _ s47r0Ops _ [s47r0Op0] _ _ from ?_)
  refine l_new hO (vals .u8 32 (fun _ => 0)) 22 (al22 rfl) (fit_by _) ?_
  intro n2 w1 hO
  exact l_fr _ (wpList_nil (H n2 _ hO))
def s47r1Op0 : Oper := ⟨some 3, .move (.tmp 0), 26, "sign.go:60", #[], none⟩
def s47r1Op1 : Oper := ⟨some 4, .call { callee := .value (.func 43), args := #[.tmp 3], argTypes := #[26] }, 28, "sign.go:60", #[⟨0, .data⟩], none⟩
def s47r1Op2 : Oper := ⟨some 5, .call { callee := .value (.func 67), args := #[.tmp 4], argTypes := #[28] }, 22, "sign.go:60", #[⟨1, .data⟩, ⟨1, .chain⟩], none⟩
def s47r1Op3 : Oper := ⟨none, .store 22 (.tmp 2) (.tmp 5), 0, "sign.go:60", #[⟨2, .data⟩, ⟨2, .chain⟩, ⟨0, .phase⟩, ⟨1, .phase⟩, ⟨2, .phase⟩], none⟩
def s47r1Ops : Array Oper := #[s47r1Op0, s47r1Op1, s47r1Op2, s47r1Op3]
set_option maxHeartbeats 2000000 in
theorem s47r1_r {Q : Exit → Act → World → Prop} {u w : World} {L : List Row} {z1 z3 z4 z5 : Value} {x0 : Value} {b2 : Nat} {c2 : Array Value} {e4 e5 : Array Value} (hO : Own u w L) (i2 : Nat) (h2 : L[i2]? = some (b2, c2, 22)) (r4 : ∀ (w : World), Below u.heap.size u w → Blk w b2 c2 22 → Ret 43 #[x0] w (.agg e4)) (r5 : ∀ (w : World), Below u.heap.size u w → Blk w b2 c2 22 → Ret 67 #[.agg e4] w (.agg e5)) (fe5_22 : Fit 22 e5) (H : ∀ (w' : World), Own u w' ((L.set i2 (b2, e5, 22))) → Q .normal { tmps := List.toArray (x0 :: z1 :: (.pointer (some ⟨b2, 0, none⟩)) :: x0 :: (.agg e4) :: (.agg e5) :: []), defers := [] } w') :
    (Code.region 1 s47r1Ops false).wp Tryd.prog Q { tmps := List.toArray (x0 :: z1 :: (.pointer (some ⟨b2, 0, none⟩)) :: z3 :: z4 :: z5 :: []), defers := [] } w := by
  refine wp_region_list (show wpList _ s47r1Ops _ [s47r1Op0, s47r1Op1, s47r1Op2, s47r1Op3] _ _ from ?_)
  refine l_val (x0) (by kernel_rfl) ?_
  refine l_cw hO 43 #[x0] (.agg e4) (r4 _ hO.low (hO.row (i2) h2)) ?_
  intro w1 _ hO
  refine l_cw hO 67 #[.agg e4] (.agg e5) (r5 _ hO.low (hO.row (i2) h2)) ?_
  intro w2 _ hO
  refine l_fr (Fr [x0, z1, D b2, x0, A e4, A e5] []) ?_
  refine l_st hO 22 i2 h2 e5 fe5_22 ?_
  intro w3 hO
  exact l_fr _ (wpList_nil (H  _ hO))
set_option maxHeartbeats 4000000 in
theorem number_c (P : Option Addr) (ps : List T.Pt) (pc : Nat) (w : World) (hG : Glb w) (hP : T.Prt w P ps) (hO : T.PtOk w ps) (hs : (T.cat ps).length < 2 ^ 50) (hp : ps.length < 2 ^ 50) : Ret 47 #[.slice P ps.length pc] w (.agg (vals .u8 32 (byt (dgn (T.cat ps))))) := by
  go_enter Tryd.func47, Tryd.ntmps47
  have HG := hide hG
  have HP := hide hP
  have HO := hide hO
  clear hG hP hO
  have hO := Own.start w
  go_upto_region 0 with (fail)
  refine s47r0_r hO ?_
  intro n2 w1 hO
  replace hO : Own w w1 [(n2, vals .u8 32 (fun _ => 0), 22)] := hO
  go_upto_region 1 with (fail)
  refine s47r1_r hO 0 rfl (fun w hL _ => T.all_at P ps pc _ w rfl (HG.out.low hL).2 (HP.out.low hL) (HO.out.low hL) (by omega) (by omega)) (fun w hL _ => reduce_c _ (HG.out.low hL)) (fit_by _) ?_
  intro w2 hO
  replace hO : Own w w2 [(n2, vals .u8 32 (byt (dgn (T.cat ps))), 22)] := hO
  go_wp2_with fail
  refine bodyPost_ret (v := .agg (vals .u8 32 (byt (dgn (T.cat ps))))) (results_cell_row Tryd.results47 _ _ n2 22 _ (0, 0) _ rfl (hO.row 0 rfl) Tryd.underlying22 rfl (fit_by _).size) rfl ⟨rfl, hO.low⟩
theorem behind_c (A : Option Addr) (n c : Nat) (w : World) : CallsNew 16 #[.slice A n c] 46 w #[.slice A n c] 26 := by
  have hmf : ∀ (fn : Fn) (first cap : Array Value) (w : World), (Instr.makeFunc fn first cap).run Tryd.prog w = .ok (.func fn first cap) w := fun _ _ _ _ => rfl
  have B0 := hide (Blk.new w #[.slice A n c] 26)
  have L0 := hide ((Below.refl w.heap.size w).alloc (Nat.le_refl _) (.cells #[.slice A n c] 26))
  unfold CallsNew
  go_enter Tryd.func16, Tryd.ntmps16
  go_wp2
  go_ret
  exact ⟨rfl, B0.out, L0.out⟩
theorem vok_pt {w : World} {A : Option Addr} {xs : List T.Pt} {c : Nat} (h : T.Prt w A xs) : T.Vok 26 w (.slice A xs.length c, T.ptv xs) := ⟨⟨A, c, by rw [T.ptv_len]⟩, fun _ hb => T.src_prt c (h.low hb)⟩
theorem number_at (P : Option Addr) (ps : List T.Pt) (pc : Nat) (args : Array Value) (w : World) (h : args = #[.slice P ps.length pc]) (hG : Glb w) (hP : T.Prt w P ps) (hO : T.PtOk w ps) (hs : (T.cat ps).length < 2 ^ 50) (hp : ps.length < 2 ^ 50) : Calls Tryd.prog 47 args w fun e w' => e = .returned (.agg (vals .u8 32 (byt (dgn (T.cat ps))))) ∧ Below w.heap.size w w' := by
  subst h; exact number_c P ps pc w hG hP hO hs hp
theorem cat_app2 (k l : List T.Pt) : T.cat (k ++ l) = T.cat k ++ T.cat l := by simp [T.cat]
set_option maxHeartbeats 4000000 in
theorem clos_c (A : Option Addr) (xs : List T.Pt) (ca : Nat) (P : Option Addr) (ts : List T.Pt) (pc b : Nat) (w : World) (hG : Glb w) (hX : T.Prt w A xs) (hXo : T.PtOk w xs) (hB : Blk w b #[.slice P ts.length pc] 26) (hP : T.Prt w P ts) (hPo : T.PtOk w ts)
    (hs : (T.cat xs).length + (T.cat ts).length < 2 ^ 40) (hp : xs.length + ts.length < 2 ^ 40) : Ret 46 #[.slice A xs.length ca, .pointer (some ⟨b, 0, none⟩)] w (.agg (vals .u8 32 (byt (dgn (T.cat xs ++ T.cat ts))))) := by
  have HG := hide hG
  have HX := hide hX
  have HXo := hide hXo
  have HP := hide hP
  have HPo := hide hPo
  have Hs := hide hs
  have Hp := hide hp
  have R0 := hide (Blk.new w (vals .u8 32 (fun _ => 0)) 22)
  have L0 := hide ((Below.refl w.heap.size w).alloc (Nat.le_refl _) (.cells (vals .u8 32 (fun _ => 0)) 22))
  have hz : ∀ w, (zeroValue 22).run Tryd.prog w = .ok (.agg (vals .u8 32 (fun _ => 0))) w := fun w => by kernel_rfl
  have hc : (w.alloc (.cells (vals .u8 32 (fun _ => 0)) 22)).cell? ⟨b, 0, none⟩ = some (.slice P ts.length pc) := ((hB.alloc _).cell 0).trans rfl
  clear hG hX hXo hP hPo hs hp hB
  go_enter Tryd.func46, Tryd.ntmps46
  go_upto_region 1 with (fail)
  clear hz
  generalize w.alloc (.cells (vals .u8 32 (fun _ => 0)) 22) = w1 at *
  obtain ⟨zs, hzs⟩ : ∃ zs, zs = xs ++ ts := ⟨_, rfl⟩
  have Hz := hide hzs
  have Hzo : Hid (T.PtOk w zs) := hide (fun p hp => by
    rw [hzs] at hp
    rcases List.mem_append.1 hp with h | h
    · exact HXo.out p h
    · exact HPo.out p h)
  have Hzc : Hid (T.cat xs ++ T.cat ts = T.cat zs ∧ (T.cat zs).length < 2 ^ 50 ∧ zs.length < 2 ^ 50) := hide (by
    have h1 := Hs.out
    have h2 := Hp.out
    rw [hzs, cat_app2, List.length_append, List.length_append]
    exact ⟨rfl, by omega, by omega⟩)
  clear hzs
  have Hsl : Hid (∀ w2, Below w1.heap.size w1 w2 → ∀ g, Blk w2 g #[.slice A xs.length ca, .slice P ts.length pc] 26 → Calls Tryd.prog 48 #[.slice (some ⟨g, 0, none⟩) 2 2] w2 fun e w' => ∃ Q pq, e = .returned (.slice Q zs.length pq) ∧ T.Prt w' Q zs ∧ Below w2.heap.size w2 w') := hide (fun w2 hb g hg => by
    have h := T.concat_s_at (some ⟨g, 0, none⟩) [(.slice A xs.length ca, T.ptv xs), (.slice P ts.length pc, T.ptv ts)] 2 _ w2 rfl (Or.inr ⟨_, rfl, hg.lt, fun i q hq => by
        rcases i with _ | _ | i
        · obtain rfl := Option.some.inj hq; rw [Addr.add_mid, Nat.zero_add, hg.cell]; rfl
        · obtain rfl := Option.some.inj hq; rw [Addr.add_mid, Nat.zero_add, hg.cell]; rfl
        · cases hq⟩) (fun q hq => by
        rcases List.mem_cons.1 hq with rfl | hq
        · exact vok_pt ((HX.out.low L0.out).low hb)
        · obtain rfl : q = (.slice P ts.length pc, T.ptv ts) := by simpa using hq
          exact vok_pt ((HP.out.low L0.out).low hb)) (by simp [T.flat, T.ptv_len]; have := Hp.out; omega) (by simp)
    refine h.mono fun e w' hh => ?_
    obtain ⟨v, rfl, ho, hb'⟩ := hh
    have e1 : T.flat [(.slice A xs.length ca, T.ptv xs), (.slice P ts.length pc, T.ptv ts)] = T.ptv zs := by rw [Hz.out, T.ptv_app]; simp [T.flat]
    rw [e1] at ho
    obtain ⟨Q, pq, rfl, hQ⟩ := T.own_prt ho
    exact ⟨Q, pq, rfl, hQ, hb'⟩)
  go_wp2_with (first
    | (go_at_call 48; refine (Hsl.out _ ((Below.refl _ w1).alloc (Nat.le_refl _) _) w1.heap.size (Blk.new w1 _ _)).mono ?_; rintro e w3 ⟨Q, pq, rfl, hQ, hb⟩; have HQ := hide hQ; have R3 := hide ((R0.out.alloc _).call hb); have L3 := hide (T.keepLow2 (L0.out.alloc L0.out.size _) hb); clear hb hQ; dsimp only)
    | (go_at_call 47; refine (number_at Q zs pq _ _ rfl (HG.out.low L3.out) HQ.out (Hzo.out.low L3.out) Hzc.out.2.1 Hzc.out.2.2).mono ?_; rintro e w4 ⟨rfl, hb⟩; have R4 := hide (R3.out.call hb); have L4 := hide (T.keepLow2 L3.out hb); clear hb; dsimp only)
    | (refine wpList_store_row rfl 22 _ _ rfl w.heap.size (vals .u8 32 (byt (dgn (T.cat zs)))) rfl rfl 22 _ R4.out (fit_by _).size (by rw [vals_size, vals_size]) (vals_one _ _ _) ?_))
  refine bodyPost_ret (v := .agg (vals .u8 32 (byt (dgn (T.cat zs))))) (results_cell_row Tryd.results46 _ _ w.heap.size 22 _ (0, 0) _ rfl (R4.out.row _) Tryd.underlying22 rfl (fit_by _).size) rfl ⟨by rw [Hzc.out.1], Below.row L4.out (Nat.le_refl _) _⟩
end Go.Proofs.YtbpmakegimgbpaaDoor

/- Walks: Public, Sign, Verify. Bytes below 256, texts of less than 2^30 bytes in less than 2^30 parts; the package's variables lie as they were laid. -/
import Derived.Test.YtbpmakegimgbpaaDoorPt
namespace Go.Proofs.YtbpmakegimgbpaaDoor
set_option maxRecDepth 100000
open F Go.RowKit

def pub (f : Nat → Nat) : Nat → Nat := ptb (nb (sec f) 32)
theorem byt_n {n : Nat} (h : n < 2 ^ 256) : nb (byt n) 32 = n := nbts h
theorem times_n (n : Nat) (hn : n < 2 ^ 256) (w : World) : Ret 15 #[.agg (vals .u8 32 (byt n))] w (.agg (vals .u8 32 (ptb n))) := by
  have h := times_c (byt n) (byt_lt n) w
  rw [byt_n hn] at h
  exact h
theorem muladd_c (k r : Nat) (s : Nat → Nat) (hk : k < 2 ^ 256) (hr : r < 2 ^ 256) (hs : ∀ i, s i < 256) {w : World} (hG : Glb w) : Ret 18 #[.agg (vals .u8 32 (byt k)), .agg (vals .u8 32 s), .agg (vals .u8 32 (byt r))] w (.agg (vals .u8 32 (byt ((k * nb s 32 + r) % S.qL)))) := by
  have h := S.muladd_at (byt k) s (byt r) _ w rfl hG.1 (byt_lt k) hs (byt_lt r)
  rw [byt_n hk, byt_n hr] at h
  exact h
/-- What the closure tells, of one slice ahead, and of two. -/
theorem clos1 {b q : Nat} {f : Nat → Nat} {w : World} {t : TypeId} {P : Option Addr} {ts : List T.Pt} {pc tb : Nat} {m : List Nat} {r : Nat} (hf : ∀ i, f i < 256) (hG : Glb w) (hB : Blk w b (vals .u8 32 f) t) (ht : Blk w tb #[.slice P ts.length pc] 26) (hq : Blk w q #[.slice (some ⟨b, 0, none⟩) 32 32] 23) (hP : T.Prt w P ts) (hPo : T.PtOk w ts) (hm : T.cat ts = m) (hs : m.length < 2 ^ 30) (hp : ts.length < 2 ^ 30)
    (hr : dgn (bl f ++ m) = r) : Ret 46 #[.slice (some ⟨q, 0, none⟩) 1 1, .pointer (some ⟨tb, 0, none⟩)] w (.agg (vals .u8 32 (byt r))) := by
  have h := clos_c (some ⟨q, 0, none⟩) [pt32 b f] 1 P ts pc tb w hG (pt_one1 hq (bl_len f)) (fun p hp => by
    obtain rfl : p = pt32 b f := by simpa using hp
    exact ok32 hB hf) ht hP hPo (by rw [cat_one, hm]; show (bl f).length + _ < _; rw [bl_len]; omega) (by simp; omega)
  rw [cat_one, hm] at h
  have e : dgn ((pt32 b f).2.1 ++ m) = r := hr
  rw [e] at h
  exact h
theorem clos2 {a b q : Nat} {f g : Nat → Nat} {w : World} {s t : TypeId} {P : Option Addr} {ts : List T.Pt} {pc tb : Nat} {m : List Nat} {r : Nat} (hf : ∀ i, f i < 256) (hg : ∀ i, g i < 256) (hG : Glb w) (hA : Blk w a (vals .u8 32 f) s) (hB : Blk w b (vals .u8 32 g) t) (ht : Blk w tb #[.slice P ts.length pc] 26) (hq : Blk w q #[.slice (some ⟨a, 0, none⟩) 32 32, .slice (some ⟨b, 0, none⟩) 32 32] 23) (hP : T.Prt w P ts) (hPo : T.PtOk w ts) (hm : T.cat ts = m) (hs : m.length < 2 ^ 30) (hp : ts.length < 2 ^ 30)
    (hr : dgn (bl f ++ bl g ++ m) = r) : Ret 46 #[.slice (some ⟨q, 0, none⟩) 2 2, .pointer (some ⟨tb, 0, none⟩)] w (.agg (vals .u8 32 (byt r))) := by
  have h := clos_c (some ⟨q, 0, none⟩) [pt32 a f, pt32 b g] 2 P ts pc tb w hG (pt_two1 hq (bl_len f) (bl_len g)) (fun p hp => by
    rcases List.mem_cons.1 hp with rfl | hp
    · exact ok32 hA hf
    · obtain rfl : p = pt32 b g := by simpa using hp
      exact ok32 hB hg) ht hP hPo (by rw [cat_two, hm]; show (bl f ++ bl g).length + _ < _; rw [List.length_append, bl_len, bl_len]; omega) (by simp; omega)
  rw [cat_two, hm] at h
  have e : dgn ((pt32 a f).2.1 ++ (pt32 b g).2.1 ++ m) = r := hr
  rw [e] at h
  exact h
def s8r0Op0 : Oper := ⟨some 1, .box 22 (.tmp 0), 0, "sign.go:13", #[], none⟩
def s8r0Op1 : Oper := ⟨some 2, .alloc 22, 0, "sign.go:13", #[], none⟩
def s8r0Ops : Array Oper := #[s8r0Op0, s8r0Op1]
set_option maxHeartbeats 2000000 in
theorem s8r0_r {Q : Exit → Act → World → Prop} {u w : World} {L : List Row} {z1 z2 : Value} {zz : List Value} {e0 : Array Value} (hO : Own u w L) (fe0_22 : Fit 22 e0) (H : ∀ (n1 : Nat) (n2 : Nat) (w' : World), Own u w' ((n2, vals .u8 32 (fun _ => 0), 22) :: (n1, e0, 22) :: L) → Q .normal { tmps := List.toArray ((.agg e0) :: (.pointer (some ⟨n1, 0, none⟩)) :: (.pointer (some ⟨n2, 0, none⟩)) :: zz), defers := [] } w') :
    (Code.region 0 s8r0Ops false).wp Tryd.prog Q { tmps := List.toArray ((.agg e0) :: z1 :: z2 :: zz), defers := [] } w := by
  refine wp_region_list (show wpList _ s8r0Ops _ [s8r0Op0, s8r0Op1] _ _ from ?_)
  refine l_new hO (e0) 22 (run_box 22 _ rfl _ (by kernel_rfl)) fe0_22 ?_
  intro n1 w1 hO
  refine l_new hO (vals .u8 32 (fun _ => 0)) 22 (al22 rfl) (fit_by _) ?_
  intro n2 w2 hO
  exact l_fr _ (wpList_nil (H n1 n2 _ hO))
def s8r1Op0 : Oper := ⟨some 6, .load 22 (.tmp 1), 22, "sign.go:14", #[], none⟩
def s8r1Op1 : Oper := ⟨some 7, .call { callee := .value (.func 14), args := #[.tmp 6], argTypes := #[22] }, 44, "sign.go:14", #[⟨0, .data⟩], none⟩
def s8r1Op2 : Oper := ⟨some 5, .move (.tmp 7), 44, "sign.go:14", #[⟨1, .data⟩], none⟩
def s8r1Op3 : Oper := ⟨some 8, .extract (.tmp 5) 0, 22, "sign.go:14", #[⟨2, .data⟩], none⟩
def s8r1Op4 : Oper := ⟨some 9, .extract (.tmp 5) 1, 22, "sign.go:14", #[⟨2, .data⟩, ⟨7, .gcOnly .lateStores⟩], none⟩
def s8r1Op5 : Oper := ⟨some 3, .alloc 22, 0, "sign.go:14", #[], none⟩
def s8r1Op6 : Oper := ⟨some 4, .alloc 22, 0, "sign.go:14", #[], none⟩
def s8r1Op7 : Oper := ⟨none, .store 22 (.tmp 3) (.tmp 8), 0, "sign.go:14", #[⟨5, .data⟩, ⟨3, .data⟩, ⟨1, .chain⟩, ⟨0, .phase⟩, ⟨1, .phase⟩, ⟨2, .phase⟩, ⟨3, .phase⟩, ⟨4, .textOnly .lateStores⟩, ⟨5, .phase⟩, ⟨6, .phase⟩], none⟩
def s8r1Op8 : Oper := ⟨none, .store 22 (.tmp 4) (.tmp 9), 0, "sign.go:14", #[⟨6, .data⟩, ⟨4, .data⟩, ⟨7, .chain⟩, ⟨0, .phase⟩, ⟨1, .phase⟩, ⟨2, .phase⟩, ⟨3, .phase⟩, ⟨4, .phase⟩, ⟨5, .phase⟩, ⟨6, .phase⟩, ⟨7, .phase⟩], none⟩
def s8r1Ops : Array Oper := #[s8r1Op0, s8r1Op1, s8r1Op2, s8r1Op3, s8r1Op4, s8r1Op5, s8r1Op6, s8r1Op7, s8r1Op8]
set_option maxHeartbeats 2000000 in
theorem s8r1_r {Q : Exit → Act → World → Prop} {u w : World} {L : List Row} {z0 z3 z4 z5 z6 z7 z8 z9 : Value} {zz : List Value} {b1 b2 : Nat} {c1 c2 : Array Value} {e7a e7b : Array Value} (hO : Own u w L) (i1 : Nat) (h1 : L[i1]? = some (b1, c1, 22)) (i2 : Nat) (h2 : L[i2]? = some (b2, c2, 22)) (r7 : ∀ (w : World), Below u.heap.size u w → Blk w b1 c1 22 → Blk w b2 c2 22 → Ret 14 #[.agg c1] w (.tuple #[.agg e7a, .agg e7b])) (fe7a_22 : Fit 22 e7a) (fe7b_22 : Fit 22 e7b) (H : ∀ (n3 : Nat) (n4 : Nat) (w' : World), Own u w' ((n4, e7b, 22) :: (n3, e7a, 22) :: L) → Q .normal { tmps := List.toArray (z0 :: (.pointer (some ⟨b1, 0, none⟩)) :: (.pointer (some ⟨b2, 0, none⟩)) :: (.pointer (some ⟨n3, 0, none⟩)) :: (.pointer (some ⟨n4, 0, none⟩)) :: (.tuple #[.agg e7a, .agg e7b]) :: (.agg c1) :: (.tuple #[.agg e7a, .agg e7b]) :: (.agg e7a) :: (.agg e7b) :: zz), defers := [] } w') :
    (Code.region 1 s8r1Ops false).wp Tryd.prog Q { tmps := List.toArray (z0 :: (.pointer (some ⟨b1, 0, none⟩)) :: (.pointer (some ⟨b2, 0, none⟩)) :: z3 :: z4 :: z5 :: z6 :: z7 :: z8 :: z9 :: zz), defers := [] } w := by
  refine wp_region_list (show wpList _ s8r1Ops _ [s8r1Op0, s8r1Op1, s8r1Op2, s8r1Op3, s8r1Op4, s8r1Op5, s8r1Op6, s8r1Op7, s8r1Op8] _ _ from ?_)
  refine l_ld hO 22 i1 h1 Tryd.underlying22 ?_
  refine l_cw hO 14 #[.agg c1] (.tuple #[.agg e7a, .agg e7b]) (r7 _ hO.low (hO.row (i1) h1) (hO.row (i2) h2)) ?_
  intro w1 _ hO
  refine l_val (.tuple #[.agg e7a, .agg e7b]) (by kernel_rfl) ?_
  refine l_fr (Fr [z0, D b1, D b2, z3, z4, .tuple #[.agg e7a, .agg e7b], A c1, .tuple #[.agg e7a, .agg e7b], z8, z9] zz) ?_
  refine l_val (.agg e7a) (by kernel_rfl) ?_
  refine l_val (.agg e7b) (by kernel_rfl) ?_
  refine l_new hO (vals .u8 32 (fun _ => 0)) 22 (al22 rfl) (fit_by _) ?_
  intro n3 w2 hO
  refine l_fr (Fr [z0, D b1, D b2, D n3, z4, .tuple #[.agg e7a, .agg e7b], A c1, .tuple #[.agg e7a, .agg e7b], A e7a, A e7b] zz) ?_
  refine l_new hO (vals .u8 32 (fun _ => 0)) 22 (al22 rfl) (fit_by _) ?_
  intro n4 w3 hO
  refine l_st hO 22 1 rfl e7a fe7a_22 ?_
  intro w4 hO
  replace hO : Own u w4 ((n4, vals .u8 32 (fun _ => 0), 22) :: (n3, e7a, 22) :: L) := hO
  refine l_st hO 22 0 rfl e7b fe7b_22 ?_
  intro w5 hO
  exact l_fr _ (wpList_nil (H n3 n4 _ hO))
def s8r2Op0 : Oper := ⟨some 10, .load 22 (.tmp 3), 22, "sign.go:15", #[], none⟩
def s8r2Op1 : Oper := ⟨some 11, .call { callee := .value (.func 15), args := #[.tmp 10], argTypes := #[22] }, 22, "sign.go:15", #[⟨0, .data⟩], none⟩
def s8r2Op2 : Oper := ⟨none, .store 22 (.tmp 2) (.tmp 11), 0, "sign.go:15", #[⟨1, .data⟩, ⟨1, .chain⟩, ⟨0, .phase⟩, ⟨1, .phase⟩], none⟩
def s8r2Ops : Array Oper := #[s8r2Op0, s8r2Op1, s8r2Op2]
set_option maxHeartbeats 2000000 in
theorem s8r2_r {Q : Exit → Act → World → Prop} {u w : World} {L : List Row} {z0 z1 z4 z5 z6 z7 z8 z9 z10 z11 : Value} {b2 b3 : Nat} {c2 c3 : Array Value} {e11 : Array Value} (hO : Own u w L) (i2 : Nat) (h2 : L[i2]? = some (b2, c2, 22)) (i3 : Nat) (h3 : L[i3]? = some (b3, c3, 22)) (r11 : ∀ w, Ret 15 #[.agg c3] w (.agg e11)) (fe11_22 : Fit 22 e11) (H : ∀ (w' : World), Own u w' ((L.set i2 (b2, e11, 22))) → Q .normal { tmps := List.toArray (z0 :: z1 :: (.pointer (some ⟨b2, 0, none⟩)) :: (.pointer (some ⟨b3, 0, none⟩)) :: z4 :: z5 :: z6 :: z7 :: z8 :: z9 :: (.agg c3) :: (.agg e11) :: []), defers := [] } w') :
    (Code.region 2 s8r2Ops false).wp Tryd.prog Q { tmps := List.toArray (z0 :: z1 :: (.pointer (some ⟨b2, 0, none⟩)) :: (.pointer (some ⟨b3, 0, none⟩)) :: z4 :: z5 :: z6 :: z7 :: z8 :: z9 :: z10 :: z11 :: []), defers := [] } w := by
  refine wp_region_list (show wpList _ s8r2Ops _ [s8r2Op0, s8r2Op1, s8r2Op2] _ _ from ?_)
  refine l_ld hO 22 i3 h3 Tryd.underlying22 ?_
  refine l_call hO 15 #[.agg c3] (.agg e11) r11 ?_
  intro w1 hO
  refine l_st hO 22 i2 h2 e11 fe11_22 ?_
  intro w2 hO
  exact l_fr _ (wpList_nil (H  _ hO))
set_option maxHeartbeats 4000000 in
theorem public_g (f s p : Nat → Nat) (t : Nat → Nat) (hf : ∀ i, f i < 256) (hs : ∀ w, Glb w → Ret 14 #[.agg (vals .u8 32 f)] w (.tuple #[.agg (vals .u8 32 s), .agg (vals .u8 32 p)])) (ht : ∀ w, Ret 15 #[.agg (vals .u8 32 s)] w (.agg (vals .u8 32 t))) (w : World) (hG : Glb w) : Ret 8 #[.agg (vals .u8 32 f)] w (.agg (vals .u8 32 t)) := by
  go_enter Tryd.func8, Tryd.ntmps8
  have _ := hf
  have hO := Own.start w
  have HG := hide hG
  clear hG
  go_upto_region 0 with (fail)
  refine s8r0_r hO (fit_by _) ?_
  intro n1 n2 w1 hO
  replace hO : Own w w1 [(n2, vals .u8 32 (fun _ => 0), 22), (n1, vals .u8 32 f, 22)] := hO
  go_upto_region 1 with (fail)
  refine s8r1_r hO 1 rfl 0 rfl (fun w hL _ _ => hs w (HG.out.low hL)) (fit_by _) (fit_by _) ?_
  intro n3 n4 w2 hO
  replace hO : Own w w2 [(n4, vals .u8 32 p, 22), (n3, vals .u8 32 s, 22), (n2, vals .u8 32 (fun _ => 0), 22), (n1, vals .u8 32 f, 22)] := hO
  go_upto_region 2 with (fail)
  refine s8r2_r hO 2 rfl 1 rfl ht (fit_by _) ?_
  intro w3 hO
  replace hO : Own w w3 [(n4, vals .u8 32 p, 22), (n3, vals .u8 32 s, 22), (n2, vals .u8 32 t, 22), (n1, vals .u8 32 f, 22)] := hO
  go_wp2_with fail
  refine bodyPost_ret (v := .agg (vals .u8 32 t)) (results_cell_row Tryd.results8 _ _ n2 22 _ (0, 0) _ rfl (hO.row 2 rfl) Tryd.underlying22 rfl (fit_by _).size) rfl ⟨rfl, hO.low⟩
theorem public_c (f : Nat → Nat) (hf : ∀ i, f i < 256) (w : World) (hG : Glb w) : Ret 8 #[.agg (vals .u8 32 f)] w (.agg (vals .u8 32 (pub f))) := public_g f (sec f) (pre f) (pub f) hf (secret_c f hf) (times_c _ (sec_lt f)) w hG
def s7r0Op0 : Oper := ⟨some 2, .box 22 (.tmp 0), 0, "sign.go:19", #[], none⟩
def s7r0Op1 : Oper := ⟨some 4, .alloc 28, 0, "sign.go:19", #[], none⟩
def s7r0Ops : Array Oper := #[s7r0Op0, s7r0Op1]
set_option maxHeartbeats 2000000 in
theorem s7r0_r {Q : Exit → Act → World → Prop} {u w : World} {L : List Row} {z1 z2 z3 z4 : Value} {zz : List Value} {e0 : Array Value} (hO : Own u w L) (fe0_22 : Fit 22 e0) (H : ∀ (n2 : Nat) (n4 : Nat) (w' : World), Own u w' ((n4, vals .u8 64 (fun _ => 0), 28) :: (n2, e0, 22) :: L) → Q .normal { tmps := List.toArray ((.agg e0) :: z1 :: (.pointer (some ⟨n2, 0, none⟩)) :: z3 :: (.pointer (some ⟨n4, 0, none⟩)) :: zz), defers := [] } w') :
    (Code.region 0 s7r0Ops false).wp Tryd.prog Q { tmps := List.toArray ((.agg e0) :: z1 :: z2 :: z3 :: z4 :: zz), defers := [] } w := by
  refine wp_region_list (show wpList _ s7r0Ops _ [s7r0Op0, s7r0Op1] _ _ from ?_)
  refine l_new hO (e0) 22 (run_box 22 _ rfl _ (by kernel_rfl)) fe0_22 ?_
  intro n2 w1 hO
  refine l_new hO (vals .u8 64 (fun _ => 0)) 28 (alb6 rfl) (fit_b6 _) ?_
  intro n4 w2 hO
  exact l_fr _ (wpList_nil (H n2 n4 _ hO))
def s7r1Op0 : Oper := ⟨some 13, .load 22 (.tmp 2), 22, "sign.go:20", #[], none⟩
def s7r1Op1 : Oper := ⟨some 14, .call { callee := .value (.func 14), args := #[.tmp 13], argTypes := #[22] }, 44, "sign.go:20", #[⟨0, .data⟩], none⟩
def s7r1Op2 : Oper := ⟨some 12, .move (.tmp 14), 44, "sign.go:20", #[⟨1, .data⟩], none⟩
def s7r1Op3 : Oper := ⟨some 15, .extract (.tmp 12) 0, 22, "sign.go:20", #[⟨2, .data⟩], none⟩
def s7r1Op4 : Oper := ⟨some 16, .extract (.tmp 12) 1, 22, "sign.go:20", #[⟨2, .data⟩, ⟨7, .gcOnly .lateStores⟩], none⟩
def s7r1Op5 : Oper := ⟨some 5, .alloc 22, 0, "sign.go:20", #[], none⟩
def s7r1Op6 : Oper := ⟨some 6, .alloc 22, 0, "sign.go:20", #[], none⟩
def s7r1Op7 : Oper := ⟨none, .store 22 (.tmp 5) (.tmp 15), 0, "sign.go:20", #[⟨5, .data⟩, ⟨3, .data⟩, ⟨1, .chain⟩, ⟨0, .phase⟩, ⟨1, .phase⟩, ⟨2, .phase⟩, ⟨3, .phase⟩, ⟨4, .textOnly .lateStores⟩, ⟨5, .phase⟩, ⟨6, .phase⟩], none⟩
def s7r1Op8 : Oper := ⟨none, .store 22 (.tmp 6) (.tmp 16), 0, "sign.go:20", #[⟨6, .data⟩, ⟨4, .data⟩, ⟨7, .chain⟩, ⟨0, .phase⟩, ⟨1, .phase⟩, ⟨2, .phase⟩, ⟨3, .phase⟩, ⟨4, .phase⟩, ⟨5, .phase⟩, ⟨6, .phase⟩, ⟨7, .phase⟩], none⟩
def s7r1Ops : Array Oper := #[s7r1Op0, s7r1Op1, s7r1Op2, s7r1Op3, s7r1Op4, s7r1Op5, s7r1Op6, s7r1Op7, s7r1Op8]
set_option maxHeartbeats 2000000 in
theorem s7r1_r {Q : Exit → Act → World → Prop} {u w : World} {L : List Row} {z0 z1 z3 z5 z6 z7 z8 z9 z10 z11 z12 z13 z14 z15 z16 : Value} {zz : List Value} {b2 b4 : Nat} {c2 c4 : Array Value} {e14a e14b : Array Value} (hO : Own u w L) (i2 : Nat) (h2 : L[i2]? = some (b2, c2, 22)) (i4 : Nat) (h4 : L[i4]? = some (b4, c4, 28)) (r14 : ∀ (w : World), Below u.heap.size u w → Blk w b2 c2 22 → Blk w b4 c4 28 → Ret 14 #[.agg c2] w (.tuple #[.agg e14a, .agg e14b])) (fe14a_22 : Fit 22 e14a) (fe14b_22 : Fit 22 e14b) (H : ∀ (n5 : Nat) (n6 : Nat) (w' : World), Own u w' ((n6, e14b, 22) :: (n5, e14a, 22) :: L) → Q .normal { tmps := List.toArray (z0 :: z1 :: (.pointer (some ⟨b2, 0, none⟩)) :: z3 :: (.pointer (some ⟨b4, 0, none⟩)) :: (.pointer (some ⟨n5, 0, none⟩)) :: (.pointer (some ⟨n6, 0, none⟩)) :: z7 :: z8 :: z9 :: z10 :: z11 :: (.tuple #[.agg e14a, .agg e14b]) :: (.agg c2) :: (.tuple #[.agg e14a, .agg e14b]) :: (.agg e14a) :: (.agg e14b) :: zz), defers := [] } w') :
    (Code.region 1 s7r1Ops false).wp Tryd.prog Q { tmps := List.toArray (z0 :: z1 :: (.pointer (some ⟨b2, 0, none⟩)) :: z3 :: (.pointer (some ⟨b4, 0, none⟩)) :: z5 :: z6 :: z7 :: z8 :: z9 :: z10 :: z11 :: z12 :: z13 :: z14 :: z15 :: z16 :: zz), defers := [] } w := by
  refine wp_region_list (show wpList _ s7r1Ops _ [s7r1Op0, s7r1Op1, s7r1Op2, s7r1Op3, s7r1Op4, s7r1Op5, s7r1Op6, s7r1Op7, s7r1Op8] _ _ from ?_)
  refine l_ld hO 22 i2 h2 Tryd.underlying22 ?_
  refine l_cw hO 14 #[.agg c2] (.tuple #[.agg e14a, .agg e14b]) (r14 _ hO.low (hO.row (i2) h2) (hO.row (i4) h4)) ?_
  intro w1 _ hO
  refine l_val (.tuple #[.agg e14a, .agg e14b]) (by kernel_rfl) ?_
  refine l_fr (Fr [z0, z1, D b2, z3, D b4, z5, z6, z7, z8, z9, z10, z11, .tuple #[.agg e14a, .agg e14b], A c2, .tuple #[.agg e14a, .agg e14b], z15, z16] zz) ?_
  refine l_val (.agg e14a) (by kernel_rfl) ?_
  refine l_val (.agg e14b) (by kernel_rfl) ?_
  refine l_new hO (vals .u8 32 (fun _ => 0)) 22 (al22 rfl) (fit_by _) ?_
  intro n5 w2 hO
  refine l_fr (Fr [z0, z1, D b2, z3, D b4, D n5, z6, z7, z8, z9, z10, z11, .tuple #[.agg e14a, .agg e14b], A c2, .tuple #[.agg e14a, .agg e14b], A e14a, A e14b] zz) ?_
  refine l_new hO (vals .u8 32 (fun _ => 0)) 22 (al22 rfl) (fit_by _) ?_
  intro n6 w3 hO
  refine l_st hO 22 1 rfl e14a fe14a_22 ?_
  intro w4 hO
  replace hO : Own u w4 ((n6, vals .u8 32 (fun _ => 0), 22) :: (n5, e14a, 22) :: L) := hO
  refine l_st hO 22 0 rfl e14b fe14b_22 ?_
  intro w5 hO
  exact l_fr _ (wpList_nil (H n5 n6 _ hO))
def s7r2Op0 : Oper := ⟨some 17, .load 22 (.tmp 5), 22, "sign.go:21", #[], none⟩
def s7r2Op1 : Oper := ⟨some 18, .call { callee := .value (.func 15), args := #[.tmp 17], argTypes := #[22] }, 22, "sign.go:21", #[⟨0, .data⟩], none⟩
def s7r2Op2 : Oper := ⟨some 7, .alloc 22, 0, "sign.go:21", #[], none⟩
def s7r2Op3 : Oper := ⟨none, .store 22 (.tmp 7) (.tmp 18), 0, "sign.go:21", #[⟨2, .data⟩, ⟨1, .data⟩, ⟨1, .chain⟩, ⟨0, .phase⟩, ⟨1, .phase⟩, ⟨2, .phase⟩], none⟩
def s7r2Ops : Array Oper := #[s7r2Op0, s7r2Op1, s7r2Op2, s7r2Op3]
set_option maxHeartbeats 2000000 in
theorem s7r2_r {Q : Exit → Act → World → Prop} {u w : World} {L : List Row} {z0 z1 z2 z3 z4 z6 z7 z8 z9 z10 z11 z12 z13 z14 z15 z16 z17 z18 : Value} {zz : List Value} {b5 : Nat} {c5 : Array Value} {e18 : Array Value} (hO : Own u w L) (i5 : Nat) (h5 : L[i5]? = some (b5, c5, 22)) (r18 : ∀ w, Ret 15 #[.agg c5] w (.agg e18)) (fe18_22 : Fit 22 e18) (H : ∀ (n7 : Nat) (w' : World), Own u w' ((n7, e18, 22) :: L) → Q .normal { tmps := List.toArray (z0 :: z1 :: z2 :: z3 :: z4 :: (.pointer (some ⟨b5, 0, none⟩)) :: z6 :: (.pointer (some ⟨n7, 0, none⟩)) :: z8 :: z9 :: z10 :: z11 :: z12 :: z13 :: z14 :: z15 :: z16 :: (.agg c5) :: (.agg e18) :: zz), defers := [] } w') :
    (Code.region 2 s7r2Ops false).wp Tryd.prog Q { tmps := List.toArray (z0 :: z1 :: z2 :: z3 :: z4 :: (.pointer (some ⟨b5, 0, none⟩)) :: z6 :: z7 :: z8 :: z9 :: z10 :: z11 :: z12 :: z13 :: z14 :: z15 :: z16 :: z17 :: z18 :: zz), defers := [] } w := by
  refine wp_region_list (show wpList _ s7r2Ops _ [s7r2Op0, s7r2Op1, s7r2Op2, s7r2Op3] _ _ from ?_)
  refine l_ld hO 22 i5 h5 Tryd.underlying22 ?_
  refine l_call hO 15 #[.agg c5] (.agg e18) r18 ?_
  intro w1 hO
  refine l_new hO (vals .u8 32 (fun _ => 0)) 22 (al22 rfl) (fit_by _) ?_
  intro n7 w2 hO
  refine l_fr (Fr [z0, z1, z2, z3, z4, D b5, z6, D n7, z8, z9, z10, z11, z12, z13, z14, z15, z16, A c5, A e18] zz) ?_
  refine l_st hO 22 0 rfl e18 fe18_22 ?_
  intro w3 hO
  exact l_fr _ (wpList_nil (H n7 _ hO))
def s7r3Op0 : Oper := ⟨some 19, .move (.tmp 1), 26, "sign.go:22", #[], none⟩
def s7r3Op1 : Oper := ⟨some 20, .call { callee := .value (.func 16), args := #[.tmp 19], argTypes := #[26] }, 46, "sign.go:22", #[⟨0, .data⟩], none⟩
def s7r3Op2 : Oper := ⟨some 8, .assign (.tmp 20), 46, "sign.go:22", #[⟨1, .data⟩, ⟨1, .chain⟩, ⟨0, .phase⟩, ⟨1, .phase⟩], none⟩
def s7r3Ops : Array Oper := #[s7r3Op0, s7r3Op1, s7r3Op2]
set_option maxHeartbeats 2000000 in
theorem s7r3_r {Q : Exit → Act → World → Prop} {u w : World} {L : List Row} {z0 z2 z3 z4 z5 z6 z7 z8 z9 z10 z11 z12 z13 z14 z15 z16 z17 z18 z19 z20 : Value} {x1 : Value} {zz : List Value} (hO : Own u w L) (r20 : ∀ w, CallsNew 16 #[x1] 46 w #[x1] 26) (fc20 : Fit 26 #[x1]) (H : ∀ (n20 : Nat) (w' : World), Own u w' ((n20, #[x1], 26) :: L) → Q .normal { tmps := List.toArray (z0 :: x1 :: z2 :: z3 :: z4 :: z5 :: z6 :: z7 :: (.func (.func 46) #[] #[.pointer (some ⟨n20, 0, none⟩)]) :: z9 :: z10 :: z11 :: z12 :: z13 :: z14 :: z15 :: z16 :: z17 :: z18 :: x1 :: (.func (.func 46) #[] #[.pointer (some ⟨n20, 0, none⟩)]) :: zz), defers := [] } w') :
    (Code.region 3 s7r3Ops false).wp Tryd.prog Q { tmps := List.toArray (z0 :: x1 :: z2 :: z3 :: z4 :: z5 :: z6 :: z7 :: z8 :: z9 :: z10 :: z11 :: z12 :: z13 :: z14 :: z15 :: z16 :: z17 :: z18 :: z19 :: z20 :: zz), defers := [] } w := by
  refine wp_region_list (show wpList _ s7r3Ops _ [s7r3Op0, s7r3Op1, s7r3Op2] _ _ from ?_)
  refine l_val (x1) (by kernel_rfl) ?_
  refine l_cn hO 16 #[x1] 46 #[x1] 26 r20 fc20 ?_
  intro n20 w1 hb hO
  clear hb
  refine l_val (.func (.func 46) #[] #[.pointer (some ⟨n20, 0, none⟩)]) (by kernel_rfl) ?_
  exact l_fr _ (wpList_nil (H n20 _ hO))
def s7r4Op0 : Oper := ⟨some 21, .move (.tmp 8), 46, "sign.go:23", #[], none⟩
def s7r4Op1 : Oper := ⟨some 22, .slice 22 (.tmp 6) none none none, 23, "sign.go:23", #[], none⟩
def s7r4Op2 : Oper := ⟨some 23, .buildSlice 26 1 #[(0, .tmp 22)], 26, "sign.go:23", #[⟨1, .data⟩], none⟩
def s7r4Op3 : Oper := ⟨some 24, .call { callee := .value (.tmp 21), args := #[.tmp 23], argTypes := #[26] }, 22, "sign.go:23", #[⟨0, .data⟩, ⟨2, .data⟩], none⟩
def s7r4Op4 : Oper := ⟨some 9, .alloc 22, 0, "sign.go:23", #[], none⟩
def s7r4Op5 : Oper := ⟨none, .store 22 (.tmp 9) (.tmp 24), 0, "sign.go:23", #[⟨4, .data⟩, ⟨3, .data⟩, ⟨3, .chain⟩, ⟨0, .phase⟩, ⟨1, .phase⟩, ⟨2, .phase⟩, ⟨3, .phase⟩, ⟨4, .phase⟩], none⟩
def s7r4Ops : Array Oper := #[s7r4Op0, s7r4Op1, s7r4Op2, s7r4Op3, s7r4Op4, s7r4Op5]
set_option maxHeartbeats 2000000 in
theorem s7r4_r {Q : Exit → Act → World → Prop} {u w : World} {L : List Row} {z0 z1 z2 z3 z4 z5 z7 z9 z10 z11 z12 z13 z14 z15 z16 z17 z18 z19 z20 z21 z22 z23 z24 : Value} {zz : List Value} {b6 b1020 : Nat} {c6 c1020 : Array Value} {e24 : Array Value} (hO : Own u w L) (i6 : Nat) (h6 : L[i6]? = some (b6, c6, 22)) (i1020 : Nat) (h1020 : L[i1020]? = some (b1020, c1020, 26)) (r24 : ∀ (q23 : Nat) (w : World), Below u.heap.size u w → Blk w b6 c6 22 → Blk w b1020 c1020 26 → Blk w q23 #[.slice (some ⟨b6, 0, none⟩) 32 32] 23 → Ret 46 #[.slice (some ⟨q23, 0, none⟩) 1 1, .pointer (some ⟨b1020, 0, none⟩)] w (.agg e24)) (fe24_22 : Fit 22 e24) (H : ∀ (n9 : Nat) (q23 : Nat) (w' : World), Own u w' ((n9, e24, 22) :: L) → Q .normal { tmps := List.toArray (z0 :: z1 :: z2 :: z3 :: z4 :: z5 :: (.pointer (some ⟨b6, 0, none⟩)) :: z7 :: (.func (.func 46) #[] #[.pointer (some ⟨b1020, 0, none⟩)]) :: (.pointer (some ⟨n9, 0, none⟩)) :: z10 :: z11 :: z12 :: z13 :: z14 :: z15 :: z16 :: z17 :: z18 :: z19 :: z20 :: (.func (.func 46) #[] #[.pointer (some ⟨b1020, 0, none⟩)]) :: (.slice (some ⟨b6, 0, none⟩) 32 32) :: (.slice (some ⟨q23, 0, none⟩) 1 1) :: (.agg e24) :: zz), defers := [] } w') :
    (Code.region 4 s7r4Ops false).wp Tryd.prog Q { tmps := List.toArray (z0 :: z1 :: z2 :: z3 :: z4 :: z5 :: (.pointer (some ⟨b6, 0, none⟩)) :: z7 :: (.func (.func 46) #[] #[.pointer (some ⟨b1020, 0, none⟩)]) :: z9 :: z10 :: z11 :: z12 :: z13 :: z14 :: z15 :: z16 :: z17 :: z18 :: z19 :: z20 :: z21 :: z22 :: z23 :: z24 :: zz), defers := [] } w := by
  refine wp_region_list (show wpList _ s7r4Ops _ [s7r4Op0, s7r4Op1, s7r4Op2, s7r4Op3, s7r4Op4, s7r4Op5] _ _ from ?_)
  refine l_val (.func (.func 46) #[] #[.pointer (some ⟨b1020, 0, none⟩)]) (by kernel_rfl) ?_
  refine l_val (.slice (some ⟨b6, 0, none⟩) 32 32) (by kernel_rfl) ?_
  refine l_bs hO 1 #[.slice (some ⟨b6, 0, none⟩) 32 32] 23 (fun w => run_bsl 26 23 1 _ rfl #[(0, .slice (some ⟨b6, 0, none⟩) 32 32)] (by kernel_rfl) (by kernel_rfl)) ?_
  intro q23 w1 hb hB23 hO
  clear hb
  refine l_fr (Fr [z0, z1, z2, z3, z4, z5, D b6, z7, .func (.func 46) #[] #[.pointer (some ⟨b1020, 0, none⟩)], z9, z10, z11, z12, z13, z14, z15, z16, z17, z18, z19, z20, .func (.func 46) #[] #[.pointer (some ⟨b1020, 0, none⟩)], .slice (some ⟨b6, 0, none⟩) 32 32, .slice (some ⟨q23, 0, none⟩) 1 1, z24] zz) ?_
  refine l_cw hO 46 #[.slice (some ⟨q23, 0, none⟩) 1 1, .pointer (some ⟨b1020, 0, none⟩)] (.agg e24) (r24 q23 _ hO.low (hO.row (i6) h6) (hO.row (i1020) h1020) hB23) ?_
  intro w2 _ hO
  clear hB23
  refine l_new hO (vals .u8 32 (fun _ => 0)) 22 (al22 rfl) (fit_by _) ?_
  intro n9 w3 hO
  refine l_st hO 22 0 rfl e24 fe24_22 ?_
  intro w4 hO
  exact l_fr _ (wpList_nil (H n9 q23 _ hO))
def s7r5Op0 : Oper := ⟨some 25, .load 22 (.tmp 9), 22, "sign.go:24", #[], none⟩
def s7r5Op1 : Oper := ⟨some 26, .call { callee := .value (.func 15), args := #[.tmp 25], argTypes := #[22] }, 22, "sign.go:24", #[⟨0, .data⟩], none⟩
def s7r5Op2 : Oper := ⟨some 10, .alloc 22, 0, "sign.go:24", #[], none⟩
def s7r5Op3 : Oper := ⟨none, .store 22 (.tmp 10) (.tmp 26), 0, "sign.go:24", #[⟨2, .data⟩, ⟨1, .data⟩, ⟨1, .chain⟩, ⟨0, .phase⟩, ⟨1, .phase⟩, ⟨2, .phase⟩], none⟩
def s7r5Ops : Array Oper := #[s7r5Op0, s7r5Op1, s7r5Op2, s7r5Op3]
set_option maxHeartbeats 2000000 in
theorem s7r5_r {Q : Exit → Act → World → Prop} {u w : World} {L : List Row} {z0 z1 z2 z3 z4 z5 z6 z7 z8 z10 z11 z12 z13 z14 z15 z16 z17 z18 z19 z20 z21 z22 z23 z24 z25 z26 : Value} {zz : List Value} {b9 : Nat} {c9 : Array Value} {e26 : Array Value} (hO : Own u w L) (i9 : Nat) (h9 : L[i9]? = some (b9, c9, 22)) (r26 : ∀ w, Ret 15 #[.agg c9] w (.agg e26)) (fe26_22 : Fit 22 e26) (H : ∀ (n10 : Nat) (w' : World), Own u w' ((n10, e26, 22) :: L) → Q .normal { tmps := List.toArray (z0 :: z1 :: z2 :: z3 :: z4 :: z5 :: z6 :: z7 :: z8 :: (.pointer (some ⟨b9, 0, none⟩)) :: (.pointer (some ⟨n10, 0, none⟩)) :: z11 :: z12 :: z13 :: z14 :: z15 :: z16 :: z17 :: z18 :: z19 :: z20 :: z21 :: z22 :: z23 :: z24 :: (.agg c9) :: (.agg e26) :: zz), defers := [] } w') :
    (Code.region 5 s7r5Ops false).wp Tryd.prog Q { tmps := List.toArray (z0 :: z1 :: z2 :: z3 :: z4 :: z5 :: z6 :: z7 :: z8 :: (.pointer (some ⟨b9, 0, none⟩)) :: z10 :: z11 :: z12 :: z13 :: z14 :: z15 :: z16 :: z17 :: z18 :: z19 :: z20 :: z21 :: z22 :: z23 :: z24 :: z25 :: z26 :: zz), defers := [] } w := by
  refine wp_region_list (show wpList _ s7r5Ops _ [s7r5Op0, s7r5Op1, s7r5Op2, s7r5Op3] _ _ from ?_)
  refine l_ld hO 22 i9 h9 Tryd.underlying22 ?_
  refine l_call hO 15 #[.agg c9] (.agg e26) r26 ?_
  intro w1 hO
  refine l_new hO (vals .u8 32 (fun _ => 0)) 22 (al22 rfl) (fit_by _) ?_
  intro n10 w2 hO
  refine l_fr (Fr [z0, z1, z2, z3, z4, z5, z6, z7, z8, D b9, D n10, z11, z12, z13, z14, z15, z16, z17, z18, z19, z20, z21, z22, z23, z24, A c9, A e26] zz) ?_
  refine l_st hO 22 0 rfl e26 fe26_22 ?_
  intro w3 hO
  exact l_fr _ (wpList_nil (H n10 _ hO))
def s7r6Op0 : Oper := ⟨some 27, .move (.tmp 8), 46, "sign.go:25", #[], none⟩
def s7r6Op1 : Oper := ⟨some 28, .slice 22 (.tmp 10) none none none, 23, "sign.go:25", #[], none⟩
def s7r6Op2 : Oper := ⟨some 29, .slice 22 (.tmp 7) none none none, 23, "sign.go:25", #[], none⟩
def s7r6Op3 : Oper := ⟨some 30, .buildSlice 26 2 #[(0, .tmp 28), (1, .tmp 29)], 26, "sign.go:25", #[⟨1, .data⟩, ⟨2, .data⟩], none⟩
def s7r6Op4 : Oper := ⟨some 31, .call { callee := .value (.tmp 27), args := #[.tmp 30], argTypes := #[26] }, 22, "sign.go:25", #[⟨0, .data⟩, ⟨3, .data⟩], none⟩
def s7r6Op5 : Oper := ⟨some 11, .alloc 22, 0, "sign.go:25", #[], none⟩
def s7r6Op6 : Oper := ⟨none, .store 22 (.tmp 11) (.tmp 31), 0, "sign.go:25", #[⟨5, .data⟩, ⟨4, .data⟩, ⟨4, .chain⟩, ⟨0, .phase⟩, ⟨1, .phase⟩, ⟨2, .phase⟩, ⟨3, .phase⟩, ⟨4, .phase⟩, ⟨5, .phase⟩], none⟩
def s7r6Ops : Array Oper := #[s7r6Op0, s7r6Op1, s7r6Op2, s7r6Op3, s7r6Op4, s7r6Op5, s7r6Op6]
set_option maxHeartbeats 2000000 in
theorem s7r6_r {Q : Exit → Act → World → Prop} {u w : World} {L : List Row} {z0 z1 z2 z3 z4 z5 z6 z9 z11 z12 z13 z14 z15 z16 z17 z18 z19 z20 z21 z22 z23 z24 z25 z26 z27 z28 z29 z30 z31 : Value} {zz : List Value} {b7 b10 b1020 : Nat} {c7 c10 c1020 : Array Value} {e31 : Array Value} (hQ : ∀ c a w n v, Q (.panic c) (a.put (some n) v) w → Q (.panic c) a w) (hO : Own u w L) (i7 : Nat) (h7 : L[i7]? = some (b7, c7, 22)) (i10 : Nat) (h10 : L[i10]? = some (b10, c10, 22)) (i1020 : Nat) (h1020 : L[i1020]? = some (b1020, c1020, 26)) (r31 : ∀ (q30 : Nat) (w : World), Below u.heap.size u w → Blk w b7 c7 22 → Blk w b10 c10 22 → Blk w b1020 c1020 26 → Blk w q30 #[.slice (some ⟨b10, 0, none⟩) 32 32, .slice (some ⟨b7, 0, none⟩) 32 32] 23 → Ret 46 #[.slice (some ⟨q30, 0, none⟩) 2 2, .pointer (some ⟨b1020, 0, none⟩)] w (.agg e31)) (fe31_22 : Fit 22 e31) (H : ∀ (n11 : Nat) (q30 : Nat) (w' : World), Own u w' ((n11, e31, 22) :: L) → Q .normal { tmps := List.toArray (z0 :: z1 :: z2 :: z3 :: z4 :: z5 :: z6 :: (.pointer (some ⟨b7, 0, none⟩)) :: (.func (.func 46) #[] #[.pointer (some ⟨b1020, 0, none⟩)]) :: z9 :: (.pointer (some ⟨b10, 0, none⟩)) :: (.pointer (some ⟨n11, 0, none⟩)) :: z12 :: z13 :: z14 :: z15 :: z16 :: z17 :: z18 :: z19 :: z20 :: z21 :: z22 :: z23 :: z24 :: z25 :: z26 :: (.func (.func 46) #[] #[.pointer (some ⟨b1020, 0, none⟩)]) :: (.slice (some ⟨b10, 0, none⟩) 32 32) :: (.slice (some ⟨b7, 0, none⟩) 32 32) :: (.slice (some ⟨q30, 0, none⟩) 2 2) :: (.agg e31) :: zz), defers := [] } w') :
    (Code.region 6 s7r6Ops true).wp Tryd.prog Q { tmps := List.toArray (z0 :: z1 :: z2 :: z3 :: z4 :: z5 :: z6 :: (.pointer (some ⟨b7, 0, none⟩)) :: (.func (.func 46) #[] #[.pointer (some ⟨b1020, 0, none⟩)]) :: z9 :: (.pointer (some ⟨b10, 0, none⟩)) :: z11 :: z12 :: z13 :: z14 :: z15 :: z16 :: z17 :: z18 :: z19 :: z20 :: z21 :: z22 :: z23 :: z24 :: z25 :: z26 :: z27 :: z28 :: z29 :: z30 :: z31 :: zz), defers := [] } w := by
  have s0 : ∀ (n11 : Nat) (q30 : Nat) (w : World), Own u w ((n11, vals .u8 32 (fun _ => 0), 22) :: L) → wpAnyH Tryd.prog .any s7r6Ops Q (Has [(b7, c7, 22), (b10, c10, 22), (b1020, c1020, 26)]) 1 (ls 7 63) (Fr [z0, z1, z2, z3, z4, z5, z6, D b7, .func (.func 46) #[] #[.pointer (some ⟨b1020, 0, none⟩)], z9, D b10, D n11, z12, z13, z14, z15, z16, z17, z18, z19, z20, z21, z22, z23, z24, z25, z26, .func (.func 46) #[] #[.pointer (some ⟨b1020, 0, none⟩)], .slice (some ⟨b10, 0, none⟩) 32 32, .slice (some ⟨b7, 0, none⟩) 32 32, .slice (some ⟨q30, 0, none⟩) 2 2, A e31] zz) w := by
    intro n11 q30 w hO
    refine d_one 6 s7r6Op6 (ls 7 127) (fun K hK => ?_)
    refine k_st hK hO 22 0 rfl e31 fe31_22 (fun _ hO => ⟨hO.row _ (gs h7), hO.row _ (gs h10), hO.row _ (gs h1020), trivial⟩) ?_
    intro w1 hO
    exact wpAnyH_done (by kernel_rfl) (H n11 q30 _ hO) _
  have s1 : ∀ (n11 : Nat) (q30 : Nat) (w : World), Blk w q30 #[.slice (some ⟨b10, 0, none⟩) 32 32, .slice (some ⟨b7, 0, none⟩) 32 32] 23 → Own u w ((n11, vals .u8 32 (fun _ => 0), 22) :: L) → wpAnyH Tryd.prog .any s7r6Ops Q (Has [(b7, c7, 22), (b10, c10, 22), (b1020, c1020, 26)]) 2 (ls 7 47) (Fr [z0, z1, z2, z3, z4, z5, z6, D b7, .func (.func 46) #[] #[.pointer (some ⟨b1020, 0, none⟩)], z9, D b10, D n11, z12, z13, z14, z15, z16, z17, z18, z19, z20, z21, z22, z23, z24, z25, z26, .func (.func 46) #[] #[.pointer (some ⟨b1020, 0, none⟩)], .slice (some ⟨b10, 0, none⟩) 32 32, .slice (some ⟨b7, 0, none⟩) 32 32, .slice (some ⟨q30, 0, none⟩) 2 2, z31] zz) w := by
    intro n11 q30 w hB30 hO
    refine d_one 4 s7r6Op4 (ls 7 63) (fun K hK => ?_)
    refine kb_cw hK hO (fun _ hO => ⟨hO.row _ (gs h7), hO.row _ (gs h10), hO.row _ (gs h1020), trivial⟩) 46 #[.slice (some ⟨q30, 0, none⟩) 2 2, .pointer (some ⟨b1020, 0, none⟩)] (.agg e31) (r31 q30 _ hO.low (hO.row ((i7 + 1)) (gs h7)) (hO.row ((i10 + 1)) (gs h10)) (hO.row ((i1020 + 1)) (gs h1020)) hB30) ?_
    intro w2 hb hO
    clear hb
    exact d_fr _ _ (s0 n11 q30 _ hO)
  refine wp_region_held_drew (S := Has [(b7, c7, 22), (b10, c10, 22), (b1020, c1020, 26)]) (by kernel_rfl) ⟨hO.drew.row _ h7, hO.drew.row _ h10, hO.drew.row _ h1020, trivial⟩ (fun hS => ?_)
  replace hO := hO.drew
  refine d_tk 0 s7r6Op0 (.func (.func 46) #[] #[.pointer (some ⟨b1020, 0, none⟩)]) hQ (y_val (fun _ => by kernel_rfl)) hS ?_
  refine d_tk 1 s7r6Op1 (.slice (some ⟨b10, 0, none⟩) 32 32) hQ (y_val (fun _ => by kernel_rfl)) hS ?_
  refine d_tk 2 s7r6Op2 (.slice (some ⟨b7, 0, none⟩) 32 32) hQ (y_val (fun _ => by kernel_rfl)) hS ?_
  refine d_fr (ls 7 7) (Fr [z0, z1, z2, z3, z4, z5, z6, D b7, .func (.func 46) #[] #[.pointer (some ⟨b1020, 0, none⟩)], z9, D b10, z11, z12, z13, z14, z15, z16, z17, z18, z19, z20, z21, z22, z23, z24, z25, z26, .func (.func 46) #[] #[.pointer (some ⟨b1020, 0, none⟩)], .slice (some ⟨b10, 0, none⟩) 32 32, .slice (some ⟨b7, 0, none⟩) 32 32, z30, z31] zz) ?_
  refine wpAnyH_ready (rs := [3, 5]) (by kernel_rfl) (by simp) ?_
  refine d_cons 3 s7r6Op3 (ls 7 15) (fun K hK => ?_) ?_
  · skip
    refine kb_bs hK hO (fun _ hO => ⟨hO.row _ h7, hO.row _ h10, hO.row _ h1020, trivial⟩) 2 #[.slice (some ⟨b10, 0, none⟩) 32 32, .slice (some ⟨b7, 0, none⟩) 32 32] 23 (fun w => run_bsl 26 23 2 _ rfl #[(0, .slice (some ⟨b10, 0, none⟩) 32 32), (1, .slice (some ⟨b7, 0, none⟩) 32 32)] (by kernel_rfl) (by kernel_rfl)) ?_
    intro q30 w3 hb hB30 hO
    clear hb
    refine wpAnyH_ready (rs := [4, 5]) (by kernel_rfl) (by simp) ?_
    refine d_cons 4 s7r6Op4 (ls 7 31) (fun K hK => ?_) ?_
    · skip
      refine kb_cw hK hO (fun _ hO => ⟨hO.row _ h7, hO.row _ h10, hO.row _ h1020, trivial⟩) 46 #[.slice (some ⟨q30, 0, none⟩) 2 2, .pointer (some ⟨b1020, 0, none⟩)] (.agg e31) (r31 q30 _ hO.low (hO.row (i7) h7) (hO.row (i10) h10) (hO.row (i1020) h1020) hB30) ?_
      intro w4 hb hO
      clear hb
      refine d_one 5 s7r6Op5 (ls 7 63) (fun K hK => ?_)
      refine k_new hK hO (vals .u8 32 (fun _ => 0)) 22 (al22 rfl) (fit_by _) (fun _ _ hO => ⟨hO.row _ (gs h7), hO.row _ (gs h10), hO.row _ (gs h1020), trivial⟩) ?_
      intro n11 w5 hO
      exact d_fr _ _ (s0 n11 q30 _ hO)
    refine d_cons 5 s7r6Op5 (ls 7 47) (fun K hK => ?_) ?_
    · skip
      refine kb_new hK hO (vals .u8 32 (fun _ => 0)) 22 (al22 rfl) (fit_by _) (fun _ _ hO => ⟨hO.row _ (gs h7), hO.row _ (gs h10), hO.row _ (gs h1020), trivial⟩) ?_
      intro n11 w6 hb hO
      replace hB30 := hB30.call hb
      clear hb
      exact d_fr _ _ (s1 n11 q30 _ hB30 hO)
    exact AllReadyH.nil
  refine d_cons 5 s7r6Op5 (ls 7 39) (fun K hK => ?_) ?_
  · skip
    refine k_new hK hO (vals .u8 32 (fun _ => 0)) 22 (al22 rfl) (fit_by _) (fun _ _ hO => ⟨hO.row _ (gs h7), hO.row _ (gs h10), hO.row _ (gs h1020), trivial⟩) ?_
    intro n11 w7 hO
    refine d_one 3 s7r6Op3 (ls 7 47) (fun K hK => ?_)
    refine kb_bs hK hO (fun _ hO => ⟨hO.row _ (gs h7), hO.row _ (gs h10), hO.row _ (gs h1020), trivial⟩) 2 #[.slice (some ⟨b10, 0, none⟩) 32 32, .slice (some ⟨b7, 0, none⟩) 32 32] 23 (fun w => run_bsl 26 23 2 _ rfl #[(0, .slice (some ⟨b10, 0, none⟩) 32 32), (1, .slice (some ⟨b7, 0, none⟩) 32 32)] (by kernel_rfl) (by kernel_rfl)) ?_
    intro q30 w8 hb hB30 hO
    clear hb
    exact d_fr _ _ (s1 n11 q30 _ hB30 hO)
  exact AllReadyH.nil
def s7r7Op0 : Oper := ⟨some 32, .load 22 (.tmp 10), 22, "sign.go:26", #[], none⟩
def s7r7Op1 : Oper := ⟨some 33, .load 22 (.tmp 11), 22, "sign.go:26", #[], none⟩
def s7r7Op2 : Oper := ⟨some 34, .load 22 (.tmp 5), 22, "sign.go:26", #[], none⟩
def s7r7Op3 : Oper := ⟨some 35, .load 22 (.tmp 9), 22, "sign.go:26", #[], none⟩
def s7r7Op4 : Oper := ⟨some 36, .call { callee := .value (.func 18), args := #[.tmp 33, .tmp 34, .tmp 35], argTypes := #[22, 22, 22] }, 22, "sign.go:26", #[⟨1, .data⟩, ⟨2, .data⟩, ⟨3, .data⟩], none⟩
def s7r7Op5 : Oper := ⟨some 37, .call { callee := .value (.func 17), args := #[.tmp 32, .tmp 36], argTypes := #[22, 22] }, 28, "sign.go:26", #[⟨0, .data⟩, ⟨4, .data⟩, ⟨4, .chain⟩], none⟩
def s7r7Op6 : Oper := ⟨none, .store 28 (.tmp 4) (.tmp 37), 0, "sign.go:26", #[⟨5, .data⟩, ⟨5, .chain⟩, ⟨0, .phase⟩, ⟨1, .phase⟩, ⟨2, .phase⟩, ⟨3, .phase⟩, ⟨4, .phase⟩, ⟨5, .phase⟩], none⟩
def s7r7Ops : Array Oper := #[s7r7Op0, s7r7Op1, s7r7Op2, s7r7Op3, s7r7Op4, s7r7Op5, s7r7Op6]
set_option maxHeartbeats 2000000 in
theorem s7r7_r {Q : Exit → Act → World → Prop} {u w : World} {L : List Row} {z0 z1 z2 z3 z6 z7 z8 z12 z13 z14 z15 z16 z17 z18 z19 z20 z21 z22 z23 z24 z25 z26 z27 z28 z29 z30 z31 z32 z33 z34 z35 z36 z37 : Value} {b4 b5 b9 b10 b11 : Nat} {c4 c5 c9 c10 c11 : Array Value} {e36 e37 : Array Value} (hQ : ∀ c a w n v, Q (.panic c) (a.put (some n) v) w → Q (.panic c) a w) (hO : Own u w L) (i4 : Nat) (h4 : L[i4]? = some (b4, c4, 28)) (i5 : Nat) (h5 : L[i5]? = some (b5, c5, 22)) (i9 : Nat) (h9 : L[i9]? = some (b9, c9, 22)) (i10 : Nat) (h10 : L[i10]? = some (b10, c10, 22)) (i11 : Nat) (h11 : L[i11]? = some (b11, c11, 22)) (e4_5 : i4 ≠ i5) (e4_9 : i4 ≠ i9) (e4_10 : i4 ≠ i10) (e4_11 : i4 ≠ i11) (r36 : ∀ (w : World), Below u.heap.size u w → Blk w b4 c4 28 → Blk w b5 c5 22 → Blk w b9 c9 22 → Blk w b10 c10 22 → Blk w b11 c11 22 → Ret 18 #[.agg c11, .agg c5, .agg c9] w (.agg e36)) (r37 : ∀ w, Ret 17 #[.agg c10, .agg e36] w (.agg e37)) (fe37_28 : Fit 28 e37) (H : ∀ (w' : World), Own u w' ((L.set i4 (b4, e37, 28))) → Q .normal { tmps := List.toArray (z0 :: z1 :: z2 :: z3 :: (.pointer (some ⟨b4, 0, none⟩)) :: (.pointer (some ⟨b5, 0, none⟩)) :: z6 :: z7 :: z8 :: (.pointer (some ⟨b9, 0, none⟩)) :: (.pointer (some ⟨b10, 0, none⟩)) :: (.pointer (some ⟨b11, 0, none⟩)) :: z12 :: z13 :: z14 :: z15 :: z16 :: z17 :: z18 :: z19 :: z20 :: z21 :: z22 :: z23 :: z24 :: z25 :: z26 :: z27 :: z28 :: z29 :: z30 :: z31 :: (.agg c10) :: (.agg c11) :: (.agg c5) :: (.agg c9) :: (.agg e36) :: (.agg e37) :: []), defers := [] } w') :
    (Code.region 7 s7r7Ops true).wp Tryd.prog Q { tmps := List.toArray (z0 :: z1 :: z2 :: z3 :: (.pointer (some ⟨b4, 0, none⟩)) :: (.pointer (some ⟨b5, 0, none⟩)) :: z6 :: z7 :: z8 :: (.pointer (some ⟨b9, 0, none⟩)) :: (.pointer (some ⟨b10, 0, none⟩)) :: (.pointer (some ⟨b11, 0, none⟩)) :: z12 :: z13 :: z14 :: z15 :: z16 :: z17 :: z18 :: z19 :: z20 :: z21 :: z22 :: z23 :: z24 :: z25 :: z26 :: z27 :: z28 :: z29 :: z30 :: z31 :: z32 :: z33 :: z34 :: z35 :: z36 :: z37 :: []), defers := [] } w := by
  have fc5_22 := hO.fits i5 h5
  have fc9_22 := hO.fits i9 h9
  have fc10_22 := hO.fits i10 h10
  have fc11_22 := hO.fits i11 h11
  refine wp_region_held_drew (S := Has [(b5, c5, 22), (b9, c9, 22), (b10, c10, 22), (b11, c11, 22)]) (by kernel_rfl) ⟨hO.drew.row _ h5, hO.drew.row _ h9, hO.drew.row _ h10, hO.drew.row _ h11, trivial⟩ (fun hS => ?_)
  replace hO := hO.drew
  refine d_tk 0 s7r7Op0 (.agg c10) hQ (y_l 22 (fun _ h => h.2.2.1) fc10_22 Tryd.underlying22) hS ?_
  refine d_tk 1 s7r7Op1 (.agg c11) hQ (y_l 22 (fun _ h => h.2.2.2.1) fc11_22 Tryd.underlying22) hS ?_
  refine d_tk 2 s7r7Op2 (.agg c5) hQ (y_l 22 (fun _ h => h.1) fc5_22 Tryd.underlying22) hS ?_
  refine d_fr (ls 7 7) (Fr [z0, z1, z2, z3, D b4, D b5, z6, z7, z8, D b9, D b10, D b11, z12, z13, z14, z15, z16, z17, z18, z19, z20, z21, z22, z23, z24, z25, z26, z27, z28, z29, z30, z31, A c10, A c11, A c5, z35, z36, z37] []) ?_
  refine d_tk 3 s7r7Op3 (.agg c9) hQ (y_l 22 (fun _ h => h.2.1) fc9_22 Tryd.underlying22) hS ?_
  refine d_fr (ls 7 15) (Fr [z0, z1, z2, z3, D b4, D b5, z6, z7, z8, D b9, D b10, D b11, z12, z13, z14, z15, z16, z17, z18, z19, z20, z21, z22, z23, z24, z25, z26, z27, z28, z29, z30, z31, A c10, A c11, A c5, A c9, z36, z37] []) ?_
  refine d_one 4 s7r7Op4 (ls 7 31) (fun K hK => ?_)
  refine kb_cw hK hO (fun _ hO => ⟨hO.row _ h5, hO.row _ h9, hO.row _ h10, hO.row _ h11, trivial⟩) 18 #[.agg c11, .agg c5, .agg c9] (.agg e36) (r36 _ hO.low (hO.row (i4) h4) (hO.row (i5) h5) (hO.row (i9) h9) (hO.row (i10) h10) (hO.row (i11) h11)) ?_
  intro w1 hb hO
  clear hb
  refine d_one 5 s7r7Op5 (ls 7 63) (fun K hK => ?_)
  refine k_call hK hO (fun _ hO => ⟨hO.row _ h5, hO.row _ h9, hO.row _ h10, hO.row _ h11, trivial⟩) 17 #[.agg c10, .agg e36] (.agg e37) r37 ?_
  intro w2 hO
  refine d_one 6 s7r7Op6 (ls 7 127) (fun K hK => ?_)
  refine k_st hK hO 28 i4 h4 e37 fe37_28 (fun _ hO => ⟨hO.row _ (get_set h5 e4_5), hO.row _ (get_set h9 e4_9), hO.row _ (get_set h10 e4_10), hO.row _ (get_set h11 e4_11), trivial⟩) ?_
  intro w3 hO
  exact d_fr (ls 7 127) _ (wpAnyH_done (by kernel_rfl) (H  _ hO) _)
def sigv (t : Nat → Nat → Nat) (r k : Nat) (s : Nat → Nat) : Nat → Nat := jn (t r) (byt ((k * nb s 32 + r) % S.qL))
set_option maxHeartbeats 4000000 in
theorem sign_g (f s p : Nat → Nat) (t : Nat → Nat → Nat) (r k : Nat) (P : Option Addr) (ps : List T.Pt) (pc : Nat) (m : List Nat) (hf : ∀ i, f i < 256) (hs : ∀ w, Glb w → Ret 14 #[.agg (vals .u8 32 f)] w (.tuple #[.agg (vals .u8 32 s), .agg (vals .u8 32 p)])) (hsl : ∀ i, s i < 256) (hpl : ∀ i, p i < 256) (htl : ∀ n i, t n i < 256) (ht : ∀ w, Ret 15 #[.agg (vals .u8 32 s)] w (.agg (vals .u8 32 (t (nb s 32))))) (htn : ∀ n, n < 2 ^ 256 → ∀ w, Ret 15 #[.agg (vals .u8 32 (byt n))] w (.agg (vals .u8 32 (t n))))
    (w : World) (hG : Glb w) (hP : T.Prt w P ps) (hO : T.PtOk w ps) (hm : T.cat ps = m) (hms : m.length < 2 ^ 30) (hp : ps.length < 2 ^ 30) (hr : dgn (bl p ++ m) = r) (hk : dgn (bl (t r) ++ bl (t (nb s 32)) ++ m) = k) : Ret 7 #[.agg (vals .u8 32 f), .slice P ps.length pc] w (.agg (vals .u8 64 (sigv t r k s))) := by
  go_enter Tryd.func7, Tryd.ntmps7
  have _ := hf
  have HhG := hide hG
  have HhP := hide hP
  have HhO := hide hO
  have Hhm := hide hm
  have Hhms := hide hms
  have Hhp := hide hp
  have Hhr := hide hr
  have Hhk := hide hk
  have Hrl : r < 2 ^ 256 := hr ▸ dgn_lt _
  have Hkl : k < 2 ^ 256 := hk ▸ dgn_lt _
  obtain ⟨a, ha⟩ : ∃ a, a = t (nb s 32) := ⟨_, rfl⟩
  rw [← ha] at ht hk
  have Hk2 := hide hk
  have hal : ∀ i, a i < 256 := ha ▸ htl _
  obtain ⟨x, hx⟩ : ∃ x, x = t r := ⟨_, rfl⟩
  have Hx := hide hx
  have hxl : ∀ i, x i < 256 := hx ▸ htl _
  have Htr := htn r Hrl
  rw [← hx] at Htr
  obtain ⟨y, hy⟩ : ∃ y, y = (k * nb s 32 + r) % S.qL := ⟨_, rfl⟩
  have Hy := hide hy
  clear hG hP hO hm hms hp hr hk ha hx hy Hhk htl htn
  have hO := Own.start w
  go_upto_region 0 with (fail)
  refine s7r0_r hO (fit_by _) ?_
  intro n2 n4 w1 hO
  replace hO : Own w w1 [(n4, vals .u8 64 (fun _ => 0), 28), (n2, vals .u8 32 f, 22)] := hO
  go_upto_region 1 with (fail)
  refine s7r1_r hO 1 rfl 0 rfl (fun w hL _ _ => hs w (HhG.out.low hL)) (fit_by _) (fit_by _) ?_
  intro n5 n6 w2 hO
  replace hO : Own w w2 [(n6, vals .u8 32 p, 22), (n5, vals .u8 32 s, 22), (n4, vals .u8 64 (fun _ => 0), 28), (n2, vals .u8 32 f, 22)] := hO
  go_upto_region 2 with (fail)
  refine s7r2_r hO 1 rfl ht (fit_by _) ?_
  intro n7 w3 hO
  replace hO : Own w w3 [(n7, vals .u8 32 a, 22), (n6, vals .u8 32 p, 22), (n5, vals .u8 32 s, 22), (n4, vals .u8 64 (fun _ => 0), 28), (n2, vals .u8 32 f, 22)] := hO
  go_upto_region 3 with (fail)
  refine s7r3_r hO (behind_c P ps.length pc) (fit_sl _ _ _) ?_
  intro n20 w4 hO
  replace hO : Own w w4 [(n20, #[.slice P ps.length pc], 26), (n7, vals .u8 32 a, 22), (n6, vals .u8 32 p, 22), (n5, vals .u8 32 s, 22), (n4, vals .u8 64 (fun _ => 0), 28), (n2, vals .u8 32 f, 22)] := hO
  go_upto_region 4 with (fail)
  refine s7r4_r hO 2 rfl 0 rfl (fun q w hL h6 ht hq => clos1 hpl (HhG.out.low hL) h6 ht hq (HhP.out.low hL) (HhO.out.low hL) Hhm.out Hhms.out Hhp.out Hhr.out) (fit_by _) ?_
  intro n9 q23 w5 hO
  replace hO : Own w w5 [(n9, vals .u8 32 (byt r), 22), (n20, #[.slice P ps.length pc], 26), (n7, vals .u8 32 a, 22), (n6, vals .u8 32 p, 22), (n5, vals .u8 32 s, 22), (n4, vals .u8 64 (fun _ => 0), 28), (n2, vals .u8 32 f, 22)] := hO
  go_upto_region 5 with (fail)
  refine s7r5_r hO 0 rfl Htr (fit_by _) ?_
  intro n10 w6 hO
  replace hO : Own w w6 [(n10, vals .u8 32 x, 22), (n9, vals .u8 32 (byt r), 22), (n20, #[.slice P ps.length pc], 26), (n7, vals .u8 32 a, 22), (n6, vals .u8 32 p, 22), (n5, vals .u8 32 s, 22), (n4, vals .u8 64 (fun _ => 0), 28), (n2, vals .u8 32 f, 22)] := hO
  go_upto_region 6 with (fail)
  refine s7r6_r (fun _ _ _ _ _ h => h) hO 3 rfl 0 rfl 2 rfl (fun q w hL h7 h10 ht hq => clos2 hxl hal (HhG.out.low hL) h10 h7 ht hq (HhP.out.low hL) (HhO.out.low hL) Hhm.out Hhms.out Hhp.out (Hx.out ▸ Hk2.out)) (fit_by _) ?_
  intro n11 q30 w7 hO
  replace hO : Own w w7 [(n11, vals .u8 32 (byt k), 22), (n10, vals .u8 32 x, 22), (n9, vals .u8 32 (byt r), 22), (n20, #[.slice P ps.length pc], 26), (n7, vals .u8 32 a, 22), (n6, vals .u8 32 p, 22), (n5, vals .u8 32 s, 22), (n4, vals .u8 64 (fun _ => 0), 28), (n2, vals .u8 32 f, 22)] := hO
  go_upto_region 7 with (fail)
  refine s7r7_r (fun _ _ _ _ _ h => h) hO 7 rfl 6 rfl 2 rfl 1 rfl 0 rfl (by decide) (by decide) (by decide) (by decide) (fun w hL _ _ _ _ _ => Hy.out ▸ muladd_c k r s Hkl Hrl hsl (HhG.out.low hL)) (join_c _ _ hxl (byt_lt _)) (fit_b6 _) ?_
  intro w8 hO
  replace hO : Own w w8 [(n11, vals .u8 32 (byt k), 22), (n10, vals .u8 32 x, 22), (n9, vals .u8 32 (byt r), 22), (n20, #[.slice P ps.length pc], 26), (n7, vals .u8 32 a, 22), (n6, vals .u8 32 p, 22), (n5, vals .u8 32 s, 22), (n4, vals .u8 64 (jn x (byt y)), 28), (n2, vals .u8 32 f, 22)] := hO
  go_wp2_with fail
  refine bodyPost_ret (v := .agg (vals .u8 64 (jn x (byt y)))) (results_cell_row Tryd.results7 _ _ n4 28 _ (0, 0) _ rfl (hO.row 7 rfl) Tryd.underlying28 rfl (fit_b6 _).size) rfl ⟨by unfold sigv; rw [Hx.out, Hy.out], hO.low⟩
end Go.Proofs.YtbpmakegimgbpaaDoor

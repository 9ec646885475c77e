/- Walks: joined, Public, Sign, Verify. Bytes below 256, texts of less than 2^30 bytes in less than 2^30 parts; the package's variables lie as they were laid. -/
import Derived.Test.YtbpmakegimgbpaaDoorPs
namespace Go.Proofs.YtbpmakegimgbpaaDoor
set_option maxRecDepth 100000
open F Go.RowKit

def jn (f g : Nat → Nat) (j : Nat) : Nat := if j < 32 then f j else g (j - 32)
theorem jn_lt {f g : Nat → Nat} (hf : ∀ i, f i < 256) (hg : ∀ i, g i < 256) (j : Nat) : jn f g j < 256 := by unfold jn; split; exact hf _; exact hg _
theorem vok_bl {w : World} {b : Nat} {t : TypeId} {f : Nat → Nat} (h : Blk w b (vals .u8 32 f) t) : T.Vok 23 w (.slice (some ⟨b, 0, none⟩) 32 32, T.bv8 (bl f)) :=
  ⟨⟨_, 32, by rw [T.bv8_len, bl_len]⟩, fun w' hb => by have h1 := T.src_rds (A := some ⟨b, 0, none⟩) 32 ((rds_bl h).low hb); rw [bl_len] at h1; exact h1⟩
theorem jn_get (f g : Nat → Nat) (i : Nat) (v : Value) (h : (vals .u8 64 (jn f g)).toList[i]? = some v) : (T.bv8 (bl f) ++ T.bv8 (bl g))[i]? = some v := by
  have hi : i < 64 := by have := (List.getElem?_eq_some_iff.1 h).1; simpa [vals_size] using this
  rw [Array.getElem?_toList, vals_get _ _ _ _ hi] at h
  rw [← h]
  unfold T.bv8 bl
  by_cases h1 : i < 32
  · rw [List.getElem?_append_left (by simpa using h1)]
    simp [h1, jn]
  · rw [List.getElem?_append_right (by simpa using h1)]
    have h2 : i - 32 < 32 := by omega
    simp [h2, jn, h1]
/-- Two rows' bytes, one behind the other. -/
theorem concat2 {a b q : Nat} {f g : Nat → Nat} {w : World} {s t : TypeId} (hA : Blk w a (vals .u8 32 f) s) (hB : Blk w b (vals .u8 32 g) t) (hq : Blk w q #[.slice (some ⟨a, 0, none⟩) 32 32, .slice (some ⟨b, 0, none⟩) 32 32] 23) :
    Calls Tryd.prog 49 #[.slice (some ⟨q, 0, none⟩) 2 2] w fun e w' => ∃ (g0 cap : Nat) (cells : Array Value), e = .returned (.slice (some ⟨g0, 0, none⟩) 64 cap) ∧ 64 ≤ cap ∧ Blk w' g0 cells 5 ∧ (∀ (i : Nat) (v : Value), (vals .u8 64 (jn f g)).toList[i]? = some v → cells[i]? = some v) ∧ Below w.heap.size w w' := by
  have h := T.concat_b_at (some ⟨q, 0, none⟩) [(.slice (some ⟨a, 0, none⟩) 32 32, T.bv8 (bl f)), (.slice (some ⟨b, 0, none⟩) 32 32, T.bv8 (bl g))] 2 _ w rfl (Or.inr ⟨_, rfl, hq.lt, fun i p hp => by
      rcases i with _ | _ | i
      · obtain rfl := Option.some.inj hp; rw [Addr.add_mid, Nat.zero_add, hq.cell]; rfl
      · obtain rfl := Option.some.inj hp; rw [Addr.add_mid, Nat.zero_add, hq.cell]; rfl
      · cases hp⟩) (fun p hp => by
      rcases List.mem_cons.1 hp with rfl | hp
      · exact vok_bl hA
      · obtain rfl : p = (.slice (some ⟨b, 0, none⟩) 32 32, T.bv8 (bl g)) := by simpa using hp
        exact vok_bl hB) (by simp [T.flat, T.bv8_len, bl_len]) (by simp)
  refine h.mono fun e w' hh => ?_
  obtain ⟨v, rfl, ⟨A, cap, cells, rfl, h2, h3, h4, h5⟩, hb⟩ := hh
  have e1 : T.flat [(.slice (some ⟨a, 0, none⟩) 32 32, T.bv8 (bl f)), (.slice (some ⟨b, 0, none⟩) 32 32, T.bv8 (bl g))] = T.bv8 (bl f) ++ T.bv8 (bl g) := by simp [T.flat]
  have e2 : (T.bv8 (bl f) ++ T.bv8 (bl g)).length = 64 := by rw [List.length_append, T.bv8_len, T.bv8_len, bl_len, bl_len]
  rw [e1] at h2 h4 ⊢
  rw [e2] at h2 ⊢
  rcases h5 with ⟨g0, rfl, _, hB0⟩ | ⟨rfl, rfl⟩
  · exact ⟨g0, cap, cells, rfl, h2, hB0, fun i v hv => h4 i v (jn_get f g i v hv), hb⟩
  · omega
def s17r0Op0 : Oper := ⟨some 2, .box 22 (.tmp 0), 0, "sign.go:66", #[], none⟩
def s17r0Op1 : Oper := ⟨some 3, .box 22 (.tmp 1), 0, "sign.go:66", #[], none⟩
def s17r0Op2 : Oper := ⟨some 4, .alloc 28, 0, "sign.go:66", #[], none⟩
def s17r0Ops : Array Oper := #[s17r0Op0, s17r0Op1, s17r0Op2]
set_option maxHeartbeats 2000000 in
theorem s17r0_r {Q : Exit → Act → World → Prop} {u w : World} {L : List Row} {z2 z3 z4 : Value} {zz : List Value} {e0 e1 : Array Value} (hO : Own u w L) (fe0_22 : Fit 22 e0) (fe1_22 : Fit 22 e1) (H : ∀ (n2 : Nat) (n3 : Nat) (n4 : Nat) (w' : World), Own u w' ((n4, vals .u8 64 (fun _ => 0), 28) :: (n3, e1, 22) :: (n2, e0, 22) :: L) → Q .normal { tmps := List.toArray ((.agg e0) :: (.agg e1) :: (.pointer (some ⟨n2, 0, none⟩)) :: (.pointer (some ⟨n3, 0, none⟩)) :: (.pointer (some ⟨n4, 0, none⟩)) :: zz), defers := [] } w') :
    (Code.region 0 s17r0Ops false).wp Tryd.prog Q { tmps := List.toArray ((.agg e0) :: (.agg e1) :: z2 :: z3 :: z4 :: zz), defers := [] } w := by
  refine wp_region_list (show wpList _ s17r0Ops _ [s17r0Op0, s17r0Op1, s17r0Op2] _ _ from ?_)
  refine l_new hO (e0) 22 (run_box 22 _ rfl _ (by kernel_rfl)) fe0_22 ?_
  intro n2 w1 hO
  refine l_new hO (e1) 22 (run_box 22 _ rfl _ (by kernel_rfl)) fe1_22 ?_
  intro n3 w2 hO
  refine l_new hO (vals .u8 64 (fun _ => 0)) 28 (alb6 rfl) (fit_b6 _) ?_
  intro n4 w3 hO
  exact l_fr _ (wpList_nil (H n2 n3 n4 _ hO))
def s17r1Op0 : Oper := ⟨some 5, .slice 22 (.tmp 2) none none none, 23, "sign.go:66", #[], none⟩
def s17r1Op1 : Oper := ⟨some 6, .slice 22 (.tmp 3) none none none, 23, "sign.go:66", #[], none⟩
def s17r1Op2 : Oper := ⟨some 7, .buildSlice 26 2 #[(0, .tmp 5), (1, .tmp 6)], 26, "sign.go:66", #[⟨0, .data⟩, ⟨1, .data⟩], none⟩
def s17r1Op3 : Oper := ⟨some 8, .call { callee := .value (.func 49), args := #[.tmp 7], argTypes := #[26] }, 23, "sign.go:66", #[⟨2, .data⟩], none⟩
def s17r1Op4 : Oper := ⟨some 9, .sliceToArrayPointer 28 (.tmp 8), 0, "sign.go:66", #[⟨3, .data⟩], none⟩
def s17r1Op5 : Oper := ⟨some 10, .load 28 (.tmp 9), 28, "sign.go:66", #[⟨4, .data⟩], none⟩
def s17r1Op6 : Oper := ⟨none, .store 28 (.tmp 4) (.tmp 10), 0, "sign.go:66", #[⟨5, .data⟩, ⟨3, .chain⟩, ⟨0, .phase⟩, ⟨1, .phase⟩, ⟨2, .phase⟩, ⟨3, .phase⟩, ⟨4, .phase⟩, ⟨5, .phase⟩], none⟩
def s17r1Ops : Array Oper := #[s17r1Op0, s17r1Op1, s17r1Op2, s17r1Op3, s17r1Op4, s17r1Op5, s17r1Op6]
set_option maxHeartbeats 4000000 in
theorem join_c (f g : Nat → Nat) (hf : ∀ i, f i < 256) (hg : ∀ i, g i < 256) (w : World) : Ret 17 #[.agg (vals .u8 32 f), .agg (vals .u8 32 g)] w (.agg (vals .u8 64 (jn f g))) := by
  have _ := hf
  have _ := hg
  go_enter Tryd.func17, Tryd.ntmps17
  have hO := Own.start w
  go_upto_region 0 with (fail)
  refine s17r0_r hO (fit_by _) (fit_by _) ?_
  intro n2 n3 n4 w1 hO
  go_upto_region 1 with (fail)
  refine wp_region_held_drew (S := fun _ => True) (ops := s17r1Ops) (by kernel_rfl) trivial (fun _ => ?_)
  replace hO := hO.drew
  generalize w1.drew = w2 at *
  refine d_tk 0 s17r1Op0 (.slice (some ⟨n2, 0, none⟩) 32 32) (fun _ _ _ _ _ h => h) (y_val (fun _ => by kernel_rfl)) trivial ?_
  refine d_tk 1 s17r1Op1 (.slice (some ⟨n3, 0, none⟩) 32 32) (fun _ _ _ _ _ h => h) (y_val (fun _ => by kernel_rfl)) trivial ?_
  refine d_fr (ls 7 3) (Fr [A (vals .u8 32 f), A (vals .u8 32 g), D n2, D n3, D n4, .slice (some ⟨n2, 0, none⟩) 32 32, .slice (some ⟨n3, 0, none⟩) 32 32, undef, undef, undef, undef] []) ?_
  refine d_one 2 s17r1Op2 (ls 7 7) (fun K hK => ?_)
  refine kb_bs hK hO (fun _ _ => trivial) 2 #[.slice (some ⟨n2, 0, none⟩) 32 32, .slice (some ⟨n3, 0, none⟩) 32 32] 23 (fun w => run_bsl 26 23 2 _ rfl #[(0, .slice (some ⟨n2, 0, none⟩) 32 32), (1, .slice (some ⟨n3, 0, none⟩) 32 32)] (by kernel_rfl) (by kernel_rfl)) ?_
  intro q7 w3 _ hB hO
  clear hK K
  refine d_fr (ls 7 7) (Fr [A (vals .u8 32 f), A (vals .u8 32 g), D n2, D n3, D n4, .slice (some ⟨n2, 0, none⟩) 32 32, .slice (some ⟨n3, 0, none⟩) 32 32, .slice (some ⟨q7, 0, none⟩) 2 2, undef, undef, undef] []) ?_
  refine d_one 3 s17r1Op3 (ls 7 15) (fun K hK => ?_)
  unfold Oper.wp
  rw [show (execOp _ s17r1Op3).run Tryd.prog w3 = .ok (.enter 49 #[.slice (some ⟨q7, 0, none⟩) 2 2]) w3 from by kernel_rfl, Oper.upon_enter]
  refine (concat2 (hO.row 2 rfl) (hO.row 1 rfl) hB).mono fun e w4 hh => ?_
  obtain ⟨g0, cap, cells, rfl, hcap, hB0, hcells, hb⟩ := hh
  replace hO := hO.call hb
  refine hK _ _ trivial ?_
  clear hK K hB hb
  refine d_fr (ls 7 15) (Fr [A (vals .u8 32 f), A (vals .u8 32 g), D n2, D n3, D n4, .slice (some ⟨n2, 0, none⟩) 32 32, .slice (some ⟨n3, 0, none⟩) 32 32, .slice (some ⟨q7, 0, none⟩) 2 2, .slice (some ⟨g0, 0, none⟩) 64 cap, undef, undef] []) ?_
  refine d_tk 4 s17r1Op4 (.pointer (some ⟨g0, 0, none⟩)) (fun _ _ _ _ _ h => h) (y_val (fun _ => by kernel_rfl)) trivial ?_
  refine d_fr (ls 7 31) (Fr [A (vals .u8 32 f), A (vals .u8 32 g), D n2, D n3, D n4, .slice (some ⟨n2, 0, none⟩) 32 32, .slice (some ⟨n3, 0, none⟩) 32 32, .slice (some ⟨q7, 0, none⟩) 2 2, .slice (some ⟨g0, 0, none⟩) 64 cap, .pointer (some ⟨g0, 0, none⟩), undef] []) ?_
  refine d_one 5 s17r1Op5 (ls 7 63) (fun K hK => ?_)
  refine wp_load_mid (P := Tryd.prog) (K := K) 28 (.tmp 9) rfl g0 0 (by kernel_rfl) (vals .u8 64 (jn f g)).toList _ (fun j v hv => by rw [hB0.cell, Nat.zero_add]; exact hcells j v hv) Tryd.underlying28 rfl (by rw [(fit_b6 (jn f g)).size]; simp) ?_
  refine hK _ _ trivial ?_
  clear hK K
  refine d_fr (ls 7 63) (Fr [A (vals .u8 32 f), A (vals .u8 32 g), D n2, D n3, D n4, .slice (some ⟨n2, 0, none⟩) 32 32, .slice (some ⟨n3, 0, none⟩) 32 32, .slice (some ⟨q7, 0, none⟩) 2 2, .slice (some ⟨g0, 0, none⟩) 64 cap, .pointer (some ⟨g0, 0, none⟩), A (vals .u8 64 (jn f g))] []) ?_
  refine d_one 6 s17r1Op6 (ls 7 127) (fun K hK => ?_)
  refine k_st hK hO 28 0 rfl (vals .u8 64 (jn f g)) (fit_b6 _) (fun _ _ => trivial) ?_
  intro w5 hO
  refine wpAnyH_done (by kernel_rfl) ?_ _
  go_wp2_with fail
  exact bodyPost_ret (v := .agg (vals .u8 64 (jn f g))) (results_cell_row Tryd.results17 _ _ n4 28 _ (0, 0) _ rfl (hO.row 0 rfl) Tryd.underlying28 rfl (fit_b6 _).size) rfl ⟨rfl, hO.low⟩
end Go.Proofs.YtbpmakegimgbpaaDoor

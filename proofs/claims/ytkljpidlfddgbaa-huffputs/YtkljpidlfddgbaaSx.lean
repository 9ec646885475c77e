/- slices.Backward, ranged over. No conditions but those that each names. -/
import Derived.Test.YtkljpidlfddgbaaSv
import Derived.Test.YtkljpidlfddgbaaSw
namespace Go.Proofs.Ytkljpidlfddgbaa
set_option maxRecDepth 100000
open Go.RowKit Rg B

namespace Z
section
variable {o : Oper} {a : Act} {w : World} {Q : Exit → Act → World → Prop} {ops : Array Oper} {rest : List Oper} {n : Nat}
theorem iv (v : Value) (h : wpListIn Fence.wide n Try.prog ops Q rest (a.put o.dst v) w) (hrun : (execOp a.eval o).run Try.prog w = .ok (.value v) w := by kernel_rfl) (hg : Region.wanted o (yielded ops a.tmps) = true := by kernel_rfl) (hd : nd o = true := by kernel_rfl) : wpListIn Fence.wide n Try.prog ops Q (o :: rest) a w := by
  unfold wpListIn
  rw [if_pos hg]
  unfold Oper.wpIn
  refine ⟨fun _ _ => trivial, ?_⟩
  rw [Oper.semAt_eq _ _ _ (nd_ne hd), hrun]
  exact h
/-- The call of yield: a round. -/
theorem ir {l : Nat} {J : World → Prop} {x y z : Operand} {ts : Array TypeId} {v1 v2 : Value} (hY : YieldAt Fence.wide (n - 1) Try.prog l #[v1, v2] w fun e W' => e = .returned (.bool true) ∧ J W') (h : ∀ w', J w' → wpListIn Fence.wide n Try.prog ops Q rest (a.put o.dst (.bool true)) w') (ho : o.op = .call { callee := .value x, args := #[y, z], argTypes := ts } := by rfl) (hx : a.eval x = .func (.yield l) #[] #[] := by kernel_rfl) (hy : a.eval y = v1 := by kernel_rfl) (hz : a.eval z = v2 := by kernel_rfl) (hg : Region.wanted o (yielded ops a.tmps) = true := by kernel_rfl) : wpListIn Fence.wide n Try.prog ops Q (o :: rest) a w := by
  obtain ⟨fn, tmps, assign, body, hr, hR⟩ := hY
  have hrun : (execOp a.eval o).run Try.prog w = .ok (.round l fn tmps assign body) w := by
    unfold execOp
    simp only [ho, resolve, hx]
    simp
    rw [hy, hz]
    simp [Deferred.ofValue, invoke]
    exact hr
  unfold wpListIn
  rw [if_pos hg]
  unfold Oper.wpIn
  refine ⟨fun _ _ => trivial, ?_⟩
  rw [Oper.semAt_eq _ _ _ (by rw [ho]; intro c hc; cases hc), hrun, Oper.uponIn_round]
  exact ⟨fun hd => (by simp [Fence.wide] at hd), hR.mono fun e w' he => by obtain ⟨rfl, hJ⟩ := he; exact h w' hJ⟩
end
end Z
namespace Q
open H Z
theorem agg_ssit (w : World) : (isAgg 75).run Try.prog w = .ok false w := by kernel_rfl
theorem fit_ssit {A : Option Addr} {n c : Nat} : Fit 75 #[.slice A n c] := ⟨fun _ => by kernel_rfl, by simp [Value.oneCell']⟩
set_option maxHeartbeats 4000000 in
theorem Back_c {A : Option Addr} {n c : Nat} (w : World) : RetP 33 #[.slice A n c] w fun x w' => ∃ bx, x = .func (.func 47) #[] #[D bx] ∧ Own w w' [(bx, #[.slice A n c], 75)] := by
  go_enter Try.func33, Try.ntmps33
  have hO := Own.start w
  go_upto_region 0 with (fail)
  refine wp_region_list (WL.out ?_)
  refine g_new hO (fun q => D q) (#[.slice A n c]) 75 (fit_ssit) ((by kernel_rfl)) ?_
  intro n1 w1 hb1 hO
  replace hO : Own w w1 [(n1, #[.slice A n c], 75)] := hO
  refine g_val (.nilFunc) ?_
  refine g_nil ?_
  simp only [Act.put, List.setIfInBounds_toArray, List.set_cons_succ, List.set_cons_zero]
  go_upto_region 1 with (fail)
  refine wp_region_list (WL.out ?_)
  refine g_val (.func (.func 47) #[] #[D n1]) ?_
  refine g_val (.func (.func 47) #[] #[D n1]) ?_
  refine g_nil ?_
  simp only [Act.put, List.setIfInBounds_toArray, List.set_cons_succ, List.set_cons_zero]
  have HO := hide hO
  clear hO
  go_wp2_with (fail)
  go_ret
  exact ⟨_, rfl, _, rfl, HO.out⟩
set_option maxHeartbeats 8000000 in
theorem Back1_c {l bx g L d : Nat} {v : Nat → Value} {J : Nat → World → Prop} (hL1 : 1 ≤ L) (hL : L ≤ 2 ^ 40) (hG : ∀ k W, J k W → Blk W bx #[.slice (some ⟨g, 0, none⟩) L (L + d)] 75 ∧ Blk W g (cl (zc 1 zvS) ((L + d) * 1) (L * 1) v) 76) (hY : ∀ k W, k < L → J k W → YieldAt Fence.wide (2 - 1) Try.prog l #[Nv .i64 (L - 1 - k), v (L - 1 - k)] W fun e W' => e = .returned (.bool true) ∧ J (k + 1) W') (W : World) (h0 : J 0 W) : CallsIn Fence.wide (3 - 1) Try.prog 47 #[.func (.yield l) #[] #[], D bx] W fun e W' => (∃ v, e = .returned v) ∧ J L W' := by
  refine callsIn_wide.2 ?_
  go_enter Try.func47, Try.ntmps47
  go_upto_region 0 with (fail)
  refine wp_region_list (WL.out ?_)
  refine g_la (.slice (some ⟨g, 0, none⟩) L (L + d)) (((hG 0 W h0).1.cell 0).trans rfl) agg_ssit ?_
  refine g_val (Nv .i64 L) ?_
  refine g_val (Nv .i64 (L - 1)) ?_ (B.sub_int (a := L) (c := 1) (d := L - 1) (by omega) (by omega) W)
  refine g_val (Nv .i64 (L - 1)) ?_
  refine g_nil ?_
  simp only [Act.put, List.setIfInBounds_toArray, List.set_cons_succ, List.set_cons_zero]
  go_wp2_with (fail)
  go_loopw [3] (fun x3 wr => ∃ k, ((k = L ∧ x3 = .int .i64 (-1)) ∨ (k < L ∧ x3 = Nv .i64 (L - 1 - k))) ∧ J k wr) (fun x3 _ => (intOf x3 + 1).toNat)
  case atStart => exact ⟨0, .inr ⟨by omega, by rw [Nat.sub_zero]⟩, h0⟩
  case round =>
    obtain ⟨k, hk, hJ⟩ := hrel
    rcases hk with ⟨rfl, rfl⟩ | ⟨hk, rfl⟩
    · have hJ9 := hJ
      go_upto_region 1 with (fail)
      refine wp_region_list (WL.out ?_)
      refine g_val (.int .i64 (-1)) ?_
      refine g_val (.bool false) ?_
      refine g_nil ?_
      simp only [Act.put, List.setIfInBounds_toArray, List.set_cons_succ, List.set_cons_zero]
      go_wp2_with (fail)
      go_end0
      exact ⟨⟨_, rfl⟩, hJ9⟩
    · obtain ⟨j, hj⟩ : ∃ j, L - 1 - k = j := ⟨_, rfl⟩
      have hY9 := hY k wr hk hJ
      have hG9 := hG k wr hJ
      rw [hj] at hY9 ⊢
      have hjL : j < L := by omega
      have hj40 : j < 2 ^ 40 := by omega
      go_upto_region 1 with (fail)
      refine wp_region_list (WL.out ?_)
      refine g_val (Nv .i64 j) ?_
      refine g_val (.bool true) ?_ (B.geq_int (a := j) (c := 0) (b := true) (decide_eq_true (Nat.zero_le _)) wr)
      refine g_nil ?_
      simp only [Act.put, List.setIfInBounds_toArray, List.set_cons_succ, List.set_cons_zero]
      go_upto_region 3 with (fail)
      refine wpIn_wide.1 (wpIn_region_list (n := 2) ?_)
      refine iv (.func (.yield l) #[] #[]) ?_
      refine iv (Nv .i64 j) ?_
      refine iv (.slice (some ⟨g, 0, none⟩) L (L + d)) ?_ (ld_cell 75 agg_ssit rfl (bk := bx) (k := 0) (by kernel_rfl) ((hG9.1.cell 0).trans rfl))
      refine iv (Nv .i64 j) ?_
      refine iv (E g (j * 1)) ?_ (b_ixr (q := g) (n := L) (c := L + d) (k := j) (s := 1) hjL Try.underlying75 sz_sit wr)
      refine iv (v j) ?_ (ld_cell 76 agg_sit rfl (bk := g) (k := j * 1) (by kernel_rfl) ((hG9.2.cell (j * 1)).trans (by rw [cl_at _ _ _ _ _ (by omega) (by omega), Nat.mul_one])))
      refine ir hY9 (fun w1 hJ1 => ?_)
      refine iv (.bool false) ?_
      refine wpListIn_nil ?_
      simp only [Act.put, List.setIfInBounds_toArray, List.set_cons_succ, List.set_cons_zero]
      clear hY9 hG9
      by_cases hj0 : j = 0
      · obtain rfl := hj0
        go_upto_region 2 with (fail)
        refine wp_region_list (WL.out ?_)
        refine g_val (Nv .i64 0) ?_
        refine g_val (.int .i64 (-1)) ?_
        refine g_val (.int .i64 (-1)) ?_
        refine g_nil ?_
        simp only [Act.put, List.setIfInBounds_toArray, List.set_cons_succ, List.set_cons_zero]
        go_wp2_with (fail)
        go_roundw
        case rel => exact ⟨k + 1, .inl ⟨by omega, rfl⟩, hJ1⟩
        case measure => show (intOf (.int .i64 (-1)) + 1).toNat < (intOf (Nv .i64 0) + 1).toNat; decide
      · have hj0' := hj0
        go_upto_region 2 with (fail)
        refine wp_region_list (WL.out ?_)
        refine g_val (Nv .i64 j) ?_
        refine g_val (Nv .i64 (j - 1)) ?_ (B.sub_int (a := j) (c := 1) (d := j - 1) (by omega) (by omega) w1)
        refine g_val (Nv .i64 (j - 1)) ?_
        refine g_nil ?_
        simp only [Act.put, List.setIfInBounds_toArray, List.set_cons_succ, List.set_cons_zero]
        go_wp2_with (fail)
        go_roundw
        case rel => exact ⟨k + 1, .inr ⟨by omega, by rw [show L - 1 - (k + 1) = j - 1 by omega]⟩, hJ1⟩
        case measure => show (((j - 1 : Nat) : Int) + 1).toNat < (((j : Nat) : Int) + 1).toNat; omega
end Q
end Go.Proofs.Ytkljpidlfddgbaa

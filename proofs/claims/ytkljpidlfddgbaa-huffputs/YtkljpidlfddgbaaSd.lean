/- A comparison as a function value; insertionSort of package slices. At most 2^40 places; no other condition. -/
import Derived.Test.YtkljpidlfddgbaaSc
namespace Go.Proofs.Ytkljpidlfddgbaa
set_option maxRecDepth 100000
open Go.RowKit Rg B

namespace B
theorem run_cv {ρ : Operand → Value} {o : Oper} {x y z : Operand} {ts : Array TypeId} {g : FuncId} {lb : Array Value} (a b : Value) (eg : ∀ args w, (callFunc g args).run Try.prog w = .ok (.enter g args) w) (w : World) (ho : o.op = .call { callee := .value x, args := #[y, z], argTypes := ts } := by rfl) (hx : ρ x = .func (.func g) #[] lb := by kernel_rfl) (hy : ρ y = a := by kernel_rfl) (hz : ρ z = b := by kernel_rfl) : (execOp ρ o).run Try.prog w = .ok (.enter g (#[a, b] ++ lb)) w := by
  unfold execOp
  simp only [ho, resolve, hx]
  simp
  rw [hy, hz]
  simp [Deferred.ofValue, invoke]
  exact eg _ _
end B
namespace Q
open H
/-- A function value compares symbols by their keys, whatever the row that is sorted holds. -/
def CmpOK (g : FuncId) (lb : Array Value) (k : Nat → Nat) (K N n q : Nat) (u : World) (M : List Row) : Prop := ∀ (f : Nat → Nat) (w : World), Own u w ((q, cI N n f, 3) :: M) → ∀ x y, x < K → y < K → Ret g (#[Nv .i64 x, Nv .i64 y] ++ lb) w (.int .i64 (cm (k x) (k y)))
theorem ck_of {f g : Nat → Nat} {a b n K : Nat} (h : Bj a b f g) (hb : b ≤ n) (hK : ∀ i, i < n → f i < K) : ∀ i, i < n → g i < K := fun i hi => by
  by_cases h1 : a ≤ i ∧ i < b
  · obtain ⟨j, _, hj, e⟩ := h.img h1.1 h1.2
    rw [e]
    exact hK j (by omega)
  · rw [h.out h1]
    exact hK i hi
theorem cm_lt {a b : Nat} {p : Bool} (h : decide (a < b) = p) : decide (cm a b < 0) = p := (cm_neg a b).trans h
set_option maxHeartbeats 8000000 in
theorem InsS_c {N n c K : Nat} {g : FuncId} {lb : Array Value} {k : Nat → Nat} {a b : Nat} (eg : ∀ args w, (callFunc g args).run Try.prog w = .ok (.enter g args) w) (hN : n ≤ N) (hn : n ≤ 2 ^ 40) (hab : a ≤ b) (hb : b ≤ n) (q : Nat) (f0 : Nat → Nat) (hK : ∀ i, i < n → f0 i < K) (hs : Sb k f0 a b) (u : World) (M : List Row) (hcmp : CmpOK g lb k K N n q u M) (w : World) (hO : Own u w ((q, cI N n f0, 3) :: M)) :
    RetP 59 #[.slice (some ⟨q, 0, none⟩) n c, Nv .i64 a, Nv .i64 b, .func (.func g) #[] lb] w fun v w' => v = .tuple #[] ∧ ∃ f, Mgd k f0 f a b ∧ Own u w' ((q, cI N n f, 3) :: M) := by
  go_enter Try.func59, Try.ntmps59
  go_upto_region 0 with (fail)
  refine wp_region_list (WL.out ?_)
  refine g_val (Nv .i64 a) ?_
  refine g_val (Nv .i64 (a + 1)) ?_ (B.add_int (a := a) (c := 1) (d := a + 1) rfl (by omega) w)
  refine g_val (Nv .i64 (a + 1)) ?_
  refine g_nil ?_
  simp only [Act.put, List.setIfInBounds_toArray, List.set_cons_succ, List.set_cons_zero]
  have HO := hide hO
  have Hcmp := hide hcmp
  clear hO hcmp
  go_wp2_with (fail)
  go_loopw [8] (fun x8 wr => ∃ (i : Nat) (f : Nat → Nat), x8 = .int .i64 (i : Int) ∧ a < i ∧ (i ≤ b ∨ i = a + 1) ∧ Bj a b f0 f ∧ So k f a i ∧ Sb k f a b ∧ Own u wr ((q, cI N n f, 3) :: M)) (fun x8 _ => b - (intOf x8).toNat)
  case atStart => exact ⟨a + 1, f0, rfl, by omega, .inr rfl, Bj.refl .., fun i j h1 h2 h3 => by omega, hs, HO.out⟩
  case round =>
    clear HO
    obtain ⟨i, f, rfl, hai, hib, hj, hso, hsb, hO⟩ := hrel
    by_cases hz : i < b
    · have hz' := hz
      go_upto_region 1 with (fail)
      refine wp_region_list (WL.out ?_)
      refine g_val (Nv .i64 i) ?_
      refine g_val (Nv .i64 b) ?_
      refine g_val (.bool true) ?_ (B.lss_int (a := i) (c := b) (b := true) (decide_eq_true hz) wr)
      refine g_nil ?_
      simp only [Act.put, List.setIfInBounds_toArray, List.set_cons_succ, List.set_cons_zero]
      go_upto_region 3 with (fail)
      refine wp_region_list (WL.out ?_)
      refine g_val (Nv .i64 i) ?_
      refine g_val (Nv .i64 i) ?_
      refine g_nil ?_
      simp only [Act.put, List.setIfInBounds_toArray, List.set_cons_succ, List.set_cons_zero]
      have HO := hide hO
      clear hO
      go_wp2_with (fail)
      go_loopw [9] (fun x9 wr => ∃ (j : Nat) (f1 : Nat → Nat), x9 = .int .i64 (j : Int) ∧ a ≤ j ∧ j ≤ i ∧ Bj a b f0 f1 ∧ Ins k f1 a i j ∧ Sb k f1 a b ∧ Own u wr ((q, cI N n f1, 3) :: M)) (fun x9 _ => (intOf x9).toNat)
      case atStart => exact ⟨i, f, rfl, by omega, Nat.le_refl _, hj, ins_start hso, hsb, HO.out⟩
      case round =>
        clear HO hj hso hsb f
        obtain ⟨j, f, rfl, haj, hji, hj, hins, hsb, hO⟩ := hrel
        have hK1 := ck_of hj hb hK
        by_cases hgt : a < j
        · have hgt' := hgt
          have hj9 : j < n := by omega
          have hj8 : j - 1 < n := by omega
          have hcmp := Hcmp.out
          cases hc : decide (k (f j) < k (f (j - 1))) with
          | true =>
            have hlt : k (f j) < k (f (j - 1)) := of_decide_eq_true hc
            go_upto_region 4 with (fail)
            refine Rg.pd [14] (fun _ => [(18, Nv .i64 j), (19, Nv .i64 a), (20, .bool true), (21, .bool true), (22, .func (.func g) #[] lb), (23, .slice (some ⟨q, 0, none⟩) n c), (24, Nv .i64 j), (25, E q j), (26, Nv .i64 (f j)), (27, .slice (some ⟨q, 0, none⟩) n c), (28, Nv .i64 j), (29, Nv .i64 (j - 1)), (30, E q (j - 1)), (31, Nv .i64 (f (j - 1))), (32, .int .i64 (cm (k (f j)) (k (f (j - 1))))), (33, .bool true), (34, .bool true)]) (OI u (fun s ν => [((q, cI N n f, 3) :: M), ((q, cI N n f, 3) :: M)].getD s [])) (fun _ => 0) hO.drew (Rg.ac nv (Rg.ac nv (Rg.ac (nx (fun _ => .bool true) (fun _ w => B.gtr_int (a := j) (c := a) (b := true) (decide_eq_true hgt) w)) (Rg.ac nv (Rg.ac nv (Rg.ac nv (Rg.ac nv (Rg.ac (nx (fun _ => E q j) (fun _ w => b_isq (n := n) (c := c) hj9 Try.underlying25 sz_int w)) (Rg.ac (nc 0 0 0 (fun _ => j) (fun _ => Nv .i64 (f j)) B.agg_int (fun _ => cI_get hN f hj9) (at1 0 fun _ => by kernel_rfl)) (Rg.ac nv (Rg.ac nv (Rg.ac (nx (fun _ => Nv .i64 (j - 1)) (fun _ w => B.sub_int (a := j) (c := 1) (d := j - 1) (by omega) (by omega) w)) (Rg.ac (nx (fun _ => E q (j - 1)) (fun _ w => b_isq (n := n) (c := c) hj8 Try.underlying25 sz_int w)) (Rg.ac (nc 0 0 0 (fun _ => j - 1) (fun _ => Nv .i64 (f (j - 1))) B.agg_int (fun _ => cI_get hN f hj8) (at1 0 fun _ => by kernel_rfl)) (Rg.ac (sq 0 g (fun _ => #[Nv .i64 (f j), Nv .i64 (f (j - 1))] ++ lb) (fun _ => .int .i64 (cm (k (f j)) (k (f (j - 1))))) (fun ν w hO => hcmp f w hO _ _ (hK1 _ hj9) (hK1 _ hj8)) (hrun := fun _ w => run_cv (Nv .i64 (f j)) (Nv .i64 (f (j - 1))) eg w)) (Rg.ac (nx (fun _ => .bool true) (fun _ w => lssI_int (a := cm (k (f j)) (k (f (j - 1)))) (c := 0) (cm_lt hc) w)) (Rg.ac nv Rg.an))))))))))))))))) ?_
            intro ν w1 hO
            replace hO : Own u w1 ((q, cI N n f, 3) :: M) := hO
            simp only [Rg.putL, Act.put, List.setIfInBounds_toArray, List.set_cons_succ, List.set_cons_zero]
            clear ν
            clear hcmp
            have hst := ins_step hins hgt hji hlt
            have hsb2 : Sb k (sw f (j - 1) j) a b := by rw [sw_rot f (by omega)]; exact sb_rot hsb (by omega) (by omega) (by omega) (by omega) (fun x y hx hx' hy hy' => by rw [show x = j - 1 by omega, show y = j by omega]; exact hlt)
            have hj2 := hj.trans (bj_sw f (show a ≤ j - 1 by omega) (show j - 1 < b by omega) haj (show j < b by omega))
            go_upto_region 6 with (fail)
            refine Rg.pd [15, 17] (fun _ => [(37, .slice (some ⟨q, 0, none⟩) n c), (38, Nv .i64 j), (39, .slice (some ⟨q, 0, none⟩) n c), (40, Nv .i64 j), (41, Nv .i64 (j - 1)), (42, .slice (some ⟨q, 0, none⟩) n c), (43, Nv .i64 j), (44, Nv .i64 (j - 1)), (45, E q (j - 1)), (46, Nv .i64 (f (j - 1))), (47, .slice (some ⟨q, 0, none⟩) n c), (48, Nv .i64 j), (49, E q j), (50, Nv .i64 (f j)), (51, E q j), (52, E q (j - 1))]) (OI u (fun s ν => [((q, cI N n f, 3) :: M), ((q, cI N n (fun x => if x = j then f (j - 1) else f x), 3) :: M), ((q, cI N n (fun x => if x = j - 1 then f j else (if x = j then f (j - 1) else f x)), 3) :: M)].getD s [])) (fun _ => 0) hO.drew (Rg.ac nv (Rg.ac nv (Rg.ac nv (Rg.ac nv (Rg.ac (nx (fun _ => Nv .i64 (j - 1)) (fun _ w => B.sub_int (a := j) (c := 1) (d := j - 1) (by omega) (by omega) w)) (Rg.ac nv (Rg.ac nv (Rg.ac (nx (fun _ => Nv .i64 (j - 1)) (fun _ w => B.sub_int (a := j) (c := 1) (d := j - 1) (by omega) (by omega) w)) (Rg.ac (nx (fun _ => E q (j - 1)) (fun _ w => b_isq (n := n) (c := c) hj8 Try.underlying25 sz_int w)) (Rg.ac (nc 0 0 0 (fun _ => j - 1) (fun _ => Nv .i64 (f (j - 1))) B.agg_int (fun _ => cI_get hN f hj8) (at1 0 fun _ => by kernel_rfl)) (Rg.ac nv (Rg.ac nv (Rg.ac (nx (fun _ => E q j) (fun _ w => b_isq (n := n) (c := c) hj9 Try.underlying25 sz_int w)) (Rg.ac (nc 0 0 0 (fun _ => j) (fun _ => Nv .i64 (f j)) B.agg_int (fun _ => cI_get hN f hj9) (at1 0 fun _ => by kernel_rfl)) (Rg.ac (nx (fun _ => E q j) (fun _ w => b_isq (n := n) (c := c) hj9 Try.underlying25 sz_int w)) (Rg.ac (sl 0 0 (fun _ => j) (fun _ => .int .i64 ((f j : Nat) : Int)) (fun _ => ((f (j - 1) : Nat) : Int)) B.sz_int (fun _ => cI_get hN f hj9) (fun _ => cI_set hN f _ hj9) (fun _ => fit_cI _ _ _)) (Rg.ac (nx (fun _ => E q (j - 1)) (fun _ w => b_isq (n := n) (c := c) hj8 Try.underlying25 sz_int w)) (Rg.ac (sl 1 0 (fun _ => j - 1) (fun _ => .int .i64 ((if j - 1 = j then f (j - 1) else f (j - 1) : Nat) : Int)) (fun _ => ((f j : Nat) : Int)) B.sz_int (fun _ => cI_get hN (fun x => if x = j then f (j - 1) else f x) hj8) (fun _ => cI_set hN (fun x => if x = j then f (j - 1) else f x) _ hj8) (fun _ => fit_cI _ _ _)) Rg.an)))))))))))))))))) ?_
            intro ν w2 hO
            replace hO : Own u w2 ((q, cI N n (fun x => if x = j - 1 then f j else (if x = j then f (j - 1) else f x)), 3) :: M) := hO
            simp only [Rg.putL, Act.put, List.setIfInBounds_toArray, List.set_cons_succ, List.set_cons_zero]
            clear ν
            rw [sw_two f (show j ≠ j - 1 by omega)] at hO
            rw [sw_comm f j (j - 1)] at hO
            have HO := hide hO
            clear hO hins
            go_upto_region 5 with (fail)
            refine wp_region_list (WL.out ?_)
            refine g_val (Nv .i64 j) ?_
            refine g_val (Nv .i64 (j - 1)) ?_ (B.sub_int (a := j) (c := 1) (d := j - 1) (by omega) (by omega) w2)
            refine g_val (Nv .i64 (j - 1)) ?_
            refine g_nil ?_
            simp only [Act.put, List.setIfInBounds_toArray, List.set_cons_succ, List.set_cons_zero]
            go_wp2_with (fail)
            go_roundw
            case rel => exact ⟨j - 1, _, rfl, by omega, by omega, hj2, hst, hsb2, HO.out⟩
            case measure => show ((j - 1 : Nat) : Int).toNat < ((j : Nat) : Int).toNat; omega
          | false =>
            have hlt : ¬ k (f j) < k (f (j - 1)) := of_decide_eq_false hc
            go_upto_region 4 with (fail)
            refine Rg.pd [14] (fun _ => [(18, Nv .i64 j), (19, Nv .i64 a), (20, .bool true), (21, .bool true), (22, .func (.func g) #[] lb), (23, .slice (some ⟨q, 0, none⟩) n c), (24, Nv .i64 j), (25, E q j), (26, Nv .i64 (f j)), (27, .slice (some ⟨q, 0, none⟩) n c), (28, Nv .i64 j), (29, Nv .i64 (j - 1)), (30, E q (j - 1)), (31, Nv .i64 (f (j - 1))), (32, .int .i64 (cm (k (f j)) (k (f (j - 1))))), (33, .bool false), (34, .bool false)]) (OI u (fun s ν => [((q, cI N n f, 3) :: M), ((q, cI N n f, 3) :: M)].getD s [])) (fun _ => 0) hO.drew (Rg.ac nv (Rg.ac nv (Rg.ac (nx (fun _ => .bool true) (fun _ w => B.gtr_int (a := j) (c := a) (b := true) (decide_eq_true hgt) w)) (Rg.ac nv (Rg.ac nv (Rg.ac nv (Rg.ac nv (Rg.ac (nx (fun _ => E q j) (fun _ w => b_isq (n := n) (c := c) hj9 Try.underlying25 sz_int w)) (Rg.ac (nc 0 0 0 (fun _ => j) (fun _ => Nv .i64 (f j)) B.agg_int (fun _ => cI_get hN f hj9) (at1 0 fun _ => by kernel_rfl)) (Rg.ac nv (Rg.ac nv (Rg.ac (nx (fun _ => Nv .i64 (j - 1)) (fun _ w => B.sub_int (a := j) (c := 1) (d := j - 1) (by omega) (by omega) w)) (Rg.ac (nx (fun _ => E q (j - 1)) (fun _ w => b_isq (n := n) (c := c) hj8 Try.underlying25 sz_int w)) (Rg.ac (nc 0 0 0 (fun _ => j - 1) (fun _ => Nv .i64 (f (j - 1))) B.agg_int (fun _ => cI_get hN f hj8) (at1 0 fun _ => by kernel_rfl)) (Rg.ac (sq 0 g (fun _ => #[Nv .i64 (f j), Nv .i64 (f (j - 1))] ++ lb) (fun _ => .int .i64 (cm (k (f j)) (k (f (j - 1))))) (fun ν w hO => hcmp f w hO _ _ (hK1 _ hj9) (hK1 _ hj8)) (hrun := fun _ w => run_cv (Nv .i64 (f j)) (Nv .i64 (f (j - 1))) eg w)) (Rg.ac (nx (fun _ => .bool false) (fun _ w => lssI_int (a := cm (k (f j)) (k (f (j - 1)))) (c := 0) (cm_lt hc) w)) (Rg.ac nv Rg.an))))))))))))))))) ?_
            intro ν w1 hO
            replace hO : Own u w1 ((q, cI N n f, 3) :: M) := hO
            simp only [Rg.putL, Act.put, List.setIfInBounds_toArray, List.set_cons_succ, List.set_cons_zero]
            clear ν
            clear hcmp
            have HR := hide (ins_end hins (.inr (by omega)))
            have HO := hide hO
            clear hO hins
            go_upto_region 2 with (fail)
            refine wp_region_list (WL.out ?_)
            refine g_val (Nv .i64 i) ?_
            refine g_val (Nv .i64 (i + 1)) ?_ (B.add_int (a := i) (c := 1) (d := i + 1) rfl (by omega) w1)
            refine g_val (Nv .i64 (i + 1)) ?_
            refine g_nil ?_
            simp only [Act.put, List.setIfInBounds_toArray, List.set_cons_succ, List.set_cons_zero]
            go_wp2_with (fail)
            go_roundw
            case rel => exact ⟨i + 1, f, rfl, by omega, .inl hz', hj, HR.out, hsb, HO.out⟩
            case measure => show b - ((i + 1 : Nat) : Int).toNat < b - ((i : Nat) : Int).toNat; omega
        · have hgt' := hgt
          go_upto_region 4 with (fail)
          refine Rg.pd [] (fun _ => [(18, Nv .i64 j), (19, Nv .i64 a), (20, .bool false), (21, .bool false), (22, U), (23, U), (24, U), (25, U), (26, U), (27, U), (28, U), (29, U), (30, U), (31, U), (32, U), (33, U), (34, .bool false)]) (OI u (fun _ _ => ((q, cI N n f, 3) :: M))) (fun _ => 0) hO.drew (Rg.ac nv (Rg.ac nv (Rg.ac (nx (fun _ => .bool false) (fun _ w => B.gtr_int (a := j) (c := a) (b := false) (decide_eq_false hgt) w)) (Rg.ac nv (Rg.ac nk (Rg.ac nk (Rg.ac nk (Rg.ac nk (Rg.ac nk (Rg.ac nk (Rg.ac nk (Rg.ac nk (Rg.ac nk (Rg.ac nk (Rg.ac nk (Rg.ac nk (Rg.ac nv Rg.an))))))))))))))))) ?_
          intro ν w1 hO
          replace hO : Own u w1 ((q, cI N n f, 3) :: M) := hO
          simp only [Rg.putL, Act.put, List.setIfInBounds_toArray, List.set_cons_succ, List.set_cons_zero]
          clear ν
          have HR := hide (ins_end hins (.inl (by omega)))
          have HO := hide hO
          clear hO hins
          go_upto_region 2 with (fail)
          refine wp_region_list (WL.out ?_)
          refine g_val (Nv .i64 i) ?_
          refine g_val (Nv .i64 (i + 1)) ?_ (B.add_int (a := i) (c := 1) (d := i + 1) rfl (by omega) w1)
          refine g_val (Nv .i64 (i + 1)) ?_
          refine g_nil ?_
          simp only [Act.put, List.setIfInBounds_toArray, List.set_cons_succ, List.set_cons_zero]
          go_wp2_with (fail)
          go_roundw
          case rel => exact ⟨i + 1, f, rfl, by omega, .inl hz', hj, HR.out, hsb, HO.out⟩
          case measure => show b - ((i + 1 : Nat) : Int).toNat < b - ((i : Nat) : Int).toNat; omega
    · have hz' := hz
      go_upto_region 1 with (fail)
      refine wp_region_list (WL.out ?_)
      refine g_val (Nv .i64 i) ?_
      refine g_val (Nv .i64 b) ?_
      refine g_val (.bool false) ?_ (B.lss_int (a := i) (c := b) (b := false) (decide_eq_false hz) wr)
      refine g_nil ?_
      simp only [Act.put, List.setIfInBounds_toArray, List.set_cons_succ, List.set_cons_zero]
      have HO := hide hO
      clear hO
      go_wp2_with (fail)
      go_end0
      exact ⟨_, rfl, rfl, f, ⟨hj, hso.mono (Nat.le_refl _) (by omega), hsb⟩, HO.out⟩
end Q
end Go.Proofs.Ytkljpidlfddgbaa

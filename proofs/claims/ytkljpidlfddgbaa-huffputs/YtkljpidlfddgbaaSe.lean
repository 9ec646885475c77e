/- symMerge of package slices. At most 2^40 places; no other condition. -/
import Derived.Test.YtkljpidlfddgbaaSd
import Derived.Test.YtkljpidlfddgbaaRl
namespace Go.Proofs.Ytkljpidlfddgbaa
set_option maxRecDepth 100000
open Go.RowKit Rg B

namespace Q
open H
set_option maxHeartbeats 16000000 in
theorem SymA_c {N n c K : Nat} {g : FuncId} {lb : Array Value} {k : Nat → Nat} {a m b : Nat} (eg : ∀ args w, (callFunc g args).run Try.prog w = .ok (.enter g args) w) (hN : n ≤ N) (hn : n ≤ 2 ^ 40) (ham : m = a + 1) (hmb : m < b) (hb : b ≤ n) (q : Nat) (f : Nat → Nat) (hK : ∀ i, i < n → f i < K) (hB : So k f m b) (hs : Sb k f a b) (u : World) (M : List Row) (hcmp : CmpOK g lb k K N n q u M) (w : World) (hO : Own u w ((q, cI N n f, 3) :: M)) :
    RetP 60 #[.slice (some ⟨q, 0, none⟩) n c, Nv .i64 a, Nv .i64 m, Nv .i64 b, .func (.func g) #[] lb] w fun v w' => v = .tuple #[] ∧ ∃ f', Mgd k f f' a b ∧ Own u w' ((q, cI N n f', 3) :: M) := by
  go_enter Try.func60, Try.ntmps60
  have Hcmp := hide hcmp
  clear hcmp
  go_upto_region 0 with (fail)
  refine wp_region_list (WL.out ?_)
  refine g_val (Nv .i64 m) ?_
  refine g_val (Nv .i64 a) ?_
  refine g_val (Nv .i64 1) ?_ (B.sub_int (a := m) (c := a) (d := 1) (by omega) (by omega) w)
  refine g_val (.bool true) ?_ (B.eql_int (a := 1) (c := 1) (b := true) (rfl) w)
  refine g_nil ?_
  simp only [Act.put, List.setIfInBounds_toArray, List.set_cons_succ, List.set_cons_zero]
  go_upto_region 1 with (fail)
  refine wp_region_list (WL.out ?_)
  refine g_val (Nv .i64 m) ?_
  refine g_val (Nv .i64 m) ?_
  refine g_nil ?_
  simp only [Act.put, List.setIfInBounds_toArray, List.set_cons_succ, List.set_cons_zero]
  go_upto_region 2 with (fail)
  refine wp_region_list (WL.out ?_)
  refine g_val (Nv .i64 b) ?_
  refine g_val (Nv .i64 b) ?_
  refine g_nil ?_
  simp only [Act.put, List.setIfInBounds_toArray, List.set_cons_succ, List.set_cons_zero]
  have HO := hide hO
  clear hO
  go_wp2_with (fail)
  go_loopw [10, 11] (fun x10 x11 wr => ∃ (i j : Nat), x10 = .int .i64 (i : Int) ∧ x11 = .int .i64 (j : Int) ∧ m ≤ i ∧ i ≤ j ∧ j ≤ b ∧ (i = m ∨ k (f (i - 1)) < k (f a)) ∧ (j = b ∨ k (f a) ≤ k (f j)) ∧ Own u wr ((q, cI N n f, 3) :: M)) (fun x10 x11 _ => (intOf x11).toNat - (intOf x10).toNat)
  case atStart => exact ⟨m, b, rfl, rfl, Nat.le_refl _, by omega, Nat.le_refl _, .inl rfl, .inl rfl, HO.out⟩
  case round =>
    clear HO
    obtain ⟨i, j, rfl, rfl, hi1, hij, hj1, hp1, hp2, hO⟩ := hrel
    by_cases hz : i < j
    · have hz' := hz
      obtain ⟨h, hh⟩ : ∃ h, (i + j) / 2 = h := ⟨_, rfl⟩
      have hh1 : i ≤ h ∧ h < j := by omega
      go_upto_region 3 with (fail)
      refine wp_region_list (WL.out ?_)
      refine g_val (Nv .i64 i) ?_
      refine g_val (Nv .i64 j) ?_
      refine g_val (.bool true) ?_ (B.lss_int (a := i) (c := j) (b := true) (decide_eq_true hz) wr)
      refine g_nil ?_
      simp only [Act.put, List.setIfInBounds_toArray, List.set_cons_succ, List.set_cons_zero]
      go_upto_region 4 with (fail)
      refine wp_region_list (WL.out ?_)
      refine g_val (Nv .i64 i) ?_
      refine g_val (Nv .i64 j) ?_
      refine g_val (Nv .i64 (i + j)) ?_ (B.add_int (a := i) (c := j) (d := i + j) rfl (by omega) wr)
      refine g_val (Nv .u64 (i + j)) ?_ (B.c_int_uint (a := i + j) (d := i + j) rfl (by omega) wr)
      refine g_val (Nv .u64 h) ?_ (B.shr_uint_uint (a := i + j) (s := 1) (d := h) hh (by omega) wr)
      refine g_val (Nv .i64 h) ?_ (B.c_uint_int (a := h) (d := h) rfl (by omega) wr)
      refine g_val (Nv .i64 h) ?_
      refine g_nil ?_
      simp only [Act.put, List.setIfInBounds_toArray, List.set_cons_succ, List.set_cons_zero]
      clear hh
      have hcmp := Hcmp.out
      cases hc : decide (k (f h) < k (f a)) with
      | true =>
        have hlt : (k (f h) < k (f a)) := of_decide_eq_true hc
        go_upto_region 5 with (fail)
        refine Rg.pd [9] (fun _ => [(40, .func (.func g) #[] lb), (41, .slice (some ⟨q, 0, none⟩) n c), (42, Nv .i64 h), (43, E q h), (44, Nv .i64 (f h)), (45, .slice (some ⟨q, 0, none⟩) n c), (46, Nv .i64 a), (47, E q a), (48, Nv .i64 (f a)), (49, .int .i64 (cm (k (f h)) (k (f a)))), (50, .bool true)]) (OI u (fun s ν => [((q, cI N n f, 3) :: M), ((q, cI N n f, 3) :: M)].getD s [])) (fun _ => 0) hO.drew (Rg.ac nv (Rg.ac nv (Rg.ac nv (Rg.ac (nx (fun _ => E q h) (fun _ w => b_isq (n := n) (c := c) (show h < n by omega) Try.underlying25 sz_int w)) (Rg.ac (nc 0 0 0 (fun _ => h) (fun _ => Nv .i64 (f h)) B.agg_int (fun _ => cI_get hN f (show h < n by omega)) (at1 0 fun _ => by kernel_rfl)) (Rg.ac nv (Rg.ac nv (Rg.ac (nx (fun _ => E q a) (fun _ w => b_isq (n := n) (c := c) (show a < n by omega) Try.underlying25 sz_int w)) (Rg.ac (nc 0 0 0 (fun _ => a) (fun _ => Nv .i64 (f a)) B.agg_int (fun _ => cI_get hN f (show a < n by omega)) (at1 0 fun _ => by kernel_rfl)) (Rg.ac (sq 0 g (fun _ => #[Nv .i64 (f h), Nv .i64 (f a)] ++ lb) (fun _ => .int .i64 (cm (k (f h)) (k (f a)))) (fun ν w hO => hcmp f w hO _ _ (hK _ (by omega)) (hK _ (by omega))) (hrun := fun _ w => run_cv (Nv .i64 (f h)) (Nv .i64 (f a)) eg w)) (Rg.ac (nx (fun _ => .bool true) (fun _ w => lssI_int (a := cm (k (f h)) (k (f a))) (c := 0) (cm_lt hc) w)) Rg.an))))))))))) ?_
        intro ν w1 hO
        replace hO : Own u w1 ((q, cI N n f, 3) :: M) := hO
        simp only [Rg.putL, Act.put, List.setIfInBounds_toArray, List.set_cons_succ, List.set_cons_zero]
        clear ν
        clear hcmp
        have HO := hide hO
        clear hO
        go_upto_region 6 with (fail)
        refine wp_region_list (WL.out ?_)
        refine g_val (Nv .i64 h) ?_
        refine g_val (Nv .i64 (h + 1)) ?_ (B.add_int (a := h) (c := 1) (d := h + 1) rfl (by omega) w1)
        refine g_val (Nv .i64 (h + 1)) ?_
        refine g_nil ?_
        simp only [Act.put, List.setIfInBounds_toArray, List.set_cons_succ, List.set_cons_zero]
        go_wp2_with (fail)
        go_roundw
        case rel => exact ⟨h + 1, j, rfl, rfl, by omega, by omega, hj1, .inr (by rw [Nat.add_sub_cancel]; omega), hp2, HO.out⟩
        case measure => show ((j : Nat) : Int).toNat - ((h + 1 : Nat) : Int).toNat < ((j : Nat) : Int).toNat - ((i : Nat) : Int).toNat; omega
      | false =>
        have hlt : ¬ (k (f h) < k (f a)) := of_decide_eq_false hc
        go_upto_region 5 with (fail)
        refine Rg.pd [9] (fun _ => [(40, .func (.func g) #[] lb), (41, .slice (some ⟨q, 0, none⟩) n c), (42, Nv .i64 h), (43, E q h), (44, Nv .i64 (f h)), (45, .slice (some ⟨q, 0, none⟩) n c), (46, Nv .i64 a), (47, E q a), (48, Nv .i64 (f a)), (49, .int .i64 (cm (k (f h)) (k (f a)))), (50, .bool false)]) (OI u (fun s ν => [((q, cI N n f, 3) :: M), ((q, cI N n f, 3) :: M)].getD s [])) (fun _ => 0) hO.drew (Rg.ac nv (Rg.ac nv (Rg.ac nv (Rg.ac (nx (fun _ => E q h) (fun _ w => b_isq (n := n) (c := c) (show h < n by omega) Try.underlying25 sz_int w)) (Rg.ac (nc 0 0 0 (fun _ => h) (fun _ => Nv .i64 (f h)) B.agg_int (fun _ => cI_get hN f (show h < n by omega)) (at1 0 fun _ => by kernel_rfl)) (Rg.ac nv (Rg.ac nv (Rg.ac (nx (fun _ => E q a) (fun _ w => b_isq (n := n) (c := c) (show a < n by omega) Try.underlying25 sz_int w)) (Rg.ac (nc 0 0 0 (fun _ => a) (fun _ => Nv .i64 (f a)) B.agg_int (fun _ => cI_get hN f (show a < n by omega)) (at1 0 fun _ => by kernel_rfl)) (Rg.ac (sq 0 g (fun _ => #[Nv .i64 (f h), Nv .i64 (f a)] ++ lb) (fun _ => .int .i64 (cm (k (f h)) (k (f a)))) (fun ν w hO => hcmp f w hO _ _ (hK _ (by omega)) (hK _ (by omega))) (hrun := fun _ w => run_cv (Nv .i64 (f h)) (Nv .i64 (f a)) eg w)) (Rg.ac (nx (fun _ => .bool false) (fun _ w => lssI_int (a := cm (k (f h)) (k (f a))) (c := 0) (cm_lt hc) w)) Rg.an))))))))))) ?_
        intro ν w1 hO
        replace hO : Own u w1 ((q, cI N n f, 3) :: M) := hO
        simp only [Rg.putL, Act.put, List.setIfInBounds_toArray, List.set_cons_succ, List.set_cons_zero]
        clear ν
        clear hcmp
        have HO := hide hO
        clear hO
        go_upto_region 7 with (fail)
        refine wp_region_list (WL.out ?_)
        refine g_val (Nv .i64 h) ?_
        refine g_val (Nv .i64 h) ?_
        refine g_nil ?_
        simp only [Act.put, List.setIfInBounds_toArray, List.set_cons_succ, List.set_cons_zero]
        go_wp2_with (fail)
        go_roundw
        case rel => exact ⟨i, h, rfl, rfl, hi1, by omega, by omega, hp1, .inr (by omega), HO.out⟩
        case measure => show ((h : Nat) : Int).toNat - ((i : Nat) : Int).toNat < ((j : Nat) : Int).toNat - ((i : Nat) : Int).toNat; omega
    · obtain rfl : i = j := by omega
      go_upto_region 3 with (fail)
      refine wp_region_list (WL.out ?_)
      refine g_val (Nv .i64 i) ?_
      refine g_val (Nv .i64 i) ?_
      refine g_val (.bool false) ?_ (B.lss_int (a := i) (c := i) (b := false) (decide_eq_false hz) wr)
      refine g_nil ?_
      simp only [Act.put, List.setIfInBounds_toArray, List.set_cons_succ, List.set_cons_zero]
      go_upto_region 8 with (fail)
      refine wp_region_list (WL.out ?_)
      refine g_val (Nv .i64 a) ?_
      refine g_val (Nv .i64 a) ?_
      refine g_nil ?_
      simp only [Act.put, List.setIfInBounds_toArray, List.set_cons_succ, List.set_cons_zero]
      have HM := hide (one_up (k := k) (f := f) (a := a) (i := i) (b := b) (by rw [← ham]; exact hB) hs (by omega) hj1 (hp1.imp (fun h => by omega) id) hp2)
      have HO := hide hO
      clear hO
      go_wp2_with (fail)
      go_loopw [13] (fun x13 wr => ∃ (p : Nat), x13 = .int .i64 (p : Int) ∧ a ≤ p ∧ p ≤ i - 1 ∧ Own u wr ((q, cI N n (rot f a (a + 1) (p + 1)), 3) :: M)) (fun x13 _ => i - (intOf x13).toNat)
      case atStart => exact ⟨a, rfl, Nat.le_refl _, by omega, by rw [rot_r]; exact HO.out⟩
      case round =>
        clear HO
        obtain ⟨p, rfl, hp3, hp4, hO⟩ := hrel
        by_cases hz : p < i - 1
        · have hz' := hz
          go_upto_region 9 with (fail)
          refine wp_region_list (WL.out ?_)
          refine g_val (Nv .i64 p) ?_
          refine g_val (Nv .i64 i) ?_
          refine g_val (Nv .i64 (i - 1)) ?_ (B.sub_int (a := i) (c := 1) (d := i - 1) (by omega) (by omega) wr)
          refine g_val (.bool true) ?_ (B.lss_int (a := p) (c := i - 1) (b := true) (decide_eq_true hz) wr)
          refine g_nil ?_
          simp only [Act.put, List.setIfInBounds_toArray, List.set_cons_succ, List.set_cons_zero]
          have hnx := rot_up f hp3
          obtain ⟨f2, hf2⟩ : ∃ f2, f2 = rot f a (a + 1) (p + 1) := ⟨_, rfl⟩
          rw [← hf2] at hO hnx
          go_upto_region 11 with (fail)
          refine Rg.pd [15, 17] (fun _ => [(61, .slice (some ⟨q, 0, none⟩) n c), (62, Nv .i64 p), (63, .slice (some ⟨q, 0, none⟩) n c), (64, Nv .i64 p), (65, Nv .i64 (p + 1)), (66, .slice (some ⟨q, 0, none⟩) n c), (67, Nv .i64 p), (68, Nv .i64 (p + 1)), (69, E q (p + 1)), (70, Nv .i64 (f2 (p + 1))), (71, .slice (some ⟨q, 0, none⟩) n c), (72, Nv .i64 p), (73, E q p), (74, Nv .i64 (f2 p)), (75, E q p), (76, E q (p + 1))]) (OI u (fun s ν => [((q, cI N n f2, 3) :: M), ((q, cI N n (fun x => if x = p then f2 (p + 1) else f2 x), 3) :: M), ((q, cI N n (fun x => if x = p + 1 then f2 p else (if x = p then f2 (p + 1) else f2 x)), 3) :: M)].getD s [])) (fun _ => 0) hO.drew (Rg.ac nv (Rg.ac nv (Rg.ac nv (Rg.ac nv (Rg.ac (nx (fun _ => Nv .i64 (p + 1)) (fun _ w => B.add_int (a := p) (c := 1) (d := p + 1) rfl (by omega) w)) (Rg.ac nv (Rg.ac nv (Rg.ac (nx (fun _ => Nv .i64 (p + 1)) (fun _ w => B.add_int (a := p) (c := 1) (d := p + 1) rfl (by omega) w)) (Rg.ac (nx (fun _ => E q (p + 1)) (fun _ w => b_isq (n := n) (c := c) (show p + 1 < n by omega) Try.underlying25 sz_int w)) (Rg.ac (nc 0 0 0 (fun _ => p + 1) (fun _ => Nv .i64 (f2 (p + 1))) B.agg_int (fun _ => cI_get hN f2 (show p + 1 < n by omega)) (at1 0 fun _ => by kernel_rfl)) (Rg.ac nv (Rg.ac nv (Rg.ac (nx (fun _ => E q p) (fun _ w => b_isq (n := n) (c := c) (show p < n by omega) Try.underlying25 sz_int w)) (Rg.ac (nc 0 0 0 (fun _ => p) (fun _ => Nv .i64 (f2 p)) B.agg_int (fun _ => cI_get hN f2 (show p < n by omega)) (at1 0 fun _ => by kernel_rfl)) (Rg.ac (nx (fun _ => E q p) (fun _ w => b_isq (n := n) (c := c) (show p < n by omega) Try.underlying25 sz_int w)) (Rg.ac (sl 0 0 (fun _ => p) (fun _ => .int .i64 ((f2 p : Nat) : Int)) (fun _ => ((f2 (p + 1) : Nat) : Int)) B.sz_int (fun _ => cI_get hN f2 (show p < n by omega)) (fun _ => cI_set hN f2 _ (show p < n by omega)) (fun _ => fit_cI _ _ _)) (Rg.ac (nx (fun _ => E q (p + 1)) (fun _ w => b_isq (n := n) (c := c) (show p + 1 < n by omega) Try.underlying25 sz_int w)) (Rg.ac (sl 1 0 (fun _ => p + 1) (fun _ => .int .i64 ((if p + 1 = p then f2 (p + 1) else f2 (p + 1) : Nat) : Int)) (fun _ => ((f2 p : Nat) : Int)) B.sz_int (fun _ => cI_get hN (fun x => if x = p then f2 (p + 1) else f2 x) (show p + 1 < n by omega)) (fun _ => cI_set hN (fun x => if x = p then f2 (p + 1) else f2 x) _ (show p + 1 < n by omega)) (fun _ => fit_cI _ _ _)) Rg.an)))))))))))))))))) ?_
          intro ν w1 hO
          replace hO : Own u w1 ((q, cI N n (fun x => if x = p + 1 then f2 p else (if x = p then f2 (p + 1) else f2 x)), 3) :: M) := hO
          simp only [Rg.putL, Act.put, List.setIfInBounds_toArray, List.set_cons_succ, List.set_cons_zero]
          clear ν
          rw [sw_two f2 (show p ≠ p + 1 by omega)] at hO
          rw [hnx] at hO
          have HO := hide hO
          clear hO hnx
          go_upto_region 10 with (fail)
          refine wp_region_list (WL.out ?_)
          refine g_val (Nv .i64 p) ?_
          refine g_val (Nv .i64 (p + 1)) ?_ (B.add_int (a := p) (c := 1) (d := p + 1) rfl (by omega) w1)
          refine g_val (Nv .i64 (p + 1)) ?_
          refine g_nil ?_
          simp only [Act.put, List.setIfInBounds_toArray, List.set_cons_succ, List.set_cons_zero]
          go_wp2_with (fail)
          go_roundw
          case rel => exact ⟨p + 1, rfl, by omega, by omega, HO.out⟩
          case measure => show i - ((p + 1 : Nat) : Int).toNat < i - ((p : Nat) : Int).toNat; omega
        · obtain rfl : p = i - 1 := by omega
          go_upto_region 9 with (fail)
          refine wp_region_list (WL.out ?_)
          refine g_val (Nv .i64 (i - 1)) ?_
          refine g_val (Nv .i64 i) ?_
          refine g_val (Nv .i64 (i - 1)) ?_ (B.sub_int (a := i) (c := 1) (d := i - 1) (by omega) (by omega) wr)
          refine g_val (.bool false) ?_ (B.lss_int (a := i - 1) (c := i - 1) (b := false) (decide_eq_false hz) wr)
          refine g_nil ?_
          simp only [Act.put, List.setIfInBounds_toArray, List.set_cons_succ, List.set_cons_zero]
          rw [show i - 1 + 1 = i by omega] at hO
          have HO := hide hO
          clear hO
          go_wp2_with (fail)
          (try simp only [Exit.inBlock, Exit.then]); refine bodyPost_ret (results_none rfl _ _ _) rfl ?_
          exact ⟨_, rfl, rfl, _, HM.out, HO.out⟩
set_option maxHeartbeats 16000000 in
theorem SymB_c {N n c K : Nat} {g : FuncId} {lb : Array Value} {k : Nat → Nat} {a m b : Nat} (eg : ∀ args w, (callFunc g args).run Try.prog w = .ok (.enter g args) w) (hN : n ≤ N) (hn : n ≤ 2 ^ 40) (ham : a < m) (hne : m ≠ a + 1) (hmb : b = m + 1) (hb : b ≤ n) (q : Nat) (f : Nat → Nat) (hK : ∀ i, i < n → f i < K) (hA : So k f a m) (hs : Sb k f a b) (u : World) (M : List Row) (hcmp : CmpOK g lb k K N n q u M) (w : World) (hO : Own u w ((q, cI N n f, 3) :: M)) :
    RetP 60 #[.slice (some ⟨q, 0, none⟩) n c, Nv .i64 a, Nv .i64 m, Nv .i64 b, .func (.func g) #[] lb] w fun v w' => v = .tuple #[] ∧ ∃ f', Mgd k f f' a b ∧ Own u w' ((q, cI N n f', 3) :: M) := by
  go_enter Try.func60, Try.ntmps60
  have Hcmp := hide hcmp
  clear hcmp
  go_upto_region 0 with (fail)
  refine wp_region_list (WL.out ?_)
  refine g_val (Nv .i64 m) ?_
  refine g_val (Nv .i64 a) ?_
  refine g_val (Nv .i64 (m - a)) ?_ (B.sub_int (a := m) (c := a) (d := m - a) (by omega) (by omega) w)
  refine g_val (.bool false) ?_ (B.eql_int (a := m - a) (c := 1) (b := false) (decide_eq_false (by omega)) w)
  refine g_nil ?_
  simp only [Act.put, List.setIfInBounds_toArray, List.set_cons_succ, List.set_cons_zero]
  go_upto_region 12 with (fail)
  refine wp_region_list (WL.out ?_)
  refine g_val (Nv .i64 b) ?_
  refine g_val (Nv .i64 m) ?_
  refine g_val (Nv .i64 1) ?_ (B.sub_int (a := b) (c := m) (d := 1) (by omega) (by omega) w)
  refine g_val (.bool true) ?_ (B.eql_int (a := 1) (c := 1) (b := true) (rfl) w)
  refine g_nil ?_
  simp only [Act.put, List.setIfInBounds_toArray, List.set_cons_succ, List.set_cons_zero]
  go_upto_region 13 with (fail)
  refine wp_region_list (WL.out ?_)
  refine g_val (Nv .i64 a) ?_
  refine g_val (Nv .i64 a) ?_
  refine g_nil ?_
  simp only [Act.put, List.setIfInBounds_toArray, List.set_cons_succ, List.set_cons_zero]
  go_upto_region 14 with (fail)
  refine wp_region_list (WL.out ?_)
  refine g_val (Nv .i64 m) ?_
  refine g_val (Nv .i64 m) ?_
  refine g_nil ?_
  simp only [Act.put, List.setIfInBounds_toArray, List.set_cons_succ, List.set_cons_zero]
  have HO := hide hO
  clear hO
  go_wp2_with (fail)
  go_loopw [14, 15] (fun x14 x15 wr => ∃ (i j : Nat), x14 = .int .i64 (i : Int) ∧ x15 = .int .i64 (j : Int) ∧ a ≤ i ∧ i ≤ j ∧ j ≤ m ∧ (i = a ∨ k (f (i - 1)) ≤ k (f m)) ∧ (j = m ∨ k (f m) < k (f j)) ∧ Own u wr ((q, cI N n f, 3) :: M)) (fun x14 x15 _ => (intOf x15).toNat - (intOf x14).toNat)
  case atStart => exact ⟨a, m, rfl, rfl, Nat.le_refl _, by omega, Nat.le_refl _, .inl rfl, .inl rfl, HO.out⟩
  case round =>
    clear HO
    obtain ⟨i, j, rfl, rfl, hi1, hij, hj1, hp1, hp2, hO⟩ := hrel
    by_cases hz : i < j
    · have hz' := hz
      obtain ⟨h, hh⟩ : ∃ h, (i + j) / 2 = h := ⟨_, rfl⟩
      have hh1 : i ≤ h ∧ h < j := by omega
      go_upto_region 15 with (fail)
      refine wp_region_list (WL.out ?_)
      refine g_val (Nv .i64 i) ?_
      refine g_val (Nv .i64 j) ?_
      refine g_val (.bool true) ?_ (B.lss_int (a := i) (c := j) (b := true) (decide_eq_true hz) wr)
      refine g_nil ?_
      simp only [Act.put, List.setIfInBounds_toArray, List.set_cons_succ, List.set_cons_zero]
      go_upto_region 16 with (fail)
      refine wp_region_list (WL.out ?_)
      refine g_val (Nv .i64 i) ?_
      refine g_val (Nv .i64 j) ?_
      refine g_val (Nv .i64 (i + j)) ?_ (B.add_int (a := i) (c := j) (d := i + j) rfl (by omega) wr)
      refine g_val (Nv .u64 (i + j)) ?_ (B.c_int_uint (a := i + j) (d := i + j) rfl (by omega) wr)
      refine g_val (Nv .u64 h) ?_ (B.shr_uint_uint (a := i + j) (s := 1) (d := h) hh (by omega) wr)
      refine g_val (Nv .i64 h) ?_ (B.c_uint_int (a := h) (d := h) rfl (by omega) wr)
      refine g_val (Nv .i64 h) ?_
      refine g_nil ?_
      simp only [Act.put, List.setIfInBounds_toArray, List.set_cons_succ, List.set_cons_zero]
      clear hh
      have hcmp := Hcmp.out
      cases hc : decide (k (f m) < k (f h)) with
      | true =>
        have hlt : (k (f m) < k (f h)) := of_decide_eq_true hc
        go_upto_region 17 with (fail)
        refine Rg.pd [9] (fun _ => [(92, .func (.func g) #[] lb), (93, .slice (some ⟨q, 0, none⟩) n c), (94, Nv .i64 m), (95, E q m), (96, Nv .i64 (f m)), (97, .slice (some ⟨q, 0, none⟩) n c), (98, Nv .i64 h), (99, E q h), (100, Nv .i64 (f h)), (101, .int .i64 (cm (k (f m)) (k (f h)))), (102, .bool true), (103, .bool false)]) (OI u (fun s ν => [((q, cI N n f, 3) :: M), ((q, cI N n f, 3) :: M)].getD s [])) (fun _ => 0) hO.drew (Rg.ac nv (Rg.ac nv (Rg.ac nv (Rg.ac (nx (fun _ => E q m) (fun _ w => b_isq (n := n) (c := c) (show m < n by omega) Try.underlying25 sz_int w)) (Rg.ac (nc 0 0 0 (fun _ => m) (fun _ => Nv .i64 (f m)) B.agg_int (fun _ => cI_get hN f (show m < n by omega)) (at1 0 fun _ => by kernel_rfl)) (Rg.ac nv (Rg.ac nv (Rg.ac (nx (fun _ => E q h) (fun _ w => b_isq (n := n) (c := c) (show h < n by omega) Try.underlying25 sz_int w)) (Rg.ac (nc 0 0 0 (fun _ => h) (fun _ => Nv .i64 (f h)) B.agg_int (fun _ => cI_get hN f (show h < n by omega)) (at1 0 fun _ => by kernel_rfl)) (Rg.ac (sq 0 g (fun _ => #[Nv .i64 (f m), Nv .i64 (f h)] ++ lb) (fun _ => .int .i64 (cm (k (f m)) (k (f h)))) (fun ν w hO => hcmp f w hO _ _ (hK _ (by omega)) (hK _ (by omega))) (hrun := fun _ w => run_cv (Nv .i64 (f m)) (Nv .i64 (f h)) eg w)) (Rg.ac (nx (fun _ => .bool true) (fun _ w => lssI_int (a := cm (k (f m)) (k (f h))) (c := 0) (cm_lt hc) w)) (Rg.ac nv Rg.an)))))))))))) ?_
        intro ν w1 hO
        replace hO : Own u w1 ((q, cI N n f, 3) :: M) := hO
        simp only [Rg.putL, Act.put, List.setIfInBounds_toArray, List.set_cons_succ, List.set_cons_zero]
        clear ν
        clear hcmp
        have HO := hide hO
        clear hO
        go_upto_region 19 with (fail)
        refine wp_region_list (WL.out ?_)
        refine g_val (Nv .i64 h) ?_
        refine g_val (Nv .i64 h) ?_
        refine g_nil ?_
        simp only [Act.put, List.setIfInBounds_toArray, List.set_cons_succ, List.set_cons_zero]
        go_wp2_with (fail)
        go_roundw
        case rel => exact ⟨i, h, rfl, rfl, hi1, by omega, by omega, hp1, .inr (by omega), HO.out⟩
        case measure => show ((h : Nat) : Int).toNat - ((i : Nat) : Int).toNat < ((j : Nat) : Int).toNat - ((i : Nat) : Int).toNat; omega
      | false =>
        have hlt : ¬ (k (f m) < k (f h)) := of_decide_eq_false hc
        go_upto_region 17 with (fail)
        refine Rg.pd [9] (fun _ => [(92, .func (.func g) #[] lb), (93, .slice (some ⟨q, 0, none⟩) n c), (94, Nv .i64 m), (95, E q m), (96, Nv .i64 (f m)), (97, .slice (some ⟨q, 0, none⟩) n c), (98, Nv .i64 h), (99, E q h), (100, Nv .i64 (f h)), (101, .int .i64 (cm (k (f m)) (k (f h)))), (102, .bool false), (103, .bool true)]) (OI u (fun s ν => [((q, cI N n f, 3) :: M), ((q, cI N n f, 3) :: M)].getD s [])) (fun _ => 0) hO.drew (Rg.ac nv (Rg.ac nv (Rg.ac nv (Rg.ac (nx (fun _ => E q m) (fun _ w => b_isq (n := n) (c := c) (show m < n by omega) Try.underlying25 sz_int w)) (Rg.ac (nc 0 0 0 (fun _ => m) (fun _ => Nv .i64 (f m)) B.agg_int (fun _ => cI_get hN f (show m < n by omega)) (at1 0 fun _ => by kernel_rfl)) (Rg.ac nv (Rg.ac nv (Rg.ac (nx (fun _ => E q h) (fun _ w => b_isq (n := n) (c := c) (show h < n by omega) Try.underlying25 sz_int w)) (Rg.ac (nc 0 0 0 (fun _ => h) (fun _ => Nv .i64 (f h)) B.agg_int (fun _ => cI_get hN f (show h < n by omega)) (at1 0 fun _ => by kernel_rfl)) (Rg.ac (sq 0 g (fun _ => #[Nv .i64 (f m), Nv .i64 (f h)] ++ lb) (fun _ => .int .i64 (cm (k (f m)) (k (f h)))) (fun ν w hO => hcmp f w hO _ _ (hK _ (by omega)) (hK _ (by omega))) (hrun := fun _ w => run_cv (Nv .i64 (f m)) (Nv .i64 (f h)) eg w)) (Rg.ac (nx (fun _ => .bool false) (fun _ w => lssI_int (a := cm (k (f m)) (k (f h))) (c := 0) (cm_lt hc) w)) (Rg.ac nv Rg.an)))))))))))) ?_
        intro ν w1 hO
        replace hO : Own u w1 ((q, cI N n f, 3) :: M) := hO
        simp only [Rg.putL, Act.put, List.setIfInBounds_toArray, List.set_cons_succ, List.set_cons_zero]
        clear ν
        clear hcmp
        have HO := hide hO
        clear hO
        go_upto_region 18 with (fail)
        refine wp_region_list (WL.out ?_)
        refine g_val (Nv .i64 h) ?_
        refine g_val (Nv .i64 (h + 1)) ?_ (B.add_int (a := h) (c := 1) (d := h + 1) rfl (by omega) w1)
        refine g_val (Nv .i64 (h + 1)) ?_
        refine g_nil ?_
        simp only [Act.put, List.setIfInBounds_toArray, List.set_cons_succ, List.set_cons_zero]
        go_wp2_with (fail)
        go_roundw
        case rel => exact ⟨h + 1, j, rfl, rfl, by omega, by omega, hj1, .inr (by rw [Nat.add_sub_cancel]; omega), hp2, HO.out⟩
        case measure => show ((j : Nat) : Int).toNat - ((h + 1 : Nat) : Int).toNat < ((j : Nat) : Int).toNat - ((i : Nat) : Int).toNat; omega
    · obtain rfl : i = j := by omega
      go_upto_region 15 with (fail)
      refine wp_region_list (WL.out ?_)
      refine g_val (Nv .i64 i) ?_
      refine g_val (Nv .i64 i) ?_
      refine g_val (.bool false) ?_ (B.lss_int (a := i) (c := i) (b := false) (decide_eq_false hz) wr)
      refine g_nil ?_
      simp only [Act.put, List.setIfInBounds_toArray, List.set_cons_succ, List.set_cons_zero]
      go_upto_region 20 with (fail)
      refine wp_region_list (WL.out ?_)
      refine g_val (Nv .i64 m) ?_
      refine g_val (Nv .i64 m) ?_
      refine g_nil ?_
      simp only [Act.put, List.setIfInBounds_toArray, List.set_cons_succ, List.set_cons_zero]
      have HM := hide (one_down (k := k) (f := f) (a := a) (i := i) (m := m) hA (by rw [← hmb]; exact hs) hi1 hj1 hp1 hp2)
      have HO := hide hO
      clear hO
      go_wp2_with (fail)
      go_loopw [17] (fun x17 wr => ∃ (p : Nat), x17 = .int .i64 (p : Int) ∧ i ≤ p ∧ p ≤ m ∧ Own u wr ((q, cI N n (rot f p m (m + 1)), 3) :: M)) (fun x17 _ => (intOf x17).toNat)
      case atStart => exact ⟨m, rfl, by omega, Nat.le_refl _, by rw [rot_l]; exact HO.out⟩
      case round =>
        clear HO
        obtain ⟨p, rfl, hp3, hp4, hO⟩ := hrel
        by_cases hz : i < p
        · have hz' := hz
          go_upto_region 21 with (fail)
          refine wp_region_list (WL.out ?_)
          refine g_val (Nv .i64 p) ?_
          refine g_val (Nv .i64 i) ?_
          refine g_val (.bool true) ?_ (B.gtr_int (a := p) (c := i) (b := true) (decide_eq_true hz) wr)
          refine g_nil ?_
          simp only [Act.put, List.setIfInBounds_toArray, List.set_cons_succ, List.set_cons_zero]
          have hnx := rot_down f (show 0 < p by omega) hp4
          obtain ⟨f2, hf2⟩ : ∃ f2, f2 = rot f p m (m + 1) := ⟨_, rfl⟩
          rw [← hf2] at hO hnx
          go_upto_region 23 with (fail)
          refine Rg.pd [15, 17] (fun _ => [(113, .slice (some ⟨q, 0, none⟩) n c), (114, Nv .i64 p), (115, .slice (some ⟨q, 0, none⟩) n c), (116, Nv .i64 p), (117, Nv .i64 (p - 1)), (118, .slice (some ⟨q, 0, none⟩) n c), (119, Nv .i64 p), (120, Nv .i64 (p - 1)), (121, E q (p - 1)), (122, Nv .i64 (f2 (p - 1))), (123, .slice (some ⟨q, 0, none⟩) n c), (124, Nv .i64 p), (125, E q p), (126, Nv .i64 (f2 p)), (127, E q p), (128, E q (p - 1))]) (OI u (fun s ν => [((q, cI N n f2, 3) :: M), ((q, cI N n (fun x => if x = p then f2 (p - 1) else f2 x), 3) :: M), ((q, cI N n (fun x => if x = p - 1 then f2 p else (if x = p then f2 (p - 1) else f2 x)), 3) :: M)].getD s [])) (fun _ => 0) hO.drew (Rg.ac nv (Rg.ac nv (Rg.ac nv (Rg.ac nv (Rg.ac (nx (fun _ => Nv .i64 (p - 1)) (fun _ w => B.sub_int (a := p) (c := 1) (d := p - 1) (by omega) (by omega) w)) (Rg.ac nv (Rg.ac nv (Rg.ac (nx (fun _ => Nv .i64 (p - 1)) (fun _ w => B.sub_int (a := p) (c := 1) (d := p - 1) (by omega) (by omega) w)) (Rg.ac (nx (fun _ => E q (p - 1)) (fun _ w => b_isq (n := n) (c := c) (show p - 1 < n by omega) Try.underlying25 sz_int w)) (Rg.ac (nc 0 0 0 (fun _ => p - 1) (fun _ => Nv .i64 (f2 (p - 1))) B.agg_int (fun _ => cI_get hN f2 (show p - 1 < n by omega)) (at1 0 fun _ => by kernel_rfl)) (Rg.ac nv (Rg.ac nv (Rg.ac (nx (fun _ => E q p) (fun _ w => b_isq (n := n) (c := c) (show p < n by omega) Try.underlying25 sz_int w)) (Rg.ac (nc 0 0 0 (fun _ => p) (fun _ => Nv .i64 (f2 p)) B.agg_int (fun _ => cI_get hN f2 (show p < n by omega)) (at1 0 fun _ => by kernel_rfl)) (Rg.ac (nx (fun _ => E q p) (fun _ w => b_isq (n := n) (c := c) (show p < n by omega) Try.underlying25 sz_int w)) (Rg.ac (sl 0 0 (fun _ => p) (fun _ => .int .i64 ((f2 p : Nat) : Int)) (fun _ => ((f2 (p - 1) : Nat) : Int)) B.sz_int (fun _ => cI_get hN f2 (show p < n by omega)) (fun _ => cI_set hN f2 _ (show p < n by omega)) (fun _ => fit_cI _ _ _)) (Rg.ac (nx (fun _ => E q (p - 1)) (fun _ w => b_isq (n := n) (c := c) (show p - 1 < n by omega) Try.underlying25 sz_int w)) (Rg.ac (sl 1 0 (fun _ => p - 1) (fun _ => .int .i64 ((if p - 1 = p then f2 (p - 1) else f2 (p - 1) : Nat) : Int)) (fun _ => ((f2 p : Nat) : Int)) B.sz_int (fun _ => cI_get hN (fun x => if x = p then f2 (p - 1) else f2 x) (show p - 1 < n by omega)) (fun _ => cI_set hN (fun x => if x = p then f2 (p - 1) else f2 x) _ (show p - 1 < n by omega)) (fun _ => fit_cI _ _ _)) Rg.an)))))))))))))))))) ?_
          intro ν w1 hO
          replace hO : Own u w1 ((q, cI N n (fun x => if x = p - 1 then f2 p else (if x = p then f2 (p - 1) else f2 x)), 3) :: M) := hO
          simp only [Rg.putL, Act.put, List.setIfInBounds_toArray, List.set_cons_succ, List.set_cons_zero]
          clear ν
          rw [sw_two f2 (show p ≠ p - 1 by omega)] at hO
          rw [hnx] at hO
          have HO := hide hO
          clear hO hnx
          go_upto_region 22 with (fail)
          refine wp_region_list (WL.out ?_)
          refine g_val (Nv .i64 p) ?_
          refine g_val (Nv .i64 (p - 1)) ?_ (B.sub_int (a := p) (c := 1) (d := p - 1) (by omega) (by omega) w1)
          refine g_val (Nv .i64 (p - 1)) ?_
          refine g_nil ?_
          simp only [Act.put, List.setIfInBounds_toArray, List.set_cons_succ, List.set_cons_zero]
          go_wp2_with (fail)
          go_roundw
          case rel => exact ⟨p - 1, rfl, by omega, by omega, HO.out⟩
          case measure => show ((p - 1 : Nat) : Int).toNat < ((p : Nat) : Int).toNat; omega
        · obtain rfl : i = p := by omega
          go_upto_region 21 with (fail)
          refine wp_region_list (WL.out ?_)
          refine g_val (Nv .i64 i) ?_
          refine g_val (Nv .i64 i) ?_
          refine g_val (.bool false) ?_ (B.gtr_int (a := i) (c := i) (b := false) (decide_eq_false hz) wr)
          refine g_nil ?_
          simp only [Act.put, List.setIfInBounds_toArray, List.set_cons_succ, List.set_cons_zero]
          rw [← hmb] at hO HM
          have HO := hide hO
          clear hO
          go_wp2_with (fail)
          (try simp only [Exit.inBlock, Exit.then]); refine bodyPost_ret (results_none rfl _ _ _) rfl ?_
          exact ⟨_, rfl, rfl, _, HM.out, HO.out⟩
set_option maxHeartbeats 16000000 in
theorem SymM_c {N n c K : Nat} {g : FuncId} {lb : Array Value} {k : Nat → Nat} (eg : ∀ args w, (callFunc g args).run Try.prog w = .ok (.enter g args) w) (hN : n ≤ N) (hn : n ≤ 2 ^ 40) (q : Nat) (u : World) (M : List Row) (hcmp : CmpOK g lb k K N n q u M) : ∀ (d a m b : Nat), b - a < d → a < m → m < b → b ≤ n → ∀ (f : Nat → Nat), (∀ i, i < n → f i < K) → So k f a m → So k f m b → Sb k f a b → ∀ w, Own u w ((q, cI N n f, 3) :: M) →
    RetP 60 #[.slice (some ⟨q, 0, none⟩) n c, Nv .i64 a, Nv .i64 m, Nv .i64 b, .func (.func g) #[] lb] w fun v w' => v = .tuple #[] ∧ ∃ f', Mgd k f f' a b ∧ Own u w' ((q, cI N n f', 3) :: M) := by
  intro d
  induction d with
  | zero => intro a m b hd; omega
  | succ d ih =>
    intro a m b hd ham hmb hb f hK hA hB hs w hO
    by_cases h1 : m = a + 1
    · exact SymA_c eg hN hn h1 hmb hb q f hK hB hs u M hcmp w hO
    by_cases h2 : b = m + 1
    · exact SymB_c eg hN hn ham h1 h2 hb q f hK hA hs u M hcmp w hO
    go_enter Try.func60, Try.ntmps60
    have Hcmp := hide hcmp
    clear hcmp
    have IH := hide ih
    clear ih
    obtain ⟨mid, hmid⟩ : ∃ mid, mid = (a + b) / 2 := ⟨_, rfl⟩
    have hmid2 : a < mid ∧ mid < b ∧ a + b ≤ 2 * mid + 1 := by omega
    obtain ⟨lo, hlo⟩ : ∃ lo, lo = if mid < m then mid + m - b else a := ⟨_, rfl⟩
    obtain ⟨hi, hhi⟩ : ∃ hi, hi = if mid < m then mid else m := ⟨_, rfl⟩
    have hlh : lo ≤ hi := by rw [hlo, hhi]; split <;> omega
    have hlh2 : a ≤ lo ∧ hi ≤ m ∧ hi ≤ mid ∧ mid + m ≤ b + lo := by rw [hlo, hhi]; split <;> omega
    have Hlo := hide hlo
    have Hhi := hide hhi
    have Hmid := hide hmid
    clear hlo hhi hmid
    go_upto_region 0 with (fail)
    refine wp_region_list (WL.out ?_)
    refine g_val (Nv .i64 m) ?_
    refine g_val (Nv .i64 a) ?_
    refine g_val (Nv .i64 (m - a)) ?_ (B.sub_int (a := m) (c := a) (d := m - a) (by omega) (by omega) w)
    refine g_val (.bool false) ?_ (B.eql_int (a := m - a) (c := 1) (b := false) (decide_eq_false (by omega)) w)
    refine g_nil ?_
    simp only [Act.put, List.setIfInBounds_toArray, List.set_cons_succ, List.set_cons_zero]
    go_upto_region 12 with (fail)
    refine wp_region_list (WL.out ?_)
    refine g_val (Nv .i64 b) ?_
    refine g_val (Nv .i64 m) ?_
    refine g_val (Nv .i64 (b - m)) ?_ (B.sub_int (a := b) (c := m) (d := b - m) (by omega) (by omega) w)
    refine g_val (.bool false) ?_ (B.eql_int (a := b - m) (c := 1) (b := false) (decide_eq_false (by omega)) w)
    refine g_nil ?_
    simp only [Act.put, List.setIfInBounds_toArray, List.set_cons_succ, List.set_cons_zero]
    go_upto_region 24 with (fail)
    refine wp_region_list (WL.out ?_)
    refine g_val (Nv .i64 a) ?_
    refine g_val (Nv .i64 b) ?_
    refine g_val (Nv .i64 (a + b)) ?_ (B.add_int (a := a) (c := b) (d := a + b) rfl (by omega) w)
    refine g_val (Nv .u64 (a + b)) ?_ (B.c_int_uint (a := a + b) (d := a + b) rfl (by omega) w)
    refine g_val (Nv .u64 mid) ?_ (B.shr_uint_uint (a := a + b) (s := 1) (d := mid) Hmid.out.symm (by omega) w)
    refine g_val (Nv .i64 mid) ?_ (B.c_uint_int (a := mid) (d := mid) rfl (by omega) w)
    refine g_val (Nv .i64 mid) ?_
    refine g_nil ?_
    simp only [Act.put, List.setIfInBounds_toArray, List.set_cons_succ, List.set_cons_zero]
    go_upto_region 25 with (fail)
    refine wp_region_list (WL.out ?_)
    refine g_val (Nv .i64 mid) ?_
    refine g_val (Nv .i64 m) ?_
    refine g_val (Nv .i64 (mid + m)) ?_ (B.add_int (a := mid) (c := m) (d := mid + m) rfl (by omega) w)
    refine g_val (Nv .i64 (mid + m)) ?_
    refine g_nil ?_
    simp only [Act.put, List.setIfInBounds_toArray, List.set_cons_succ, List.set_cons_zero]
    go_upto_region 26 with (fail)
    refine wp_region_list (WL.out ?_)
    refine g_val (Nv .i64 0) ?_
    refine g_val (Nv .i64 0) ?_
    refine g_nil ?_
    simp only [Act.put, List.setIfInBounds_toArray, List.set_cons_succ, List.set_cons_zero]
    obtain ⟨bb, hbb⟩ : ∃ bb, decide (mid < m) = bb := ⟨_, rfl⟩
    go_upto_region 27 with (fail)
    refine wp_region_list (WL.out ?_)
    refine g_val (Nv .i64 m) ?_
    refine g_val (Nv .i64 mid) ?_
    refine g_val (.bool bb) ?_ (B.gtr_int (a := m) (c := mid) (b := bb) (hbb) w)
    refine g_nil ?_
    simp only [Act.put, List.setIfInBounds_toArray, List.set_cons_succ, List.set_cons_zero]
    have HO := hide hO
    clear hO
    go_upto_if 140 with (fail)
    refine wp_cut (fun a' wc => ∃ (ξ : Nat → Value), (w = wc) ∧ a' = Fr [.slice (some ⟨q, 0, none⟩) n c, Nv .i64 a, Nv .i64 m, Nv .i64 b, .func (.func g) #[] lb, U, U, U, U, U, U, U, U, U, U, U, U, U, Nv .i64 mid, Nv .i64 (mid + m), Nv .i64 lo, Nv .i64 hi, U, U, U, (ξ 25), (ξ 26), (ξ 27), (ξ 28), (ξ 29), (ξ 30), (ξ 31), (ξ 32), (ξ 33), (ξ 34), (ξ 35), (ξ 36), (ξ 37), (ξ 38), (ξ 39), (ξ 40), (ξ 41), (ξ 42), (ξ 43), (ξ 44), (ξ 45), (ξ 46), (ξ 47), (ξ 48), (ξ 49), (ξ 50), (ξ 51), (ξ 52), (ξ 53), (ξ 54), (ξ 55), (ξ 56), (ξ 57), (ξ 58), (ξ 59), (ξ 60), (ξ 61), (ξ 62), (ξ 63), (ξ 64), (ξ 65), (ξ 66), (ξ 67), (ξ 68), (ξ 69), (ξ 70), (ξ 71), (ξ 72), (ξ 73), (ξ 74), (ξ 75), (ξ 76), (ξ 77), (ξ 78), (ξ 79), (ξ 80), (ξ 81), (ξ 82), (ξ 83), (ξ 84), (ξ 85), (ξ 86), (ξ 87), (ξ 88), (ξ 89), (ξ 90), (ξ 91), (ξ 92), (ξ 93), (ξ 94), (ξ 95), (ξ 96), (ξ 97), (ξ 98), (ξ 99), (ξ 100), (ξ 101), (ξ 102), (ξ 103), (ξ 104), (ξ 105), (ξ 106), (ξ 107), (ξ 108), (ξ 109), (ξ 110), (ξ 111), (ξ 112), (ξ 113), (ξ 114), (ξ 115), (ξ 116), (ξ 117), (ξ 118), (ξ 119), (ξ 120), (ξ 121), (ξ 122), (ξ 123), (ξ 124), (ξ 125), (ξ 126), (ξ 127), (ξ 128), (ξ 129), (ξ 130), (ξ 131), (ξ 132), (ξ 133), (ξ 134), (ξ 135), (ξ 136), (ξ 137), (ξ 138), (ξ 139), (ξ 140), (ξ 141), (ξ 142), (ξ 143), (ξ 144), (ξ 145), (ξ 146), (ξ 147), (ξ 148), (ξ 149), (ξ 150), (ξ 151), (ξ 152), (ξ 153), (ξ 154), (ξ 155), (ξ 156), (ξ 157), (ξ 158), (ξ 159), (ξ 160), (ξ 161), (ξ 162), (ξ 163), (ξ 164), (ξ 165), (ξ 166), (ξ 167), (ξ 168), (ξ 169), (ξ 170), (ξ 171), (ξ 172), (ξ 173), (ξ 174), (ξ 175), (ξ 176), (ξ 177), (ξ 178), (ξ 179), (ξ 180), (ξ 181), (ξ 182), (ξ 183), (ξ 184), (ξ 185), (ξ 186), (ξ 187), (ξ 188), (ξ 189), (ξ 190), (ξ 191), (ξ 192), (ξ 193), (ξ 194), (ξ 195), (ξ 196), (ξ 197), (ξ 198), (ξ 199), (ξ 200), (ξ 201), (ξ 202), (ξ 203), (ξ 204), (ξ 205), (ξ 206), (ξ 207), (ξ 208), (ξ 209), (ξ 210), (ξ 211), (ξ 212), (ξ 213), (ξ 214), (ξ 215), (ξ 216), (ξ 217), (ξ 218), (ξ 219)]) ?hrest ?hfirst
    case hfirst =>
      intro _ _ _ _
      have hO := HO.out
      cases bb with
      | true =>
        have hq : mid < m := of_decide_eq_true hbb
        have hlo : mid + m - b = lo := by have h9 := Hlo.out; rw [if_pos hq] at h9; exact h9.symm
        have hhi : mid = hi := by have h9 := Hhi.out; rw [if_pos hq] at h9; exact h9.symm
        subst hhi
        go_upto_region 28 with (fail)
        refine wp_region_list (WL.out ?_)
        refine g_val (Nv .i64 (mid + m)) ?_
        refine g_val (Nv .i64 b) ?_
        refine g_val (Nv .i64 lo) ?_ (B.sub_int (a := mid + m) (c := b) (d := lo) (by omega) (by omega) w)
        refine g_val (Nv .i64 lo) ?_
        refine g_nil ?_
        simp only [Act.put, List.setIfInBounds_toArray, List.set_cons_succ, List.set_cons_zero]
        go_upto_region 29 with (fail)
        refine wp_region_list (WL.out ?_)
        refine g_val (Nv .i64 mid) ?_
        refine g_val (Nv .i64 mid) ?_
        refine g_nil ?_
        simp only [Act.put, List.setIfInBounds_toArray, List.set_cons_succ, List.set_cons_zero]
        clear hO
        go_wp2_with (fail)
        refine Met.intro ?_
        go_step
        exact ⟨fun x9 => [Nv .i64 m, Nv .i64 a, Nv .i64 (m - a), .bool false, U, U, U, U, U, U, U, U, U, U, U, U, U, U, U, U, U, U, U, U, U, U, U, U, U, U, U, U, U, U, U, U, U, U, U, U, U, U, U, U, U, U, U, U, U, U, U, U, Nv .i64 b, Nv .i64 m, Nv .i64 (b - m), .bool false, U, U, U, U, U, U, U, U, U, U, U, U, U, U, U, U, U, U, U, U, U, U, U, U, U, U, U, U, U, U, U, U, U, U, U, U, U, U, U, U, U, U, U, U, U, U, U, U, Nv .i64 a, Nv .i64 b, Nv .i64 (a + b), Nv .u64 (a + b), Nv .u64 mid, Nv .i64 mid, Nv .i64 mid, Nv .i64 m, Nv .i64 (mid + m), Nv .i64 m, Nv .i64 mid, .bool true, Nv .i64 (mid + m), Nv .i64 b, Nv .i64 lo, Nv .i64 mid, U, U, U, U, U, U, U, U, U, U, U, U, U, U, U, U, U, U, U, U, U, U, U, U, U, U, U, U, U, U, U, U, U, U, U, U, U, U, U, U, U, U, U, U, U, U, U, U, U, U, U, U, U, U, U, U, U, U, U, U, U, U, U, U, U, U, U, U, U, U, U, U, U, U, U].getD (x9 - 25) undef, rfl, by kernel_rfl⟩
      | false =>
        have hq : ¬ mid < m := of_decide_eq_false hbb
        have hlo : a = lo := by have h9 := Hlo.out; rw [if_neg hq] at h9; exact h9.symm
        have hhi : m = hi := by have h9 := Hhi.out; rw [if_neg hq] at h9; exact h9.symm
        subst hlo
        subst hhi
        go_upto_region 30 with (fail)
        refine wp_region_list (WL.out ?_)
        refine g_val (Nv .i64 a) ?_
        refine g_val (Nv .i64 a) ?_
        refine g_nil ?_
        simp only [Act.put, List.setIfInBounds_toArray, List.set_cons_succ, List.set_cons_zero]
        go_upto_region 31 with (fail)
        refine wp_region_list (WL.out ?_)
        refine g_val (Nv .i64 m) ?_
        refine g_val (Nv .i64 m) ?_
        refine g_nil ?_
        simp only [Act.put, List.setIfInBounds_toArray, List.set_cons_succ, List.set_cons_zero]
        clear hO
        go_wp2_with (fail)
        refine Met.intro ?_
        go_step
        exact ⟨fun x9 => [Nv .i64 m, Nv .i64 a, Nv .i64 (m - a), .bool false, U, U, U, U, U, U, U, U, U, U, U, U, U, U, U, U, U, U, U, U, U, U, U, U, U, U, U, U, U, U, U, U, U, U, U, U, U, U, U, U, U, U, U, U, U, U, U, U, Nv .i64 b, Nv .i64 m, Nv .i64 (b - m), .bool false, U, U, U, U, U, U, U, U, U, U, U, U, U, U, U, U, U, U, U, U, U, U, U, U, U, U, U, U, U, U, U, U, U, U, U, U, U, U, U, U, U, U, U, U, U, U, U, U, Nv .i64 a, Nv .i64 b, Nv .i64 (a + b), Nv .u64 (a + b), Nv .u64 mid, Nv .i64 mid, Nv .i64 mid, Nv .i64 m, Nv .i64 (mid + m), Nv .i64 m, Nv .i64 mid, .bool false, U, U, U, U, Nv .i64 a, Nv .i64 m, U, U, U, U, U, U, U, U, U, U, U, U, U, U, U, U, U, U, U, U, U, U, U, U, U, U, U, U, U, U, U, U, U, U, U, U, U, U, U, U, U, U, U, U, U, U, U, U, U, U, U, U, U, U, U, U, U, U, U, U, U, U, U, U, U, U, U, U, U, U, U, U, U].getD (x9 - 25) undef, rfl, by kernel_rfl⟩
    case hrest =>
      rintro _ wc ⟨ξ, hwc, rfl⟩
      subst hwc
      have hO := HO.out
      clear HO hbb
      go_upto_region 32 with (fail)
      refine wp_region_list (WL.out ?_)
      refine g_val (Nv .i64 (mid + m)) ?_
      refine g_val (Nv .i64 (mid + m - 1)) ?_ (B.sub_int (a := mid + m) (c := 1) (d := mid + m - 1) (by omega) (by omega) w)
      refine g_val (Nv .i64 (mid + m - 1)) ?_
      refine g_nil ?_
      simp only [Act.put, List.setIfInBounds_toArray, List.set_cons_succ, List.set_cons_zero]
      have HO := hide hO
      clear hO
      go_wp2_with (fail)
      go_loopw [20, 21] (fun x20 x21 wr => ∃ (i j : Nat), x20 = .int .i64 (i : Int) ∧ x21 = .int .i64 (j : Int) ∧ lo ≤ i ∧ i ≤ j ∧ j ≤ hi ∧ (i = lo ∨ k (f (i - 1)) ≤ k (f (mid + m - 1 - (i - 1)))) ∧ (j = hi ∨ k (f (mid + m - 1 - j)) < k (f j)) ∧ Own u wr ((q, cI N n f, 3) :: M)) (fun x20 x21 _ => (intOf x21).toNat - (intOf x20).toNat)
      case atStart => exact ⟨lo, hi, rfl, rfl, Nat.le_refl _, hlh, Nat.le_refl _, .inl rfl, .inl rfl, HO.out⟩
      case round =>
        clear HO
        obtain ⟨i, j, rfl, rfl, hi1, hij, hj1, hp1, hp2, hO⟩ := hrel
        by_cases hz : i < j
        · have hz' := hz
          obtain ⟨h, hh⟩ : ∃ h, (i + j) / 2 = h := ⟨_, rfl⟩
          have hh1 : i ≤ h ∧ h < j := by omega
          go_upto_region 33 with (fail)
          refine wp_region_list (WL.out ?_)
          refine g_val (Nv .i64 i) ?_
          refine g_val (Nv .i64 j) ?_
          refine g_val (.bool true) ?_ (B.lss_int (a := i) (c := j) (b := true) (decide_eq_true hz) wr)
          refine g_nil ?_
          simp only [Act.put, List.setIfInBounds_toArray, List.set_cons_succ, List.set_cons_zero]
          go_upto_region 34 with (fail)
          refine wp_region_list (WL.out ?_)
          refine g_val (Nv .i64 i) ?_
          refine g_val (Nv .i64 j) ?_
          refine g_val (Nv .i64 (i + j)) ?_ (B.add_int (a := i) (c := j) (d := i + j) rfl (by omega) wr)
          refine g_val (Nv .u64 (i + j)) ?_ (B.c_int_uint (a := i + j) (d := i + j) rfl (by omega) wr)
          refine g_val (Nv .u64 h) ?_ (B.shr_uint_uint (a := i + j) (s := 1) (d := h) hh (by omega) wr)
          refine g_val (Nv .i64 h) ?_ (B.c_uint_int (a := h) (d := h) rfl (by omega) wr)
          refine g_val (Nv .i64 h) ?_
          refine g_nil ?_
          simp only [Act.put, List.setIfInBounds_toArray, List.set_cons_succ, List.set_cons_zero]
          clear hh
          have hcmp := Hcmp.out
          cases hc : decide (k (f (mid + m - 1 - h)) < k (f h)) with
          | true =>
            have hlt : (k (f (mid + m - 1 - h)) < k (f h)) := of_decide_eq_true hc
            go_upto_region 35 with (fail)
            refine Rg.pd [11] (fun _ => [(158, .func (.func g) #[] lb), (159, .slice (some ⟨q, 0, none⟩) n c), (160, Nv .i64 (mid + m - 1)), (161, Nv .i64 h), (162, Nv .i64 (mid + m - 1 - h)), (163, E q (mid + m - 1 - h)), (164, Nv .i64 (f (mid + m - 1 - h))), (165, .slice (some ⟨q, 0, none⟩) n c), (166, Nv .i64 h), (167, E q h), (168, Nv .i64 (f h)), (169, .int .i64 (cm (k (f (mid + m - 1 - h))) (k (f h)))), (170, .bool true), (171, .bool false)]) (OI u (fun s ν => [((q, cI N n f, 3) :: M), ((q, cI N n f, 3) :: M)].getD s [])) (fun _ => 0) hO.drew (Rg.ac nv (Rg.ac nv (Rg.ac nv (Rg.ac nv (Rg.ac (nx (fun _ => Nv .i64 (mid + m - 1 - h)) (fun _ w => B.sub_int (a := mid + m - 1) (c := h) (d := mid + m - 1 - h) (by omega) (by omega) w)) (Rg.ac (nx (fun _ => E q (mid + m - 1 - h)) (fun _ w => b_isq (n := n) (c := c) (show mid + m - 1 - h < n by omega) Try.underlying25 sz_int w)) (Rg.ac (nc 0 0 0 (fun _ => mid + m - 1 - h) (fun _ => Nv .i64 (f (mid + m - 1 - h))) B.agg_int (fun _ => cI_get hN f (show mid + m - 1 - h < n by omega)) (at1 0 fun _ => by kernel_rfl)) (Rg.ac nv (Rg.ac nv (Rg.ac (nx (fun _ => E q h) (fun _ w => b_isq (n := n) (c := c) (show h < n by omega) Try.underlying25 sz_int w)) (Rg.ac (nc 0 0 0 (fun _ => h) (fun _ => Nv .i64 (f h)) B.agg_int (fun _ => cI_get hN f (show h < n by omega)) (at1 0 fun _ => by kernel_rfl)) (Rg.ac (sq 0 g (fun _ => #[Nv .i64 (f (mid + m - 1 - h)), Nv .i64 (f h)] ++ lb) (fun _ => .int .i64 (cm (k (f (mid + m - 1 - h))) (k (f h)))) (fun ν w hO => hcmp f w hO _ _ (hK _ (by omega)) (hK _ (by omega))) (hrun := fun _ w => run_cv (Nv .i64 (f (mid + m - 1 - h))) (Nv .i64 (f h)) eg w)) (Rg.ac (nx (fun _ => .bool true) (fun _ w => lssI_int (a := cm (k (f (mid + m - 1 - h))) (k (f h))) (c := 0) (cm_lt hc) w)) (Rg.ac nv Rg.an)))))))))))))) ?_
            intro ν w1 hO
            replace hO : Own u w1 ((q, cI N n f, 3) :: M) := hO
            simp only [Rg.putL, Act.put, List.setIfInBounds_toArray, List.set_cons_succ, List.set_cons_zero]
            clear ν
            clear hcmp
            have HO := hide hO
            clear hO
            go_upto_region 37 with (fail)
            refine wp_region_list (WL.out ?_)
            refine g_val (Nv .i64 h) ?_
            refine g_val (Nv .i64 h) ?_
            refine g_nil ?_
            simp only [Act.put, List.setIfInBounds_toArray, List.set_cons_succ, List.set_cons_zero]
            go_wp2_with (fail)
            go_roundw
            case rel => exact ⟨i, h, rfl, rfl, hi1, by omega, by omega, hp1, .inr (by omega), HO.out⟩
            case measure => show ((h : Nat) : Int).toNat - ((i : Nat) : Int).toNat < ((j : Nat) : Int).toNat - ((i : Nat) : Int).toNat; omega
          | false =>
            have hlt : ¬ (k (f (mid + m - 1 - h)) < k (f h)) := of_decide_eq_false hc
            go_upto_region 35 with (fail)
            refine Rg.pd [11] (fun _ => [(158, .func (.func g) #[] lb), (159, .slice (some ⟨q, 0, none⟩) n c), (160, Nv .i64 (mid + m - 1)), (161, Nv .i64 h), (162, Nv .i64 (mid + m - 1 - h)), (163, E q (mid + m - 1 - h)), (164, Nv .i64 (f (mid + m - 1 - h))), (165, .slice (some ⟨q, 0, none⟩) n c), (166, Nv .i64 h), (167, E q h), (168, Nv .i64 (f h)), (169, .int .i64 (cm (k (f (mid + m - 1 - h))) (k (f h)))), (170, .bool false), (171, .bool true)]) (OI u (fun s ν => [((q, cI N n f, 3) :: M), ((q, cI N n f, 3) :: M)].getD s [])) (fun _ => 0) hO.drew (Rg.ac nv (Rg.ac nv (Rg.ac nv (Rg.ac nv (Rg.ac (nx (fun _ => Nv .i64 (mid + m - 1 - h)) (fun _ w => B.sub_int (a := mid + m - 1) (c := h) (d := mid + m - 1 - h) (by omega) (by omega) w)) (Rg.ac (nx (fun _ => E q (mid + m - 1 - h)) (fun _ w => b_isq (n := n) (c := c) (show mid + m - 1 - h < n by omega) Try.underlying25 sz_int w)) (Rg.ac (nc 0 0 0 (fun _ => mid + m - 1 - h) (fun _ => Nv .i64 (f (mid + m - 1 - h))) B.agg_int (fun _ => cI_get hN f (show mid + m - 1 - h < n by omega)) (at1 0 fun _ => by kernel_rfl)) (Rg.ac nv (Rg.ac nv (Rg.ac (nx (fun _ => E q h) (fun _ w => b_isq (n := n) (c := c) (show h < n by omega) Try.underlying25 sz_int w)) (Rg.ac (nc 0 0 0 (fun _ => h) (fun _ => Nv .i64 (f h)) B.agg_int (fun _ => cI_get hN f (show h < n by omega)) (at1 0 fun _ => by kernel_rfl)) (Rg.ac (sq 0 g (fun _ => #[Nv .i64 (f (mid + m - 1 - h)), Nv .i64 (f h)] ++ lb) (fun _ => .int .i64 (cm (k (f (mid + m - 1 - h))) (k (f h)))) (fun ν w hO => hcmp f w hO _ _ (hK _ (by omega)) (hK _ (by omega))) (hrun := fun _ w => run_cv (Nv .i64 (f (mid + m - 1 - h))) (Nv .i64 (f h)) eg w)) (Rg.ac (nx (fun _ => .bool false) (fun _ w => lssI_int (a := cm (k (f (mid + m - 1 - h))) (k (f h))) (c := 0) (cm_lt hc) w)) (Rg.ac nv Rg.an)))))))))))))) ?_
            intro ν w1 hO
            replace hO : Own u w1 ((q, cI N n f, 3) :: M) := hO
            simp only [Rg.putL, Act.put, List.setIfInBounds_toArray, List.set_cons_succ, List.set_cons_zero]
            clear ν
            clear hcmp
            have HO := hide hO
            clear hO
            go_upto_region 36 with (fail)
            refine wp_region_list (WL.out ?_)
            refine g_val (Nv .i64 h) ?_
            refine g_val (Nv .i64 (h + 1)) ?_ (B.add_int (a := h) (c := 1) (d := h + 1) rfl (by omega) w1)
            refine g_val (Nv .i64 (h + 1)) ?_
            refine g_nil ?_
            simp only [Act.put, List.setIfInBounds_toArray, List.set_cons_succ, List.set_cons_zero]
            go_wp2_with (fail)
            go_roundw
            case rel => exact ⟨h + 1, j, rfl, rfl, by omega, by omega, hj1, .inr (by rw [Nat.add_sub_cancel]; omega), hp2, HO.out⟩
            case measure => show ((j : Nat) : Int).toNat - ((h + 1 : Nat) : Int).toNat < ((j : Nat) : Int).toNat - ((i : Nat) : Int).toNat; omega
        · obtain rfl : i = j := by omega
          go_upto_region 33 with (fail)
          refine wp_region_list (WL.out ?_)
          refine g_val (Nv .i64 i) ?_
          refine g_val (Nv .i64 i) ?_
          refine g_val (.bool false) ?_ (B.lss_int (a := i) (c := i) (b := false) (decide_eq_false hz) wr)
          refine g_nil ?_
          simp only [Act.put, List.setIfInBounds_toArray, List.set_cons_succ, List.set_cons_zero]
          obtain ⟨e, he⟩ : ∃ e, e = mid + m - i := ⟨_, rfl⟩
          obtain ⟨q1, q2, q3, q4, q5, q6, tB, tS, t1, t2, t3, t4, tx⟩ := sym_turn hA hB hs Hmid.out ham hmb Hlo.out Hhi.out hi1 hj1 he hp1 hp2
          go_upto_region 38 with (fail)
          refine wp_region_list (WL.out ?_)
          refine g_val (Nv .i64 (mid + m)) ?_
          refine g_val (Nv .i64 i) ?_
          refine g_val (Nv .i64 e) ?_ (B.sub_int (a := mid + m) (c := i) (d := e) (by omega) (by omega) wr)
          refine g_val (Nv .i64 e) ?_
          refine g_nil ?_
          simp only [Act.put, List.setIfInBounds_toArray, List.set_cons_succ, List.set_cons_zero]
          clear hp1 hp2 hA hB hs Hlo Hhi hlh hlh2 hi1 hj1 hij hz Hmid he
          have hcl := tB
          obtain ⟨f1, hf1⟩ : ∃ f1, f1 = rot f i m e := ⟨_, rfl⟩
          rw [← hf1] at tB tS t1 t2 t3 t4 tx hcl
          have hK1 := ck_of tB hb hK
          have HO := hide hO
          clear hO
          go_upto_region 39 with (fail)
          refine wp_cut (fun a' wc => ∃ (ξ : Nat → Value) (bb : Bool), ((bb = true ↔ (i < m) ∧ m < e) ∧ wr = wc) ∧ a' = Fr [.slice (some ⟨q, 0, none⟩) n c, Nv .i64 a, Nv .i64 m, Nv .i64 b, .func (.func g) #[] lb, U, U, U, U, U, U, U, U, U, U, U, U, U, Nv .i64 mid, Nv .i64 (mid + m), Nv .i64 i, Nv .i64 i, Nv .i64 (mid + m - 1), u23, Nv .i64 e, (ξ 25), (ξ 26), (ξ 27), (ξ 28), (ξ 29), (ξ 30), (ξ 31), (ξ 32), (ξ 33), (ξ 34), (ξ 35), (ξ 36), (ξ 37), (ξ 38), (ξ 39), (ξ 40), (ξ 41), (ξ 42), (ξ 43), (ξ 44), (ξ 45), (ξ 46), (ξ 47), (ξ 48), (ξ 49), (ξ 50), (ξ 51), (ξ 52), (ξ 53), (ξ 54), (ξ 55), (ξ 56), (ξ 57), (ξ 58), (ξ 59), (ξ 60), (ξ 61), (ξ 62), (ξ 63), (ξ 64), (ξ 65), (ξ 66), (ξ 67), (ξ 68), (ξ 69), (ξ 70), (ξ 71), (ξ 72), (ξ 73), (ξ 74), (ξ 75), (ξ 76), (ξ 77), (ξ 78), (ξ 79), (ξ 80), (ξ 81), (ξ 82), (ξ 83), (ξ 84), (ξ 85), (ξ 86), (ξ 87), (ξ 88), (ξ 89), (ξ 90), (ξ 91), (ξ 92), (ξ 93), (ξ 94), (ξ 95), (ξ 96), (ξ 97), (ξ 98), (ξ 99), (ξ 100), (ξ 101), (ξ 102), (ξ 103), (ξ 104), (ξ 105), (ξ 106), (ξ 107), (ξ 108), (ξ 109), (ξ 110), (ξ 111), (ξ 112), (ξ 113), (ξ 114), (ξ 115), (ξ 116), (ξ 117), (ξ 118), (ξ 119), (ξ 120), (ξ 121), (ξ 122), (ξ 123), (ξ 124), (ξ 125), (ξ 126), (ξ 127), (ξ 128), (ξ 129), (ξ 130), (ξ 131), (ξ 132), (ξ 133), (ξ 134), (ξ 135), (ξ 136), (ξ 137), (ξ 138), (ξ 139), (ξ 140), (ξ 141), (ξ 142), (ξ 143), (ξ 144), (ξ 145), (ξ 146), (ξ 147), (ξ 148), (ξ 149), (ξ 150), (ξ 151), (ξ 152), (ξ 153), (ξ 154), (ξ 155), (ξ 156), (ξ 157), (ξ 158), (ξ 159), (ξ 160), (ξ 161), (ξ 162), (ξ 163), (ξ 164), (ξ 165), (ξ 166), (ξ 167), (ξ 168), (ξ 169), (ξ 170), (ξ 171), (ξ 172), (ξ 173), (ξ 174), (ξ 175), (ξ 176), (ξ 177), (ξ 178), (ξ 179), (ξ 180), (ξ 181), (ξ 182), (ξ 183), (ξ 184), .bool bb, (ξ 186), (ξ 187), (ξ 188), (ξ 189), (ξ 190), (ξ 191), (ξ 192), (ξ 193), (ξ 194), (ξ 195), (ξ 196), (ξ 197), (ξ 198), (ξ 199), (ξ 200), (ξ 201), (ξ 202), (ξ 203), (ξ 204), (ξ 205), (ξ 206), (ξ 207), (ξ 208), (ξ 209), (ξ 210), (ξ 211), (ξ 212), (ξ 213), (ξ 214), (ξ 215), (ξ 216), (ξ 217), (ξ 218), (ξ 219)]) ?hrest ?hfirst
          case hfirst =>
            intro _ _ _ _
            have hO := HO.out
            clear HO
            by_cases hc1 : i < m
            · have hc1' := hc1
              by_cases hc2 : m < e
              · have hc2' := hc2
                refine wp_region_list (WL.out ?_)
                refine g_val (Nv .i64 i) ?_
                refine g_val (Nv .i64 m) ?_
                refine g_val (.bool true) ?_ (B.lss_int (a := i) (c := m) (b := true) (decide_eq_true hc1) wr)
                refine g_val (.bool true) ?_
                refine g_val (Nv .i64 m) ?_
                refine g_val (Nv .i64 e) ?_
                refine g_val (.bool true) ?_ (B.lss_int (a := m) (c := e) (b := true) (decide_eq_true hc2) wr)
                refine g_val (.bool true) ?_
                refine g_nil ?_
                simp only [Act.put, List.setIfInBounds_toArray, List.set_cons_succ, List.set_cons_zero]
                clear hO
                go_wp2_with (fail)
                refine Met.intro ?_
                go_step
                exact ⟨fun x9 => [(ξ 25), (ξ 26), (ξ 27), (ξ 28), (ξ 29), (ξ 30), (ξ 31), (ξ 32), (ξ 33), (ξ 34), (ξ 35), (ξ 36), (ξ 37), (ξ 38), (ξ 39), (ξ 40), (ξ 41), (ξ 42), (ξ 43), (ξ 44), (ξ 45), (ξ 46), (ξ 47), (ξ 48), (ξ 49), (ξ 50), (ξ 51), (ξ 52), (ξ 53), (ξ 54), (ξ 55), (ξ 56), (ξ 57), (ξ 58), (ξ 59), (ξ 60), (ξ 61), (ξ 62), (ξ 63), (ξ 64), (ξ 65), (ξ 66), (ξ 67), (ξ 68), (ξ 69), (ξ 70), (ξ 71), (ξ 72), (ξ 73), (ξ 74), (ξ 75), (ξ 76), (ξ 77), (ξ 78), (ξ 79), (ξ 80), (ξ 81), (ξ 82), (ξ 83), (ξ 84), (ξ 85), (ξ 86), (ξ 87), (ξ 88), (ξ 89), (ξ 90), (ξ 91), (ξ 92), (ξ 93), (ξ 94), (ξ 95), (ξ 96), (ξ 97), (ξ 98), (ξ 99), (ξ 100), (ξ 101), (ξ 102), (ξ 103), (ξ 104), (ξ 105), (ξ 106), (ξ 107), (ξ 108), (ξ 109), (ξ 110), (ξ 111), (ξ 112), (ξ 113), (ξ 114), (ξ 115), (ξ 116), (ξ 117), (ξ 118), (ξ 119), (ξ 120), (ξ 121), (ξ 122), (ξ 123), (ξ 124), (ξ 125), (ξ 126), (ξ 127), (ξ 128), (ξ 129), (ξ 130), (ξ 131), (ξ 132), (ξ 133), (ξ 134), (ξ 135), (ξ 136), (ξ 137), (ξ 138), (ξ 139), (ξ 140), (ξ 141), (ξ 142), (ξ 143), (ξ 144), (ξ 145), (ξ 146), Nv .i64 (mid + m), Nv .i64 (mid + m - 1), Nv .i64 i, Nv .i64 i, .bool false, u152, u153, u154, u155, u156, u157, u158, u159, u160, u161, u162, u163, u164, u165, u166, u167, u168, u169, u170, u171, u172, u173, u174, Nv .i64 (mid + m), Nv .i64 i, Nv .i64 e, Nv .i64 i, Nv .i64 m, .bool true, .bool true, Nv .i64 m, Nv .i64 e, .bool true, .bool true, (ξ 186), (ξ 187), (ξ 188), (ξ 189), (ξ 190), (ξ 191), (ξ 192), (ξ 193), (ξ 194), (ξ 195), (ξ 196), (ξ 197), (ξ 198), (ξ 199), (ξ 200), (ξ 201), (ξ 202), (ξ 203), (ξ 204), (ξ 205), (ξ 206), (ξ 207), (ξ 208), (ξ 209), (ξ 210), (ξ 211), (ξ 212), (ξ 213), (ξ 214), (ξ 215), (ξ 216), (ξ 217), (ξ 218), (ξ 219)].getD (x9 - 25) undef, true, ⟨⟨fun _ => ⟨hc1, hc2⟩, fun _ => rfl⟩, rfl⟩, by kernel_rfl⟩
              · have hc2' := hc2
                refine wp_region_list (WL.out ?_)
                refine g_val (Nv .i64 i) ?_
                refine g_val (Nv .i64 m) ?_
                refine g_val (.bool true) ?_ (B.lss_int (a := i) (c := m) (b := true) (decide_eq_true hc1) wr)
                refine g_val (.bool true) ?_
                refine g_val (Nv .i64 m) ?_
                refine g_val (Nv .i64 e) ?_
                refine g_val (.bool false) ?_ (B.lss_int (a := m) (c := e) (b := false) (decide_eq_false hc2) wr)
                refine g_val (.bool false) ?_
                refine g_nil ?_
                simp only [Act.put, List.setIfInBounds_toArray, List.set_cons_succ, List.set_cons_zero]
                clear hO
                go_wp2_with (fail)
                refine Met.intro ?_
                go_step
                exact ⟨fun x9 => [(ξ 25), (ξ 26), (ξ 27), (ξ 28), (ξ 29), (ξ 30), (ξ 31), (ξ 32), (ξ 33), (ξ 34), (ξ 35), (ξ 36), (ξ 37), (ξ 38), (ξ 39), (ξ 40), (ξ 41), (ξ 42), (ξ 43), (ξ 44), (ξ 45), (ξ 46), (ξ 47), (ξ 48), (ξ 49), (ξ 50), (ξ 51), (ξ 52), (ξ 53), (ξ 54), (ξ 55), (ξ 56), (ξ 57), (ξ 58), (ξ 59), (ξ 60), (ξ 61), (ξ 62), (ξ 63), (ξ 64), (ξ 65), (ξ 66), (ξ 67), (ξ 68), (ξ 69), (ξ 70), (ξ 71), (ξ 72), (ξ 73), (ξ 74), (ξ 75), (ξ 76), (ξ 77), (ξ 78), (ξ 79), (ξ 80), (ξ 81), (ξ 82), (ξ 83), (ξ 84), (ξ 85), (ξ 86), (ξ 87), (ξ 88), (ξ 89), (ξ 90), (ξ 91), (ξ 92), (ξ 93), (ξ 94), (ξ 95), (ξ 96), (ξ 97), (ξ 98), (ξ 99), (ξ 100), (ξ 101), (ξ 102), (ξ 103), (ξ 104), (ξ 105), (ξ 106), (ξ 107), (ξ 108), (ξ 109), (ξ 110), (ξ 111), (ξ 112), (ξ 113), (ξ 114), (ξ 115), (ξ 116), (ξ 117), (ξ 118), (ξ 119), (ξ 120), (ξ 121), (ξ 122), (ξ 123), (ξ 124), (ξ 125), (ξ 126), (ξ 127), (ξ 128), (ξ 129), (ξ 130), (ξ 131), (ξ 132), (ξ 133), (ξ 134), (ξ 135), (ξ 136), (ξ 137), (ξ 138), (ξ 139), (ξ 140), (ξ 141), (ξ 142), (ξ 143), (ξ 144), (ξ 145), (ξ 146), Nv .i64 (mid + m), Nv .i64 (mid + m - 1), Nv .i64 i, Nv .i64 i, .bool false, u152, u153, u154, u155, u156, u157, u158, u159, u160, u161, u162, u163, u164, u165, u166, u167, u168, u169, u170, u171, u172, u173, u174, Nv .i64 (mid + m), Nv .i64 i, Nv .i64 e, Nv .i64 i, Nv .i64 m, .bool true, .bool true, Nv .i64 m, Nv .i64 e, .bool false, .bool false, (ξ 186), (ξ 187), (ξ 188), (ξ 189), (ξ 190), (ξ 191), (ξ 192), (ξ 193), (ξ 194), (ξ 195), (ξ 196), (ξ 197), (ξ 198), (ξ 199), (ξ 200), (ξ 201), (ξ 202), (ξ 203), (ξ 204), (ξ 205), (ξ 206), (ξ 207), (ξ 208), (ξ 209), (ξ 210), (ξ 211), (ξ 212), (ξ 213), (ξ 214), (ξ 215), (ξ 216), (ξ 217), (ξ 218), (ξ 219)].getD (x9 - 25) undef, false, ⟨⟨fun h => absurd h (by decide), fun h => absurd h.2 hc2⟩, rfl⟩, by kernel_rfl⟩
            · have hc1' := hc1
              refine wp_region_list (WL.out ?_)
              refine g_val (Nv .i64 i) ?_
              refine g_val (Nv .i64 m) ?_
              refine g_val (.bool false) ?_ (B.lss_int (a := i) (c := m) (b := false) (decide_eq_false hc1) wr)
              refine g_val (.bool false) ?_
              refine g_skip ?_
              refine g_skip ?_
              refine g_skip ?_
              refine g_val (.bool false) ?_
              refine g_nil ?_
              simp only [Act.put, List.setIfInBounds_toArray, List.set_cons_succ, List.set_cons_zero]
              clear hO
              go_wp2_with (fail)
              refine Met.intro ?_
              go_step
              exact ⟨fun x9 => [(ξ 25), (ξ 26), (ξ 27), (ξ 28), (ξ 29), (ξ 30), (ξ 31), (ξ 32), (ξ 33), (ξ 34), (ξ 35), (ξ 36), (ξ 37), (ξ 38), (ξ 39), (ξ 40), (ξ 41), (ξ 42), (ξ 43), (ξ 44), (ξ 45), (ξ 46), (ξ 47), (ξ 48), (ξ 49), (ξ 50), (ξ 51), (ξ 52), (ξ 53), (ξ 54), (ξ 55), (ξ 56), (ξ 57), (ξ 58), (ξ 59), (ξ 60), (ξ 61), (ξ 62), (ξ 63), (ξ 64), (ξ 65), (ξ 66), (ξ 67), (ξ 68), (ξ 69), (ξ 70), (ξ 71), (ξ 72), (ξ 73), (ξ 74), (ξ 75), (ξ 76), (ξ 77), (ξ 78), (ξ 79), (ξ 80), (ξ 81), (ξ 82), (ξ 83), (ξ 84), (ξ 85), (ξ 86), (ξ 87), (ξ 88), (ξ 89), (ξ 90), (ξ 91), (ξ 92), (ξ 93), (ξ 94), (ξ 95), (ξ 96), (ξ 97), (ξ 98), (ξ 99), (ξ 100), (ξ 101), (ξ 102), (ξ 103), (ξ 104), (ξ 105), (ξ 106), (ξ 107), (ξ 108), (ξ 109), (ξ 110), (ξ 111), (ξ 112), (ξ 113), (ξ 114), (ξ 115), (ξ 116), (ξ 117), (ξ 118), (ξ 119), (ξ 120), (ξ 121), (ξ 122), (ξ 123), (ξ 124), (ξ 125), (ξ 126), (ξ 127), (ξ 128), (ξ 129), (ξ 130), (ξ 131), (ξ 132), (ξ 133), (ξ 134), (ξ 135), (ξ 136), (ξ 137), (ξ 138), (ξ 139), (ξ 140), (ξ 141), (ξ 142), (ξ 143), (ξ 144), (ξ 145), (ξ 146), Nv .i64 (mid + m), Nv .i64 (mid + m - 1), Nv .i64 i, Nv .i64 i, .bool false, u152, u153, u154, u155, u156, u157, u158, u159, u160, u161, u162, u163, u164, u165, u166, u167, u168, u169, u170, u171, u172, u173, u174, Nv .i64 (mid + m), Nv .i64 i, Nv .i64 e, Nv .i64 i, Nv .i64 m, .bool false, .bool false, U, U, U, .bool false, (ξ 186), (ξ 187), (ξ 188), (ξ 189), (ξ 190), (ξ 191), (ξ 192), (ξ 193), (ξ 194), (ξ 195), (ξ 196), (ξ 197), (ξ 198), (ξ 199), (ξ 200), (ξ 201), (ξ 202), (ξ 203), (ξ 204), (ξ 205), (ξ 206), (ξ 207), (ξ 208), (ξ 209), (ξ 210), (ξ 211), (ξ 212), (ξ 213), (ξ 214), (ξ 215), (ξ 216), (ξ 217), (ξ 218), (ξ 219)].getD (x9 - 25) undef, false, ⟨⟨fun h => absurd h (by decide), fun h => absurd h.1 hc1⟩, rfl⟩, by kernel_rfl⟩
          case hrest =>
            rintro _ wc ⟨ξ185, bb, ⟨hbb, hwc⟩, rfl⟩
            subst hwc
            go_upto_if 185 with (fail)
            refine wp_cut (fun a' wc => ∃ (ξ : Nat → Value), (Own u wc ((q, cI N n f1, 3) :: M)) ∧ a' = Fr [.slice (some ⟨q, 0, none⟩) n c, Nv .i64 a, Nv .i64 m, Nv .i64 b, .func (.func g) #[] lb, U, U, U, U, U, U, U, U, U, U, U, U, U, Nv .i64 mid, Nv .i64 (mid + m), Nv .i64 i, Nv .i64 i, Nv .i64 (mid + m - 1), u23, Nv .i64 e, (ξ 25), (ξ 26), (ξ 27), (ξ 28), (ξ 29), (ξ 30), (ξ 31), (ξ 32), (ξ 33), (ξ 34), (ξ 35), (ξ 36), (ξ 37), (ξ 38), (ξ 39), (ξ 40), (ξ 41), (ξ 42), (ξ 43), (ξ 44), (ξ 45), (ξ 46), (ξ 47), (ξ 48), (ξ 49), (ξ 50), (ξ 51), (ξ 52), (ξ 53), (ξ 54), (ξ 55), (ξ 56), (ξ 57), (ξ 58), (ξ 59), (ξ 60), (ξ 61), (ξ 62), (ξ 63), (ξ 64), (ξ 65), (ξ 66), (ξ 67), (ξ 68), (ξ 69), (ξ 70), (ξ 71), (ξ 72), (ξ 73), (ξ 74), (ξ 75), (ξ 76), (ξ 77), (ξ 78), (ξ 79), (ξ 80), (ξ 81), (ξ 82), (ξ 83), (ξ 84), (ξ 85), (ξ 86), (ξ 87), (ξ 88), (ξ 89), (ξ 90), (ξ 91), (ξ 92), (ξ 93), (ξ 94), (ξ 95), (ξ 96), (ξ 97), (ξ 98), (ξ 99), (ξ 100), (ξ 101), (ξ 102), (ξ 103), (ξ 104), (ξ 105), (ξ 106), (ξ 107), (ξ 108), (ξ 109), (ξ 110), (ξ 111), (ξ 112), (ξ 113), (ξ 114), (ξ 115), (ξ 116), (ξ 117), (ξ 118), (ξ 119), (ξ 120), (ξ 121), (ξ 122), (ξ 123), (ξ 124), (ξ 125), (ξ 126), (ξ 127), (ξ 128), (ξ 129), (ξ 130), (ξ 131), (ξ 132), (ξ 133), (ξ 134), (ξ 135), (ξ 136), (ξ 137), (ξ 138), (ξ 139), (ξ 140), (ξ 141), (ξ 142), (ξ 143), (ξ 144), (ξ 145), (ξ 146), (ξ 147), (ξ 148), (ξ 149), (ξ 150), (ξ 151), (ξ 152), (ξ 153), (ξ 154), (ξ 155), (ξ 156), (ξ 157), (ξ 158), (ξ 159), (ξ 160), (ξ 161), (ξ 162), (ξ 163), (ξ 164), (ξ 165), (ξ 166), (ξ 167), (ξ 168), (ξ 169), (ξ 170), (ξ 171), (ξ 172), (ξ 173), (ξ 174), (ξ 175), (ξ 176), (ξ 177), (ξ 178), (ξ 179), (ξ 180), (ξ 181), (ξ 182), (ξ 183), (ξ 184), (ξ 185), (ξ 186), (ξ 187), (ξ 188), (ξ 189), (ξ 190), (ξ 191), (ξ 192), (ξ 193), (ξ 194), (ξ 195), (ξ 196), (ξ 197), (ξ 198), (ξ 199), (ξ 200), (ξ 201), (ξ 202), (ξ 203), (ξ 204), (ξ 205), (ξ 206), (ξ 207), (ξ 208), (ξ 209), (ξ 210), (ξ 211), (ξ 212), (ξ 213), (ξ 214), (ξ 215), (ξ 216), (ξ 217), (ξ 218), (ξ 219)]) ?hrest ?hfirst
            case hfirst =>
              intro _ _ _ _
              have hO := HO.out
              clear HO
              cases bb with
              | true =>
                obtain ⟨hc1, hc2⟩ := hbb.1 rfl
                go_upto_region 40 with (fail)
                refine wp_region_list (WL.out ?_)
                refine g_val (.slice (some ⟨q, 0, none⟩) n c) ?_
                refine g_val (Nv .i64 i) ?_
                refine g_val (Nv .i64 m) ?_
                refine g_val (Nv .i64 e) ?_
                refine g_val (.func (.func g) #[] lb) ?_
                refine g_chg (L' := ((q, cI N n (rot f i m e), 3) :: M)) 61 #[.slice (some ⟨q, 0, none⟩) n c, Nv .i64 i, Nv .i64 m, Nv .i64 e, .func (.func g) #[] lb] (.tuple #[]) (Rot_c hN hn hc1 hc2 (by omega) q f u M wr hO) ?_
                intro w1 hO
                refine g_nil ?_
                simp only [Act.put, List.setIfInBounds_toArray, List.set_cons_succ, List.set_cons_zero]
                have HO := hide hO
                clear hO
                go_wp2_with (fail)
                refine Met.intro ?_
                go_step
                exact ⟨fun x9 => [(ξ185 25), (ξ185 26), (ξ185 27), (ξ185 28), (ξ185 29), (ξ185 30), (ξ185 31), (ξ185 32), (ξ185 33), (ξ185 34), (ξ185 35), (ξ185 36), (ξ185 37), (ξ185 38), (ξ185 39), (ξ185 40), (ξ185 41), (ξ185 42), (ξ185 43), (ξ185 44), (ξ185 45), (ξ185 46), (ξ185 47), (ξ185 48), (ξ185 49), (ξ185 50), (ξ185 51), (ξ185 52), (ξ185 53), (ξ185 54), (ξ185 55), (ξ185 56), (ξ185 57), (ξ185 58), (ξ185 59), (ξ185 60), (ξ185 61), (ξ185 62), (ξ185 63), (ξ185 64), (ξ185 65), (ξ185 66), (ξ185 67), (ξ185 68), (ξ185 69), (ξ185 70), (ξ185 71), (ξ185 72), (ξ185 73), (ξ185 74), (ξ185 75), (ξ185 76), (ξ185 77), (ξ185 78), (ξ185 79), (ξ185 80), (ξ185 81), (ξ185 82), (ξ185 83), (ξ185 84), (ξ185 85), (ξ185 86), (ξ185 87), (ξ185 88), (ξ185 89), (ξ185 90), (ξ185 91), (ξ185 92), (ξ185 93), (ξ185 94), (ξ185 95), (ξ185 96), (ξ185 97), (ξ185 98), (ξ185 99), (ξ185 100), (ξ185 101), (ξ185 102), (ξ185 103), (ξ185 104), (ξ185 105), (ξ185 106), (ξ185 107), (ξ185 108), (ξ185 109), (ξ185 110), (ξ185 111), (ξ185 112), (ξ185 113), (ξ185 114), (ξ185 115), (ξ185 116), (ξ185 117), (ξ185 118), (ξ185 119), (ξ185 120), (ξ185 121), (ξ185 122), (ξ185 123), (ξ185 124), (ξ185 125), (ξ185 126), (ξ185 127), (ξ185 128), (ξ185 129), (ξ185 130), (ξ185 131), (ξ185 132), (ξ185 133), (ξ185 134), (ξ185 135), (ξ185 136), (ξ185 137), (ξ185 138), (ξ185 139), (ξ185 140), (ξ185 141), (ξ185 142), (ξ185 143), (ξ185 144), (ξ185 145), (ξ185 146), (ξ185 147), (ξ185 148), (ξ185 149), (ξ185 150), (ξ185 151), (ξ185 152), (ξ185 153), (ξ185 154), (ξ185 155), (ξ185 156), (ξ185 157), (ξ185 158), (ξ185 159), (ξ185 160), (ξ185 161), (ξ185 162), (ξ185 163), (ξ185 164), (ξ185 165), (ξ185 166), (ξ185 167), (ξ185 168), (ξ185 169), (ξ185 170), (ξ185 171), (ξ185 172), (ξ185 173), (ξ185 174), (ξ185 175), (ξ185 176), (ξ185 177), (ξ185 178), (ξ185 179), (ξ185 180), (ξ185 181), (ξ185 182), (ξ185 183), (ξ185 184), .bool true, .slice (some ⟨q, 0, none⟩) n c, Nv .i64 i, Nv .i64 m, Nv .i64 e, .func (.func g) #[] lb, .tuple #[], (ξ185 192), (ξ185 193), (ξ185 194), (ξ185 195), (ξ185 196), (ξ185 197), (ξ185 198), (ξ185 199), (ξ185 200), (ξ185 201), (ξ185 202), (ξ185 203), (ξ185 204), (ξ185 205), (ξ185 206), (ξ185 207), (ξ185 208), (ξ185 209), (ξ185 210), (ξ185 211), (ξ185 212), (ξ185 213), (ξ185 214), (ξ185 215), (ξ185 216), (ξ185 217), (ξ185 218), (ξ185 219)].getD (x9 - 25) undef, (by rw [hf1]; exact HO.out), by kernel_rfl⟩
              | false =>
                have hno : ¬ ((i < m) ∧ m < e) := fun h => absurd (hbb.2 h) (by decide)
                have HO := hide hO
                clear hO
                go_wp2_with (fail)
                refine Met.intro ?_
                go_step
                exact ⟨fun x9 => [(ξ185 25), (ξ185 26), (ξ185 27), (ξ185 28), (ξ185 29), (ξ185 30), (ξ185 31), (ξ185 32), (ξ185 33), (ξ185 34), (ξ185 35), (ξ185 36), (ξ185 37), (ξ185 38), (ξ185 39), (ξ185 40), (ξ185 41), (ξ185 42), (ξ185 43), (ξ185 44), (ξ185 45), (ξ185 46), (ξ185 47), (ξ185 48), (ξ185 49), (ξ185 50), (ξ185 51), (ξ185 52), (ξ185 53), (ξ185 54), (ξ185 55), (ξ185 56), (ξ185 57), (ξ185 58), (ξ185 59), (ξ185 60), (ξ185 61), (ξ185 62), (ξ185 63), (ξ185 64), (ξ185 65), (ξ185 66), (ξ185 67), (ξ185 68), (ξ185 69), (ξ185 70), (ξ185 71), (ξ185 72), (ξ185 73), (ξ185 74), (ξ185 75), (ξ185 76), (ξ185 77), (ξ185 78), (ξ185 79), (ξ185 80), (ξ185 81), (ξ185 82), (ξ185 83), (ξ185 84), (ξ185 85), (ξ185 86), (ξ185 87), (ξ185 88), (ξ185 89), (ξ185 90), (ξ185 91), (ξ185 92), (ξ185 93), (ξ185 94), (ξ185 95), (ξ185 96), (ξ185 97), (ξ185 98), (ξ185 99), (ξ185 100), (ξ185 101), (ξ185 102), (ξ185 103), (ξ185 104), (ξ185 105), (ξ185 106), (ξ185 107), (ξ185 108), (ξ185 109), (ξ185 110), (ξ185 111), (ξ185 112), (ξ185 113), (ξ185 114), (ξ185 115), (ξ185 116), (ξ185 117), (ξ185 118), (ξ185 119), (ξ185 120), (ξ185 121), (ξ185 122), (ξ185 123), (ξ185 124), (ξ185 125), (ξ185 126), (ξ185 127), (ξ185 128), (ξ185 129), (ξ185 130), (ξ185 131), (ξ185 132), (ξ185 133), (ξ185 134), (ξ185 135), (ξ185 136), (ξ185 137), (ξ185 138), (ξ185 139), (ξ185 140), (ξ185 141), (ξ185 142), (ξ185 143), (ξ185 144), (ξ185 145), (ξ185 146), (ξ185 147), (ξ185 148), (ξ185 149), (ξ185 150), (ξ185 151), (ξ185 152), (ξ185 153), (ξ185 154), (ξ185 155), (ξ185 156), (ξ185 157), (ξ185 158), (ξ185 159), (ξ185 160), (ξ185 161), (ξ185 162), (ξ185 163), (ξ185 164), (ξ185 165), (ξ185 166), (ξ185 167), (ξ185 168), (ξ185 169), (ξ185 170), (ξ185 171), (ξ185 172), (ξ185 173), (ξ185 174), (ξ185 175), (ξ185 176), (ξ185 177), (ξ185 178), (ξ185 179), (ξ185 180), (ξ185 181), (ξ185 182), (ξ185 183), (ξ185 184), .bool false, (ξ185 186), (ξ185 187), (ξ185 188), (ξ185 189), (ξ185 190), (ξ185 191), (ξ185 192), (ξ185 193), (ξ185 194), (ξ185 195), (ξ185 196), (ξ185 197), (ξ185 198), (ξ185 199), (ξ185 200), (ξ185 201), (ξ185 202), (ξ185 203), (ξ185 204), (ξ185 205), (ξ185 206), (ξ185 207), (ξ185 208), (ξ185 209), (ξ185 210), (ξ185 211), (ξ185 212), (ξ185 213), (ξ185 214), (ξ185 215), (ξ185 216), (ξ185 217), (ξ185 218), (ξ185 219)].getD (x9 - 25) undef, (if h9 : i < m then (by rw [hf1, show e = m by omega, rot_r]; exact HO.out) else (by rw [hf1, show i = m by omega, rot_l]; exact HO.out)), by kernel_rfl⟩
            case hrest =>
              clear HO hbb
              rintro _ wa185 ⟨η185, hcut, rfl⟩
              have HO := hide hcut
              clear hcut hf1
              have ih := IH.out
              have hcmp := Hcmp.out
              go_upto_region 41 with (fail)
              refine wp_cut (fun a' wc => ∃ (ξ : Nat → Value) (bb : Bool), ((bb = true ↔ (a < i) ∧ i < mid) ∧ wa185 = wc) ∧ a' = Fr [.slice (some ⟨q, 0, none⟩) n c, Nv .i64 a, Nv .i64 m, Nv .i64 b, .func (.func g) #[] lb, U, U, U, U, U, U, U, U, U, U, U, U, U, Nv .i64 mid, Nv .i64 (mid + m), Nv .i64 i, Nv .i64 i, Nv .i64 (mid + m - 1), u23, Nv .i64 e, (ξ 25), (ξ 26), (ξ 27), (ξ 28), (ξ 29), (ξ 30), (ξ 31), (ξ 32), (ξ 33), (ξ 34), (ξ 35), (ξ 36), (ξ 37), (ξ 38), (ξ 39), (ξ 40), (ξ 41), (ξ 42), (ξ 43), (ξ 44), (ξ 45), (ξ 46), (ξ 47), (ξ 48), (ξ 49), (ξ 50), (ξ 51), (ξ 52), (ξ 53), (ξ 54), (ξ 55), (ξ 56), (ξ 57), (ξ 58), (ξ 59), (ξ 60), (ξ 61), (ξ 62), (ξ 63), (ξ 64), (ξ 65), (ξ 66), (ξ 67), (ξ 68), (ξ 69), (ξ 70), (ξ 71), (ξ 72), (ξ 73), (ξ 74), (ξ 75), (ξ 76), (ξ 77), (ξ 78), (ξ 79), (ξ 80), (ξ 81), (ξ 82), (ξ 83), (ξ 84), (ξ 85), (ξ 86), (ξ 87), (ξ 88), (ξ 89), (ξ 90), (ξ 91), (ξ 92), (ξ 93), (ξ 94), (ξ 95), (ξ 96), (ξ 97), (ξ 98), (ξ 99), (ξ 100), (ξ 101), (ξ 102), (ξ 103), (ξ 104), (ξ 105), (ξ 106), (ξ 107), (ξ 108), (ξ 109), (ξ 110), (ξ 111), (ξ 112), (ξ 113), (ξ 114), (ξ 115), (ξ 116), (ξ 117), (ξ 118), (ξ 119), (ξ 120), (ξ 121), (ξ 122), (ξ 123), (ξ 124), (ξ 125), (ξ 126), (ξ 127), (ξ 128), (ξ 129), (ξ 130), (ξ 131), (ξ 132), (ξ 133), (ξ 134), (ξ 135), (ξ 136), (ξ 137), (ξ 138), (ξ 139), (ξ 140), (ξ 141), (ξ 142), (ξ 143), (ξ 144), (ξ 145), (ξ 146), (ξ 147), (ξ 148), (ξ 149), (ξ 150), (ξ 151), (ξ 152), (ξ 153), (ξ 154), (ξ 155), (ξ 156), (ξ 157), (ξ 158), (ξ 159), (ξ 160), (ξ 161), (ξ 162), (ξ 163), (ξ 164), (ξ 165), (ξ 166), (ξ 167), (ξ 168), (ξ 169), (ξ 170), (ξ 171), (ξ 172), (ξ 173), (ξ 174), (ξ 175), (ξ 176), (ξ 177), (ξ 178), (ξ 179), (ξ 180), (ξ 181), (ξ 182), (ξ 183), (ξ 184), (ξ 185), (ξ 186), (ξ 187), (ξ 188), (ξ 189), (ξ 190), (ξ 191), (ξ 192), (ξ 193), (ξ 194), (ξ 195), (ξ 196), (ξ 197), (ξ 198), .bool bb, (ξ 200), (ξ 201), (ξ 202), (ξ 203), (ξ 204), (ξ 205), (ξ 206), (ξ 207), (ξ 208), (ξ 209), (ξ 210), (ξ 211), (ξ 212), (ξ 213), (ξ 214), (ξ 215), (ξ 216), (ξ 217), (ξ 218), (ξ 219)]) ?hrest ?hfirst
              case hfirst =>
                intro _ _ _ _
                have hO := HO.out
                clear HO
                by_cases hc1 : a < i
                · have hc1' := hc1
                  by_cases hc2 : i < mid
                  · have hc2' := hc2
                    refine wp_region_list (WL.out ?_)
                    refine g_val (Nv .i64 a) ?_
                    refine g_val (Nv .i64 i) ?_
                    refine g_val (.bool true) ?_ (B.lss_int (a := a) (c := i) (b := true) (decide_eq_true hc1) wa185)
                    refine g_val (.bool true) ?_
                    refine g_val (Nv .i64 i) ?_
                    refine g_val (Nv .i64 mid) ?_
                    refine g_val (.bool true) ?_ (B.lss_int (a := i) (c := mid) (b := true) (decide_eq_true hc2) wa185)
                    refine g_val (.bool true) ?_
                    refine g_nil ?_
                    simp only [Act.put, List.setIfInBounds_toArray, List.set_cons_succ, List.set_cons_zero]
                    clear hO
                    go_wp2_with (fail)
                    refine Met.intro ?_
                    go_step
                    exact ⟨fun x9 => [(η185 25), (η185 26), (η185 27), (η185 28), (η185 29), (η185 30), (η185 31), (η185 32), (η185 33), (η185 34), (η185 35), (η185 36), (η185 37), (η185 38), (η185 39), (η185 40), (η185 41), (η185 42), (η185 43), (η185 44), (η185 45), (η185 46), (η185 47), (η185 48), (η185 49), (η185 50), (η185 51), (η185 52), (η185 53), (η185 54), (η185 55), (η185 56), (η185 57), (η185 58), (η185 59), (η185 60), (η185 61), (η185 62), (η185 63), (η185 64), (η185 65), (η185 66), (η185 67), (η185 68), (η185 69), (η185 70), (η185 71), (η185 72), (η185 73), (η185 74), (η185 75), (η185 76), (η185 77), (η185 78), (η185 79), (η185 80), (η185 81), (η185 82), (η185 83), (η185 84), (η185 85), (η185 86), (η185 87), (η185 88), (η185 89), (η185 90), (η185 91), (η185 92), (η185 93), (η185 94), (η185 95), (η185 96), (η185 97), (η185 98), (η185 99), (η185 100), (η185 101), (η185 102), (η185 103), (η185 104), (η185 105), (η185 106), (η185 107), (η185 108), (η185 109), (η185 110), (η185 111), (η185 112), (η185 113), (η185 114), (η185 115), (η185 116), (η185 117), (η185 118), (η185 119), (η185 120), (η185 121), (η185 122), (η185 123), (η185 124), (η185 125), (η185 126), (η185 127), (η185 128), (η185 129), (η185 130), (η185 131), (η185 132), (η185 133), (η185 134), (η185 135), (η185 136), (η185 137), (η185 138), (η185 139), (η185 140), (η185 141), (η185 142), (η185 143), (η185 144), (η185 145), (η185 146), (η185 147), (η185 148), (η185 149), (η185 150), (η185 151), (η185 152), (η185 153), (η185 154), (η185 155), (η185 156), (η185 157), (η185 158), (η185 159), (η185 160), (η185 161), (η185 162), (η185 163), (η185 164), (η185 165), (η185 166), (η185 167), (η185 168), (η185 169), (η185 170), (η185 171), (η185 172), (η185 173), (η185 174), (η185 175), (η185 176), (η185 177), (η185 178), (η185 179), (η185 180), (η185 181), (η185 182), (η185 183), (η185 184), (η185 185), (η185 186), (η185 187), (η185 188), (η185 189), (η185 190), (η185 191), Nv .i64 a, Nv .i64 i, .bool true, .bool true, Nv .i64 i, Nv .i64 mid, .bool true, .bool true, (η185 200), (η185 201), (η185 202), (η185 203), (η185 204), (η185 205), (η185 206), (η185 207), (η185 208), (η185 209), (η185 210), (η185 211), (η185 212), (η185 213), (η185 214), (η185 215), (η185 216), (η185 217), (η185 218), (η185 219)].getD (x9 - 25) undef, true, ⟨⟨fun _ => ⟨hc1, hc2⟩, fun _ => rfl⟩, rfl⟩, by kernel_rfl⟩
                  · have hc2' := hc2
                    refine wp_region_list (WL.out ?_)
                    refine g_val (Nv .i64 a) ?_
                    refine g_val (Nv .i64 i) ?_
                    refine g_val (.bool true) ?_ (B.lss_int (a := a) (c := i) (b := true) (decide_eq_true hc1) wa185)
                    refine g_val (.bool true) ?_
                    refine g_val (Nv .i64 i) ?_
                    refine g_val (Nv .i64 mid) ?_
                    refine g_val (.bool false) ?_ (B.lss_int (a := i) (c := mid) (b := false) (decide_eq_false hc2) wa185)
                    refine g_val (.bool false) ?_
                    refine g_nil ?_
                    simp only [Act.put, List.setIfInBounds_toArray, List.set_cons_succ, List.set_cons_zero]
                    clear hO
                    go_wp2_with (fail)
                    refine Met.intro ?_
                    go_step
                    exact ⟨fun x9 => [(η185 25), (η185 26), (η185 27), (η185 28), (η185 29), (η185 30), (η185 31), (η185 32), (η185 33), (η185 34), (η185 35), (η185 36), (η185 37), (η185 38), (η185 39), (η185 40), (η185 41), (η185 42), (η185 43), (η185 44), (η185 45), (η185 46), (η185 47), (η185 48), (η185 49), (η185 50), (η185 51), (η185 52), (η185 53), (η185 54), (η185 55), (η185 56), (η185 57), (η185 58), (η185 59), (η185 60), (η185 61), (η185 62), (η185 63), (η185 64), (η185 65), (η185 66), (η185 67), (η185 68), (η185 69), (η185 70), (η185 71), (η185 72), (η185 73), (η185 74), (η185 75), (η185 76), (η185 77), (η185 78), (η185 79), (η185 80), (η185 81), (η185 82), (η185 83), (η185 84), (η185 85), (η185 86), (η185 87), (η185 88), (η185 89), (η185 90), (η185 91), (η185 92), (η185 93), (η185 94), (η185 95), (η185 96), (η185 97), (η185 98), (η185 99), (η185 100), (η185 101), (η185 102), (η185 103), (η185 104), (η185 105), (η185 106), (η185 107), (η185 108), (η185 109), (η185 110), (η185 111), (η185 112), (η185 113), (η185 114), (η185 115), (η185 116), (η185 117), (η185 118), (η185 119), (η185 120), (η185 121), (η185 122), (η185 123), (η185 124), (η185 125), (η185 126), (η185 127), (η185 128), (η185 129), (η185 130), (η185 131), (η185 132), (η185 133), (η185 134), (η185 135), (η185 136), (η185 137), (η185 138), (η185 139), (η185 140), (η185 141), (η185 142), (η185 143), (η185 144), (η185 145), (η185 146), (η185 147), (η185 148), (η185 149), (η185 150), (η185 151), (η185 152), (η185 153), (η185 154), (η185 155), (η185 156), (η185 157), (η185 158), (η185 159), (η185 160), (η185 161), (η185 162), (η185 163), (η185 164), (η185 165), (η185 166), (η185 167), (η185 168), (η185 169), (η185 170), (η185 171), (η185 172), (η185 173), (η185 174), (η185 175), (η185 176), (η185 177), (η185 178), (η185 179), (η185 180), (η185 181), (η185 182), (η185 183), (η185 184), (η185 185), (η185 186), (η185 187), (η185 188), (η185 189), (η185 190), (η185 191), Nv .i64 a, Nv .i64 i, .bool true, .bool true, Nv .i64 i, Nv .i64 mid, .bool false, .bool false, (η185 200), (η185 201), (η185 202), (η185 203), (η185 204), (η185 205), (η185 206), (η185 207), (η185 208), (η185 209), (η185 210), (η185 211), (η185 212), (η185 213), (η185 214), (η185 215), (η185 216), (η185 217), (η185 218), (η185 219)].getD (x9 - 25) undef, false, ⟨⟨fun h => absurd h (by decide), fun h => absurd h.2 hc2⟩, rfl⟩, by kernel_rfl⟩
                · have hc1' := hc1
                  refine wp_region_list (WL.out ?_)
                  refine g_val (Nv .i64 a) ?_
                  refine g_val (Nv .i64 i) ?_
                  refine g_val (.bool false) ?_ (B.lss_int (a := a) (c := i) (b := false) (decide_eq_false hc1) wa185)
                  refine g_val (.bool false) ?_
                  refine g_skip ?_
                  refine g_skip ?_
                  refine g_skip ?_
                  refine g_val (.bool false) ?_
                  refine g_nil ?_
                  simp only [Act.put, List.setIfInBounds_toArray, List.set_cons_succ, List.set_cons_zero]
                  clear hO
                  go_wp2_with (fail)
                  refine Met.intro ?_
                  go_step
                  exact ⟨fun x9 => [(η185 25), (η185 26), (η185 27), (η185 28), (η185 29), (η185 30), (η185 31), (η185 32), (η185 33), (η185 34), (η185 35), (η185 36), (η185 37), (η185 38), (η185 39), (η185 40), (η185 41), (η185 42), (η185 43), (η185 44), (η185 45), (η185 46), (η185 47), (η185 48), (η185 49), (η185 50), (η185 51), (η185 52), (η185 53), (η185 54), (η185 55), (η185 56), (η185 57), (η185 58), (η185 59), (η185 60), (η185 61), (η185 62), (η185 63), (η185 64), (η185 65), (η185 66), (η185 67), (η185 68), (η185 69), (η185 70), (η185 71), (η185 72), (η185 73), (η185 74), (η185 75), (η185 76), (η185 77), (η185 78), (η185 79), (η185 80), (η185 81), (η185 82), (η185 83), (η185 84), (η185 85), (η185 86), (η185 87), (η185 88), (η185 89), (η185 90), (η185 91), (η185 92), (η185 93), (η185 94), (η185 95), (η185 96), (η185 97), (η185 98), (η185 99), (η185 100), (η185 101), (η185 102), (η185 103), (η185 104), (η185 105), (η185 106), (η185 107), (η185 108), (η185 109), (η185 110), (η185 111), (η185 112), (η185 113), (η185 114), (η185 115), (η185 116), (η185 117), (η185 118), (η185 119), (η185 120), (η185 121), (η185 122), (η185 123), (η185 124), (η185 125), (η185 126), (η185 127), (η185 128), (η185 129), (η185 130), (η185 131), (η185 132), (η185 133), (η185 134), (η185 135), (η185 136), (η185 137), (η185 138), (η185 139), (η185 140), (η185 141), (η185 142), (η185 143), (η185 144), (η185 145), (η185 146), (η185 147), (η185 148), (η185 149), (η185 150), (η185 151), (η185 152), (η185 153), (η185 154), (η185 155), (η185 156), (η185 157), (η185 158), (η185 159), (η185 160), (η185 161), (η185 162), (η185 163), (η185 164), (η185 165), (η185 166), (η185 167), (η185 168), (η185 169), (η185 170), (η185 171), (η185 172), (η185 173), (η185 174), (η185 175), (η185 176), (η185 177), (η185 178), (η185 179), (η185 180), (η185 181), (η185 182), (η185 183), (η185 184), (η185 185), (η185 186), (η185 187), (η185 188), (η185 189), (η185 190), (η185 191), Nv .i64 a, Nv .i64 i, .bool false, .bool false, U, U, U, .bool false, (η185 200), (η185 201), (η185 202), (η185 203), (η185 204), (η185 205), (η185 206), (η185 207), (η185 208), (η185 209), (η185 210), (η185 211), (η185 212), (η185 213), (η185 214), (η185 215), (η185 216), (η185 217), (η185 218), (η185 219)].getD (x9 - 25) undef, false, ⟨⟨fun h => absurd h (by decide), fun h => absurd h.1 hc1⟩, rfl⟩, by kernel_rfl⟩
              case hrest =>
                rintro _ wc ⟨ξ199, bb, ⟨hbb, hwc⟩, rfl⟩
                subst hwc
                go_upto_if 199 with (fail)
                refine wp_cut (fun a' wc => ∃ (ξ : Nat → Value), (∃ f2, Mgd k f1 f2 a mid ∧ Own u wc ((q, cI N n f2, 3) :: M)) ∧ a' = Fr [.slice (some ⟨q, 0, none⟩) n c, Nv .i64 a, Nv .i64 m, Nv .i64 b, .func (.func g) #[] lb, U, U, U, U, U, U, U, U, U, U, U, U, U, Nv .i64 mid, Nv .i64 (mid + m), Nv .i64 i, Nv .i64 i, Nv .i64 (mid + m - 1), u23, Nv .i64 e, (ξ 25), (ξ 26), (ξ 27), (ξ 28), (ξ 29), (ξ 30), (ξ 31), (ξ 32), (ξ 33), (ξ 34), (ξ 35), (ξ 36), (ξ 37), (ξ 38), (ξ 39), (ξ 40), (ξ 41), (ξ 42), (ξ 43), (ξ 44), (ξ 45), (ξ 46), (ξ 47), (ξ 48), (ξ 49), (ξ 50), (ξ 51), (ξ 52), (ξ 53), (ξ 54), (ξ 55), (ξ 56), (ξ 57), (ξ 58), (ξ 59), (ξ 60), (ξ 61), (ξ 62), (ξ 63), (ξ 64), (ξ 65), (ξ 66), (ξ 67), (ξ 68), (ξ 69), (ξ 70), (ξ 71), (ξ 72), (ξ 73), (ξ 74), (ξ 75), (ξ 76), (ξ 77), (ξ 78), (ξ 79), (ξ 80), (ξ 81), (ξ 82), (ξ 83), (ξ 84), (ξ 85), (ξ 86), (ξ 87), (ξ 88), (ξ 89), (ξ 90), (ξ 91), (ξ 92), (ξ 93), (ξ 94), (ξ 95), (ξ 96), (ξ 97), (ξ 98), (ξ 99), (ξ 100), (ξ 101), (ξ 102), (ξ 103), (ξ 104), (ξ 105), (ξ 106), (ξ 107), (ξ 108), (ξ 109), (ξ 110), (ξ 111), (ξ 112), (ξ 113), (ξ 114), (ξ 115), (ξ 116), (ξ 117), (ξ 118), (ξ 119), (ξ 120), (ξ 121), (ξ 122), (ξ 123), (ξ 124), (ξ 125), (ξ 126), (ξ 127), (ξ 128), (ξ 129), (ξ 130), (ξ 131), (ξ 132), (ξ 133), (ξ 134), (ξ 135), (ξ 136), (ξ 137), (ξ 138), (ξ 139), (ξ 140), (ξ 141), (ξ 142), (ξ 143), (ξ 144), (ξ 145), (ξ 146), (ξ 147), (ξ 148), (ξ 149), (ξ 150), (ξ 151), (ξ 152), (ξ 153), (ξ 154), (ξ 155), (ξ 156), (ξ 157), (ξ 158), (ξ 159), (ξ 160), (ξ 161), (ξ 162), (ξ 163), (ξ 164), (ξ 165), (ξ 166), (ξ 167), (ξ 168), (ξ 169), (ξ 170), (ξ 171), (ξ 172), (ξ 173), (ξ 174), (ξ 175), (ξ 176), (ξ 177), (ξ 178), (ξ 179), (ξ 180), (ξ 181), (ξ 182), (ξ 183), (ξ 184), (ξ 185), (ξ 186), (ξ 187), (ξ 188), (ξ 189), (ξ 190), (ξ 191), (ξ 192), (ξ 193), (ξ 194), (ξ 195), (ξ 196), (ξ 197), (ξ 198), (ξ 199), (ξ 200), (ξ 201), (ξ 202), (ξ 203), (ξ 204), (ξ 205), (ξ 206), (ξ 207), (ξ 208), (ξ 209), (ξ 210), (ξ 211), (ξ 212), (ξ 213), (ξ 214), (ξ 215), (ξ 216), (ξ 217), (ξ 218), (ξ 219)]) ?hrest ?hfirst
                case hfirst =>
                  intro _ _ _ _
                  have hO := HO.out
                  clear HO
                  cases bb with
                  | true =>
                    obtain ⟨hc1, hc2⟩ := hbb.1 rfl
                    go_upto_region 42 with (fail)
                    refine wp_region_list (WL.out ?_)
                    refine g_val (.slice (some ⟨q, 0, none⟩) n c) ?_
                    refine g_val (Nv .i64 a) ?_
                    refine g_val (Nv .i64 i) ?_
                    refine g_val (Nv .i64 mid) ?_
                    refine g_val (.func (.func g) #[] lb) ?_
                    refine g_any 60 #[.slice (some ⟨q, 0, none⟩) n c, Nv .i64 a, Nv .i64 i, Nv .i64 mid, .func (.func g) #[] lb] (ih a i mid (by omega) hc1 hc2 (by omega) f1 hK1 t1 t2 (tS.mono (Nat.le_refl _) (by omega)) wa185 hO) ?_
                    rintro _ w1 ⟨rfl, f2, hm2, hO⟩
                    replace hO : Own u w1 ((q, cI N n f2, 3) :: M) := hO
                    refine g_nil ?_
                    simp only [Act.put, List.setIfInBounds_toArray, List.set_cons_succ, List.set_cons_zero]
                    have HO := hide hO
                    clear hO
                    go_wp2_with (fail)
                    refine Met.intro ?_
                    go_step
                    exact ⟨fun x9 => [(ξ199 25), (ξ199 26), (ξ199 27), (ξ199 28), (ξ199 29), (ξ199 30), (ξ199 31), (ξ199 32), (ξ199 33), (ξ199 34), (ξ199 35), (ξ199 36), (ξ199 37), (ξ199 38), (ξ199 39), (ξ199 40), (ξ199 41), (ξ199 42), (ξ199 43), (ξ199 44), (ξ199 45), (ξ199 46), (ξ199 47), (ξ199 48), (ξ199 49), (ξ199 50), (ξ199 51), (ξ199 52), (ξ199 53), (ξ199 54), (ξ199 55), (ξ199 56), (ξ199 57), (ξ199 58), (ξ199 59), (ξ199 60), (ξ199 61), (ξ199 62), (ξ199 63), (ξ199 64), (ξ199 65), (ξ199 66), (ξ199 67), (ξ199 68), (ξ199 69), (ξ199 70), (ξ199 71), (ξ199 72), (ξ199 73), (ξ199 74), (ξ199 75), (ξ199 76), (ξ199 77), (ξ199 78), (ξ199 79), (ξ199 80), (ξ199 81), (ξ199 82), (ξ199 83), (ξ199 84), (ξ199 85), (ξ199 86), (ξ199 87), (ξ199 88), (ξ199 89), (ξ199 90), (ξ199 91), (ξ199 92), (ξ199 93), (ξ199 94), (ξ199 95), (ξ199 96), (ξ199 97), (ξ199 98), (ξ199 99), (ξ199 100), (ξ199 101), (ξ199 102), (ξ199 103), (ξ199 104), (ξ199 105), (ξ199 106), (ξ199 107), (ξ199 108), (ξ199 109), (ξ199 110), (ξ199 111), (ξ199 112), (ξ199 113), (ξ199 114), (ξ199 115), (ξ199 116), (ξ199 117), (ξ199 118), (ξ199 119), (ξ199 120), (ξ199 121), (ξ199 122), (ξ199 123), (ξ199 124), (ξ199 125), (ξ199 126), (ξ199 127), (ξ199 128), (ξ199 129), (ξ199 130), (ξ199 131), (ξ199 132), (ξ199 133), (ξ199 134), (ξ199 135), (ξ199 136), (ξ199 137), (ξ199 138), (ξ199 139), (ξ199 140), (ξ199 141), (ξ199 142), (ξ199 143), (ξ199 144), (ξ199 145), (ξ199 146), (ξ199 147), (ξ199 148), (ξ199 149), (ξ199 150), (ξ199 151), (ξ199 152), (ξ199 153), (ξ199 154), (ξ199 155), (ξ199 156), (ξ199 157), (ξ199 158), (ξ199 159), (ξ199 160), (ξ199 161), (ξ199 162), (ξ199 163), (ξ199 164), (ξ199 165), (ξ199 166), (ξ199 167), (ξ199 168), (ξ199 169), (ξ199 170), (ξ199 171), (ξ199 172), (ξ199 173), (ξ199 174), (ξ199 175), (ξ199 176), (ξ199 177), (ξ199 178), (ξ199 179), (ξ199 180), (ξ199 181), (ξ199 182), (ξ199 183), (ξ199 184), (ξ199 185), (ξ199 186), (ξ199 187), (ξ199 188), (ξ199 189), (ξ199 190), (ξ199 191), (ξ199 192), (ξ199 193), (ξ199 194), (ξ199 195), (ξ199 196), (ξ199 197), (ξ199 198), .bool true, .slice (some ⟨q, 0, none⟩) n c, Nv .i64 a, Nv .i64 i, Nv .i64 mid, .func (.func g) #[] lb, .tuple #[], (ξ199 206), (ξ199 207), (ξ199 208), (ξ199 209), (ξ199 210), (ξ199 211), (ξ199 212), (ξ199 213), (ξ199 214), (ξ199 215), (ξ199 216), (ξ199 217), (ξ199 218), (ξ199 219)].getD (x9 - 25) undef, ⟨f2, hm2, HO.out⟩, by kernel_rfl⟩
                  | false =>
                    have hno : ¬ ((a < i) ∧ i < mid) := fun h => absurd (hbb.2 h) (by decide)
                    have HO := hide hO
                    clear hO
                    go_wp2_with (fail)
                    refine Met.intro ?_
                    go_step
                    exact ⟨fun x9 => [(ξ199 25), (ξ199 26), (ξ199 27), (ξ199 28), (ξ199 29), (ξ199 30), (ξ199 31), (ξ199 32), (ξ199 33), (ξ199 34), (ξ199 35), (ξ199 36), (ξ199 37), (ξ199 38), (ξ199 39), (ξ199 40), (ξ199 41), (ξ199 42), (ξ199 43), (ξ199 44), (ξ199 45), (ξ199 46), (ξ199 47), (ξ199 48), (ξ199 49), (ξ199 50), (ξ199 51), (ξ199 52), (ξ199 53), (ξ199 54), (ξ199 55), (ξ199 56), (ξ199 57), (ξ199 58), (ξ199 59), (ξ199 60), (ξ199 61), (ξ199 62), (ξ199 63), (ξ199 64), (ξ199 65), (ξ199 66), (ξ199 67), (ξ199 68), (ξ199 69), (ξ199 70), (ξ199 71), (ξ199 72), (ξ199 73), (ξ199 74), (ξ199 75), (ξ199 76), (ξ199 77), (ξ199 78), (ξ199 79), (ξ199 80), (ξ199 81), (ξ199 82), (ξ199 83), (ξ199 84), (ξ199 85), (ξ199 86), (ξ199 87), (ξ199 88), (ξ199 89), (ξ199 90), (ξ199 91), (ξ199 92), (ξ199 93), (ξ199 94), (ξ199 95), (ξ199 96), (ξ199 97), (ξ199 98), (ξ199 99), (ξ199 100), (ξ199 101), (ξ199 102), (ξ199 103), (ξ199 104), (ξ199 105), (ξ199 106), (ξ199 107), (ξ199 108), (ξ199 109), (ξ199 110), (ξ199 111), (ξ199 112), (ξ199 113), (ξ199 114), (ξ199 115), (ξ199 116), (ξ199 117), (ξ199 118), (ξ199 119), (ξ199 120), (ξ199 121), (ξ199 122), (ξ199 123), (ξ199 124), (ξ199 125), (ξ199 126), (ξ199 127), (ξ199 128), (ξ199 129), (ξ199 130), (ξ199 131), (ξ199 132), (ξ199 133), (ξ199 134), (ξ199 135), (ξ199 136), (ξ199 137), (ξ199 138), (ξ199 139), (ξ199 140), (ξ199 141), (ξ199 142), (ξ199 143), (ξ199 144), (ξ199 145), (ξ199 146), (ξ199 147), (ξ199 148), (ξ199 149), (ξ199 150), (ξ199 151), (ξ199 152), (ξ199 153), (ξ199 154), (ξ199 155), (ξ199 156), (ξ199 157), (ξ199 158), (ξ199 159), (ξ199 160), (ξ199 161), (ξ199 162), (ξ199 163), (ξ199 164), (ξ199 165), (ξ199 166), (ξ199 167), (ξ199 168), (ξ199 169), (ξ199 170), (ξ199 171), (ξ199 172), (ξ199 173), (ξ199 174), (ξ199 175), (ξ199 176), (ξ199 177), (ξ199 178), (ξ199 179), (ξ199 180), (ξ199 181), (ξ199 182), (ξ199 183), (ξ199 184), (ξ199 185), (ξ199 186), (ξ199 187), (ξ199 188), (ξ199 189), (ξ199 190), (ξ199 191), (ξ199 192), (ξ199 193), (ξ199 194), (ξ199 195), (ξ199 196), (ξ199 197), (ξ199 198), .bool false, (ξ199 200), (ξ199 201), (ξ199 202), (ξ199 203), (ξ199 204), (ξ199 205), (ξ199 206), (ξ199 207), (ξ199 208), (ξ199 209), (ξ199 210), (ξ199 211), (ξ199 212), (ξ199 213), (ξ199 214), (ξ199 215), (ξ199 216), (ξ199 217), (ξ199 218), (ξ199 219)].getD (x9 - 25) undef, ⟨f1, mgd_none t1 t2 hno (tS.mono (Nat.le_refl _) (by omega)) q1 (by omega), HO.out⟩, by kernel_rfl⟩
                case hrest =>
                  clear HO hbb
                  rintro _ wa199 ⟨η199, hcut, rfl⟩
                  obtain ⟨f2, hm2, hO⟩ := hcut
                  have HO := hide hO
                  clear hO
                  have hK2 := ck_of hm2.1 (show mid ≤ n by omega) hK1
                  have t3' : So k f2 mid e := t3.of_eq fun i hi _ => hm2.1.out (by omega)
                  have t4' : So k f2 e b := t4.of_eq fun i hi _ => hm2.1.out (by omega)
                  have tS' : Sb k f2 mid b := (sb_of hm2.1 tS hm2.2.2 (Nat.le_refl _) (by omega)).mono (by omega) (Nat.le_refl _)
                  go_upto_region 43 with (fail)
                  refine wp_cut (fun a' wc => ∃ (ξ : Nat → Value) (bb : Bool), ((bb = true ↔ (mid < e) ∧ e < b) ∧ wa199 = wc) ∧ a' = Fr [.slice (some ⟨q, 0, none⟩) n c, Nv .i64 a, Nv .i64 m, Nv .i64 b, .func (.func g) #[] lb, U, U, U, U, U, U, U, U, U, U, U, U, U, Nv .i64 mid, Nv .i64 (mid + m), Nv .i64 i, Nv .i64 i, Nv .i64 (mid + m - 1), u23, Nv .i64 e, (ξ 25), (ξ 26), (ξ 27), (ξ 28), (ξ 29), (ξ 30), (ξ 31), (ξ 32), (ξ 33), (ξ 34), (ξ 35), (ξ 36), (ξ 37), (ξ 38), (ξ 39), (ξ 40), (ξ 41), (ξ 42), (ξ 43), (ξ 44), (ξ 45), (ξ 46), (ξ 47), (ξ 48), (ξ 49), (ξ 50), (ξ 51), (ξ 52), (ξ 53), (ξ 54), (ξ 55), (ξ 56), (ξ 57), (ξ 58), (ξ 59), (ξ 60), (ξ 61), (ξ 62), (ξ 63), (ξ 64), (ξ 65), (ξ 66), (ξ 67), (ξ 68), (ξ 69), (ξ 70), (ξ 71), (ξ 72), (ξ 73), (ξ 74), (ξ 75), (ξ 76), (ξ 77), (ξ 78), (ξ 79), (ξ 80), (ξ 81), (ξ 82), (ξ 83), (ξ 84), (ξ 85), (ξ 86), (ξ 87), (ξ 88), (ξ 89), (ξ 90), (ξ 91), (ξ 92), (ξ 93), (ξ 94), (ξ 95), (ξ 96), (ξ 97), (ξ 98), (ξ 99), (ξ 100), (ξ 101), (ξ 102), (ξ 103), (ξ 104), (ξ 105), (ξ 106), (ξ 107), (ξ 108), (ξ 109), (ξ 110), (ξ 111), (ξ 112), (ξ 113), (ξ 114), (ξ 115), (ξ 116), (ξ 117), (ξ 118), (ξ 119), (ξ 120), (ξ 121), (ξ 122), (ξ 123), (ξ 124), (ξ 125), (ξ 126), (ξ 127), (ξ 128), (ξ 129), (ξ 130), (ξ 131), (ξ 132), (ξ 133), (ξ 134), (ξ 135), (ξ 136), (ξ 137), (ξ 138), (ξ 139), (ξ 140), (ξ 141), (ξ 142), (ξ 143), (ξ 144), (ξ 145), (ξ 146), (ξ 147), (ξ 148), (ξ 149), (ξ 150), (ξ 151), (ξ 152), (ξ 153), (ξ 154), (ξ 155), (ξ 156), (ξ 157), (ξ 158), (ξ 159), (ξ 160), (ξ 161), (ξ 162), (ξ 163), (ξ 164), (ξ 165), (ξ 166), (ξ 167), (ξ 168), (ξ 169), (ξ 170), (ξ 171), (ξ 172), (ξ 173), (ξ 174), (ξ 175), (ξ 176), (ξ 177), (ξ 178), (ξ 179), (ξ 180), (ξ 181), (ξ 182), (ξ 183), (ξ 184), (ξ 185), (ξ 186), (ξ 187), (ξ 188), (ξ 189), (ξ 190), (ξ 191), (ξ 192), (ξ 193), (ξ 194), (ξ 195), (ξ 196), (ξ 197), (ξ 198), (ξ 199), (ξ 200), (ξ 201), (ξ 202), (ξ 203), (ξ 204), (ξ 205), (ξ 206), (ξ 207), (ξ 208), (ξ 209), (ξ 210), (ξ 211), (ξ 212), .bool bb, (ξ 214), (ξ 215), (ξ 216), (ξ 217), (ξ 218), (ξ 219)]) ?hrest ?hfirst
                  case hfirst =>
                    intro _ _ _ _
                    have hO := HO.out
                    clear HO
                    by_cases hc1 : mid < e
                    · have hc1' := hc1
                      by_cases hc2 : e < b
                      · have hc2' := hc2
                        refine wp_region_list (WL.out ?_)
                        refine g_val (Nv .i64 mid) ?_
                        refine g_val (Nv .i64 e) ?_
                        refine g_val (.bool true) ?_ (B.lss_int (a := mid) (c := e) (b := true) (decide_eq_true hc1) wa199)
                        refine g_val (.bool true) ?_
                        refine g_val (Nv .i64 e) ?_
                        refine g_val (Nv .i64 b) ?_
                        refine g_val (.bool true) ?_ (B.lss_int (a := e) (c := b) (b := true) (decide_eq_true hc2) wa199)
                        refine g_val (.bool true) ?_
                        refine g_nil ?_
                        simp only [Act.put, List.setIfInBounds_toArray, List.set_cons_succ, List.set_cons_zero]
                        clear hO
                        go_wp2_with (fail)
                        refine Met.intro ?_
                        go_step
                        exact ⟨fun x9 => [(η199 25), (η199 26), (η199 27), (η199 28), (η199 29), (η199 30), (η199 31), (η199 32), (η199 33), (η199 34), (η199 35), (η199 36), (η199 37), (η199 38), (η199 39), (η199 40), (η199 41), (η199 42), (η199 43), (η199 44), (η199 45), (η199 46), (η199 47), (η199 48), (η199 49), (η199 50), (η199 51), (η199 52), (η199 53), (η199 54), (η199 55), (η199 56), (η199 57), (η199 58), (η199 59), (η199 60), (η199 61), (η199 62), (η199 63), (η199 64), (η199 65), (η199 66), (η199 67), (η199 68), (η199 69), (η199 70), (η199 71), (η199 72), (η199 73), (η199 74), (η199 75), (η199 76), (η199 77), (η199 78), (η199 79), (η199 80), (η199 81), (η199 82), (η199 83), (η199 84), (η199 85), (η199 86), (η199 87), (η199 88), (η199 89), (η199 90), (η199 91), (η199 92), (η199 93), (η199 94), (η199 95), (η199 96), (η199 97), (η199 98), (η199 99), (η199 100), (η199 101), (η199 102), (η199 103), (η199 104), (η199 105), (η199 106), (η199 107), (η199 108), (η199 109), (η199 110), (η199 111), (η199 112), (η199 113), (η199 114), (η199 115), (η199 116), (η199 117), (η199 118), (η199 119), (η199 120), (η199 121), (η199 122), (η199 123), (η199 124), (η199 125), (η199 126), (η199 127), (η199 128), (η199 129), (η199 130), (η199 131), (η199 132), (η199 133), (η199 134), (η199 135), (η199 136), (η199 137), (η199 138), (η199 139), (η199 140), (η199 141), (η199 142), (η199 143), (η199 144), (η199 145), (η199 146), (η199 147), (η199 148), (η199 149), (η199 150), (η199 151), (η199 152), (η199 153), (η199 154), (η199 155), (η199 156), (η199 157), (η199 158), (η199 159), (η199 160), (η199 161), (η199 162), (η199 163), (η199 164), (η199 165), (η199 166), (η199 167), (η199 168), (η199 169), (η199 170), (η199 171), (η199 172), (η199 173), (η199 174), (η199 175), (η199 176), (η199 177), (η199 178), (η199 179), (η199 180), (η199 181), (η199 182), (η199 183), (η199 184), (η199 185), (η199 186), (η199 187), (η199 188), (η199 189), (η199 190), (η199 191), (η199 192), (η199 193), (η199 194), (η199 195), (η199 196), (η199 197), (η199 198), (η199 199), (η199 200), (η199 201), (η199 202), (η199 203), (η199 204), (η199 205), Nv .i64 mid, Nv .i64 e, .bool true, .bool true, Nv .i64 e, Nv .i64 b, .bool true, .bool true, (η199 214), (η199 215), (η199 216), (η199 217), (η199 218), (η199 219)].getD (x9 - 25) undef, true, ⟨⟨fun _ => ⟨hc1, hc2⟩, fun _ => rfl⟩, rfl⟩, by kernel_rfl⟩
                      · have hc2' := hc2
                        refine wp_region_list (WL.out ?_)
                        refine g_val (Nv .i64 mid) ?_
                        refine g_val (Nv .i64 e) ?_
                        refine g_val (.bool true) ?_ (B.lss_int (a := mid) (c := e) (b := true) (decide_eq_true hc1) wa199)
                        refine g_val (.bool true) ?_
                        refine g_val (Nv .i64 e) ?_
                        refine g_val (Nv .i64 b) ?_
                        refine g_val (.bool false) ?_ (B.lss_int (a := e) (c := b) (b := false) (decide_eq_false hc2) wa199)
                        refine g_val (.bool false) ?_
                        refine g_nil ?_
                        simp only [Act.put, List.setIfInBounds_toArray, List.set_cons_succ, List.set_cons_zero]
                        clear hO
                        go_wp2_with (fail)
                        refine Met.intro ?_
                        go_step
                        exact ⟨fun x9 => [(η199 25), (η199 26), (η199 27), (η199 28), (η199 29), (η199 30), (η199 31), (η199 32), (η199 33), (η199 34), (η199 35), (η199 36), (η199 37), (η199 38), (η199 39), (η199 40), (η199 41), (η199 42), (η199 43), (η199 44), (η199 45), (η199 46), (η199 47), (η199 48), (η199 49), (η199 50), (η199 51), (η199 52), (η199 53), (η199 54), (η199 55), (η199 56), (η199 57), (η199 58), (η199 59), (η199 60), (η199 61), (η199 62), (η199 63), (η199 64), (η199 65), (η199 66), (η199 67), (η199 68), (η199 69), (η199 70), (η199 71), (η199 72), (η199 73), (η199 74), (η199 75), (η199 76), (η199 77), (η199 78), (η199 79), (η199 80), (η199 81), (η199 82), (η199 83), (η199 84), (η199 85), (η199 86), (η199 87), (η199 88), (η199 89), (η199 90), (η199 91), (η199 92), (η199 93), (η199 94), (η199 95), (η199 96), (η199 97), (η199 98), (η199 99), (η199 100), (η199 101), (η199 102), (η199 103), (η199 104), (η199 105), (η199 106), (η199 107), (η199 108), (η199 109), (η199 110), (η199 111), (η199 112), (η199 113), (η199 114), (η199 115), (η199 116), (η199 117), (η199 118), (η199 119), (η199 120), (η199 121), (η199 122), (η199 123), (η199 124), (η199 125), (η199 126), (η199 127), (η199 128), (η199 129), (η199 130), (η199 131), (η199 132), (η199 133), (η199 134), (η199 135), (η199 136), (η199 137), (η199 138), (η199 139), (η199 140), (η199 141), (η199 142), (η199 143), (η199 144), (η199 145), (η199 146), (η199 147), (η199 148), (η199 149), (η199 150), (η199 151), (η199 152), (η199 153), (η199 154), (η199 155), (η199 156), (η199 157), (η199 158), (η199 159), (η199 160), (η199 161), (η199 162), (η199 163), (η199 164), (η199 165), (η199 166), (η199 167), (η199 168), (η199 169), (η199 170), (η199 171), (η199 172), (η199 173), (η199 174), (η199 175), (η199 176), (η199 177), (η199 178), (η199 179), (η199 180), (η199 181), (η199 182), (η199 183), (η199 184), (η199 185), (η199 186), (η199 187), (η199 188), (η199 189), (η199 190), (η199 191), (η199 192), (η199 193), (η199 194), (η199 195), (η199 196), (η199 197), (η199 198), (η199 199), (η199 200), (η199 201), (η199 202), (η199 203), (η199 204), (η199 205), Nv .i64 mid, Nv .i64 e, .bool true, .bool true, Nv .i64 e, Nv .i64 b, .bool false, .bool false, (η199 214), (η199 215), (η199 216), (η199 217), (η199 218), (η199 219)].getD (x9 - 25) undef, false, ⟨⟨fun h => absurd h (by decide), fun h => absurd h.2 hc2⟩, rfl⟩, by kernel_rfl⟩
                    · have hc1' := hc1
                      refine wp_region_list (WL.out ?_)
                      refine g_val (Nv .i64 mid) ?_
                      refine g_val (Nv .i64 e) ?_
                      refine g_val (.bool false) ?_ (B.lss_int (a := mid) (c := e) (b := false) (decide_eq_false hc1) wa199)
                      refine g_val (.bool false) ?_
                      refine g_skip ?_
                      refine g_skip ?_
                      refine g_skip ?_
                      refine g_val (.bool false) ?_
                      refine g_nil ?_
                      simp only [Act.put, List.setIfInBounds_toArray, List.set_cons_succ, List.set_cons_zero]
                      clear hO
                      go_wp2_with (fail)
                      refine Met.intro ?_
                      go_step
                      exact ⟨fun x9 => [(η199 25), (η199 26), (η199 27), (η199 28), (η199 29), (η199 30), (η199 31), (η199 32), (η199 33), (η199 34), (η199 35), (η199 36), (η199 37), (η199 38), (η199 39), (η199 40), (η199 41), (η199 42), (η199 43), (η199 44), (η199 45), (η199 46), (η199 47), (η199 48), (η199 49), (η199 50), (η199 51), (η199 52), (η199 53), (η199 54), (η199 55), (η199 56), (η199 57), (η199 58), (η199 59), (η199 60), (η199 61), (η199 62), (η199 63), (η199 64), (η199 65), (η199 66), (η199 67), (η199 68), (η199 69), (η199 70), (η199 71), (η199 72), (η199 73), (η199 74), (η199 75), (η199 76), (η199 77), (η199 78), (η199 79), (η199 80), (η199 81), (η199 82), (η199 83), (η199 84), (η199 85), (η199 86), (η199 87), (η199 88), (η199 89), (η199 90), (η199 91), (η199 92), (η199 93), (η199 94), (η199 95), (η199 96), (η199 97), (η199 98), (η199 99), (η199 100), (η199 101), (η199 102), (η199 103), (η199 104), (η199 105), (η199 106), (η199 107), (η199 108), (η199 109), (η199 110), (η199 111), (η199 112), (η199 113), (η199 114), (η199 115), (η199 116), (η199 117), (η199 118), (η199 119), (η199 120), (η199 121), (η199 122), (η199 123), (η199 124), (η199 125), (η199 126), (η199 127), (η199 128), (η199 129), (η199 130), (η199 131), (η199 132), (η199 133), (η199 134), (η199 135), (η199 136), (η199 137), (η199 138), (η199 139), (η199 140), (η199 141), (η199 142), (η199 143), (η199 144), (η199 145), (η199 146), (η199 147), (η199 148), (η199 149), (η199 150), (η199 151), (η199 152), (η199 153), (η199 154), (η199 155), (η199 156), (η199 157), (η199 158), (η199 159), (η199 160), (η199 161), (η199 162), (η199 163), (η199 164), (η199 165), (η199 166), (η199 167), (η199 168), (η199 169), (η199 170), (η199 171), (η199 172), (η199 173), (η199 174), (η199 175), (η199 176), (η199 177), (η199 178), (η199 179), (η199 180), (η199 181), (η199 182), (η199 183), (η199 184), (η199 185), (η199 186), (η199 187), (η199 188), (η199 189), (η199 190), (η199 191), (η199 192), (η199 193), (η199 194), (η199 195), (η199 196), (η199 197), (η199 198), (η199 199), (η199 200), (η199 201), (η199 202), (η199 203), (η199 204), (η199 205), Nv .i64 mid, Nv .i64 e, .bool false, .bool false, U, U, U, .bool false, (η199 214), (η199 215), (η199 216), (η199 217), (η199 218), (η199 219)].getD (x9 - 25) undef, false, ⟨⟨fun h => absurd h (by decide), fun h => absurd h.1 hc1⟩, rfl⟩, by kernel_rfl⟩
                  case hrest =>
                    rintro _ wc ⟨ξ213, bb, ⟨hbb, hwc⟩, rfl⟩
                    subst hwc
                    have hO := HO.out
                    clear HO
                    cases bb with
                    | true =>
                      obtain ⟨hc1, hc2⟩ := hbb.1 rfl
                      go_upto_region 44 with (fail)
                      refine wp_region_list (WL.out ?_)
                      refine g_val (.slice (some ⟨q, 0, none⟩) n c) ?_
                      refine g_val (Nv .i64 mid) ?_
                      refine g_val (Nv .i64 e) ?_
                      refine g_val (Nv .i64 b) ?_
                      refine g_val (.func (.func g) #[] lb) ?_
                      refine g_any 60 #[.slice (some ⟨q, 0, none⟩) n c, Nv .i64 mid, Nv .i64 e, Nv .i64 b, .func (.func g) #[] lb] (ih mid e b (by omega) hc1 hc2 hb f2 hK2 t3' t4' tS' wa199 hO) ?_
                      rintro _ w1 ⟨rfl, f3, hm3, hO⟩
                      replace hO : Own u w1 ((q, cI N n f3, 3) :: M) := hO
                      refine g_nil ?_
                      simp only [Act.put, List.setIfInBounds_toArray, List.set_cons_succ, List.set_cons_zero]
                      have HO := hide hO
                      clear hO
                      go_wp2_with (fail)
                      go_end0
                      exact ⟨_, rfl, rfl, f3, mgd_join hcl tS tx hm2 hm3 (by omega) (by omega), HO.out⟩
                    | false =>
                      have hno : ¬ ((mid < e) ∧ e < b) := fun h => absurd (hbb.2 h) (by decide)
                      have HO := hide hO
                      clear hO
                      go_wp2_with (fail)
                      go_end0
                      exact ⟨_, rfl, rfl, f2, mgd_join hcl tS tx hm2 (mgd_none t3' t4' hno tS' q5 q6) (by omega) (by omega), HO.out⟩
end Q
end Go.Proofs.Ytkljpidlfddgbaa

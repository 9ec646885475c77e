/- The walk of HuffWords. No conditions. -/
import Derived.Test.YtkljpidlfddgbaaTa
namespace Go.Proofs.Ytkljpidlfddgbaa
set_option maxRecDepth 100000
open Go.RowKit Rg B

open W R
namespace Q
open H Z
theorem RWords_y {S : Option Addr} {n c : Nat} {z : Nat → Int} (hok : okW z n) (w : World) (hS : Rc w S n (zi z)) : RetP 19 #[.slice S n c] w fun x w' => ∃ q, x = .tuple #[.slice (some ⟨q, 0, none⟩) n n, Nv .i64 0] ∧ Own w w' [(q, vals .u32 n (wd (ln z) n), 24)] := by
  refine (Words_c (by have := hok.1; omega) w hS).mono fun e w' hh => ?_
  obtain ⟨v, he, ⟨_, q, hv, hO⟩ | ⟨hno, _⟩⟩ := hh
  · exact ⟨v, he, q, hv, hO⟩
  · exact absurd hok hno
theorem RWords_n {S : Option Addr} {n c : Nat} {z : Nat → Int} (hn : n ≤ 2 ^ 30) (hok : ¬ okW z n) (w : World) (hS : Rc w S n (zi z)) : Ret 19 #[.slice S n c] w (.tuple #[.slice none 0 0, Nv .i64 130]) := by
  refine (Words_c hn w hS).mono fun e w' hh => ?_
  obtain ⟨v, he, ⟨hy, _⟩ | ⟨_, hv, hb⟩⟩ := hh
  · exact absurd hy hok
  · exact ⟨hv ▸ he, hb⟩
set_option maxHeartbeats 4000000 in
theorem words_walk {S : Option Addr} {n c : Nat} {z : Nat → Int} (w : World) (hS : Rc w S n (zi z)) : Ret 6 #[.slice S n c] w (.bool true) := by
  go_enter Try.func6, Try.ntmps6
  have hO := Own.start w
  go_upto_region 0 with (fail)
  refine wp_region_list (WL.out ?_)
  refine g_val (.bool false) ?_
  refine g_nil ?_
  simp only [Act.put, List.setIfInBounds_toArray, List.set_cons_succ, List.set_cons_zero]
  go_upto_region 1 with (fail)
  refine wp_region_list (WL.out ?_)
  refine g_call hO 13 #[] (.bool true) (Awake_c w) ?_
  intro w1 hb11 hO
  refine g_val (.bool true) ?_
  refine g_nil ?_
  simp only [Act.put, List.setIfInBounds_toArray, List.set_cons_succ, List.set_cons_zero]
  by_cases hbig : 1100 < n
  · have hbig' := hbig
    go_upto_region 2 with (fail)
    refine wp_region_list (WL.out ?_)
    refine g_val (.slice S n c) ?_
    refine g_val (Nv .i64 n) ?_
    refine g_val (.bool true) ?_ (B.gtr_int (a := n) (c := 1100) (b := true) (decide_eq_true hbig) w1)
    refine g_nil ?_
    simp only [Act.put, List.setIfInBounds_toArray, List.set_cons_succ, List.set_cons_zero]
    go_upto_region 3 with (fail)
    refine wp_region_list (WL.out ?_)
    refine g_val (.bool true) ?_
    refine g_val (.bool true) ?_
    refine g_nil ?_
    simp only [Act.put, List.setIfInBounds_toArray, List.set_cons_succ, List.set_cons_zero]
    have HF := hide hO.low
    clear hO
    go_wp2_with (fail)
    go_ret
    exact ⟨rfl, HF.out⟩
  · have hbig' := hbig
    go_upto_region 2 with (fail)
    refine wp_region_list (WL.out ?_)
    refine g_val (.slice S n c) ?_
    refine g_val (Nv .i64 n) ?_
    refine g_val (.bool false) ?_ (B.gtr_int (a := n) (c := 1100) (b := false) (decide_eq_false hbig) w1)
    refine g_nil ?_
    simp only [Act.put, List.setIfInBounds_toArray, List.set_cons_succ, List.set_cons_zero]
    by_cases hok : okW z n
    · have Hok := hide hok
      clear hok
      go_upto_region 4 with (fail)
      refine wp_region_list (WL.out ?_)
      refine g_val (.slice S n c) ?_
      refine g_any 18 #[.slice S n c] (PWords_y Hok.out w1 (hS.low hO.low)) ?_
      rintro _ w2 ⟨q1, rfl, hO2⟩
      have hO9 := own_join hO hO2
      clear hO hO2
      have hO := hO9
      clear hO9
      replace hO : Own w w2 [(q1, vals .u32 n (wd (ln z) n), 24)] := hO
      refine g_val (.tuple #[.slice (some (⟨q1, 0, none⟩ : Addr)) n n, Nv .i64 0]) ?_
      refine g_val (.slice (some (⟨q1, 0, none⟩ : Addr)) n n) ?_
      refine g_val (Nv .i64 0) ?_
      refine g_val (.slice (some (⟨q1, 0, none⟩ : Addr)) n n) ?_
      refine g_val (Nv .i64 0) ?_
      refine g_nil ?_
      simp only [Act.put, List.setIfInBounds_toArray, List.set_cons_succ, List.set_cons_zero]
      go_upto_region 5 with (fail)
      refine wp_region_list (WL.out ?_)
      refine g_val (.slice S n c) ?_
      refine g_any 19 #[.slice S n c] (RWords_y Hok.out w2 (hS.low hO.low)) ?_
      rintro _ w3 ⟨q2, rfl, hO2⟩
      have hO9 := own_join hO hO2
      clear hO hO2
      have hO := hO9
      clear hO9
      replace hO : Own w w3 [(q1, vals .u32 n (wd (ln z) n), 24), (q2, vals .u32 n (wd (ln z) n), 24)] := hO
      refine g_val (.tuple #[.slice (some (⟨q2, 0, none⟩ : Addr)) n n, Nv .i64 0]) ?_
      refine g_val (.slice (some (⟨q2, 0, none⟩ : Addr)) n n) ?_
      refine g_val (Nv .i64 0) ?_
      refine g_val (.slice (some (⟨q2, 0, none⟩ : Addr)) n n) ?_
      refine g_val (Nv .i64 0) ?_
      refine g_nil ?_
      simp only [Act.put, List.setIfInBounds_toArray, List.set_cons_succ, List.set_cons_zero]
      go_upto_region 6 with (fail)
      refine wp_region_list (WL.out ?_)
      refine g_val (.slice (some (⟨q1, 0, none⟩ : Addr)) n n) ?_
      refine g_val (.slice (some (⟨q2, 0, none⟩ : Addr)) n n) ?_
      refine g_call hO 20 #[.slice (some (⟨q1, 0, none⟩ : Addr)) n n, .slice (some (⟨q2, 0, none⟩ : Addr)) n n] (.bool true) (Same_c (by omega) w3 (rc_v32 (hO.row 0 rfl)) (rc_v32 (hO.row 1 rfl))) ?_
      intro w4 hb28 hO
      refine g_val (.bool true) ?_
      refine g_nil ?_
      simp only [Act.put, List.setIfInBounds_toArray, List.set_cons_succ, List.set_cons_zero]
      go_upto_region 7 with (fail)
      refine wp_region_list (WL.out ?_)
      refine g_val (.slice S n c) ?_
      refine g_any 21 #[.slice S n c] (PNew_y Hok.out w4 (hS.low hO.low)) ?_
      rintro _ w5 ⟨K, rfl, hC, hb5⟩
      have hO9 := hO.call hb5
      clear hO
      have hO := hO9
      clear hO9
      replace hO : Own w w5 [(q1, vals .u32 n (wd (ln z) n), 24), (q2, vals .u32 n (wd (ln z) n), 24)] := hO
      refine g_val (.tuple #[D K, Nv .i64 0]) ?_
      refine g_val (D K) ?_
      refine g_val (Nv .i64 0) ?_
      refine g_val (D K) ?_
      refine g_val (Nv .i64 0) ?_
      refine g_nil ?_
      simp only [Act.put, List.setIfInBounds_toArray, List.set_cons_succ, List.set_cons_zero]
      go_upto_region 8 with (fail)
      refine wp_region_list (WL.out ?_)
      refine g_val (.bool true) ?_
      refine g_val (.bool true) ?_
      refine g_val (.bool true) ?_
      refine g_val (.bool true) ?_
      refine g_val (.bool true) ?_
      refine g_val (Nv .i64 0) ?_
      refine g_val (Nv .i64 0) ?_
      refine g_val (.bool true) ?_
      refine g_val (.bool true) ?_
      refine g_val (.bool true) ?_
      refine g_val (Nv .i64 0) ?_
      refine g_val (Nv .i64 0) ?_
      refine g_val (.bool true) ?_
      refine g_val (.bool true) ?_
      refine g_val (.bool true) ?_
      refine g_val (D K) ?_
      refine g_val (.bool false) ?_
      refine g_val (Nv .i64 0) ?_
      refine g_val (.bool false) ?_
      refine g_val (.bool true) ?_
      refine g_val (.bool true) ?_
      refine g_val (.bool true) ?_
      refine g_nil ?_
      simp only [Act.put, List.setIfInBounds_toArray, List.set_cons_succ, List.set_cons_zero]
      clear hC hb5
      have HF := hide hO.low
      clear hO
      go_wp2_with (fail)
      go_ret
      exact ⟨rfl, HF.out⟩
    · have Hok := hide hok
      clear hok
      go_upto_region 4 with (fail)
      refine wp_region_list (WL.out ?_)
      refine g_val (.slice S n c) ?_
      refine g_call hO 18 #[.slice S n c] (.tuple #[.slice none 0 0, Nv .i64 130]) (PWords_n (by omega) Hok.out w1 (hS.low hO.low)) ?_
      intro w2 hb18 hO
      refine g_val (.tuple #[.slice none 0 0, Nv .i64 130]) ?_
      refine g_val (.slice none 0 0) ?_
      refine g_val (Nv .i64 130) ?_
      refine g_val (.slice none 0 0) ?_
      refine g_val (Nv .i64 130) ?_
      refine g_nil ?_
      simp only [Act.put, List.setIfInBounds_toArray, List.set_cons_succ, List.set_cons_zero]
      go_upto_region 5 with (fail)
      refine wp_region_list (WL.out ?_)
      refine g_val (.slice S n c) ?_
      refine g_call hO 19 #[.slice S n c] (.tuple #[.slice none 0 0, Nv .i64 130]) (RWords_n (by omega) Hok.out w2 (hS.low hO.low)) ?_
      intro w3 hb23 hO
      refine g_val (.tuple #[.slice none 0 0, Nv .i64 130]) ?_
      refine g_val (.slice none 0 0) ?_
      refine g_val (Nv .i64 130) ?_
      refine g_val (.slice none 0 0) ?_
      refine g_val (Nv .i64 130) ?_
      refine g_nil ?_
      simp only [Act.put, List.setIfInBounds_toArray, List.set_cons_succ, List.set_cons_zero]
      go_upto_region 6 with (fail)
      refine wp_region_list (WL.out ?_)
      refine g_val (.slice none 0 0) ?_
      refine g_val (.slice none 0 0) ?_
      refine g_call hO 20 #[.slice none 0 0, .slice none 0 0] (.bool true) (Same_c (f := fun _ => 0) (by decide) w3 (.inl rfl) (.inl rfl)) ?_
      intro w4 hb28 hO
      refine g_val (.bool true) ?_
      refine g_nil ?_
      simp only [Act.put, List.setIfInBounds_toArray, List.set_cons_succ, List.set_cons_zero]
      go_upto_region 7 with (fail)
      refine wp_region_list (WL.out ?_)
      refine g_val (.slice S n c) ?_
      refine g_call hO 21 #[.slice S n c] (.tuple #[.pointer none, Nv .i64 130]) (PNew_n (by omega) Hok.out w4 (hS.low hO.low)) ?_
      intro w5 hb31 hO
      refine g_val (.tuple #[.pointer none, Nv .i64 130]) ?_
      refine g_val (.pointer none) ?_
      refine g_val (Nv .i64 130) ?_
      refine g_val (.pointer none) ?_
      refine g_val (Nv .i64 130) ?_
      refine g_nil ?_
      simp only [Act.put, List.setIfInBounds_toArray, List.set_cons_succ, List.set_cons_zero]
      go_upto_region 8 with (fail)
      refine wp_region_list (WL.out ?_)
      refine g_val (.bool true) ?_
      refine g_val (.bool true) ?_
      refine g_val (.bool true) ?_
      refine g_val (.bool true) ?_
      refine g_val (.bool true) ?_
      refine g_val (Nv .i64 130) ?_
      refine g_val (Nv .i64 130) ?_
      refine g_val (.bool true) ?_
      refine g_val (.bool true) ?_
      refine g_val (.bool true) ?_
      refine g_val (Nv .i64 130) ?_
      refine g_val (Nv .i64 130) ?_
      refine g_val (.bool true) ?_
      refine g_val (.bool true) ?_
      refine g_val (.bool true) ?_
      refine g_val (.pointer none) ?_
      refine g_val (.bool true) ?_
      refine g_val (Nv .i64 130) ?_
      refine g_val (.bool true) ?_
      refine g_val (.bool true) ?_
      refine g_val (.bool true) ?_
      refine g_val (.bool true) ?_
      refine g_nil ?_
      simp only [Act.put, List.setIfInBounds_toArray, List.set_cons_succ, List.set_cons_zero]
      have HF := hide hO.low
      clear hO
      go_wp2_with (fail)
      go_ret
      exact ⟨rfl, HF.out⟩
end Q
end Go.Proofs.Ytkljpidlfddgbaa

/- The walk of HuffPrefix. No conditions. -/
import Derived.Test.YtkljpidlfddgbaaTa
import Derived.Test.YtkljpidlfddgbaaRc
import Derived.Test.YtkljpidlfddgbaaRl
namespace Go.Proofs.Ytkljpidlfddgbaa
set_option maxRecDepth 100000
open Go.RowKit Rg B

open W R
namespace Q
open H Z
theorem wd_free {l : Nat → Nat} {n i j : Nat} (hi : i < n) (hj : j < n) (h1 : 1 ≤ l i) (hij : i ≠ j) (hle : l i ≤ l j) (h15 : l j ≤ 15) : wd l n j / 2 ^ (l j - l i) ≠ wd l n i := by
  unfold wd
  rw [if_pos h1, if_pos (by omega)]
  exact word_free hi hj h1 hij hle h15
theorem wd_rise {l : Nat → Nat} {n i j : Nat} (hi : i < n) (h1 : 1 ≤ l i) (hl : l i = l j) (hij : i < j) : wd l n i < wd l n j := by
  unfold wd
  rw [if_pos h1, if_pos (by omega)]
  exact word_rise hi h1 hl hij
set_option maxHeartbeats 8000000 in
theorem prefix_walk {S : Option Addr} {n c : Nat} {z : Nat → Int} (w : World) (hS : Rc w S n (zi z)) : Ret 10 #[.slice S n c] w (.bool true) := by
  go_enter Try.func10, Try.ntmps10
  have hO := Own.start w
  go_upto_region 0 with (fail)
  refine wp_region_list (WL.out ?_)
  refine g_val (.bool false) ?_
  refine g_nil ?_
  simp only [Act.put, List.setIfInBounds_toArray, List.set_cons_succ, List.set_cons_zero]
  go_upto_region 1 with (fail)
  refine wp_region_list (WL.out ?_)
  refine g_call hO 13 #[] (.bool true) (Awake_c w) ?_
  intro w1 hb8 hO
  refine g_val (.bool true) ?_
  refine g_nil ?_
  simp only [Act.put, List.setIfInBounds_toArray, List.set_cons_succ, List.set_cons_zero]
  by_cases hbig : 100 < n
  · have hbig' := hbig
    go_upto_region 2 with (fail)
    refine wp_region_list (WL.out ?_)
    refine g_val (.slice S n c) ?_
    refine g_val (Nv .i64 n) ?_
    refine g_val (.bool true) ?_ (B.gtr_int (a := n) (c := 100) (b := true) (decide_eq_true hbig) w1)
    refine g_nil ?_
    simp only [Act.put, List.setIfInBounds_toArray, List.set_cons_succ, List.set_cons_zero]
    go_upto_region 3 with (fail)
    refine wp_region_list (WL.out ?_)
    refine g_val (.bool true) ?_
    refine g_val (.bool true) ?_
    refine g_nil ?_
    simp only [Act.put, List.setIfInBounds_toArray, List.set_cons_succ, List.set_cons_zero]
    have HF := hide hO.low
    clear hO
    go_wp2_with (fail)
    go_ret
    exact ⟨rfl, HF.out⟩
  · have hn : n ≤ 100 := by omega
    go_upto_region 2 with (fail)
    refine wp_region_list (WL.out ?_)
    refine g_val (.slice S n c) ?_
    refine g_val (Nv .i64 n) ?_
    refine g_val (.bool false) ?_ (B.gtr_int (a := n) (c := 100) (b := false) (decide_eq_false hbig) w1)
    refine g_nil ?_
    simp only [Act.put, List.setIfInBounds_toArray, List.set_cons_succ, List.set_cons_zero]
    clear hbig
    by_cases hok : okW z n
    · have hok' := hok
      have Hw : Hid (∀ w', Below w.heap.size w w' → RetP 18 #[.slice S n c] w' fun x w'' => ∃ q, x = .tuple #[.slice (some ⟨q, 0, none⟩) n n, Nv .i64 0] ∧ Own w' w'' [(q, vals .u32 n (wd (ln z) n), 24)]) := hide (fun w' h => PWords_y hok w' (hS.low h))
      obtain ⟨l, hl⟩ : ∃ l, l = ln z := ⟨_, rfl⟩
      have hcnd := hok.2.1
      have hl15 : ∀ i, l i ≤ 15 := fun i => by rw [hl]; exact ln_le z i
      have hSl : Rc w S n (ni l) := hS.congr fun i hi => by unfold zi ni; rw [hl, ln_eq (hcnd i hi)]
      rw [← hl] at Hw
      clear hS hcnd hok hok' hl
      go_upto_region 4 with (fail)
      refine wp_region_list (WL.out ?_)
      refine g_val (.slice S n c) ?_
      refine g_any 18 #[.slice S n c] (Hw.out w1 hO.low) ?_
      rintro _ w2 ⟨q, rfl, hO2⟩
      have hO9 := own_join hO hO2
      clear hO hO2
      have hO := hO9
      clear hO9
      replace hO : Own w w2 [(q, vals .u32 n (wd l n), 24)] := hO
      refine g_val (.tuple #[.slice (some ⟨q, 0, none⟩) n n, Nv .i64 0]) ?_
      refine g_val (.slice (some ⟨q, 0, none⟩) n n) ?_
      refine g_val (Nv .i64 0) ?_
      refine g_val (.slice (some ⟨q, 0, none⟩) n n) ?_
      refine g_val (Nv .i64 0) ?_
      refine g_nil ?_
      simp only [Act.put, List.setIfInBounds_toArray, List.set_cons_succ, List.set_cons_zero]
      clear Hw
      go_upto_region 5 with (fail)
      refine wp_region_list (WL.out ?_)
      refine g_val (Nv .i64 0) ?_
      refine g_val (.bool false) ?_
      refine g_nil ?_
      simp only [Act.put, List.setIfInBounds_toArray, List.set_cons_succ, List.set_cons_zero]
      go_upto_region 7 with (fail)
      refine wp_region_list (WL.out ?_)
      refine g_val (.slice (some ⟨q, 0, none⟩) n n) ?_
      refine g_val (Nv .i64 n) ?_
      refine g_val (.slice S n c) ?_
      refine g_val (Nv .i64 n) ?_
      refine g_val (.bool false) ?_ (B.neq_int (a := n) (c := n) (b := false) (decide_eq_false (fun h => h rfl)) w2)
      refine g_nil ?_
      simp only [Act.put, List.setIfInBounds_toArray, List.set_cons_succ, List.set_cons_zero]
      go_upto_region 9 with (fail)
      refine wp_region_list (WL.out ?_)
      refine g_val (Nv .i64 0) ?_
      refine g_nil ?_
      simp only [Act.put, List.setIfInBounds_toArray, List.set_cons_succ, List.set_cons_zero]
      have HO := hide hO
      clear hO
      go_wp2_with (fail)
      go_loopw [6] (fun x6 wr => ∃ k : Nat, k ≤ n ∧ x6 = .int .i64 (k : Int) ∧ Own w wr [(q, vals .u32 n (wd l n), 24)]) (fun x6 _ => n - (intOf x6).toNat)
      case atStart => exact ⟨0, Nat.zero_le _, rfl, HO.out⟩
      case round =>
        clear HO
        obtain ⟨k, hk9, rfl, hO⟩ := hrel
        by_cases hz : k < n
        · have hk0 : 0 ≤ k := Nat.zero_le _
          go_upto_region 10 with (fail)
          refine wp_region_list (WL.out ?_)
          refine g_val (Nv .i64 k) ?_
          refine g_val (.slice S n c) ?_
          refine g_val (Nv .i64 n) ?_
          refine g_val (.bool true) ?_ (B.lss_int (a := k) (c := n) (b := true) (decide_eq_true hz) wr)
          refine g_nil ?_
          simp only [Act.put, List.setIfInBounds_toArray, List.set_cons_succ, List.set_cons_zero]
          obtain ⟨a, rfl, hck⟩ := hSl.cell hz
          go_upto_region 12 with (fail)
          refine wp_region_list (WL.out ?_)
          refine g_val (Nv .i64 0) ?_
          refine g_nil ?_
          simp only [Act.put, List.setIfInBounds_toArray, List.set_cons_succ, List.set_cons_zero]
          have HO := hide hO
          clear hO
          go_wp2_with (fail)
          go_loopw [7] (fun x7 wr => ∃ j : Nat, j ≤ n ∧ x7 = .int .i64 (j : Int) ∧ Own w wr [(q, vals .u32 n (wd l n), 24)]) (fun x7 _ => n - (intOf x7).toNat)
          case atStart => exact ⟨0, Nat.zero_le _, rfl, HO.out⟩
          case round =>
            clear HO
            obtain ⟨j, hjn, rfl, hO⟩ := hrel
            by_cases hz2 : j < n
            · have hlj := hl15 j
              have hlk := hl15 k
              obtain ⟨b, hb, hcj⟩ := hSl.cell hz2
              obtain rfl := Option.some.inj hb
              clear hb
              go_upto_region 13 with (fail)
              refine wp_region_list (WL.out ?_)
              refine g_val (Nv .i64 j) ?_
              refine g_val (.slice (some a) n c) ?_
              refine g_val (Nv .i64 n) ?_
              refine g_val (.bool true) ?_ (B.lss_int (a := j) (c := n) (b := true) (decide_eq_true hz2) wr)
              refine g_nil ?_
              simp only [Act.put, List.setIfInBounds_toArray, List.set_cons_succ, List.set_cons_zero]
              by_cases hkj : k = j
              · have hkj2 := hkj
                go_upto_region 15 with (fail)
                refine Rg.pd [] (fun _ => [(42, Nv .i64 k), (43, Nv .i64 j), (44, .bool true), (45, .bool true), (46, U), (47, U), (48, U), (49, U), (50, U), (51, .bool true), (52, .bool true), (53, U), (54, U), (55, U), (56, U), (57, U), (58, U), (59, U), (60, U), (61, U), (62, .bool true)]) (OI w (fun _ _ => [(q, vals .u32 n (wd l n), 24)])) (fun _ => 0) hO.drew (Rg.ac nv (Rg.ac nv (Rg.ac (nx (fun _ => .bool true) (fun _ w => B.eql_int (a := k) (c := j) (b := true) (decide_eq_true hkj) w)) (Rg.ac nv (Rg.ac nk (Rg.ac nk (Rg.ac nk (Rg.ac nk (Rg.ac nk (Rg.ac nv (Rg.ac nv (Rg.ac nk (Rg.ac nk (Rg.ac nk (Rg.ac nk (Rg.ac nk (Rg.ac nk (Rg.ac nk (Rg.ac nk (Rg.ac nk (Rg.ac nv Rg.an))))))))))))))))))))) ?_
                intro ν w3 hO
                replace hO : Own w w3 [(q, vals .u32 n (wd l n), 24)] := hO
                simp only [Rg.putL, Act.put, List.setIfInBounds_toArray, List.set_cons_succ, List.set_cons_zero]
                clear ν
                have HO := hide hO
                clear hO
                go_upto_region 14 with (fail)
                refine wp_region_list (WL.out ?_)
                refine g_val (Nv .i64 j) ?_
                refine g_val (Nv .i64 (j + 1)) ?_ (B.add_int (a := j) (c := 1) (d := j + 1) rfl (by omega) w3)
                refine g_val (Nv .i64 (j + 1)) ?_
                refine g_nil ?_
                simp only [Act.put, List.setIfInBounds_toArray, List.set_cons_succ, List.set_cons_zero]
                go_wp2_with (fail)
                go_roundw
                case rel => exact ⟨j + 1, hz2, rfl, HO.out⟩
                case measure => show n - ((j + 1 : Nat) : Int).toNat < n - ((j : Nat) : Int).toNat; omega
              by_cases h0 : l k = 0
              · have h02 := h0
                go_upto_region 15 with (fail)
                refine Rg.pd [] (fun _ => [(42, Nv .i64 k), (43, Nv .i64 j), (44, .bool false), (45, .bool false), (46, .slice (some a) n c), (47, Nv .i64 k), (48, .pointer (some (a.add k))), (49, Nv .i64 (l k)), (50, .bool true), (51, .bool true), (52, .bool true), (53, U), (54, U), (55, U), (56, U), (57, U), (58, U), (59, U), (60, U), (61, U), (62, .bool true)]) (OI w (fun _ _ => [(q, vals .u32 n (wd l n), 24)])) (fun _ => 0) hO.drew (Rg.ac nv (Rg.ac nv (Rg.ac (nx (fun _ => .bool false) (fun _ w => B.eql_int (a := k) (c := j) (b := false) (decide_eq_false hkj) w)) (Rg.ac nv (Rg.ac nv (Rg.ac nv (Rg.ac (nx (fun _ => .pointer (some (a.add k))) (fun _ w => b_ixs (n := n) (c := c) hz Try.underlying25 sz_int w)) (Rg.ac (nca (Nv .i64 (l k)) hck agg_int) (Rg.ac (nx (fun _ => .bool true) (fun _ w => B.eql_int (a := l k) (c := 0) (b := true) (decide_eq_true h0) w)) (Rg.ac nv (Rg.ac nv (Rg.ac nk (Rg.ac nk (Rg.ac nk (Rg.ac nk (Rg.ac nk (Rg.ac nk (Rg.ac nk (Rg.ac nk (Rg.ac nk (Rg.ac nv Rg.an))))))))))))))))))))) ?_
                intro ν w3 hO
                replace hO : Own w w3 [(q, vals .u32 n (wd l n), 24)] := hO
                simp only [Rg.putL, Act.put, List.setIfInBounds_toArray, List.set_cons_succ, List.set_cons_zero]
                clear ν
                have HO := hide hO
                clear hO
                go_upto_region 14 with (fail)
                refine wp_region_list (WL.out ?_)
                refine g_val (Nv .i64 j) ?_
                refine g_val (Nv .i64 (j + 1)) ?_ (B.add_int (a := j) (c := 1) (d := j + 1) rfl (by omega) w3)
                refine g_val (Nv .i64 (j + 1)) ?_
                refine g_nil ?_
                simp only [Act.put, List.setIfInBounds_toArray, List.set_cons_succ, List.set_cons_zero]
                go_wp2_with (fail)
                go_roundw
                case rel => exact ⟨j + 1, hz2, rfl, HO.out⟩
                case measure => show n - ((j + 1 : Nat) : Int).toNat < n - ((j : Nat) : Int).toNat; omega
              by_cases hlt : l j < l k
              · have hlt2 := hlt
                go_upto_region 15 with (fail)
                refine Rg.pd [] (fun _ => [(42, Nv .i64 k), (43, Nv .i64 j), (44, .bool false), (45, .bool false), (46, .slice (some a) n c), (47, Nv .i64 k), (48, .pointer (some (a.add k))), (49, Nv .i64 (l k)), (50, .bool false), (51, .bool false), (52, .bool false), (53, .slice (some a) n c), (54, Nv .i64 j), (55, .pointer (some (a.add j))), (56, Nv .i64 (l j)), (57, .slice (some a) n c), (58, Nv .i64 k), (59, .pointer (some (a.add k))), (60, Nv .i64 (l k)), (61, .bool true), (62, .bool true)]) (OI w (fun _ _ => [(q, vals .u32 n (wd l n), 24)])) (fun _ => 0) hO.drew (Rg.ac nv (Rg.ac nv (Rg.ac (nx (fun _ => .bool false) (fun _ w => B.eql_int (a := k) (c := j) (b := false) (decide_eq_false hkj) w)) (Rg.ac nv (Rg.ac nv (Rg.ac nv (Rg.ac (nx (fun _ => .pointer (some (a.add k))) (fun _ w => b_ixs (n := n) (c := c) hz Try.underlying25 sz_int w)) (Rg.ac (nca (Nv .i64 (l k)) hck agg_int) (Rg.ac (nx (fun _ => .bool false) (fun _ w => B.eql_int (a := l k) (c := 0) (b := false) (decide_eq_false h0) w)) (Rg.ac nv (Rg.ac nv (Rg.ac nv (Rg.ac nv (Rg.ac (nx (fun _ => .pointer (some (a.add j))) (fun _ w => b_ixs (n := n) (c := c) hz2 Try.underlying25 sz_int w)) (Rg.ac (nca (Nv .i64 (l j)) hcj agg_int) (Rg.ac nv (Rg.ac nv (Rg.ac (nx (fun _ => .pointer (some (a.add k))) (fun _ w => b_ixs (n := n) (c := c) hz Try.underlying25 sz_int w)) (Rg.ac (nca (Nv .i64 (l k)) hck agg_int) (Rg.ac (nx (fun _ => .bool true) (fun _ w => B.lss_int (a := l j) (c := l k) (b := true) (decide_eq_true hlt) w)) (Rg.ac nv Rg.an))))))))))))))))))))) ?_
                intro ν w3 hO
                replace hO : Own w w3 [(q, vals .u32 n (wd l n), 24)] := hO
                simp only [Rg.putL, Act.put, List.setIfInBounds_toArray, List.set_cons_succ, List.set_cons_zero]
                clear ν
                have HO := hide hO
                clear hO
                go_upto_region 14 with (fail)
                refine wp_region_list (WL.out ?_)
                refine g_val (Nv .i64 j) ?_
                refine g_val (Nv .i64 (j + 1)) ?_ (B.add_int (a := j) (c := 1) (d := j + 1) rfl (by omega) w3)
                refine g_val (Nv .i64 (j + 1)) ?_
                refine g_nil ?_
                simp only [Act.put, List.setIfInBounds_toArray, List.set_cons_succ, List.set_cons_zero]
                go_wp2_with (fail)
                go_roundw
                case rel => exact ⟨j + 1, hz2, rfl, HO.out⟩
                case measure => show n - ((j + 1 : Nat) : Int).toNat < n - ((j : Nat) : Int).toNat; omega
              go_upto_region 15 with (fail)
              refine Rg.pd [] (fun _ => [(42, Nv .i64 k), (43, Nv .i64 j), (44, .bool false), (45, .bool false), (46, .slice (some a) n c), (47, Nv .i64 k), (48, .pointer (some (a.add k))), (49, Nv .i64 (l k)), (50, .bool false), (51, .bool false), (52, .bool false), (53, .slice (some a) n c), (54, Nv .i64 j), (55, .pointer (some (a.add j))), (56, Nv .i64 (l j)), (57, .slice (some a) n c), (58, Nv .i64 k), (59, .pointer (some (a.add k))), (60, Nv .i64 (l k)), (61, .bool false), (62, .bool false)]) (OI w (fun _ _ => [(q, vals .u32 n (wd l n), 24)])) (fun _ => 0) hO.drew (Rg.ac nv (Rg.ac nv (Rg.ac (nx (fun _ => .bool false) (fun _ w => B.eql_int (a := k) (c := j) (b := false) (decide_eq_false hkj) w)) (Rg.ac nv (Rg.ac nv (Rg.ac nv (Rg.ac (nx (fun _ => .pointer (some (a.add k))) (fun _ w => b_ixs (n := n) (c := c) hz Try.underlying25 sz_int w)) (Rg.ac (nca (Nv .i64 (l k)) hck agg_int) (Rg.ac (nx (fun _ => .bool false) (fun _ w => B.eql_int (a := l k) (c := 0) (b := false) (decide_eq_false h0) w)) (Rg.ac nv (Rg.ac nv (Rg.ac nv (Rg.ac nv (Rg.ac (nx (fun _ => .pointer (some (a.add j))) (fun _ w => b_ixs (n := n) (c := c) hz2 Try.underlying25 sz_int w)) (Rg.ac (nca (Nv .i64 (l j)) hcj agg_int) (Rg.ac nv (Rg.ac nv (Rg.ac (nx (fun _ => .pointer (some (a.add k))) (fun _ w => b_ixs (n := n) (c := c) hz Try.underlying25 sz_int w)) (Rg.ac (nca (Nv .i64 (l k)) hck agg_int) (Rg.ac (nx (fun _ => .bool false) (fun _ w => B.lss_int (a := l j) (c := l k) (b := false) (decide_eq_false hlt) w)) (Rg.ac nv Rg.an))))))))))))))))))))) ?_
              intro ν w3 hO
              replace hO : Own w w3 [(q, vals .u32 n (wd l n), 24)] := hO
              simp only [Rg.putL, Act.put, List.setIfInBounds_toArray, List.set_cons_succ, List.set_cons_zero]
              clear ν
              have hfree := wd_free hz hz2 (show 1 ≤ l k by omega) hkj (by omega) hlj
              by_cases he : l k = l j
              · by_cases hlt9 : k < j
                · have hr := wd_rise hz (show 1 ≤ l k by omega) he hlt9
                  go_upto_region 16 with (fail)
                  refine Rg.pd [] (fun _ => [(63, .slice (some ⟨q, 0, none⟩) n n), (64, Nv .i64 j), (65, E q j), (66, Nv .u32 (wd l n j)), (67, .slice (some a) n c), (68, Nv .i64 j), (69, .pointer (some (a.add j))), (70, Nv .i64 (l j)), (71, .slice (some a) n c), (72, Nv .i64 k), (73, .pointer (some (a.add k))), (74, Nv .i64 (l k)), (75, Nv .i64 (l j - l k)), (76, Nv .u64 (l j - l k)), (77, Nv .u32 (wd l n j / 2 ^ (l j - l k))), (78, .slice (some ⟨q, 0, none⟩) n n), (79, Nv .i64 k), (80, E q k), (81, Nv .u32 (wd l n k)), (82, .bool false), (83, .bool false), (84, .slice (some a) n c), (85, Nv .i64 k), (86, .pointer (some (a.add k))), (87, Nv .i64 (l k)), (88, .slice (some a) n c), (89, Nv .i64 j), (90, .pointer (some (a.add j))), (91, Nv .i64 (l j)), (92, .bool true), (93, .bool true), (94, .slice (some ⟨q, 0, none⟩) n n), (95, Nv .i64 k), (96, E q k), (97, Nv .u32 (wd l n k)), (98, .slice (some ⟨q, 0, none⟩) n n), (99, Nv .i64 j), (100, E q j), (101, Nv .u32 (wd l n j)), (102, .bool true), (103, Nv .i64 k), (104, Nv .i64 j), (105, .bool true), (106, .bool false), (107, .bool false), (108, .bool false)]) (OI w (fun _ _ => [(q, vals .u32 n (wd l n), 24)])) (fun _ => 0) hO.drew (Rg.ac nv (Rg.ac nv (Rg.ac (nx (fun _ => E q j) (fun _ w => b_isq (n := n) (c := n) hz2 Try.underlying23 sz_u32 w)) (Rg.ac (nc 0 0 0 (fun _ => j) (fun _ => Nv .u32 (wd l n j)) B.agg_u32 (fun _ => vals_get _ _ _ _ hz2) (at1 0 fun _ => by kernel_rfl)) (Rg.ac nv (Rg.ac nv (Rg.ac (nx (fun _ => .pointer (some (a.add j))) (fun _ w => b_ixs (n := n) (c := c) hz2 Try.underlying25 sz_int w)) (Rg.ac (nca (Nv .i64 (l j)) hcj agg_int) (Rg.ac nv (Rg.ac nv (Rg.ac (nx (fun _ => .pointer (some (a.add k))) (fun _ w => b_ixs (n := n) (c := c) hz Try.underlying25 sz_int w)) (Rg.ac (nca (Nv .i64 (l k)) hck agg_int) (Rg.ac (nx (fun _ => Nv .i64 (l j - l k)) (fun _ w => B.sub_int (a := l j) (c := l k) (d := l j - l k) (by omega) (by omega) w)) (Rg.ac (nx (fun _ => Nv .u64 (l j - l k)) (fun _ w => B.c_int_uint (a := l j - l k) (d := l j - l k) rfl (by omega) w)) (Rg.ac (nx (fun _ => Nv .u32 (wd l n j / 2 ^ (l j - l k))) (fun _ w => B.shr_u32_uint (a := wd l n j) (s := l j - l k) (d := wd l n j / 2 ^ (l j - l k)) rfl (by omega) w)) (Rg.ac nv (Rg.ac nv (Rg.ac (nx (fun _ => E q k) (fun _ w => b_isq (n := n) (c := n) hz Try.underlying23 sz_u32 w)) (Rg.ac (nc 0 0 0 (fun _ => k) (fun _ => Nv .u32 (wd l n k)) B.agg_u32 (fun _ => vals_get _ _ _ _ hz) (at1 0 fun _ => by kernel_rfl)) (Rg.ac (nx (fun _ => .bool false) (fun _ w => B.eql_u32 (a := wd l n j / 2 ^ (l j - l k)) (c := wd l n k) (b := false) (decide_eq_false hfree) w)) (Rg.ac nv (Rg.ac nv (Rg.ac nv (Rg.ac (nx (fun _ => .pointer (some (a.add k))) (fun _ w => b_ixs (n := n) (c := c) hz Try.underlying25 sz_int w)) (Rg.ac (nca (Nv .i64 (l k)) hck agg_int) (Rg.ac nv (Rg.ac nv (Rg.ac (nx (fun _ => .pointer (some (a.add j))) (fun _ w => b_ixs (n := n) (c := c) hz2 Try.underlying25 sz_int w)) (Rg.ac (nca (Nv .i64 (l j)) hcj agg_int) (Rg.ac (nx (fun _ => .bool true) (fun _ w => B.eql_int (a := l k) (c := l j) (b := true) (decide_eq_true he) w)) (Rg.ac nv (Rg.ac nv (Rg.ac nv (Rg.ac (nx (fun _ => E q k) (fun _ w => b_isq (n := n) (c := n) hz Try.underlying23 sz_u32 w)) (Rg.ac (nc 0 0 0 (fun _ => k) (fun _ => Nv .u32 (wd l n k)) B.agg_u32 (fun _ => vals_get _ _ _ _ hz) (at1 0 fun _ => by kernel_rfl)) (Rg.ac nv (Rg.ac nv (Rg.ac (nx (fun _ => E q j) (fun _ w => b_isq (n := n) (c := n) hz2 Try.underlying23 sz_u32 w)) (Rg.ac (nc 0 0 0 (fun _ => j) (fun _ => Nv .u32 (wd l n j)) B.agg_u32 (fun _ => vals_get _ _ _ _ hz2) (at1 0 fun _ => by kernel_rfl)) (Rg.ac (nx (fun _ => .bool true) (fun _ w => B.lss_u32 (a := wd l n k) (c := wd l n j) (b := true) (decide_eq_true hr) w)) (Rg.ac nv (Rg.ac nv (Rg.ac (nx (fun _ => .bool true) (fun _ w => B.lss_int (a := k) (c := j) (b := true) (decide_eq_true hlt9) w)) (Rg.ac nv (Rg.ac nv (Rg.ac nv Rg.an)))))))))))))))))))))))))))))))))))))))))))))) ?_
                  intro ν w4 hO
                  replace hO : Own w w4 [(q, vals .u32 n (wd l n), 24)] := hO
                  simp only [Rg.putL, Act.put, List.setIfInBounds_toArray, List.set_cons_succ, List.set_cons_zero]
                  clear ν
                  have HO := hide hO
                  clear hO
                  go_upto_region 14 with (fail)
                  refine wp_region_list (WL.out ?_)
                  refine g_val (Nv .i64 j) ?_
                  refine g_val (Nv .i64 (j + 1)) ?_ (B.add_int (a := j) (c := 1) (d := j + 1) rfl (by omega) w4)
                  refine g_val (Nv .i64 (j + 1)) ?_
                  refine g_nil ?_
                  simp only [Act.put, List.setIfInBounds_toArray, List.set_cons_succ, List.set_cons_zero]
                  go_wp2_with (fail)
                  go_roundw
                  case rel => exact ⟨j + 1, hz2, rfl, HO.out⟩
                  case measure => show n - ((j + 1 : Nat) : Int).toNat < n - ((j : Nat) : Int).toNat; omega
                · have hr := wd_rise hz2 (show 1 ≤ l j by omega) he.symm (show j < k by omega)
                  have hr2 : ¬ wd l n k < wd l n j := by omega
                  go_upto_region 16 with (fail)
                  refine Rg.pd [] (fun _ => [(63, .slice (some ⟨q, 0, none⟩) n n), (64, Nv .i64 j), (65, E q j), (66, Nv .u32 (wd l n j)), (67, .slice (some a) n c), (68, Nv .i64 j), (69, .pointer (some (a.add j))), (70, Nv .i64 (l j)), (71, .slice (some a) n c), (72, Nv .i64 k), (73, .pointer (some (a.add k))), (74, Nv .i64 (l k)), (75, Nv .i64 (l j - l k)), (76, Nv .u64 (l j - l k)), (77, Nv .u32 (wd l n j / 2 ^ (l j - l k))), (78, .slice (some ⟨q, 0, none⟩) n n), (79, Nv .i64 k), (80, E q k), (81, Nv .u32 (wd l n k)), (82, .bool false), (83, .bool false), (84, .slice (some a) n c), (85, Nv .i64 k), (86, .pointer (some (a.add k))), (87, Nv .i64 (l k)), (88, .slice (some a) n c), (89, Nv .i64 j), (90, .pointer (some (a.add j))), (91, Nv .i64 (l j)), (92, .bool true), (93, .bool true), (94, .slice (some ⟨q, 0, none⟩) n n), (95, Nv .i64 k), (96, E q k), (97, Nv .u32 (wd l n k)), (98, .slice (some ⟨q, 0, none⟩) n n), (99, Nv .i64 j), (100, E q j), (101, Nv .u32 (wd l n j)), (102, .bool false), (103, Nv .i64 k), (104, Nv .i64 j), (105, .bool false), (106, .bool false), (107, .bool false), (108, .bool false)]) (OI w (fun _ _ => [(q, vals .u32 n (wd l n), 24)])) (fun _ => 0) hO.drew (Rg.ac nv (Rg.ac nv (Rg.ac (nx (fun _ => E q j) (fun _ w => b_isq (n := n) (c := n) hz2 Try.underlying23 sz_u32 w)) (Rg.ac (nc 0 0 0 (fun _ => j) (fun _ => Nv .u32 (wd l n j)) B.agg_u32 (fun _ => vals_get _ _ _ _ hz2) (at1 0 fun _ => by kernel_rfl)) (Rg.ac nv (Rg.ac nv (Rg.ac (nx (fun _ => .pointer (some (a.add j))) (fun _ w => b_ixs (n := n) (c := c) hz2 Try.underlying25 sz_int w)) (Rg.ac (nca (Nv .i64 (l j)) hcj agg_int) (Rg.ac nv (Rg.ac nv (Rg.ac (nx (fun _ => .pointer (some (a.add k))) (fun _ w => b_ixs (n := n) (c := c) hz Try.underlying25 sz_int w)) (Rg.ac (nca (Nv .i64 (l k)) hck agg_int) (Rg.ac (nx (fun _ => Nv .i64 (l j - l k)) (fun _ w => B.sub_int (a := l j) (c := l k) (d := l j - l k) (by omega) (by omega) w)) (Rg.ac (nx (fun _ => Nv .u64 (l j - l k)) (fun _ w => B.c_int_uint (a := l j - l k) (d := l j - l k) rfl (by omega) w)) (Rg.ac (nx (fun _ => Nv .u32 (wd l n j / 2 ^ (l j - l k))) (fun _ w => B.shr_u32_uint (a := wd l n j) (s := l j - l k) (d := wd l n j / 2 ^ (l j - l k)) rfl (by omega) w)) (Rg.ac nv (Rg.ac nv (Rg.ac (nx (fun _ => E q k) (fun _ w => b_isq (n := n) (c := n) hz Try.underlying23 sz_u32 w)) (Rg.ac (nc 0 0 0 (fun _ => k) (fun _ => Nv .u32 (wd l n k)) B.agg_u32 (fun _ => vals_get _ _ _ _ hz) (at1 0 fun _ => by kernel_rfl)) (Rg.ac (nx (fun _ => .bool false) (fun _ w => B.eql_u32 (a := wd l n j / 2 ^ (l j - l k)) (c := wd l n k) (b := false) (decide_eq_false hfree) w)) (Rg.ac nv (Rg.ac nv (Rg.ac nv (Rg.ac (nx (fun _ => .pointer (some (a.add k))) (fun _ w => b_ixs (n := n) (c := c) hz Try.underlying25 sz_int w)) (Rg.ac (nca (Nv .i64 (l k)) hck agg_int) (Rg.ac nv (Rg.ac nv (Rg.ac (nx (fun _ => .pointer (some (a.add j))) (fun _ w => b_ixs (n := n) (c := c) hz2 Try.underlying25 sz_int w)) (Rg.ac (nca (Nv .i64 (l j)) hcj agg_int) (Rg.ac (nx (fun _ => .bool true) (fun _ w => B.eql_int (a := l k) (c := l j) (b := true) (decide_eq_true he) w)) (Rg.ac nv (Rg.ac nv (Rg.ac nv (Rg.ac (nx (fun _ => E q k) (fun _ w => b_isq (n := n) (c := n) hz Try.underlying23 sz_u32 w)) (Rg.ac (nc 0 0 0 (fun _ => k) (fun _ => Nv .u32 (wd l n k)) B.agg_u32 (fun _ => vals_get _ _ _ _ hz) (at1 0 fun _ => by kernel_rfl)) (Rg.ac nv (Rg.ac nv (Rg.ac (nx (fun _ => E q j) (fun _ w => b_isq (n := n) (c := n) hz2 Try.underlying23 sz_u32 w)) (Rg.ac (nc 0 0 0 (fun _ => j) (fun _ => Nv .u32 (wd l n j)) B.agg_u32 (fun _ => vals_get _ _ _ _ hz2) (at1 0 fun _ => by kernel_rfl)) (Rg.ac (nx (fun _ => .bool false) (fun _ w => B.lss_u32 (a := wd l n k) (c := wd l n j) (b := false) (decide_eq_false hr2) w)) (Rg.ac nv (Rg.ac nv (Rg.ac (nx (fun _ => .bool false) (fun _ w => B.lss_int (a := k) (c := j) (b := false) (decide_eq_false hlt9) w)) (Rg.ac nv (Rg.ac nv (Rg.ac nv Rg.an)))))))))))))))))))))))))))))))))))))))))))))) ?_
                  intro ν w4 hO
                  replace hO : Own w w4 [(q, vals .u32 n (wd l n), 24)] := hO
                  simp only [Rg.putL, Act.put, List.setIfInBounds_toArray, List.set_cons_succ, List.set_cons_zero]
                  clear ν
                  have HO := hide hO
                  clear hO
                  go_upto_region 14 with (fail)
                  refine wp_region_list (WL.out ?_)
                  refine g_val (Nv .i64 j) ?_
                  refine g_val (Nv .i64 (j + 1)) ?_ (B.add_int (a := j) (c := 1) (d := j + 1) rfl (by omega) w4)
                  refine g_val (Nv .i64 (j + 1)) ?_
                  refine g_nil ?_
                  simp only [Act.put, List.setIfInBounds_toArray, List.set_cons_succ, List.set_cons_zero]
                  go_wp2_with (fail)
                  go_roundw
                  case rel => exact ⟨j + 1, hz2, rfl, HO.out⟩
                  case measure => show n - ((j + 1 : Nat) : Int).toNat < n - ((j : Nat) : Int).toNat; omega
              · have he2 := he
                go_upto_region 16 with (fail)
                refine Rg.pd [] (fun _ => [(63, .slice (some ⟨q, 0, none⟩) n n), (64, Nv .i64 j), (65, E q j), (66, Nv .u32 (wd l n j)), (67, .slice (some a) n c), (68, Nv .i64 j), (69, .pointer (some (a.add j))), (70, Nv .i64 (l j)), (71, .slice (some a) n c), (72, Nv .i64 k), (73, .pointer (some (a.add k))), (74, Nv .i64 (l k)), (75, Nv .i64 (l j - l k)), (76, Nv .u64 (l j - l k)), (77, Nv .u32 (wd l n j / 2 ^ (l j - l k))), (78, .slice (some ⟨q, 0, none⟩) n n), (79, Nv .i64 k), (80, E q k), (81, Nv .u32 (wd l n k)), (82, .bool false), (83, .bool false), (84, .slice (some a) n c), (85, Nv .i64 k), (86, .pointer (some (a.add k))), (87, Nv .i64 (l k)), (88, .slice (some a) n c), (89, Nv .i64 j), (90, .pointer (some (a.add j))), (91, Nv .i64 (l j)), (92, .bool false), (93, .bool false), (94, U), (95, U), (96, U), (97, U), (98, U), (99, U), (100, U), (101, U), (102, U), (103, U), (104, U), (105, U), (106, U), (107, .bool false), (108, .bool false)]) (OI w (fun _ _ => [(q, vals .u32 n (wd l n), 24)])) (fun _ => 0) hO.drew (Rg.ac nv (Rg.ac nv (Rg.ac (nx (fun _ => E q j) (fun _ w => b_isq (n := n) (c := n) hz2 Try.underlying23 sz_u32 w)) (Rg.ac (nc 0 0 0 (fun _ => j) (fun _ => Nv .u32 (wd l n j)) B.agg_u32 (fun _ => vals_get _ _ _ _ hz2) (at1 0 fun _ => by kernel_rfl)) (Rg.ac nv (Rg.ac nv (Rg.ac (nx (fun _ => .pointer (some (a.add j))) (fun _ w => b_ixs (n := n) (c := c) hz2 Try.underlying25 sz_int w)) (Rg.ac (nca (Nv .i64 (l j)) hcj agg_int) (Rg.ac nv (Rg.ac nv (Rg.ac (nx (fun _ => .pointer (some (a.add k))) (fun _ w => b_ixs (n := n) (c := c) hz Try.underlying25 sz_int w)) (Rg.ac (nca (Nv .i64 (l k)) hck agg_int) (Rg.ac (nx (fun _ => Nv .i64 (l j - l k)) (fun _ w => B.sub_int (a := l j) (c := l k) (d := l j - l k) (by omega) (by omega) w)) (Rg.ac (nx (fun _ => Nv .u64 (l j - l k)) (fun _ w => B.c_int_uint (a := l j - l k) (d := l j - l k) rfl (by omega) w)) (Rg.ac (nx (fun _ => Nv .u32 (wd l n j / 2 ^ (l j - l k))) (fun _ w => B.shr_u32_uint (a := wd l n j) (s := l j - l k) (d := wd l n j / 2 ^ (l j - l k)) rfl (by omega) w)) (Rg.ac nv (Rg.ac nv (Rg.ac (nx (fun _ => E q k) (fun _ w => b_isq (n := n) (c := n) hz Try.underlying23 sz_u32 w)) (Rg.ac (nc 0 0 0 (fun _ => k) (fun _ => Nv .u32 (wd l n k)) B.agg_u32 (fun _ => vals_get _ _ _ _ hz) (at1 0 fun _ => by kernel_rfl)) (Rg.ac (nx (fun _ => .bool false) (fun _ w => B.eql_u32 (a := wd l n j / 2 ^ (l j - l k)) (c := wd l n k) (b := false) (decide_eq_false hfree) w)) (Rg.ac nv (Rg.ac nv (Rg.ac nv (Rg.ac (nx (fun _ => .pointer (some (a.add k))) (fun _ w => b_ixs (n := n) (c := c) hz Try.underlying25 sz_int w)) (Rg.ac (nca (Nv .i64 (l k)) hck agg_int) (Rg.ac nv (Rg.ac nv (Rg.ac (nx (fun _ => .pointer (some (a.add j))) (fun _ w => b_ixs (n := n) (c := c) hz2 Try.underlying25 sz_int w)) (Rg.ac (nca (Nv .i64 (l j)) hcj agg_int) (Rg.ac (nx (fun _ => .bool false) (fun _ w => B.eql_int (a := l k) (c := l j) (b := false) (decide_eq_false he) w)) (Rg.ac nv (Rg.ac nk (Rg.ac nk (Rg.ac nk (Rg.ac nk (Rg.ac nk (Rg.ac nk (Rg.ac nk (Rg.ac nk (Rg.ac nk (Rg.ac nk (Rg.ac nk (Rg.ac nk (Rg.ac nk (Rg.ac nv (Rg.ac nv Rg.an)))))))))))))))))))))))))))))))))))))))))))))) ?_
                intro ν w4 hO
                replace hO : Own w w4 [(q, vals .u32 n (wd l n), 24)] := hO
                simp only [Rg.putL, Act.put, List.setIfInBounds_toArray, List.set_cons_succ, List.set_cons_zero]
                clear ν
                have HO := hide hO
                clear hO
                go_upto_region 14 with (fail)
                refine wp_region_list (WL.out ?_)
                refine g_val (Nv .i64 j) ?_
                refine g_val (Nv .i64 (j + 1)) ?_ (B.add_int (a := j) (c := 1) (d := j + 1) rfl (by omega) w4)
                refine g_val (Nv .i64 (j + 1)) ?_
                refine g_nil ?_
                simp only [Act.put, List.setIfInBounds_toArray, List.set_cons_succ, List.set_cons_zero]
                go_wp2_with (fail)
                go_roundw
                case rel => exact ⟨j + 1, hz2, rfl, HO.out⟩
                case measure => show n - ((j + 1 : Nat) : Int).toNat < n - ((j : Nat) : Int).toNat; omega
            · have hjn2 : ¬ j < n := hz2
              go_upto_region 13 with (fail)
              refine wp_region_list (WL.out ?_)
              refine g_val (Nv .i64 j) ?_
              refine g_val (.slice (some a) n c) ?_
              refine g_val (Nv .i64 n) ?_
              refine g_val (.bool false) ?_ (B.lss_int (a := j) (c := n) (b := false) (decide_eq_false hz2) wr)
              refine g_nil ?_
              simp only [Act.put, List.setIfInBounds_toArray, List.set_cons_succ, List.set_cons_zero]
              have HO := hide hO
              clear hO
              go_upto_region 11 with (fail)
              refine wp_region_list (WL.out ?_)
              refine g_val (Nv .i64 k) ?_
              refine g_val (Nv .i64 (k + 1)) ?_ (B.add_int (a := k) (c := 1) (d := k + 1) rfl (by omega) wr)
              refine g_val (Nv .i64 (k + 1)) ?_
              refine g_nil ?_
              simp only [Act.put, List.setIfInBounds_toArray, List.set_cons_succ, List.set_cons_zero]
              go_wp2_with (fail)
              go_roundw
              case rel => exact ⟨k + 1, hz, rfl, HO.out⟩
              case measure => show n - ((k + 1 : Nat) : Int).toNat < n - ((k : Nat) : Int).toNat; omega
        · obtain rfl : k = n := by omega
          clear hk9
          go_upto_region 10 with (fail)
          refine wp_region_list (WL.out ?_)
          refine g_val (Nv .i64 k) ?_
          refine g_val (.slice S k c) ?_
          refine g_val (Nv .i64 k) ?_
          refine g_val (.bool false) ?_ (B.lss_int (a := k) (c := k) (b := false) (decide_eq_false hz) wr)
          refine g_nil ?_
          simp only [Act.put, List.setIfInBounds_toArray, List.set_cons_succ, List.set_cons_zero]
          have HF := hide hO.low
          clear hO
          go_upto_region 18 with (fail)
          refine wp_region_list (WL.out ?_)
          refine g_val (.bool true) ?_
          refine g_val (.bool true) ?_
          refine g_nil ?_
          simp only [Act.put, List.setIfInBounds_toArray, List.set_cons_succ, List.set_cons_zero]
          go_wp2_with (fail)
          go_ret
          exact ⟨rfl, HF.out⟩
    · have Hok := hide hok
      clear hok
      go_upto_region 4 with (fail)
      refine wp_region_list (WL.out ?_)
      refine g_val (.slice S n c) ?_
      refine g_call hO 18 #[.slice S n c] (.tuple #[.slice none 0 0, Nv .i64 130]) (PWords_n (by omega) Hok.out w1 (hS.low hO.low)) ?_
      intro w2 hb15 hO
      refine g_val (.tuple #[.slice none 0 0, Nv .i64 130]) ?_
      refine g_val (.slice none 0 0) ?_
      refine g_val (Nv .i64 130) ?_
      refine g_val (.slice none 0 0) ?_
      refine g_val (Nv .i64 130) ?_
      refine g_nil ?_
      simp only [Act.put, List.setIfInBounds_toArray, List.set_cons_succ, List.set_cons_zero]
      go_upto_region 5 with (fail)
      refine wp_region_list (WL.out ?_)
      refine g_val (Nv .i64 130) ?_
      refine g_val (.bool true) ?_
      refine g_nil ?_
      simp only [Act.put, List.setIfInBounds_toArray, List.set_cons_succ, List.set_cons_zero]
      go_upto_region 6 with (fail)
      refine wp_region_list (WL.out ?_)
      refine g_val (.bool true) ?_
      refine g_val (.bool true) ?_
      refine g_val (Nv .i64 130) ?_
      refine g_val (.bool true) ?_
      refine g_val (.bool true) ?_
      refine g_val (.bool true) ?_
      refine g_nil ?_
      simp only [Act.put, List.setIfInBounds_toArray, List.set_cons_succ, List.set_cons_zero]
      have HF := hide hO.low
      clear hO
      go_wp2_with (fail)
      go_ret
      exact ⟨rfl, HF.out⟩
end Q
end Go.Proofs.Ytkljpidlfddgbaa

/- awake. No condition. -/
import Derived.Test.YtkljpidlfddgbaaSy
import Derived.Test.YtkljpidlfddgbaaSq
import Derived.Test.YtkljpidlfddgbaaSn
import Derived.Test.YtkljpidlfddgbaaSk
import Derived.Test.YtkljpidlfddgbaaSj
namespace Go.Proofs.Ytkljpidlfddgbaa
set_option maxRecDepth 100000
open Go.RowKit Rg B

open W R
namespace Q
open H Z
theorem PLens_y {S : Option Addr} {n c L : Nat} {cn : Nat → Nat} (hcn : ∀ i, cn i < 4294967296) (hn : n ≤ 1000) (hL1 : 1 ≤ L) (hL : L ≤ 15) (hm : many cn n ≤ 2 ^ L) (w : World) (hS : Rc w S n (H.nw cn)) : RetP 14 #[.slice S n c, Nv .i64 L] w fun x w' => ∃ q, x = .tuple #[.slice (some ⟨q, 0, none⟩) n n, Nv .i64 0] ∧ Own w w' [(q, ints n (fun i => ((tl cn n L i : Nat) : Int)), 3)] := by
  refine (PLens_c hcn hn hL1 hL w hS).mono fun e w' hh => ?_
  obtain ⟨v, he, ⟨_, hv⟩ | ⟨hno, _⟩⟩ := hh
  · exact ⟨v, he, hv⟩
  · omega
theorem PLens_n {S : Option Addr} {n c L : Nat} {cn : Nat → Nat} (hcn : ∀ i, cn i < 4294967296) (hn : n ≤ 1000) (hL1 : 1 ≤ L) (hL : L ≤ 15) (hm : ¬ many cn n ≤ 2 ^ L) (w : World) (hS : Rc w S n (H.nw cn)) : Ret 14 #[.slice S n c, Nv .i64 L] w (.tuple #[.slice none 0 0, Nv .i64 1]) := by
  refine (PLens_c hcn hn hL1 hL w hS).mono fun e w' hh => ?_
  obtain ⟨v, he, ⟨hy, _⟩ | ⟨_, hv, hb⟩⟩ := hh
  · omega
  · exact ⟨hv ▸ he, hb⟩
set_option maxHeartbeats 4000000 in
theorem PLens_bad {S : Option Addr} {n c : Nat} {z : Int} (hz : z < 1 ∨ 15 < z) (w : World) : Ret 14 #[.slice S n c, .int .i64 z] w (.tuple #[.slice none 0 0, Nv .i64 1]) := by
  go_enter Try.func14, Try.ntmps14
  have hO := Own.start w
  go_upto_region 0 with (fail)
  refine wp_region_list (WL.out ?_)
  refine g_val (.slice none 0 0) ?_
  refine g_val (Nv .i64 0) ?_
  refine g_nil ?_
  simp only [Act.put, List.setIfInBounds_toArray, List.set_cons_succ, List.set_cons_zero]
  by_cases h1 : z < 1
  · have h1' := h1
    go_upto_region 1 with (fail)
    refine wp_region_list (WL.out ?_)
    refine g_val (.int .i64 z) ?_
    refine g_val (.bool true) ?_ (lssI_int (a := z) (c := 1) (decide_eq_true h1) w)
    refine g_val (.bool true) ?_
    refine g_skip ?_
    refine g_skip ?_
    refine g_val (.bool true) ?_
    refine g_val (.bool true) ?_
    refine g_skip ?_
    refine g_skip ?_
    refine g_skip ?_
    refine g_val (.bool true) ?_
    refine g_nil ?_
    simp only [Act.put, List.setIfInBounds_toArray, List.set_cons_succ, List.set_cons_zero]
    go_upto_region 2 with (fail)
    refine wp_region_list (WL.out ?_)
    refine g_val (.slice none 0 0) ?_
    refine g_val (Nv .i64 1) ?_
    refine g_nil ?_
    simp only [Act.put, List.setIfInBounds_toArray, List.set_cons_succ, List.set_cons_zero]
    have HF := hide hO.low
    clear hO
    go_wp2_with (fail)
    go_ret2
    exact ⟨rfl, HF.out⟩
  · have h2 : 15 < z := by omega
    go_upto_region 1 with (fail)
    refine wp_region_list (WL.out ?_)
    refine g_val (.int .i64 z) ?_
    refine g_val (.bool false) ?_ (lssI_int (a := z) (c := 1) (decide_eq_false h1) w)
    refine g_val (.bool false) ?_
    refine g_val (.int .i64 z) ?_
    refine g_val (.bool true) ?_ (gtrI_int (a := z) (c := 15) (decide_eq_true h2) w)
    refine g_val (.bool true) ?_
    refine g_val (.bool true) ?_
    refine g_skip ?_
    refine g_skip ?_
    refine g_skip ?_
    refine g_val (.bool true) ?_
    refine g_nil ?_
    simp only [Act.put, List.setIfInBounds_toArray, List.set_cons_succ, List.set_cons_zero]
    go_upto_region 2 with (fail)
    refine wp_region_list (WL.out ?_)
    refine g_val (.slice none 0 0) ?_
    refine g_val (Nv .i64 1) ?_
    refine g_nil ?_
    simp only [Act.put, List.setIfInBounds_toArray, List.set_cons_succ, List.set_cons_zero]
    have HF := hide hO.low
    clear hO
    go_wp2_with (fail)
    go_ret2
    exact ⟨rfl, HF.out⟩
/-- Small lists as numbers of places. -/
def nL (l : List Nat) (i : Nat) : Nat := l.getD i 0
def iL (l : List Int) (i : Nat) : Int := l.getD i 0
theorem nL_lt {l : List Nat} {b : Nat} (h0 : 0 < b) (h : ∀ x ∈ l, x < b) (i : Nat) : nL l i < b := by
  unfold nL
  rw [List.getD_eq_getElem?_getD]
  by_cases hi : i < l.length
  · rw [List.getElem?_eq_getElem hi]; exact h _ (List.getElem_mem hi)
  · rw [List.getElem?_eq_none (by omega)]; exact h0
theorem rc_v32 {w : World} {q n : Nat} {f : Nat → Nat} {t : TypeId} (h : Blk w q (vals .u32 n f) t) : Rc w (some ⟨q, 0, none⟩) n (H.nw f) := rc_row h fun i hi => by rw [Nat.zero_add]; exact vals_get _ _ _ _ hi
theorem rc_int {w : World} {q n : Nat} {z : Nat → Int} {t : TypeId} (h : Blk w q (ints n z) t) : Rc w (some ⟨q, 0, none⟩) n (zi z) := rc_row h fun i hi => by rw [Nat.zero_add]; exact ints_get _ hi
theorem okW_dec {z : Nat → Int} {n : Nat} (h : (decide (n ≤ 1000) && decide (∀ i, i < n → 0 ≤ z i ∧ z i ≤ 15) && decide (many (ln z) n ≠ 0) && (decide (room (ln z) n = 32768) || (decide (many (ln z) n = 1) && decide (room (ln z) n = 16384)))) = true) : okW z n := by
  simp only [Bool.and_eq_true, Bool.or_eq_true, decide_eq_true_eq] at h
  exact ⟨h.1.1.1, h.1.1.2, h.1.2, h.2⟩
theorem aw_ok : okW (iL [2, 1, 3, 3]) 4 := okW_dec (by decide +kernel)
theorem aw_no : ¬ okW (iL [1, 1, 1]) 3 := fun h => by
  rcases h.2.2.2 with h | h
  · exact absurd h (by decide +kernel)
  · exact absurd h.1 (by decide +kernel)
theorem aw_w0 : wd (ln (iL [2, 1, 3, 3])) 4 0 = 2 := by decide +kernel
theorem aw_w3 : wd (ln (iL [2, 1, 3, 3])) 4 3 = 7 := by decide +kernel
theorem aw_l2 : ln (iL [2, 1, 3, 3]) 2 = 3 := by decide +kernel
theorem aw_t : tko (ln (iL [2, 1, 3, 3])) 4 (8 * 1) 3 0 15 0 = (2, 0, 3) := by decide +kernel
theorem aw_L0 : tl (nL [5, 1, 1, 0, 2]) 5 15 0 = 1 := aw_0
theorem aw_L3 : tl (nL [5, 1, 1, 0, 2]) 5 15 3 = 0 := aw_3
theorem aw_L4 : tl (nL [5, 1, 1, 0, 2]) 5 15 4 = 2 := aw_4
theorem aw_M0 : tl (nL [5, 1, 1, 1]) 4 2 0 = 2 := aw_m
set_option maxHeartbeats 16000000 in
theorem Awake_c (w : World) : Ret 13 #[] w (.bool true) := by
  go_enter Try.func13, Try.ntmps13
  have hO := Own.start w
  go_upto_region 0 with (fail)
  refine wp_region_list (WL.out ?_)
  refine g_val (.bool false) ?_
  refine g_nil ?_
  simp only [Act.put, List.setIfInBounds_toArray, List.set_cons_zero]
  go_upto_region 1 with (fail)
  refine wp_region_list (WL.out ?_)
  refine g_new hO (fun q => .slice (some (⟨q, 0, none⟩ : Addr)) 5 5) (vals .u32 5 (nL [5, 1, 1, 0, 2])) 24 (fit_u32 _ _) ((by kernel_rfl)) ?_
  intro n16 w1 hb16 hO
  replace hO : Own w w1 [(n16, vals .u32 5 (nL [5, 1, 1, 0, 2]), 24)] := hO
  refine g_any 14 #[.slice (some (⟨n16, 0, none⟩ : Addr)) 5 5, Nv .i64 15] (PLens_y (cn := nL [5, 1, 1, 0, 2]) (nL_lt (by decide) (by decide)) (by decide) (by decide) (by decide) (by decide +kernel) w1 (rc_v32 (hO.row 0 rfl))) ?_
  rintro _ w2 ⟨q1, rfl, hO2⟩
  have hO9 := own_join hO hO2
  clear hO hO2
  have hO := hO9
  clear hO9
  replace hO : Own w w2 [(n16, vals .u32 5 (nL [5, 1, 1, 0, 2]), 24), (q1, ints 5 (fun i => ((tl (nL [5, 1, 1, 0, 2]) 5 15 i : Nat) : Int)), 3)] := hO
  refine g_val (.tuple #[.slice (some (⟨q1, 0, none⟩ : Addr)) 5 5, Nv .i64 0]) ?_
  refine g_val (.slice (some (⟨q1, 0, none⟩ : Addr)) 5 5) ?_
  refine g_val (Nv .i64 0) ?_
  refine g_val (.slice (some (⟨q1, 0, none⟩ : Addr)) 5 5) ?_
  refine g_val (Nv .i64 0) ?_
  refine g_nil ?_
  simp only [Act.put, List.setIfInBounds_toArray, List.set_cons_succ, List.set_cons_zero]
  go_upto_region 2 with (fail)
  refine wp_region_list (WL.out ?_)
  refine g_new hO (fun q => .slice (some (⟨q, 0, none⟩ : Addr)) 4 4) (vals .u32 4 (nL [5, 1, 1, 1])) 24 (fit_u32 _ _) ((by kernel_rfl)) ?_
  intro n21 w3 hb21 hO
  replace hO : Own w w3 [(n16, vals .u32 5 (nL [5, 1, 1, 0, 2]), 24), (q1, ints 5 (fun i => ((tl (nL [5, 1, 1, 0, 2]) 5 15 i : Nat) : Int)), 3), (n21, vals .u32 4 (nL [5, 1, 1, 1]), 24)] := hO
  refine g_any 14 #[.slice (some (⟨n21, 0, none⟩ : Addr)) 4 4, Nv .i64 2] (PLens_y (cn := nL [5, 1, 1, 1]) (nL_lt (by decide) (by decide)) (by decide) (by decide) (by decide) (by decide +kernel) w3 (rc_v32 (hO.row 2 rfl))) ?_
  rintro _ w4 ⟨q2, rfl, hO2⟩
  have hO9 := own_join hO hO2
  clear hO hO2
  have hO := hO9
  clear hO9
  replace hO : Own w w4 [(n16, vals .u32 5 (nL [5, 1, 1, 0, 2]), 24), (q1, ints 5 (fun i => ((tl (nL [5, 1, 1, 0, 2]) 5 15 i : Nat) : Int)), 3), (n21, vals .u32 4 (nL [5, 1, 1, 1]), 24), (q2, ints 4 (fun i => ((tl (nL [5, 1, 1, 1]) 4 2 i : Nat) : Int)), 3)] := hO
  refine g_val (.tuple #[.slice (some (⟨q2, 0, none⟩ : Addr)) 4 4, Nv .i64 0]) ?_
  refine g_val (.slice (some (⟨q2, 0, none⟩ : Addr)) 4 4) ?_
  refine g_val (Nv .i64 0) ?_
  refine g_val (.slice (some (⟨q2, 0, none⟩ : Addr)) 4 4) ?_
  refine g_val (Nv .i64 0) ?_
  refine g_nil ?_
  simp only [Act.put, List.setIfInBounds_toArray, List.set_cons_succ, List.set_cons_zero]
  go_upto_region 3 with (fail)
  refine wp_region_list (WL.out ?_)
  refine g_new hO (fun q => .slice (some (⟨q, 0, none⟩ : Addr)) 4 4) (ints 4 (iL [2, 1, 3, 3])) 3 (fit_ints _ _) ((by kernel_rfl)) ?_
  intro n26 w5 hb26 hO
  replace hO : Own w w5 [(n16, vals .u32 5 (nL [5, 1, 1, 0, 2]), 24), (q1, ints 5 (fun i => ((tl (nL [5, 1, 1, 0, 2]) 5 15 i : Nat) : Int)), 3), (n21, vals .u32 4 (nL [5, 1, 1, 1]), 24), (q2, ints 4 (fun i => ((tl (nL [5, 1, 1, 1]) 4 2 i : Nat) : Int)), 3), (n26, ints 4 (iL [2, 1, 3, 3]), 3)] := hO
  refine g_any 18 #[.slice (some (⟨n26, 0, none⟩ : Addr)) 4 4] (PWords_y aw_ok w5 (rc_int (hO.row 4 rfl))) ?_
  rintro _ w6 ⟨q3, rfl, hO2⟩
  have hO9 := own_join hO hO2
  clear hO hO2
  have hO := hO9
  clear hO9
  replace hO : Own w w6 [(n16, vals .u32 5 (nL [5, 1, 1, 0, 2]), 24), (q1, ints 5 (fun i => ((tl (nL [5, 1, 1, 0, 2]) 5 15 i : Nat) : Int)), 3), (n21, vals .u32 4 (nL [5, 1, 1, 1]), 24), (q2, ints 4 (fun i => ((tl (nL [5, 1, 1, 1]) 4 2 i : Nat) : Int)), 3), (n26, ints 4 (iL [2, 1, 3, 3]), 3), (q3, vals .u32 4 (wd (ln (iL [2, 1, 3, 3])) 4), 24)] := hO
  refine g_val (.tuple #[.slice (some (⟨q3, 0, none⟩ : Addr)) 4 4, Nv .i64 0]) ?_
  refine g_val (.slice (some (⟨q3, 0, none⟩ : Addr)) 4 4) ?_
  refine g_val (Nv .i64 0) ?_
  refine g_val (.slice (some (⟨q3, 0, none⟩ : Addr)) 4 4) ?_
  refine g_val (Nv .i64 0) ?_
  refine g_nil ?_
  simp only [Act.put, List.setIfInBounds_toArray, List.set_cons_succ, List.set_cons_zero]
  go_upto_region 4 with (fail)
  refine wp_region_list (WL.out ?_)
  refine g_new hO (fun q => .slice (some (⟨q, 0, none⟩ : Addr)) 3 3) (ints 3 (iL [1, 1, 1])) 3 (fit_ints _ _) ((by kernel_rfl)) ?_
  intro n31 w7 hb31 hO
  replace hO : Own w w7 [(n16, vals .u32 5 (nL [5, 1, 1, 0, 2]), 24), (q1, ints 5 (fun i => ((tl (nL [5, 1, 1, 0, 2]) 5 15 i : Nat) : Int)), 3), (n21, vals .u32 4 (nL [5, 1, 1, 1]), 24), (q2, ints 4 (fun i => ((tl (nL [5, 1, 1, 1]) 4 2 i : Nat) : Int)), 3), (n26, ints 4 (iL [2, 1, 3, 3]), 3), (q3, vals .u32 4 (wd (ln (iL [2, 1, 3, 3])) 4), 24), (n31, ints 3 (iL [1, 1, 1]), 3)] := hO
  refine g_call hO 18 #[.slice (some (⟨n31, 0, none⟩ : Addr)) 3 3] (.tuple #[.slice none 0 0, Nv .i64 130]) (PWords_n (by decide) aw_no w7 (rc_int (hO.row 6 rfl))) ?_
  intro w8 hb32 hO
  refine g_val (.tuple #[.slice none 0 0, Nv .i64 130]) ?_
  refine g_val (.slice none 0 0) ?_
  refine g_val (Nv .i64 130) ?_
  refine g_val (.slice none 0 0) ?_
  refine g_val (Nv .i64 130) ?_
  refine g_nil ?_
  simp only [Act.put, List.setIfInBounds_toArray, List.set_cons_succ, List.set_cons_zero]
  go_upto_region 5 with (fail)
  refine wp_region_list (WL.out ?_)
  refine g_new hO (fun q => .slice (some (⟨q, 0, none⟩ : Addr)) 4 4) (ints 4 (iL [2, 1, 3, 3])) 3 (fit_ints _ _) ((by kernel_rfl)) ?_
  intro n36 w9 hb36 hO
  replace hO : Own w w9 [(n16, vals .u32 5 (nL [5, 1, 1, 0, 2]), 24), (q1, ints 5 (fun i => ((tl (nL [5, 1, 1, 0, 2]) 5 15 i : Nat) : Int)), 3), (n21, vals .u32 4 (nL [5, 1, 1, 1]), 24), (q2, ints 4 (fun i => ((tl (nL [5, 1, 1, 1]) 4 2 i : Nat) : Int)), 3), (n26, ints 4 (iL [2, 1, 3, 3]), 3), (q3, vals .u32 4 (wd (ln (iL [2, 1, 3, 3])) 4), 24), (n31, ints 3 (iL [1, 1, 1]), 3), (n36, ints 4 (iL [2, 1, 3, 3]), 3)] := hO
  refine g_any 21 #[.slice (some (⟨n36, 0, none⟩ : Addr)) 4 4] (PNew_y aw_ok w9 (rc_int (hO.row 7 rfl))) ?_
  rintro _ w10 ⟨K, rfl, hC, hb5⟩
  have hO9 := hO.call hb5
  clear hO hb5
  have hO := hO9
  clear hO9
  replace hO : Own w w10 [(n16, vals .u32 5 (nL [5, 1, 1, 0, 2]), 24), (q1, ints 5 (fun i => ((tl (nL [5, 1, 1, 0, 2]) 5 15 i : Nat) : Int)), 3), (n21, vals .u32 4 (nL [5, 1, 1, 1]), 24), (q2, ints 4 (fun i => ((tl (nL [5, 1, 1, 1]) 4 2 i : Nat) : Int)), 3), (n26, ints 4 (iL [2, 1, 3, 3]), 3), (q3, vals .u32 4 (wd (ln (iL [2, 1, 3, 3])) 4), 24), (n31, ints 3 (iL [1, 1, 1]), 3), (n36, ints 4 (iL [2, 1, 3, 3]), 3)] := hO
  refine g_val (.tuple #[D K, Nv .i64 0]) ?_
  refine g_val (D K) ?_
  refine g_val (Nv .i64 0) ?_
  refine g_val (D K) ?_
  refine g_val (Nv .i64 0) ?_
  refine g_nil ?_
  simp only [Act.put, List.setIfInBounds_toArray, List.set_cons_succ, List.set_cons_zero]
  have hBq1 := hO.row 1 rfl
  have hBq2 := hO.row 3 rfl
  have hBq3 := hO.row 5 rfl
  have HL := hide hO.low
  clear hO
  have hO := Own.start w10
  go_upto_region 6 with (fail)
  refine wp_region_list (WL.out ?_)
  refine g_val (A (wc none (fun _ => 0) 0)) ?_ (run_bd 49 _ rfl [] (by kernel_rfl) _ wc_zero w10)
  refine g_new hO (fun q => D q) (wc none (fun _ => 0) 0) 49 (wc_fit _ _ _) ((run_box 49 _ rfl _ (by kernel_rfl) w10)) ?_
  intro n41 w11 hb41 hO
  replace hO : Own w10 w11 [(n41, wc none (fun _ => 0) 0, 49)] := hO
  refine g_val (D n41) ?_
  refine g_nil ?_
  simp only [Act.put, List.setIfInBounds_toArray, List.set_cons_succ, List.set_cons_zero]
  have hW := WrS.new (M' := []) hO
  clear hO
  go_upto_region 7 with (fail)
  refine wp_region_list (WL.out ?_)
  refine g_val (D K) ?_
  refine g_val (D n41) ?_
  refine g_any 22 #[D K, D n41, Nv .i64 2] (PPut_c (i := 2) (m := 3) aw_ok (by decide) aw_l2.symm (by decide) (by decide) n41 w10 [] w11 (hC.call hW.low) hW) ?_
  rintro _ w12 ⟨rfl, hW2⟩
  clear hW
  refine g_val (Nv .i64 0) ?_
  refine g_nil ?_
  simp only [Act.put, List.setIfInBounds_toArray, List.set_cons_succ, List.set_cons_zero]
  obtain ⟨X2, hX2⟩ : ∃ X2, 0 + hb (word (ln (iL [2, 1, 3, 3])) 4 2) 3 3 * 2 ^ 0 = X2 := ⟨_, rfl⟩
  rw [hX2] at hW2
  clear hX2
  have hO := Own.start w12
  go_upto_region 8 with (fail)
  refine wp_region_list (WL.out ?_)
  refine g_val (D K) ?_
  refine g_new hO (fun q => .slice (some (⟨q, 0, none⟩ : Addr)) 1 1) (vals .u8 1 (byt 3)) 5 (fit_sl _ _) ((by kernel_rfl)) ?_
  intro n47 w13 hb47 hO
  replace hO : Own w12 w13 [(n47, vals .u8 1 (byt 3), 5)] := hO
  refine g_any (P := fun v w' => ∃ N q, v = D N ∧ Own w13 w' [(N, rc q 1 0, 92), (q, vals .u8 1 (byt 3), 5)]) 27 #[.slice (some (⟨n47, 0, none⟩ : Addr)) 1 1] (Calls.mono (New_c (by decide) w13 (rc_row (hO.row 0 rfl) (fun i hi => by rw [Nat.zero_add]; exact vals_get _ _ _ _ hi))) fun e w' hh => by obtain ⟨N, q, he, h9⟩ := hh; exact ⟨_, he, N, q, rfl, h9⟩) ?_
  rintro _ w14 ⟨NR, qr, rfl, hO2⟩
  have hO9 := (own_join hO hO2).perm (List.perm_append_comm (l₁ := [_]))
  clear hO hO2
  have hO := hO9
  clear hO9
  replace hO : Own w12 w14 [(NR, rc qr 1 0, 92), (qr, vals .u8 1 (byt 3), 5), (n47, vals .u8 1 (byt 3), 5)] := hO
  refine g_any 29 #[D K, D NR] (PTake_c aw_ok (by decide) (by decide) NR w12 _ w14 (hC.call hW2.low) hO (2, 0, 3) aw_t.symm) ?_
  rintro _ w15 ⟨rfl, hO2⟩
  clear hO
  have hW := hW2.call hO2.low
  clear hO2 hW2
  refine g_val (.tuple #[Nv .i64 2, Nv .i64 0]) ?_
  refine g_val (Nv .i64 2) ?_
  refine g_val (Nv .i64 0) ?_
  refine g_val (Nv .i64 2) ?_
  refine g_val (Nv .i64 0) ?_
  refine g_nil ?_
  simp only [Act.put, List.setIfInBounds_toArray, List.set_cons_succ, List.set_cons_zero]
  have hlo := hW.low
  go_upto_region 9 with (fail)
  refine wp_region_list (WL.out ?_)
  refine g_val (.slice (some (⟨q1, 0, none⟩ : Addr)) 5 5) ?_
  refine g_val (Nv .i64 5) ?_
  refine g_val (.bool false) ?_ (B.neq_int (a := 5) (c := 5) (b := false) (decide_eq_false (by decide)) w15)
  refine g_val (.bool false) ?_
  refine g_val (.slice (some (⟨q2, 0, none⟩ : Addr)) 4 4) ?_
  refine g_val (Nv .i64 4) ?_
  refine g_val (.bool false) ?_ (B.neq_int (a := 4) (c := 4) (b := false) (decide_eq_false (by decide)) w15)
  refine g_val (.bool false) ?_
  refine g_val (.bool false) ?_
  refine g_val (.slice (some (⟨q3, 0, none⟩ : Addr)) 4 4) ?_
  refine g_val (Nv .i64 4) ?_
  refine g_val (.bool false) ?_ (B.neq_int (a := 4) (c := 4) (b := false) (decide_eq_false (by decide)) w15)
  refine g_val (.bool false) ?_
  refine g_nil ?_
  simp only [Act.put, List.setIfInBounds_toArray, List.set_cons_succ, List.set_cons_zero]
  go_upto_region 11 with (fail)
  refine wp_region_list (WL.out ?_)
  refine g_val (Nv .i64 0) ?_
  refine g_val (.bool true) ?_
  refine g_val (.bool true) ?_
  refine g_val (.slice (some (⟨q1, 0, none⟩ : Addr)) 5 5) ?_
  refine g_val (D q1) ?_ (b_isq (n := 5) (c := 5) (k := 0) (by decide) Try.underlying25 sz_int w15)
  refine g_la (ad := ⟨q1, 0, none⟩) (Nv .i64 1) (((hBq1.call hlo).cell 0).trans (by rw [ints_get _ (by decide), aw_L0])) agg_int ?_
  refine g_val (.bool true) ?_ (B.eql_int (a := 1) (c := 1) (b := true) (rfl) w15)
  refine g_val (.bool true) ?_
  refine g_val (.bool true) ?_
  refine g_val (.slice (some (⟨q1, 0, none⟩ : Addr)) 5 5) ?_
  refine g_val (E q1 3) ?_ (b_isq (n := 5) (c := 5) (k := 3) (by decide) Try.underlying25 sz_int w15)
  refine g_la (ad := ⟨q1, 3, none⟩) (Nv .i64 0) (((hBq1.call hlo).cell 3).trans (by rw [ints_get _ (by decide), aw_L3])) agg_int ?_
  refine g_val (.bool true) ?_ (B.eql_int (a := 0) (c := 0) (b := true) (rfl) w15)
  refine g_val (.bool true) ?_
  refine g_val (.bool true) ?_
  refine g_val (.slice (some (⟨q1, 0, none⟩ : Addr)) 5 5) ?_
  refine g_val (E q1 4) ?_ (b_isq (n := 5) (c := 5) (k := 4) (by decide) Try.underlying25 sz_int w15)
  refine g_la (ad := ⟨q1, 4, none⟩) (Nv .i64 2) (((hBq1.call hlo).cell 4).trans (by rw [ints_get _ (by decide), aw_L4])) agg_int ?_
  refine g_val (.bool true) ?_ (B.eql_int (a := 2) (c := 2) (b := true) (rfl) w15)
  refine g_val (.bool true) ?_
  refine g_val (.bool true) ?_
  refine g_val (Nv .i64 0) ?_
  refine g_val (.bool true) ?_
  refine g_val (.bool true) ?_
  refine g_val (.bool true) ?_
  refine g_val (.slice (some (⟨q2, 0, none⟩ : Addr)) 4 4) ?_
  refine g_val (D q2) ?_ (b_isq (n := 4) (c := 4) (k := 0) (by decide) Try.underlying25 sz_int w15)
  refine g_la (ad := ⟨q2, 0, none⟩) (Nv .i64 2) (((hBq2.call hlo).cell 0).trans (by rw [ints_get _ (by decide), aw_M0])) agg_int ?_
  refine g_val (.bool true) ?_ (B.eql_int (a := 2) (c := 2) (b := true) (rfl) w15)
  refine g_val (.bool true) ?_
  refine g_val (.bool true) ?_
  refine g_val (Nv .i64 0) ?_
  refine g_val (.bool true) ?_
  refine g_val (.bool true) ?_
  refine g_val (.bool true) ?_
  refine g_val (.slice (some (⟨q3, 0, none⟩ : Addr)) 4 4) ?_
  refine g_val (D q3) ?_ (b_isq (n := 4) (c := 4) (k := 0) (by decide) Try.underlying23 sz_u32 w15)
  refine g_la (ad := ⟨q3, 0, none⟩) (Nv .u32 2) (((hBq3.call hlo).cell 0).trans (by rw [vals_get _ _ _ _ (by decide), aw_w0])) agg_u32 ?_
  refine g_val (.bool true) ?_ (B.eql_u32 (a := 2) (c := 2) (b := true) (rfl) w15)
  refine g_val (.bool true) ?_
  refine g_val (.bool true) ?_
  refine g_val (.slice (some (⟨q3, 0, none⟩ : Addr)) 4 4) ?_
  refine g_val (E q3 3) ?_ (b_isq (n := 4) (c := 4) (k := 3) (by decide) Try.underlying23 sz_u32 w15)
  refine g_la (ad := ⟨q3, 3, none⟩) (Nv .u32 7) (((hBq3.call hlo).cell 3).trans (by rw [vals_get _ _ _ _ (by decide), aw_w3])) agg_u32 ?_
  refine g_val (.bool true) ?_ (B.eql_u32 (a := 7) (c := 7) (b := true) (rfl) w15)
  refine g_val (.bool true) ?_
  refine g_val (.bool true) ?_
  refine g_val (Nv .i64 130) ?_
  refine g_val (.bool true) ?_
  refine g_val (.bool true) ?_
  refine g_val (.bool true) ?_
  refine g_val (Nv .i64 0) ?_
  refine g_val (.bool true) ?_
  refine g_val (.bool true) ?_
  refine g_val (.bool true) ?_
  refine g_val (Nv .i64 0) ?_
  refine g_val (.bool true) ?_
  refine g_val (.bool true) ?_
  refine g_val (.bool true) ?_
  refine g_val (D n41) ?_
  obtain ⟨pw9, hBW, _⟩ := hW.blk
  refine g_any (P := fun v w' => v = Nv .i64 (0 + 3) ∧ Below w15.heap.size w15 w') 26 #[D n41] (Calls.mono (Count_c n41 w15 hBW) fun e w' hh => ⟨_, hh.1, rfl, hh.2⟩) ?_
  rintro _ w16 ⟨rfl, hb9⟩
  refine g_val (.bool true) ?_ (B.eql_int (a := 0 + 3) (c := 3) (b := true) (rfl) w16)
  refine g_val (.bool true) ?_
  refine g_val (.bool true) ?_
  refine g_val (Nv .i64 2) ?_
  refine g_val (.bool true) ?_ (B.eql_int (a := 2) (c := 2) (b := true) (rfl) w16)
  refine g_val (.bool true) ?_
  refine g_val (.bool true) ?_
  refine g_val (Nv .i64 0) ?_
  refine g_val (.bool true) ?_
  refine g_val (.bool true) ?_
  refine g_val (.bool true) ?_
  refine g_nil ?_
  simp only [Act.put, List.setIfInBounds_toArray, List.set_cons_succ, List.set_cons_zero]
  have HF := hide (HL.out.trans ((hlo.trans (hb9.mono hlo.size)).mono HL.out.size))
  clear hlo hb9 hW hC
  go_wp2_with (fail)
  go_ret
  exact ⟨rfl, HF.out⟩
end Q
end Go.Proofs.Ytkljpidlfddgbaa

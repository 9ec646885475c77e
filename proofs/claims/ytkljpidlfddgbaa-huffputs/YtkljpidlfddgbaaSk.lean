/- Put of a Code: the bits of a symbol's word; of a symbol that has none, and of no Code, the error. No other condition but that at most 2^38 bits are written. -/
import Derived.Test.YtkljpidlfddgbaaSj
import Derived.Test.YtkljpidlfddgbaaRc
import Derived.Test.YtkljpidlfddgbaaCh
namespace Go.Proofs.Ytkljpidlfddgbaa
set_option maxRecDepth 100000
open Go.RowKit Rg B

open W
namespace Q
open H
/-- What holds at each jump: k bits of the word are put. -/
def QJ (u : World) (M' : List Row) (N X c wv m K i : Nat) (a' : Act) (w' : World) : Prop :=
  ∃ (k d Y left : Nat) (z3 z4 z5 z6 z9 z10 z11 z12 z13 z14 z15 z16 z17 z18 z19 z20 z21 z22 z23 z24 z25 z26 z27 z28 z29 z30 z31 z32 z33 z34 z35 z36 z37 z38 z39 z40 z41 z42 z43 z44 z45 z46 z47 z48 z49 z50 z51 z52 z53 z54 z55 z56 z57 z58 z59 z60 z61 z62 : Value), a' = Fr [D K, D N, Nv .i64 i, z3, z4, z5, z6, Nv .u32 wv, Nv .i64 left, z9, z10, z11, z12, z13, z14, z15, z16, z17, z18, z19, z20, z21, z22, z23, z24, z25, z26, z27, z28, z29, z30, z31, z32, z33, z34, z35, z36, z37, z38, z39, z40, z41, z42, z43, z44, z45, z46, z47, z48, z49, z50, z51, z52, z53, z54, z55, z56, z57, z58, z59, z60, z61, z62] ∧ left + k = m ∧ d = c + k ∧ Y = X + hb wv m k * 2 ^ c ∧ WrS u w' M' N Y d
def qMu (a' : Act) (_ : World) : Nat := (intOf (a'.tmps.getD 8 undef)).toNat
/-- The parts of a Code, the lengths as numbers. -/
theorem Cde.parts {z : Nat → Int} {n K : Nat} {w : World} (hok : okW z n) (h : Cde z n w K) : ∃ qw ql d qo dd f, Blk w K (cde (.slice (some ⟨qw, 0, none⟩) n n) (.slice (some ⟨ql, 0, none⟩) n (n + d)) (.slice (some ⟨qo, 0, none⟩) (many (ln z) n) (many (ln z) n + dd)) f) 87 ∧ f = cw (ln z) n (many (ln z) n) ∧ Blk w qw (vals .u32 n (wd (ln z) n)) 24 ∧ Blk w ql (cl zI (n + d) n (H.ni (ln z))) 3 ∧ Blk w qo (cI (many (ln z) n + dd) (many (ln z) n) (og (ln z) n)) 3 := by
  obtain ⟨qw, ql, d, qo, dd, h1, h2, h3, h4⟩ := h
  refine ⟨qw, ql, d, qo, dd, _, h1, rfl, h2, ?_, h4⟩
  rw [cl_congr (g := H.ni (ln z)) fun i hi => by unfold zi H.ni; rw [ln_eq (hok.2.1 i hi)]] at h3
  exact h3
set_option maxHeartbeats 4000000 in
theorem PPut_neg {z : Nat → Int} {n K : Nat} {s : Int} (hs : s < 0) (hok : okW z n) (N : Nat) (w : World) (hC : Cde z n w K) : Ret 22 #[D K, D N, .int .i64 s] w (Nv .i64 1) := by
  obtain ⟨qw, ql, d, qo, dd, f, hBK, hf, hBW, hBL, hBO⟩ := hC.parts hok
  have hn1 := hok.1
  have Hf := hide hf
  clear hf hC hok
  go_enter Try.func22, Try.ntmps22
  have hO := Own.start w
  go_upto_region 0 with (fail)
  refine wp_region_list (WL.out ?_)
  refine g_val (Nv .i64 0) ?_
  refine g_nil ?_
  simp only [Act.put, List.setIfInBounds_toArray, List.set_cons_succ, List.set_cons_zero]
  go_wp2_with (fail)
  refine scope_jumps 0 (fun _ _ => False) qMu rfl (fun _ _ h => h.elim) ?_
  intro H
  clear H
  go_upto_region 1 with (fail)
  refine wp_region_list (WL.out ?_)
  refine g_val (D K) ?_
  refine g_val (.bool false) ?_
  refine g_val (.bool false) ?_
  refine g_val (D N) ?_
  refine g_val (.bool false) ?_
  refine g_val (.bool false) ?_
  refine g_val (.bool false) ?_
  refine g_val (.int .i64 s) ?_
  refine g_val (.bool true) ?_ (lssI_int (a := s) (c := 0) (decide_eq_true hs) w)
  refine g_val (.bool true) ?_
  refine g_val (.bool true) ?_
  refine g_skip ?_
  refine g_skip ?_
  refine g_skip ?_
  refine g_skip ?_
  refine g_skip ?_
  refine g_skip ?_
  refine g_skip ?_
  refine g_val (.bool true) ?_
  refine g_val (.bool true) ?_
  refine g_skip ?_
  refine g_skip ?_
  refine g_skip ?_
  refine g_skip ?_
  refine g_skip ?_
  refine g_skip ?_
  refine g_skip ?_
  refine g_skip ?_
  refine g_val (.bool true) ?_
  refine g_nil ?_
  simp only [Act.put, List.setIfInBounds_toArray, List.set_cons_succ, List.set_cons_zero]
  go_upto_region 2 with (fail)
  refine wp_region_list (WL.out ?_)
  refine g_val (Nv .i64 1) ?_
  refine g_nil ?_
  simp only [Act.put, List.setIfInBounds_toArray, List.set_cons_succ, List.set_cons_zero]
  have HF := hide hO.low
  clear hO
  go_wp2_with (fail)
  simp only [Exit.jump]
  go_ret
  exact ⟨rfl, HF.out⟩
set_option maxHeartbeats 4000000 in
theorem PPut_big {z : Nat → Int} {n K : Nat} {i : Nat} (hi : n ≤ i) (hok : okW z n) (N : Nat) (w : World) (hC : Cde z n w K) : Ret 22 #[D K, D N, .int .i64 ((i : Nat) : Int)] w (Nv .i64 1) := by
  obtain ⟨qw, ql, d, qo, dd, f, hBK, hf, hBW, hBL, hBO⟩ := hC.parts hok
  have hn1 := hok.1
  have Hf := hide hf
  clear hf hC hok
  go_enter Try.func22, Try.ntmps22
  have hO := Own.start w
  go_upto_region 0 with (fail)
  refine wp_region_list (WL.out ?_)
  refine g_val (Nv .i64 0) ?_
  refine g_nil ?_
  simp only [Act.put, List.setIfInBounds_toArray, List.set_cons_succ, List.set_cons_zero]
  go_wp2_with (fail)
  refine scope_jumps 0 (fun _ _ => False) qMu rfl (fun _ _ h => h.elim) ?_
  intro H
  clear H
  go_upto_region 1 with (fail)
  refine wp_region_list (WL.out ?_)
  refine g_val (D K) ?_
  refine g_val (.bool false) ?_
  refine g_val (.bool false) ?_
  refine g_val (D N) ?_
  refine g_val (.bool false) ?_
  refine g_val (.bool false) ?_
  refine g_val (.bool false) ?_
  refine g_val (Nv .i64 i) ?_
  refine g_val (.bool false) ?_ (B.lss_int (a := i) (c := 0) (b := false) (decide_eq_false (by omega)) w)
  refine g_val (.bool false) ?_
  refine g_val (.bool false) ?_
  refine g_val (Nv .i64 i) ?_
  refine g_val (D K) ?_
  refine g_val (D K) ?_
  refine g_val (D K) ?_
  refine g_la (.slice (some ⟨qw, 0, none⟩) n n) (((hBK.call hO.low).cell 0).trans cde_0) agg_su ?_
  refine g_val (Nv .i64 n) ?_
  refine g_val (.bool true) ?_ (B.geq_int (a := i) (c := n) (b := true) (decide_eq_true hi) w)
  refine g_val (.bool true) ?_
  refine g_val (.bool true) ?_
  refine g_skip ?_
  refine g_skip ?_
  refine g_skip ?_
  refine g_skip ?_
  refine g_skip ?_
  refine g_skip ?_
  refine g_skip ?_
  refine g_skip ?_
  refine g_val (.bool true) ?_
  refine g_nil ?_
  simp only [Act.put, List.setIfInBounds_toArray, List.set_cons_succ, List.set_cons_zero]
  go_upto_region 2 with (fail)
  refine wp_region_list (WL.out ?_)
  refine g_val (Nv .i64 1) ?_
  refine g_nil ?_
  simp only [Act.put, List.setIfInBounds_toArray, List.set_cons_succ, List.set_cons_zero]
  have HF := hide hO.low
  clear hO
  go_wp2_with (fail)
  simp only [Exit.jump]
  go_ret
  exact ⟨rfl, HF.out⟩
set_option maxHeartbeats 4000000 in
theorem PPut_zero {z : Nat → Int} {n K : Nat} {i : Nat} (hi : i < n) (h0 : ln z i = 0) (hok : okW z n) (N : Nat) (w : World) (hC : Cde z n w K) : Ret 22 #[D K, D N, .int .i64 ((i : Nat) : Int)] w (Nv .i64 1) := by
  obtain ⟨qw, ql, d, qo, dd, f, hBK, hf, hBW, hBL, hBO⟩ := hC.parts hok
  have hn1 := hok.1
  have Hf := hide hf
  clear hf hC hok
  go_enter Try.func22, Try.ntmps22
  have hO := Own.start w
  go_upto_region 0 with (fail)
  refine wp_region_list (WL.out ?_)
  refine g_val (Nv .i64 0) ?_
  refine g_nil ?_
  simp only [Act.put, List.setIfInBounds_toArray, List.set_cons_succ, List.set_cons_zero]
  go_wp2_with (fail)
  refine scope_jumps 0 (fun _ _ => False) qMu rfl (fun _ _ h => h.elim) ?_
  intro H
  clear H
  go_upto_region 1 with (fail)
  refine wp_region_list (WL.out ?_)
  refine g_val (D K) ?_
  refine g_val (.bool false) ?_
  refine g_val (.bool false) ?_
  refine g_val (D N) ?_
  refine g_val (.bool false) ?_
  refine g_val (.bool false) ?_
  refine g_val (.bool false) ?_
  refine g_val (Nv .i64 i) ?_
  refine g_val (.bool false) ?_ (B.lss_int (a := i) (c := 0) (b := false) (decide_eq_false (by omega)) w)
  refine g_val (.bool false) ?_
  refine g_val (.bool false) ?_
  refine g_val (Nv .i64 i) ?_
  refine g_val (D K) ?_
  refine g_val (D K) ?_
  refine g_val (D K) ?_
  refine g_la (.slice (some ⟨qw, 0, none⟩) n n) (((hBK.call hO.low).cell 0).trans cde_0) agg_su ?_
  refine g_val (Nv .i64 n) ?_
  refine g_val (.bool false) ?_ (B.geq_int (a := i) (c := n) (b := false) (decide_eq_false (by omega)) w)
  refine g_val (.bool false) ?_
  refine g_val (.bool false) ?_
  refine g_val (D K) ?_
  refine g_val (D K) ?_
  refine g_val (E K 1) ?_
  refine g_la (.slice (some ⟨ql, 0, none⟩) n (n + d)) (((hBK.call hO.low).cell 1).trans cde_1) agg_si ?_
  refine g_val (Nv .i64 i) ?_
  refine g_val (E ql i) ?_ (b_isq (n := n) (c := n + d) hi Try.underlying25 sz_int w)
  refine g_la (Nv .i64 (ln z i)) (((hBL.call hO.low).cell i).trans (cl_at _ _ _ _ _ (by omega) hi)) agg_int ?_
  refine g_val (.bool true) ?_ (B.eql_int (a := ln z i) (c := 0) (b := true) (decide_eq_true h0) w)
  refine g_val (.bool true) ?_
  refine g_nil ?_
  simp only [Act.put, List.setIfInBounds_toArray, List.set_cons_succ, List.set_cons_zero]
  go_upto_region 2 with (fail)
  refine wp_region_list (WL.out ?_)
  refine g_val (Nv .i64 1) ?_
  refine g_nil ?_
  simp only [Act.put, List.setIfInBounds_toArray, List.set_cons_succ, List.set_cons_zero]
  have HF := hide hO.low
  clear hO
  go_wp2_with (fail)
  simp only [Exit.jump]
  go_ret
  exact ⟨rfl, HF.out⟩
theorem PPut_bad {z : Nat → Int} {n K : Nat} {s : Int} (hok : okW z n) (h : ¬ okS z n s) (N : Nat) (w : World) (hC : Cde z n w K) : Ret 22 #[D K, D N, .int .i64 s] w (Nv .i64 1) := by
  by_cases hs : s < 0
  · exact PPut_neg hs hok N w hC
  · obtain ⟨i, rfl⟩ : ∃ i : Nat, s = (i : Int) := ⟨s.toNat, by omega⟩
    by_cases hi : i < n
    · by_cases h0 : ln z i = 0
      · exact PPut_zero hi h0 hok N w hC
      · exact absurd ⟨hok, i, rfl, hi, by omega⟩ h
    · exact PPut_big (by omega) hok N w hC
set_option maxHeartbeats 4000000 in
theorem PPut_nil {s : Int} (N : Nat) (w : World) : Ret 22 #[.pointer none, D N, .int .i64 s] w (Nv .i64 1) := by
  go_enter Try.func22, Try.ntmps22
  have hO := Own.start w
  go_upto_region 0 with (fail)
  refine wp_region_list (WL.out ?_)
  refine g_val (Nv .i64 0) ?_
  refine g_nil ?_
  simp only [Act.put, List.setIfInBounds_toArray, List.set_cons_succ, List.set_cons_zero]
  go_wp2_with (fail)
  refine scope_jumps 0 (fun _ _ => False) qMu rfl (fun _ _ h => h.elim) ?_
  intro H
  clear H
  go_upto_region 1 with (fail)
  refine wp_region_list (WL.out ?_)
  refine g_val (.pointer none) ?_
  refine g_val (.bool true) ?_
  refine g_val (.bool true) ?_
  refine g_skip ?_
  refine g_skip ?_
  refine g_val (.bool true) ?_
  refine g_val (.bool true) ?_
  refine g_skip ?_
  refine g_skip ?_
  refine g_val (.bool true) ?_
  refine g_val (.bool true) ?_
  refine g_skip ?_
  refine g_skip ?_
  refine g_skip ?_
  refine g_skip ?_
  refine g_skip ?_
  refine g_skip ?_
  refine g_skip ?_
  refine g_val (.bool true) ?_
  refine g_val (.bool true) ?_
  refine g_skip ?_
  refine g_skip ?_
  refine g_skip ?_
  refine g_skip ?_
  refine g_skip ?_
  refine g_skip ?_
  refine g_skip ?_
  refine g_skip ?_
  refine g_val (.bool true) ?_
  refine g_nil ?_
  simp only [Act.put, List.setIfInBounds_toArray, List.set_cons_succ, List.set_cons_zero]
  go_upto_region 2 with (fail)
  refine wp_region_list (WL.out ?_)
  refine g_val (Nv .i64 1) ?_
  refine g_nil ?_
  simp only [Act.put, List.setIfInBounds_toArray, List.set_cons_succ, List.set_cons_zero]
  have HF := hide hO.low
  clear hO
  go_wp2_with (fail)
  simp only [Exit.jump]
  go_ret
  exact ⟨rfl, HF.out⟩
set_option maxHeartbeats 8000000 in
theorem PPut_c {z : Nat → Int} {n K i X c m : Nat} (hok : okW z n) (hi : i < n) (hm : m = ln z i) (h1 : 1 ≤ m) (hc : c + 15 ≤ 2 ^ 38) (N : Nat) (u : World) (M' : List Row) (w : World) (hC : Cde z n w K) (hW : WrS u w M' N X c) :
    RetP 22 #[D K, D N, Nv .i64 i] w fun v w' => v = Nv .i64 0 ∧ WrS u w' M' N (X + hb (word (ln z) n i) m m * 2 ^ c) (c + m) := by
  obtain ⟨qw, ql, d, qo, dd, f, hBK, hf, hBW, hBL, hBO⟩ := hC.parts hok
  have hn1 := hok.1
  have hr : room (ln z) n ≤ 32768 := by have := hok.2.2.2; omega
  have hm15 : m ≤ 15 := by rw [hm]; exact ln_le z i
  have hwl := word_le (l := ln z) hi (by omega) (by omega) hr
  have Hwd : Hid (wd (ln z) n i = word (ln z) n i) := hide (if_pos (by omega))
  have Hf := hide hf
  have HW := hide hW
  have Hm : Hid (ln z i = m) := hide hm.symm
  obtain ⟨wv, hwv⟩ : ∃ wv, word (ln z) n i = wv := ⟨_, rfl⟩
  rw [hwv] at Hwd hwl ⊢
  clear hf hC hok hr hW hwv hm
  go_enter Try.func22, Try.ntmps22
  have hO := Own.start w
  go_upto_region 0 with (fail)
  refine wp_region_list (WL.out ?_)
  refine g_val (Nv .i64 0) ?_
  refine g_nil ?_
  simp only [Act.put, List.setIfInBounds_toArray, List.set_cons_succ, List.set_cons_zero]
  go_wp2_with (fail)
  refine scope_jumps 0 (QJ u M' N X c wv m K i) qMu rfl ?_ ?_
  · clear hO HW Hwd hBK hBW hBL hBO Hf
    rintro a' w' ⟨k, e, Y, left, z3, z4, z5, z6, z9, z10, z11, z12, z13, z14, z15, z16, z17, z18, z19, z20, z21, z22, z23, z24, z25, z26, z27, z28, z29, z30, z31, z32, z33, z34, z35, z36, z37, z38, z39, z40, z41, z42, z43, z44, z45, z46, z47, z48, z49, z50, z51, z52, z53, z54, z55, z56, z57, z58, z59, z60, z61, z62, rfl, hlk, he, hY, hW⟩
    have HY := hide hY
    have He := hide he
    have he38 : e < 2 ^ 39 := by omega
    clear hY he
    by_cases hz : 0 < left
    · have hbt : wv / 2 ^ (left - 1) % 2 < 2 ^ 1 := Nat.mod_lt _ (by decide)
      have hwd := Nat.div_le_self wv (2 ^ (left - 1))
      have HW2 := hide hW
      clear hW
      go_upto_region 4 with (fail)
      refine wp_region_list (WL.out ?_)
      refine g_val (Nv .i64 left) ?_
      refine g_val (.bool true) ?_ (B.gtr_int (a := left) (c := 0) (b := true) (decide_eq_true hz) w')
      refine g_nil ?_
      simp only [Act.put, List.setIfInBounds_toArray, List.set_cons_succ, List.set_cons_zero]
      go_upto_region 5 with (fail)
      refine wp_region_list (WL.out ?_)
      refine g_val (Nv .i64 left) ?_
      refine g_val (Nv .i64 (left - 1)) ?_ (B.sub_int (a := left) (c := 1) (d := left - 1) (by omega) (by omega) w')
      refine g_val (Nv .i64 (left - 1)) ?_
      refine g_nil ?_
      simp only [Act.put, List.setIfInBounds_toArray, List.set_cons_succ, List.set_cons_zero]
      go_upto_region 6 with (fail)
      refine wp_region_list (WL.out ?_)
      refine g_val (D N) ?_
      refine g_val (Nv .u32 wv) ?_
      refine g_val (Nv .i64 (left - 1)) ?_
      refine g_val (Nv .u32 (wv / 2 ^ (left - 1))) ?_ (B.shr_u32_int (a := wv) (s := left - 1) (d := wv / 2 ^ (left - 1)) rfl (by omega) w')
      refine g_val (Nv .u32 (wv / 2 ^ (left - 1) % 2)) ?_ (B.and_u32 (a := wv / 2 ^ (left - 1)) (c := 1) (d := wv / 2 ^ (left - 1) % 2) (M.and1 _) (by omega) (by omega) w')
      refine g_val (Nv .u64 (wv / 2 ^ (left - 1) % 2)) ?_ (B.c_u32_u64 (a := wv / 2 ^ (left - 1) % 2) (d := wv / 2 ^ (left - 1) % 2) rfl (by omega) w')
      refine g_any 40 #[D N, Nv .u64 (wv / 2 ^ (left - 1) % 2), Nv .i64 1] (WPut hbt (by decide) he38 rfl rfl N u M' w' HW2.out) ?_
      rintro _ w1 ⟨rfl, hW⟩
      refine g_nil ?_
      simp only [Act.put, List.setIfInBounds_toArray, List.set_cons_succ, List.set_cons_zero]
      have HW3 := hide hW
      clear hW
      go_wp2_with (fail)
      go_step3
      refine ⟨rfl, ⟨k + 1, e + 1, Y + wv / 2 ^ (left - 1) % 2 * 2 ^ e, left - 1, _, _, _, _, _, _, _, _, _, _, _, _, _, _, _, _, _, _, _, _, _, _, _, _, _, _, _, _, _, _, _, _, _, _, _, _, _, _, _, _, _, _, _, _, _, _, _, _, _, _, _, _, _, _, _, _, _, _, rfl, by omega, by rw [He.out]; rfl, by rw [HY.out, He.out, show left - 1 = m - 1 - k by omega]; exact hb_step X c wv m k, HW3.out⟩, ?_⟩
      show (((left - 1 : Nat) : Int)).toNat < ((left : Nat) : Int).toNat
      omega
    · obtain rfl : left = 0 := by omega
      obtain rfl : k = m := by omega
      go_upto_region 4 with (fail)
      refine wp_region_list (WL.out ?_)
      refine g_val (Nv .i64 0) ?_
      refine g_val (.bool false) ?_ (B.gtr_int (a := 0) (c := 0) (b := false) (decide_eq_false (by decide)) w')
      refine g_nil ?_
      simp only [Act.put, List.setIfInBounds_toArray, List.set_cons_succ, List.set_cons_zero]
      go_upto_region 7 with (fail)
      refine wp_region_list (WL.out ?_)
      refine g_val (Nv .i64 0) ?_
      refine g_nil ?_
      simp only [Act.put, List.setIfInBounds_toArray, List.set_cons_succ, List.set_cons_zero]
      have hY := HY.out
      have he := He.out
      subst he hY
      have HW := hide hW
      clear hW
      go_wp2_with (fail)
      simp only [Exit.jump]
      go_ret
      exact ⟨_, rfl, rfl, HW.out⟩
  · intro H
    have hm := Hm.out
    have h0 : ¬ ln z i = 0 := by omega
    go_upto_region 1 with (fail)
    refine wp_region_list (WL.out ?_)
    refine g_val (D K) ?_
    refine g_val (.bool false) ?_
    refine g_val (.bool false) ?_
    refine g_val (D N) ?_
    refine g_val (.bool false) ?_
    refine g_val (.bool false) ?_
    refine g_val (.bool false) ?_
    refine g_val (Nv .i64 i) ?_
    refine g_val (.bool false) ?_ (B.lss_int (a := i) (c := 0) (b := false) (decide_eq_false (by omega)) w)
    refine g_val (.bool false) ?_
    refine g_val (.bool false) ?_
    refine g_val (Nv .i64 i) ?_
    refine g_val (D K) ?_
    refine g_val (D K) ?_
    refine g_val (D K) ?_
    refine g_la (.slice (some ⟨qw, 0, none⟩) n n) (((hBK.call hO.low).cell 0).trans cde_0) agg_su ?_
    refine g_val (Nv .i64 n) ?_
    refine g_val (.bool false) ?_ (B.geq_int (a := i) (c := n) (b := false) (decide_eq_false (by omega)) w)
    refine g_val (.bool false) ?_
    refine g_val (.bool false) ?_
    refine g_val (D K) ?_
    refine g_val (D K) ?_
    refine g_val (E K 1) ?_
    refine g_la (.slice (some ⟨ql, 0, none⟩) n (n + d)) (((hBK.call hO.low).cell 1).trans cde_1) agg_si ?_
    refine g_val (Nv .i64 i) ?_
    refine g_val (E ql i) ?_ (b_isq (n := n) (c := n + d) hi Try.underlying25 sz_int w)
    refine g_la (Nv .i64 (ln z i)) (((hBL.call hO.low).cell i).trans (cl_at _ _ _ _ _ (by omega) hi)) agg_int ?_
    refine g_val (.bool false) ?_ (B.eql_int (a := ln z i) (c := 0) (b := false) (decide_eq_false (by omega)) w)
    refine g_val (.bool false) ?_
    refine g_nil ?_
    simp only [Act.put, List.setIfInBounds_toArray, List.set_cons_succ, List.set_cons_zero]
    rw [hm]
    go_upto_region 3 with (fail)
    refine Rg.pd [] (fun _ => [(38, D K), (39, D K), (40, D K), (41, .slice (some ⟨qw, 0, none⟩) n n), (42, Nv .i64 i), (43, E qw i), (44, Nv .u32 wv), (45, D K), (46, D K), (47, E K 1), (48, .slice (some ⟨ql, 0, none⟩) n (n + d)), (49, Nv .i64 i), (50, E ql i), (51, Nv .i64 m), (7, Nv .u32 wv), (8, Nv .i64 m)]) (OI w (fun _ _ => [])) (fun _ => 0) hO.drew (Rg.ac nv (Rg.ac nv (Rg.ac nv (Rg.ac (nco (.slice (some ⟨qw, 0, none⟩) n n) hBK cde_0 agg_su) (Rg.ac nv (Rg.ac (nx (fun _ => E qw i) (fun _ w => b_isq (n := n) (c := n) hi Try.underlying23 sz_u32 w)) (Rg.ac (nco (Nv .u32 wv) hBW ((vals_get _ _ _ _ hi).trans (by rw [Hwd.out])) agg_u32) (Rg.ac nv (Rg.ac nv (Rg.ac nv (Rg.ac (nco (.slice (some ⟨ql, 0, none⟩) n (n + d)) hBK cde_1 agg_si) (Rg.ac nv (Rg.ac (nx (fun _ => E ql i) (fun _ w => b_isq (n := n) (c := n + d) hi Try.underlying25 sz_int w)) (Rg.ac (nco (Nv .i64 m) hBL ((cl_at _ _ _ _ _ (by omega) hi).trans (by rw [← Hm.out]; rfl)) agg_int) (Rg.ac nv (Rg.ac nv Rg.an)))))))))))))))) ?_
    intro ν w1 hO
    replace hO : Own w w1 [] := hO
    simp only [Rg.putL, Act.put, List.setIfInBounds_toArray, List.set_cons_succ, List.set_cons_zero]
    clear ν
    have HW2 := hide (HW.out.call hO.low)
    clear hO
    go_wp2_with (fail)
    go_step3
    rename_i hK
    refine hK _ _ (H _ _ ?_)
    exact ⟨0, c, X, m, _, _, _, _, _, _, _, _, _, _, _, _, _, _, _, _, _, _, _, _, _, _, _, _, _, _, _, _, _, _, _, _, _, _, _, _, _, _, _, _, _, _, _, _, _, _, _, _, _, _, _, _, _, _, _, _, _, _, rfl, rfl, rfl, by rw [hb, Nat.zero_mul]; rfl, HW2.out⟩
end Q
end Go.Proofs.Ytkljpidlfddgbaa

/- The walk of HuffBack. No conditions but what the arguments' kinds tell. -/
import Derived.Test.YtkljpidlfddgbaaTa
import Derived.Test.YtkljpidlfddgbaaTb
import Derived.Test.YtkljpidlfddgbaaTd
import Derived.Test.YtkljpidlfddgbaaRn
namespace Go.Proofs.Ytkljpidlfddgbaa
set_option maxRecDepth 100000
open Go.RowKit Rg B

open W R
namespace Q
open H Z
set_option maxHeartbeats 16000000 in
theorem back_walk {S : Option Addr} {n c b : Nat} {f : Nat → Nat} (hf : ∀ i, f i < 65536) (hb8 : b < 256) (w : World) (hS : Rc w S n (nh f)) : Ret 8 #[.slice S n c, Nv .u8 b] w (.bool true) := by
  go_enter Try.func8, Try.ntmps8
  have hO := Own.start w
  go_upto_region 0 with (fail)
  refine wp_region_list (WL.out ?_)
  refine g_val (.bool false) ?_
  refine g_nil ?_
  simp only [Act.put, List.setIfInBounds_toArray, List.set_cons_succ, List.set_cons_zero]
  go_upto_region 1 with (fail)
  refine wp_region_list (WL.out ?_)
  refine g_call hO 13 #[] (.bool true) (Awake_c w) ?_
  intro w1 hb19 hO
  refine g_val (.bool true) ?_
  refine g_nil ?_
  simp only [Act.put, List.setIfInBounds_toArray, List.set_cons_succ, List.set_cons_zero]
  by_cases h0 : n = 0
  · have h0' := h0
    go_upto_region 2 with (fail)
    refine wp_region_list (WL.out ?_)
    refine g_val (.slice S n c) ?_
    refine g_val (Nv .i64 n) ?_
    refine g_val (.bool true) ?_ (B.eql_int (a := n) (c := 0) (b := true) (decide_eq_true h0) w1)
    refine g_val (.bool true) ?_
    refine g_skip ?_
    refine g_skip ?_
    refine g_skip ?_
    refine g_val (.bool true) ?_
    refine g_nil ?_
    simp only [Act.put, List.setIfInBounds_toArray, List.set_cons_succ, List.set_cons_zero]
    go_upto_region 3 with (fail)
    refine wp_region_list (WL.out ?_)
    refine g_val (.bool true) ?_
    refine g_val (.bool true) ?_
    refine g_nil ?_
    simp only [Act.put, List.setIfInBounds_toArray, List.set_cons_succ, List.set_cons_zero]
    have HF := hide hO.low
    clear hO
    go_wp2_with (fail)
    go_ret
    exact ⟨rfl, HF.out⟩
  · have h0' := h0
    by_cases hbig : 200 < n
    · have hbig' := hbig
      go_upto_region 2 with (fail)
      refine wp_region_list (WL.out ?_)
      refine g_val (.slice S n c) ?_
      refine g_val (Nv .i64 n) ?_
      refine g_val (.bool false) ?_ (B.eql_int (a := n) (c := 0) (b := false) (decide_eq_false h0) w1)
      refine g_val (.bool false) ?_
      refine g_val (.slice S n c) ?_
      refine g_val (Nv .i64 n) ?_
      refine g_val (.bool true) ?_ (B.gtr_int (a := n) (c := 200) (b := true) (decide_eq_true hbig) w1)
      refine g_val (.bool true) ?_
      refine g_nil ?_
      simp only [Act.put, List.setIfInBounds_toArray, List.set_cons_succ, List.set_cons_zero]
      go_upto_region 3 with (fail)
      refine wp_region_list (WL.out ?_)
      refine g_val (.bool true) ?_
      refine g_val (.bool true) ?_
      refine g_nil ?_
      simp only [Act.put, List.setIfInBounds_toArray, List.set_cons_succ, List.set_cons_zero]
      have HF := hide hO.low
      clear hO
      go_wp2_with (fail)
      go_ret
      exact ⟨rfl, HF.out⟩
    · have hn : n ≤ 200 := by omega
      go_upto_region 2 with (fail)
      refine wp_region_list (WL.out ?_)
      refine g_val (.slice S n c) ?_
      refine g_val (Nv .i64 n) ?_
      refine g_val (.bool false) ?_ (B.eql_int (a := n) (c := 0) (b := false) (decide_eq_false h0) w1)
      refine g_val (.bool false) ?_
      refine g_val (.slice S n c) ?_
      refine g_val (Nv .i64 n) ?_
      refine g_val (.bool false) ?_ (B.gtr_int (a := n) (c := 200) (b := false) (decide_eq_false hbig) w1)
      refine g_val (.bool false) ?_
      refine g_nil ?_
      simp only [Act.put, List.setIfInBounds_toArray, List.set_cons_succ, List.set_cons_zero]
      have hn1 : 1 ≤ n := by omega
      clear h0 h0' hbig
      go_upto_region 4 with (fail)
      refine wp_region_list (WL.out ?_)
      refine g_new hO (fun q => .slice (some (⟨q, 0, none⟩ : Addr)) 300 300) (vals .u32 300 (fun _ => 0)) 24 (fit_u32 _ _) (b_mk32 (n := 300) (by decide) w1) ?_
      intro n29 w2 hb29 hO
      replace hO : Own w w2 [(n29, vals .u32 300 (fun _ => 0), 24)] := hO
      refine g_val (.slice (some (⟨n29, 0, none⟩ : Addr)) 300 300) ?_
      refine g_nil ?_
      simp only [Act.put, List.setIfInBounds_toArray, List.set_cons_succ, List.set_cons_zero]
      rw [show vals .u32 300 (fun _ => 0) = vals .u32 300 (hist f 0) from rfl] at hO
      go_upto_region 5 with (fail)
      refine wp_region_list (WL.out ?_)
      refine g_val (Nv .i64 0) ?_
      refine g_nil ?_
      simp only [Act.put, List.setIfInBounds_toArray, List.set_cons_succ, List.set_cons_zero]
      have HO := hide hO
      clear hO
      go_wp2_with (fail)
      go_loopw [7] (fun x7 wr => ∃ k : Nat, k ≤ n ∧ x7 = .int .i64 (k : Int) ∧ Own w wr [(n29, vals .u32 300 (hist f k), 24)]) (fun x7 _ => n - (intOf x7).toNat)
      case atStart => exact ⟨0, Nat.zero_le _, rfl, HO.out⟩
      case round =>
        clear HO
        obtain ⟨k, hk9, rfl, hO⟩ := hrel
        by_cases hz : k < n
        · have hk0 : 0 ≤ k := Nat.zero_le _
          go_upto_region 6 with (fail)
          refine wp_region_list (WL.out ?_)
          refine g_val (Nv .i64 k) ?_
          refine g_val (.slice S n c) ?_
          refine g_val (Nv .i64 n) ?_
          refine g_val (.bool true) ?_ (B.lss_int (a := k) (c := n) (b := true) (decide_eq_true hz) wr)
          refine g_nil ?_
          simp only [Act.put, List.setIfInBounds_toArray, List.set_cons_succ, List.set_cons_zero]
          obtain ⟨a, rfl, hc⟩ := hS.cell hz
          have hfk := hf k
          obtain ⟨r, hr⟩ : ∃ r, f k % 300 = r := ⟨_, rfl⟩
          have hr3 : r < 300 := by omega
          have hle := hist_le f k r
          go_upto_region 8 with (fail)
          refine Rg.pd [16] (fun _ => [(36, .slice (some (⟨n29, 0, none⟩ : Addr)) 300 300), (37, .slice (some a) n c), (38, Nv .i64 k), (39, .pointer (some (a.add k))), (40, Nv .u16 (f k)), (41, Nv .u16 r), (42, .slice (some (⟨n29, 0, none⟩ : Addr)) 300 300), (43, .slice (some a) n c), (44, Nv .i64 k), (45, .pointer (some (a.add k))), (46, Nv .u16 (f k)), (47, Nv .u16 r), (48, E n29 r), (49, Nv .u32 (hist f k r)), (50, Nv .u32 (hist f k r + 1)), (51, E n29 r)]) (OI w (fun s ν => [[(n29, vals .u32 300 (hist f k), 24)], [(n29, vals .u32 300 (hist f (k + 1)), 24)]].getD s [])) (fun _ => 0) hO.drew (Rg.ac nv (Rg.ac nv (Rg.ac nv (Rg.ac (nx (fun _ => .pointer (some (a.add k))) (fun _ w => b_ixs (n := n) (c := c) hz Try.underlying65 sz_u16 w)) (Rg.ac (nca (Nv .u16 (f k)) hc agg_u16) (Rg.ac (nx (fun _ => Nv .u16 r) (fun _ w => B.rem_u16 (a := f k) (c := 300) (d := r) hr (by decide) (by omega) w)) (Rg.ac nv (Rg.ac nv (Rg.ac nv (Rg.ac (nx (fun _ => .pointer (some (a.add k))) (fun _ w => b_ixs (n := n) (c := c) hz Try.underlying65 sz_u16 w)) (Rg.ac (nca (Nv .u16 (f k)) hc agg_u16) (Rg.ac (nx (fun _ => Nv .u16 r) (fun _ w => B.rem_u16 (a := f k) (c := 300) (d := r) hr (by decide) (by omega) w)) (Rg.ac (nx (fun _ => E n29 r) (fun _ w => b_isu (n := 300) (c := 300) hr3 Try.underlying23 sz_u32 w)) (Rg.ac (nc 0 0 0 (fun _ => r) (fun _ => Nv .u32 (hist f k r)) B.agg_u32 (fun _ => vals_get _ _ _ _ hr3) (at1 0 fun _ => by kernel_rfl)) (Rg.ac (nx (fun _ => Nv .u32 (hist f k r + 1)) (fun _ w => B.add_u32 (a := hist f k r) (c := 1) (d := hist f k r + 1) rfl (by omega) w)) (Rg.ac (nx (fun _ => E n29 r) (fun _ w => b_isu (n := 300) (c := 300) hr3 Try.underlying23 sz_u32 w)) (Rg.ac (sl 0 0 (fun _ => r) (fun _ => .int .u32 ((hist f k r : Nat) : Int)) (fun _ => ((hist f k r + 1 : Nat) : Int)) B.sz_u32 (fun _ => vals_get _ _ _ _ hr3) (fun _ => hist_next hr) (fun _ => fit_u32 _ _)) Rg.an))))))))))))))))) ?_
          intro ν w3 hO
          replace hO : Own w w3 [(n29, vals .u32 300 (hist f (k + 1)), 24)] := hO
          simp only [Rg.putL, Act.put, List.setIfInBounds_toArray, List.set_cons_succ, List.set_cons_zero]
          clear ν
          have HO := hide hO
          clear hO
          go_upto_region 7 with (fail)
          refine wp_region_list (WL.out ?_)
          refine g_val (Nv .i64 k) ?_
          refine g_val (Nv .i64 (k + 1)) ?_ (B.add_int (a := k) (c := 1) (d := k + 1) rfl (by omega) w3)
          refine g_val (Nv .i64 (k + 1)) ?_
          refine g_nil ?_
          simp only [Act.put, List.setIfInBounds_toArray, List.set_cons_succ, List.set_cons_zero]
          go_wp2_with (fail)
          go_roundw
          case rel => exact ⟨k + 1, hz, rfl, HO.out⟩
          case measure => show n - ((k + 1 : Nat) : Int).toNat < n - ((k : Nat) : Int).toNat; omega
        · obtain rfl : k = n := by omega
          clear hk9
          go_upto_region 6 with (fail)
          refine wp_region_list (WL.out ?_)
          refine g_val (Nv .i64 k) ?_
          refine g_val (.slice S k c) ?_
          refine g_val (Nv .i64 k) ?_
          refine g_val (.bool false) ?_ (B.lss_int (a := k) (c := k) (b := false) (decide_eq_false hz) wr)
          refine g_nil ?_
          simp only [Act.put, List.setIfInBounds_toArray, List.set_cons_succ, List.set_cons_zero]
          obtain ⟨n, hkn⟩ : ∃ n, n = k := ⟨k, rfl⟩
          subst hkn
          obtain ⟨cn, hcn⟩ : ∃ cn, hist f n = cn := ⟨_, rfl⟩
          rw [hcn] at hO
          have hcl : ∀ i, cn i < 4294967296 := fun i => by rw [← hcn]; have := hist_le f n i; omega
          have hc1 : ∀ i, i < n → 1 ≤ cn (f i % 300) := fun i hi => by rw [← hcn]; exact hist_one hi
          have hmn : many cn 300 ≤ n := by rw [← hcn]; exact many_hist f n
          have hm0 : many cn 300 ≠ 0 := fun e => by
            have h9 := (rsg_in (c := cn) (n := 300) (x := f 0 % 300)).2 ⟨Nat.mod_lt _ (by decide), by have := hc1 0 (by omega); omega⟩
            have hl := rsg_len cn 300
            rw [e] at hl
            rw [List.length_eq_zero_iff.1 hl] at h9
            cases h9
          obtain ⟨e8, he8⟩ : ∃ e8, b % 8 = e8 := ⟨_, rfl⟩
          have he88 : e8 < 8 := by rw [← he8]; exact Nat.mod_lt _ (by decide)
          obtain ⟨L, hL9⟩ : ∃ L, 8 + e8 = L := ⟨_, rfl⟩
          have hL8 : 8 ≤ L := by omega
          have hL15 : L ≤ 15 := by omega
          have hfit : many cn 300 ≤ 2 ^ L := by have : (2 : Nat) ^ 8 ≤ 2 ^ L := Nat.pow_le_pow_right (by decide) hL8; omega
          obtain ⟨z, hz9⟩ : ∃ z, zt cn 300 L = z := ⟨_, rfl⟩
          obtain ⟨l, hl9⟩ : ∃ l, ln z = l := ⟨_, rfl⟩
          have Hok : Hid (okW z 300) := hide (by rw [← hz9]; exact okW_tl (by decide) (by omega) hL15 hfit hm0)
          have Hz : Hid (∀ i, i < 300 → z i = ((l i : Nat) : Int)) := hide (fun i hi => by rw [← hl9]; exact ln_eq (Hok.out.2.1 i hi))
          have h15 : ∀ i, l i ≤ 15 := fun i => by rw [← hl9]; exact ln_le z i
          have Hrm : Hid (room l 300 ≤ 32768) := hide (by rw [← hl9]; have h9 := Hok.out.2.2.2; omega)
          have Hls : Hid (∀ i, i < n → 1 ≤ l (f i % 300)) := hide (fun i hi => by
            have h9 := hc1 i hi
            have hr3 : f i % 300 < 300 := Nat.mod_lt _ (by decide)
            have h8 := (tl_fit (by omega) hL15 hfit _ hr3).1
            have h7 := ln_tl (by omega) hL15 hfit _ hr3
            rw [hz9, hl9] at h7
            rw [h7]
            by_cases h6 : tl cn 300 L (f i % 300) = 0
            · have := h8.1 h6; omega
            · omega)
          have Hh : Hid (room l 300 = 16384 → ∀ i, i < n → l (f i % 300) = 1) := hide (fun hr i hi => by
            have hr3 : f i % 300 < 300 := Nat.mod_lt _ (by decide)
            have h5 := word_room (l := l) (N := 300) hr3 (Hls.out i hi)
            have h4 := Hls.out i hi
            have hm1 : many cn 300 = 1 := by have h9 := (one_half Hok.out).1.2 (by rw [hl9]; exact hr); rw [← hz9, many_tl (by omega) hL15 hfit] at h9; exact h9
            have h7 := ln_tl (by omega) hL15 hfit _ hr3
            rw [hz9, hl9] at h7
            rw [h7]
            unfold tl
            rw [if_pos (by rw [rsg_len]; exact hm1), if_pos (rsg_in.2 ⟨hr3, by have := hc1 i hi; omega⟩)])
          have Hfit := hide hfit
          have Hlz := hide hl9
          clear hfit hm0 hc1 hcn
          go_upto_region 9 with (fail)
          refine wp_region_list (WL.out ?_)
          refine g_val (.slice (some (⟨n29, 0, none⟩ : Addr)) 300 300) ?_
          refine g_val (Nv .u8 b) ?_
          refine g_val (Nv .i64 b) ?_ (B.c_u8_int (a := b) (d := b) rfl (by omega) wr)
          refine g_val (Nv .i64 e8) ?_ (B.rem_int (a := b) (c := 8) (d := e8) he8 (by decide) (by omega) wr)
          refine g_val (Nv .i64 L) ?_ (B.add_int (a := 8) (c := e8) (d := L) hL9 (by omega) wr)
          refine g_any 14 #[.slice (some (⟨n29, 0, none⟩ : Addr)) 300 300, Nv .i64 L] (PLens_y hcl (by decide) (by omega) hL15 Hfit.out wr (rc_v32 (hO.row 0 rfl))) ?_
          rintro _ w3 ⟨q1, rfl, hO2⟩
          have hO9 := own_join hO hO2
          clear hO hO2
          have hO := hO9
          clear hO9
          replace hO : Own w w3 [(n29, vals .u32 300 cn, 24), (q1, ints 300 (zt cn 300 L), 3)] := hO
          refine g_val (.tuple #[.slice (some (⟨q1, 0, none⟩ : Addr)) 300 300, Nv .i64 0]) ?_
          refine g_val (.slice (some (⟨q1, 0, none⟩ : Addr)) 300 300) ?_
          refine g_val (Nv .i64 0) ?_
          refine g_val (.slice (some (⟨q1, 0, none⟩ : Addr)) 300 300) ?_
          refine g_val (Nv .i64 0) ?_
          refine g_nil ?_
          simp only [Act.put, List.setIfInBounds_toArray, List.set_cons_succ, List.set_cons_zero]
          rw [hz9] at hO
          clear hz9
          go_upto_region 10 with (fail)
          refine wp_region_list (WL.out ?_)
          refine g_val (.slice (some (⟨q1, 0, none⟩ : Addr)) 300 300) ?_
          refine g_any 21 #[.slice (some (⟨q1, 0, none⟩ : Addr)) 300 300] (PNew_y Hok.out w3 (rc_int (hO.row 1 rfl))) ?_
          rintro _ w4 ⟨K, rfl, hC, hb5⟩
          have hO9 := hO.call hb5
          clear hO
          have hO := hO9
          clear hO9
          replace hO : Own w w4 [(n29, vals .u32 300 cn, 24), (q1, ints 300 z, 3)] := hO
          refine g_val (.tuple #[D K, Nv .i64 0]) ?_
          refine g_val (D K) ?_
          refine g_val (Nv .i64 0) ?_
          refine g_val (D K) ?_
          refine g_val (Nv .i64 0) ?_
          refine g_nil ?_
          simp only [Act.put, List.setIfInBounds_toArray, List.set_cons_succ, List.set_cons_zero]
          have hBq := hO.row 1 rfl
          have HL := hide hO.low
          clear hO hb5
          have hO := Own.start w4
          go_upto_region 11 with (fail)
          refine wp_region_list (WL.out ?_)
          refine g_val (Nv .i64 0) ?_
          refine g_val (.bool false) ?_
          refine g_val (.bool false) ?_
          refine g_val (Nv .i64 0) ?_
          refine g_val (.bool false) ?_
          refine g_val (.bool false) ?_
          refine g_val (.bool false) ?_
          refine g_val (D K) ?_
          refine g_val (.bool false) ?_
          refine g_val (.bool false) ?_
          refine g_val (.bool false) ?_
          refine g_val (.slice (some (⟨q1, 0, none⟩ : Addr)) 300 300) ?_
          refine g_val (Nv .i64 300) ?_
          refine g_val (.bool false) ?_ (B.neq_int (a := 300) (c := 300) (b := false) (decide_eq_false (by decide)) w4)
          refine g_val (.bool false) ?_
          refine g_nil ?_
          simp only [Act.put, List.setIfInBounds_toArray, List.set_cons_succ, List.set_cons_zero]
          go_upto_region 13 with (fail)
          refine wp_region_list (WL.out ?_)
          refine g_val (A (wc none (fun _ => 0) 0)) ?_ (run_bd 49 _ rfl [] (by kernel_rfl) _ wc_zero w4)
          refine g_new hO (fun q => D q) (wc none (fun _ => 0) 0) 49 (wc_fit _ _ _) ((run_box 49 _ rfl _ (by kernel_rfl) w4)) ?_
          intro n82 w5 hb82 hO
          replace hO : Own w4 w5 [(n82, wc none (fun _ => 0) 0, 49)] := hO
          refine g_val (D n82) ?_
          refine g_nil ?_
          simp only [Act.put, List.setIfInBounds_toArray, List.set_cons_succ, List.set_cons_zero]
          have HW := hide (WrS.new (M' := []) hO)
          clear hO
          go_upto_region 14 with (fail)
          refine wp_region_list (WL.out ?_)
          refine g_val (Nv .i64 0) ?_
          refine g_nil ?_
          simp only [Act.put, List.setIfInBounds_toArray, List.set_cons_succ, List.set_cons_zero]
          go_upto_region 15 with (fail)
          refine wp_region_list (WL.out ?_)
          refine g_val (Nv .i64 0) ?_
          refine g_nil ?_
          simp only [Act.put, List.setIfInBounds_toArray, List.set_cons_succ, List.set_cons_zero]
          obtain ⟨s, hs9⟩ : ∃ s : Nat → Nat, s = fun i => f i % 300 := ⟨_, rfl⟩
          have hsk : ∀ i, f i % 300 = s i := fun i => by rw [hs9]
          have hs3 : ∀ i, s i < 300 := fun i => by rw [← hsk]; exact Nat.mod_lt _ (by decide)
          have Hl1 : Hid (∀ i, i < n → 1 ≤ l (s i)) := hide (fun i hi => by rw [← hsk]; exact Hls.out i hi)
          have Hh1 : Hid (room l 300 = 16384 → ∀ i, i < n → l (s i) = 1) := hide (fun h i hi => by rw [← hsk]; exact Hh.out h i hi)
          clear Hls Hh hs9
          have hcp : ∀ i, i ≤ n → cP l s i ≤ 3000 := fun i hi => by have := cP_le (s := s) h15 i; omega
          go_wp2_with (fail)
          go_loopw [13, 14] (fun x13 x14 wr => ∃ k : Nat, k ≤ n ∧ x14 = .int .i64 (k : Int) ∧ x13 = Nv .i64 (cP l s k) ∧ WrS w4 wr [] n82 (xP l 300 s k) (cP l s k)) (fun _ x14 _ => n - (intOf x14).toNat)
          case atStart => exact ⟨0, Nat.zero_le _, rfl, rfl, HW.out⟩
          case round =>
            clear HW
            obtain ⟨k, hkn, rfl, rfl, hW⟩ := hrel
            have hlo := HL.out.trans (hW.low.mono HL.out.size)
            have hcpk := hcp k hkn
            by_cases hz : k < n
            · obtain ⟨a, rfl, hc⟩ := hS.cell hz
              go_upto_region 16 with (fail)
              refine wp_region_list (WL.out ?_)
              refine g_val (Nv .i64 k) ?_
              refine g_val (.slice (some a) n c) ?_
              refine g_val (Nv .i64 n) ?_
              refine g_val (.bool true) ?_ (B.lss_int (a := k) (c := n) (b := true) (decide_eq_true hz) wr)
              refine g_nil ?_
              simp only [Act.put, List.setIfInBounds_toArray, List.set_cons_succ, List.set_cons_zero]
              have hfk := hf k
              have hsk3 := hs3 k
              have hl15 := h15 (s k)
              have Hlk : Hid (l (s k) = ln z (s k)) := hide (by rw [Hlz.out])
              have Hw9 : Hid (xP l 300 s k + hb (word (ln z) 300 (s k)) (l (s k)) (l (s k)) * 2 ^ cP l s k = xP l 300 s (k + 1)) := hide (by rw [Hlz.out]; rfl)
              have Hc9 : Hid (cP l s k + l (s k) = cP l s (k + 1)) := hide rfl
              have hl1 := Hl1.out k hz
              go_upto_region 18 with (fail)
              refine wp_region_list (WL.out ?_)
              refine g_val (D K) ?_
              refine g_val (D n82) ?_
              refine g_val (.slice (some a) n c) ?_
              refine g_val (Nv .i64 k) ?_
              refine g_val (.pointer (some (a.add k))) ?_ (b_ixs (n := n) (c := c) hz Try.underlying65 sz_u16 wr)
              refine g_la (Nv .u16 (f k)) (hc wr hlo) agg_u16 ?_
              refine g_val (Nv .u16 (s k)) ?_ (B.rem_u16 (a := f k) (c := 300) (d := s k) (hsk k) (by decide) (by have := hs3 k; omega) wr)
              refine g_val (Nv .i64 (s k)) ?_ (B.c_u16_int (a := s k) (d := s k) rfl (by omega) wr)
              refine g_any 22 #[D K, D n82, Nv .i64 (s k)] (PPut_c (i := s k) (m := l (s k)) Hok.out hsk3 Hlk.out hl1 (by omega) n82 w4 [] wr (hC.call hW.low) hW) ?_
              rintro _ w6 ⟨rfl, hW2⟩
              rw [Hw9.out, Hc9.out] at hW2
              clear hW
              refine g_val (.bool false) ?_
              refine g_nil ?_
              simp only [Act.put, List.setIfInBounds_toArray, List.set_cons_succ, List.set_cons_zero]
              have hlo2 := HL.out.trans (hW2.low.mono HL.out.size)
              have hlu := hW2.low
              go_upto_region 20 with (fail)
              refine wp_region_list (WL.out ?_)
              refine g_val (Nv .i64 (cP l s k)) ?_
              refine g_val (.slice (some (⟨q1, 0, none⟩ : Addr)) 300 300) ?_
              refine g_val (.slice (some a) n c) ?_
              refine g_val (Nv .i64 k) ?_
              refine g_val (.pointer (some (a.add k))) ?_ (b_ixs (n := n) (c := c) hz Try.underlying65 sz_u16 w6)
              refine g_la (Nv .u16 (f k)) (hc w6 hlo2) agg_u16 ?_
              refine g_val (Nv .u16 (s k)) ?_ (B.rem_u16 (a := f k) (c := 300) (d := s k) (hsk k) (by decide) (by have := hs3 k; omega) w6)
              refine g_val (E q1 (s k)) ?_ (b_isu (n := 300) (c := 300) hsk3 Try.underlying25 sz_int w6)
              refine g_la (ad := ⟨q1, s k, none⟩) (Nv .i64 (l (s k))) (((hBq.call hlu).cell (s k)).trans (by rw [ints_get _ hsk3, Hz.out _ hsk3])) agg_int ?_
              refine g_val (Nv .i64 (cP l s (k + 1))) ?_ (B.add_int (a := cP l s k) (c := l (s k)) (d := cP l s (k + 1)) Hc9.out (by have := hcp (k + 1) hz; omega) w6)
              refine g_val (Nv .i64 (cP l s (k + 1))) ?_
              refine g_nil ?_
              simp only [Act.put, List.setIfInBounds_toArray, List.set_cons_succ, List.set_cons_zero]
              have HW := hide hW2
              clear hW2 hlu
              go_upto_region 17 with (fail)
              refine wp_region_list (WL.out ?_)
              refine g_val (Nv .i64 k) ?_
              refine g_val (Nv .i64 (k + 1)) ?_ (B.add_int (a := k) (c := 1) (d := k + 1) rfl (by omega) w6)
              refine g_val (Nv .i64 (k + 1)) ?_
              refine g_nil ?_
              simp only [Act.put, List.setIfInBounds_toArray, List.set_cons_succ, List.set_cons_zero]
              go_wp2_with (fail)
              go_roundw
              case rel => exact ⟨k + 1, hz, rfl, rfl, HW.out⟩
              case measure => show n - ((k + 1 : Nat) : Int).toNat < n - ((k : Nat) : Int).toNat; omega
            · obtain rfl : k = n := by omega
              go_upto_region 16 with (fail)
              refine wp_region_list (WL.out ?_)
              refine g_val (Nv .i64 k) ?_
              refine g_val (.slice S k c) ?_
              refine g_val (Nv .i64 k) ?_
              refine g_val (.bool false) ?_ (B.lss_int (a := k) (c := k) (b := false) (decide_eq_false hz) wr)
              refine g_nil ?_
              simp only [Act.put, List.setIfInBounds_toArray, List.set_cons_succ, List.set_cons_zero]
              clear hz hkn
              obtain ⟨n, hkn⟩ : ∃ n, n = k := ⟨k, rfl⟩
              subst hkn
              obtain ⟨ct, hct⟩ : ∃ ct, cP l s n = ct := ⟨_, rfl⟩
              obtain ⟨xt, hxt⟩ : ∃ xt, xP l 300 s n = xt := ⟨_, rfl⟩
              rw [hct] at hcpk hW ⊢
              rw [hxt] at hW
              have Hct := hide hct
              have Hxt := hide hxt
              clear hct hxt
              obtain ⟨nb, hnb⟩ : ∃ nb, (ct + 7) / 8 = nb := ⟨_, rfl⟩
              have hnb8 : ct ≤ 8 * nb ∧ 8 * nb - ct < 8 := by omega
              obtain ⟨wu, hwu⟩ : ∃ wu, wu = wr := ⟨_, rfl⟩
              subst hwu
              have hO := Own.start wu
              go_upto_region 21 with (fail)
              refine wp_region_list (WL.out ?_)
              refine g_val (D n82) ?_
              obtain ⟨pw9, hBW, hCB⟩ := hW.blk
              refine g_any (P := fun v w' => ∃ q, v = .slice (some ⟨q, 0, none⟩) nb nb ∧ Own wu w' [(q, vals .u8 nb (byt xt), 5)]) 24 #[D n82] (Calls.mono (Bytes_c hnb.symm (by omega) n82 wu hBW hCB) fun e w' hh => by obtain ⟨q, he, h9⟩ := hh; exact ⟨_, he, q, rfl, h9⟩) ?_
              rintro _ w6 ⟨qy, rfl, hO2⟩
              have hO9 := own_join hO hO2
              clear hO hO2 hBW hCB
              have hO := hO9
              clear hO9
              replace hO : Own wu w6 [(qy, vals .u8 nb (byt xt), 5)] := hO
              refine g_any (P := fun v w' => ∃ N q, v = D N ∧ Own w6 w' [(N, rc q nb 0, 92), (q, vals .u8 nb (byt xt), 5)]) 27 #[.slice (some (⟨qy, 0, none⟩ : Addr)) nb nb] (Calls.mono (New_c (by first | decide | omega) w6 (rc_row (hO.row 0 rfl) (fun i hi => by rw [Nat.zero_add]; exact vals_get _ _ _ _ hi))) fun e w' hh => by obtain ⟨N, q, he, h9⟩ := hh; exact ⟨_, he, N, q, rfl, h9⟩) ?_
              rintro _ w7 ⟨NR, qr, rfl, hO2⟩
              have hO9 := own_join hO hO2
              clear hO hO2
              have hO := hO9
              clear hO9
              replace hO : Own wu w7 [(qy, vals .u8 nb (byt xt), 5), (NR, rc qr nb 0, 92), (qr, vals .u8 nb (byt xt), 5)] := hO
              refine g_val (D NR) ?_
              refine g_nil ?_
              simp only [Act.put, List.setIfInBounds_toArray, List.set_cons_succ, List.set_cons_zero]
              have HO : Hid (Own wu w7 ((NR, rc qr nb (cP l s 0), 92) :: (qr, vals .u8 nb (byt xt), 5) :: [(qy, vals .u8 nb (byt xt), 5)])) := hide (hO.perm (List.perm_append_comm (l₁ := [_])))
              clear hO
              have hCU := hC.call hW.low
              have HL2 := hide (HL.out.trans (hW.low.mono HL.out.size))
              go_upto_region 22 with (fail)
              refine wp_region_list (WL.out ?_)
              refine g_val (Nv .i64 0) ?_
              refine g_nil ?_
              simp only [Act.put, List.setIfInBounds_toArray, List.set_cons_succ, List.set_cons_zero]
              go_wp2_with (fail)
              go_loopw [16] (fun x16 wr => ∃ k : Nat, k ≤ n ∧ x16 = .int .i64 (k : Int) ∧ Own wu wr ((NR, rc qr nb (cP l s k), 92) :: (qr, vals .u8 nb (byt xt), 5) :: [(qy, vals .u8 nb (byt xt), 5)])) (fun x16 _ => n - (intOf x16).toNat)
              case atStart => exact ⟨0, Nat.zero_le _, rfl, HO.out⟩
              case round =>
                clear HO
                obtain ⟨k, hkn, rfl, hO⟩ := hrel
                have hlo3 := HL2.out.trans (hO.low.mono HL2.out.size)
                by_cases hz : k < n
                · obtain ⟨a, rfl, hc⟩ := hS.cell hz
                  go_upto_region 23 with (fail)
                  refine wp_region_list (WL.out ?_)
                  refine g_val (Nv .i64 k) ?_
                  refine g_val (.slice (some a) n c) ?_
                  refine g_val (Nv .i64 n) ?_
                  refine g_val (.bool true) ?_ (B.lss_int (a := k) (c := n) (b := true) (decide_eq_true hz) wr)
                  refine g_nil ?_
                  simp only [Act.put, List.setIfInBounds_toArray, List.set_cons_succ, List.set_cons_zero]
                  have hfk := hf k
                  have hsk3 := hs3 k
                  have hl1 := Hl1.out k hz
                  have hck1 : cP l s (k + 1) ≤ ct := by rw [← Hct.out, show n = k + 1 + (n - (k + 1)) by omega]; exact cP_mono _
                  have hck : cP l s k + l (s k) = cP l s (k + 1) := rfl
                  have Hr : Hid ((s k, 0, l (s k)) = tko (ln z) 300 (8 * nb) xt (cP l s k) 15 0) := hide (by rw [Hlz.out, ← Hxt.out]; exact (tko_word h15 Hrm.out (fun h => Hh1.out h k hz) hsk3 hl1 hz (by omega) (l (s k) - 1) 0 15 (by omega) (by have := h15 (s k); omega)).symm)
                  go_upto_region 25 with (fail)
                  refine wp_region_list (WL.out ?_)
                  refine g_val (D K) ?_
                  refine g_val (D NR) ?_
                  refine g_any 29 #[D K, D NR] (PTake_c Hok.out (by omega) (by omega) NR wu _ wr hCU hO (s k, 0, l (s k)) Hr.out) ?_
                  rintro _ w8 ⟨rfl, hO2⟩
                  have HO : Hid (Own wu w8 ((NR, rc qr nb (cP l s (k + 1)), 92) :: (qr, vals .u8 nb (byt xt), 5) :: [(qy, vals .u8 nb (byt xt), 5)])) := hide hO2
                  have hlo4 := HL2.out.trans (hO2.low.mono HL2.out.size)
                  clear hO hO2
                  refine g_val (.tuple #[Nv .i64 (s k), Nv .i64 0]) ?_
                  refine g_val (Nv .i64 (s k)) ?_
                  refine g_val (Nv .i64 0) ?_
                  refine g_val (Nv .i64 (s k)) ?_
                  refine g_val (Nv .i64 0) ?_
                  refine g_nil ?_
                  simp only [Act.put, List.setIfInBounds_toArray, List.set_cons_succ, List.set_cons_zero]
                  go_upto_region 26 with (fail)
                  refine wp_region_list (WL.out ?_)
                  refine g_val (Nv .i64 (s k)) ?_
                  refine g_val (.slice (some a) n c) ?_
                  refine g_val (Nv .i64 k) ?_
                  refine g_val (.pointer (some (a.add k))) ?_ (b_ixs (n := n) (c := c) hz Try.underlying65 sz_u16 w8)
                  refine g_la (Nv .u16 (f k)) (hc w8 hlo4) agg_u16 ?_
                  refine g_val (Nv .u16 (s k)) ?_ (B.rem_u16 (a := f k) (c := 300) (d := s k) (hsk k) (by decide) (by have := hs3 k; omega) w8)
                  refine g_val (Nv .i64 (s k)) ?_ (B.c_u16_int (a := s k) (d := s k) rfl (by omega) w8)
                  refine g_val (.bool false) ?_ (B.neq_int (a := s k) (c := s k) (b := false) (decide_eq_false (fun h => h rfl)) w8)
                  refine g_val (.bool false) ?_
                  refine g_val (Nv .i64 0) ?_
                  refine g_val (.bool false) ?_
                  refine g_val (.bool false) ?_
                  refine g_nil ?_
                  simp only [Act.put, List.setIfInBounds_toArray, List.set_cons_succ, List.set_cons_zero]
                  go_upto_region 24 with (fail)
                  refine wp_region_list (WL.out ?_)
                  refine g_val (Nv .i64 k) ?_
                  refine g_val (Nv .i64 (k + 1)) ?_ (B.add_int (a := k) (c := 1) (d := k + 1) rfl (by omega) w8)
                  refine g_val (Nv .i64 (k + 1)) ?_
                  refine g_nil ?_
                  simp only [Act.put, List.setIfInBounds_toArray, List.set_cons_succ, List.set_cons_zero]
                  go_wp2_with (fail)
                  go_roundw
                  case rel => exact ⟨k + 1, hz, rfl, HO.out⟩
                  case measure => show n - ((k + 1 : Nat) : Int).toNat < n - ((k : Nat) : Int).toNat; omega
                · obtain rfl : k = n := by omega
                  go_upto_region 23 with (fail)
                  refine wp_region_list (WL.out ?_)
                  refine g_val (Nv .i64 k) ?_
                  refine g_val (.slice S k c) ?_
                  refine g_val (Nv .i64 k) ?_
                  refine g_val (.bool false) ?_ (B.lss_int (a := k) (c := k) (b := false) (decide_eq_false hz) wr)
                  refine g_nil ?_
                  simp only [Act.put, List.setIfInBounds_toArray, List.set_cons_succ, List.set_cons_zero]
                  rw [Hct.out] at hO
                  have hlo5 := hO.low
                  have hW3 := hW.call hlo5
                  go_upto_region 28 with (fail)
                  refine wp_region_list (WL.out ?_)
                  refine g_val (.bool true) ?_
                  refine g_val (.bool true) ?_
                  refine g_val (D n82) ?_
                  obtain ⟨pw9, hBW, _⟩ := hW3.blk
                  refine g_any (P := fun v w' => v = Nv .i64 ct ∧ Below wr.heap.size wr w') 26 #[D n82] (Calls.mono (Count_c n82 wr hBW) fun e w' hh => ⟨_, hh.1, rfl, hh.2⟩) ?_
                  rintro _ w8 ⟨rfl, hb9⟩
                  have hO9 := hO.call hb9
                  clear hO
                  have hO := hO9
                  clear hO9 hW3 hBW
                  refine g_val (Nv .i64 ct) ?_
                  refine g_val (.bool true) ?_ (B.eql_int (a := ct) (c := ct) (b := true) (decide_eq_true rfl) w8)
                  refine g_val (.bool true) ?_
                  refine g_val (.bool true) ?_
                  refine g_val (D NR) ?_
                  refine g_any (P := fun v w' => v = Nv .i64 (8 * nb - ct) ∧ Below w8.heap.size w8 w') 31 #[D NR] (Calls.mono (Left_c (by omega) hnb8.1 NR w8 (hO.row 0 rfl)) fun e w' hh => ⟨_, hh.1, rfl, hh.2⟩) ?_
                  rintro _ w9 ⟨rfl, hb8'⟩
                  have hO9 := hO.call hb8'
                  clear hO
                  have hO := hO9
                  clear hO9
                  refine g_val (.bool true) ?_ (B.lss_int (a := 8 * nb - ct) (c := 8) (b := true) (decide_eq_true hnb8.2) w9)
                  refine g_val (.bool true) ?_
                  refine g_val (.bool true) ?_
                  refine g_nil ?_
                  simp only [Act.put, List.setIfInBounds_toArray, List.set_cons_succ, List.set_cons_zero]
                  have HF := hide (HL2.out.trans (hO.low.mono HL2.out.size))
                  clear hO hW hC hCU hb9 hb8'
                  go_wp2_with (fail)
                  go_ret
                  exact ⟨rfl, HF.out⟩
end Q
end Go.Proofs.Ytkljpidlfddgbaa

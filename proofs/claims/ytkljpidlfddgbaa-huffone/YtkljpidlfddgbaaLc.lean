/- The walk of HuffOne. No conditions but the arguments' kinds. -/
import Derived.Test.YtkljpidlfddgbaaTa
import Derived.Test.YtkljpidlfddgbaaTb
namespace Go.Proofs.Ytkljpidlfddgbaa
set_option maxRecDepth 100000
open Go.RowKit Rg B

open W R
namespace Q
open H Z
set_option maxHeartbeats 8000000 in
theorem one_walk (a b c : Nat) (ha : a < 65536) (hB5 : b < 65536) (w : World) : Ret 12 #[Nv .u16 a, Nv .u16 b, Nv .u32 c] w (.bool true) := by
  obtain ⟨r, hr⟩ : ∃ r, b % 1000 = r := ⟨_, rfl⟩
  have hr1 : r < 1000 := by rw [← hr]; exact Nat.mod_lt _ (by decide)
  obtain ⟨n, hn⟩ : ∃ n, r + 1 = n := ⟨_, rfl⟩
  obtain ⟨i, hi⟩ : ∃ i, a % n = i := ⟨_, rfl⟩
  have hin : i < n := by rw [← hi]; exact Nat.mod_lt _ (by omega)
  obtain ⟨s, hs⟩ : ∃ s, c % 1000 = s := ⟨_, rfl⟩
  have hs1 : s < 1000 := by rw [← hs]; exact Nat.mod_lt _ (by decide)
  obtain ⟨v, hv⟩ : ∃ v, s + 1 = v := ⟨_, rfl⟩
  have hn1 : n ≤ 1000 := by omega
  have Hz : Hid (many (fun j => if j = i then v else 0) n = 1) := hide (one_many hin (by omega))
  have Hc : Hid (∀ j, (fun j => if j = i then v else 0) j < 4294967296) := hide (fun j => by show (if j = i then v else 0) < _; split <;> omega)
  go_enter Try.func12, Try.ntmps12
  have hO := Own.start w
  go_upto_region 0 with (fail)
  refine wp_region_list (WL.out ?_)
  refine g_val (.bool false) ?_
  refine g_nil ?_
  simp only [Act.put, List.setIfInBounds_toArray, List.set_cons_succ, List.set_cons_zero]
  go_upto_region 1 with (fail)
  refine wp_region_list (WL.out ?_)
  refine g_call hO 13 #[] (.bool true) (Awake_c w) ?_
  intro w1 hb21 hO
  refine g_val (.bool true) ?_
  refine g_nil ?_
  simp only [Act.put, List.setIfInBounds_toArray, List.set_cons_succ, List.set_cons_zero]
  go_upto_region 2 with (fail)
  refine wp_region_list (WL.out ?_)
  refine g_val (Nv .u16 b) ?_
  refine g_val (Nv .i64 b) ?_ (B.c_u16_int (a := b) (d := b) rfl (by omega) w1)
  refine g_val (Nv .i64 r) ?_ (B.rem_int (a := b) (c := 1000) (d := r) hr (by decide) (by omega) w1)
  refine g_val (Nv .i64 n) ?_ (B.add_int (a := r) (c := 1) (d := n) hn (by omega) w1)
  refine g_val (Nv .i64 n) ?_
  refine g_nil ?_
  simp only [Act.put, List.setIfInBounds_toArray, List.set_cons_succ, List.set_cons_zero]
  go_upto_region 3 with (fail)
  refine wp_region_list (WL.out ?_)
  refine g_val (Nv .u16 a) ?_
  refine g_val (Nv .i64 a) ?_ (B.c_u16_int (a := a) (d := a) rfl (by omega) w1)
  refine g_val (Nv .i64 n) ?_
  refine g_val (Nv .i64 i) ?_ (B.rem_int (a := a) (c := n) (d := i) hi (by omega) (by omega) w1)
  refine g_val (Nv .i64 i) ?_
  refine g_nil ?_
  simp only [Act.put, List.setIfInBounds_toArray, List.set_cons_succ, List.set_cons_zero]
  go_upto_region 4 with (fail)
  refine wp_region_list (WL.out ?_)
  refine g_val (Nv .i64 n) ?_
  refine g_new hO (fun q => .slice (some (⟨q, 0, none⟩ : Addr)) n n) (vals .u32 n (fun _ => 0)) 24 (fit_u32 _ _) (b_mk32 (by omega) w1) ?_
  intro n31 w2 hb31 hO
  replace hO : Own w w2 [(n31, vals .u32 n (fun _ => 0), 24)] := hO
  refine g_val (.slice (some (⟨n31, 0, none⟩ : Addr)) n n) ?_
  refine g_nil ?_
  simp only [Act.put, List.setIfInBounds_toArray, List.set_cons_succ, List.set_cons_zero]
  go_upto_region 5 with (fail)
  refine wp_region_list (WL.out ?_)
  refine g_val (.slice (some (⟨n31, 0, none⟩ : Addr)) n n) ?_
  refine g_val (Nv .i64 i) ?_
  refine g_val (Nv .u32 c) ?_
  refine g_val (Nv .u32 s) ?_ (B.rem_u32 (a := c) (c := 1000) (d := s) hs (by decide) (by omega) w2)
  refine g_val (Nv .u32 v) ?_ (B.add_u32 (a := s) (c := 1) (d := v) hv (by omega) w2)
  refine g_val (E n31 i) ?_ (b_isq (n := n) (c := n) hin Try.underlying23 sz_u32 w2)
  refine g_sc hO 0 i (Nv .u32 v) (Nv .u32 0) rfl (vals_get _ _ _ _ hin) (fun hc hf => st_int 24 sz_u32 rfl (by kernel_rfl) (by kernel_rfl) hc hf) (vals_set _ _ _ _ _) (fit_u32 _ _) ?_
  intro w3 hO
  replace hO : Own w w3 [(n31, vals .u32 n (fun j => if j = i then v else 0), 24)] := hO
  refine g_nil ?_
  simp only [Act.put, List.setIfInBounds_toArray, List.set_cons_succ, List.set_cons_zero]
  go_upto_region 6 with (fail)
  refine wp_region_list (WL.out ?_)
  refine g_val (.slice (some (⟨n31, 0, none⟩ : Addr)) n n) ?_
  refine g_any 14 #[.slice (some (⟨n31, 0, none⟩ : Addr)) n n, Nv .i64 15] (PLens_y (cn := (fun j => if j = i then v else 0)) Hc.out (by omega) (by decide) (by decide) (by rw [Hz.out]; decide) w3 (rc_v32 (hO.row 0 rfl))) ?_
  rintro _ w4 ⟨q1, rfl, hO2⟩
  have hO9 := own_join hO hO2
  clear hO hO2
  have hO := hO9
  clear hO9
  replace hO : Own w w4 [(n31, vals .u32 n (fun j => if j = i then v else 0), 24), (q1, ints n (zt (fun j => if j = i then v else 0) n 15), 3)] := hO
  refine g_val (.tuple #[.slice (some (⟨q1, 0, none⟩ : Addr)) n n, Nv .i64 0]) ?_
  refine g_val (.slice (some (⟨q1, 0, none⟩ : Addr)) n n) ?_
  refine g_val (Nv .i64 0) ?_
  refine g_val (.slice (some (⟨q1, 0, none⟩ : Addr)) n n) ?_
  refine g_val (Nv .i64 0) ?_
  refine g_nil ?_
  simp only [Act.put, List.setIfInBounds_toArray, List.set_cons_succ, List.set_cons_zero]
  have Hok : Hid (okW (zt (fun j => if j = i then v else 0) n 15) n) := hide (okW_tl hn1 (by decide) (by decide) (by rw [Hz.out]; decide) (by rw [Hz.out]; decide))
  have Hl : Hid (∀ j, j < n → ln (zt (fun j => if j = i then v else 0) n 15) j = if j = i then 1 else 0) := hide (fun j hj => by rw [ln_tl (by decide) (by decide) (by rw [Hz.out]; decide) j hj, one_tl hin (by omega)])
  have Hz1 : Hid (zt (fun j => if j = i then v else 0) n 15 i = 1) := hide (by show ((tl (fun j => if j = i then v else 0) n 15 i : Nat) : Int) = 1; rw [one_tl hin (by omega), if_pos rfl]; rfl)
  have Hr : Hid (room (ln (zt (fun j => if j = i then v else 0) n 15)) n = 16384) := hide ((one_half Hok.out).1.1 (by rw [many_tl (by decide) (by decide) (by rw [Hz.out]; decide)]; exact Hz.out))
  obtain ⟨z, hz⟩ : ∃ z, zt (fun j => if j = i then v else 0) n 15 = z := ⟨_, rfl⟩
  rw [hz] at hO Hok Hl Hz1 Hr
  clear hz Hz Hc
  go_upto_region 7 with (fail)
  refine wp_region_list (WL.out ?_)
  refine g_val (.slice (some (⟨q1, 0, none⟩ : Addr)) n n) ?_
  refine g_any 21 #[.slice (some (⟨q1, 0, none⟩ : Addr)) n n] (PNew_y Hok.out w4 (rc_int (hO.row 1 rfl))) ?_
  rintro _ w5 ⟨K, rfl, hC, hb5⟩
  have hO9 := hO.call hb5
  clear hO
  have hO := hO9
  clear hO9
  replace hO : Own w w5 [(n31, vals .u32 n (fun j => if j = i then v else 0), 24), (q1, ints n z, 3)] := hO
  refine g_val (.tuple #[D K, Nv .i64 0]) ?_
  refine g_val (D K) ?_
  refine g_val (Nv .i64 0) ?_
  refine g_val (D K) ?_
  refine g_val (Nv .i64 0) ?_
  refine g_nil ?_
  simp only [Act.put, List.setIfInBounds_toArray, List.set_cons_succ, List.set_cons_zero]
  have hBq1 := hO.row 1 rfl
  have HL := hide hO.low
  clear hO hb5
  have hO := Own.start w5
  go_upto_region 8 with (fail)
  refine wp_region_list (WL.out ?_)
  refine g_val (Nv .i64 0) ?_
  refine g_val (.bool false) ?_
  refine g_val (.bool false) ?_
  refine g_val (Nv .i64 0) ?_
  refine g_val (.bool false) ?_
  refine g_val (.bool false) ?_
  refine g_val (.bool false) ?_
  refine g_val (.slice (some (⟨q1, 0, none⟩ : Addr)) n n) ?_
  refine g_val (Nv .i64 n) ?_
  refine g_val (Nv .i64 n) ?_
  refine g_val (.bool false) ?_ (B.neq_int (a := n) (c := n) (b := false) (decide_eq_false (fun h => h rfl)) w5)
  refine g_val (.bool false) ?_
  refine g_val (.bool false) ?_
  refine g_val (D K) ?_
  refine g_val (.bool false) ?_
  refine g_val (.bool false) ?_
  refine g_nil ?_
  simp only [Act.put, List.setIfInBounds_toArray, List.set_cons_succ, List.set_cons_zero]
  go_upto_region 10 with (fail)
  refine wp_region_list (WL.out ?_)
  refine g_val (A (wc none (fun _ => 0) 0)) ?_ (run_bd 49 _ rfl [] (by kernel_rfl) _ wc_zero w5)
  refine g_new hO (fun q => D q) (wc none (fun _ => 0) 0) 49 (wc_fit _ _ _) ((run_box 49 _ rfl _ (by kernel_rfl) w5)) ?_
  intro n65 w6 hb65 hO
  replace hO : Own w5 w6 [(n65, wc none (fun _ => 0) 0, 49)] := hO
  refine g_val (D n65) ?_
  refine g_nil ?_
  simp only [Act.put, List.setIfInBounds_toArray, List.set_cons_succ, List.set_cons_zero]
  have hW := WrS.new (M' := []) hO
  clear hO
  have Hli : Hid (1 = ln z i) := hide (by rw [Hl.out i hin, if_pos rfl])
  go_upto_region 11 with (fail)
  refine wp_region_list (WL.out ?_)
  refine g_val (D K) ?_
  refine g_val (D n65) ?_
  refine g_val (Nv .i64 i) ?_
  refine g_any 22 #[D K, D n65, Nv .i64 i] (PPut_c (i := i) (m := 1) Hok.out hin Hli.out (by decide) (by decide) n65 w5 [] w6 (hC.call hW.low) hW) ?_
  rintro _ w7 ⟨rfl, hW2⟩
  clear hW
  refine g_val (Nv .i64 0) ?_
  refine g_nil ?_
  simp only [Act.put, List.setIfInBounds_toArray, List.set_cons_succ, List.set_cons_zero]
  obtain ⟨X2, hX2⟩ : ∃ X2, 0 + hb (word (ln z) n i) 1 1 * 2 ^ 0 = X2 := ⟨_, rfl⟩
  rw [hX2] at hW2
  clear hX2
  have hO := Own.start w7
  go_upto_region 12 with (fail)
  refine wp_region_list (WL.out ?_)
  refine g_val (D K) ?_
  refine g_new hO (fun q => .slice (some (⟨q, 0, none⟩ : Addr)) 1 1) (vals .u8 1 (byt 254)) 5 (fit_sl _ _) ((by kernel_rfl)) ?_
  intro n72 w8 hb72 hO
  replace hO : Own w7 w8 [(n72, vals .u8 1 (byt 254), 5)] := hO
  refine g_any (P := fun v w' => ∃ N q, v = D N ∧ Own w8 w' [(N, rc q 1 0, 92), (q, vals .u8 1 (byt 254), 5)]) 27 #[.slice (some (⟨n72, 0, none⟩ : Addr)) 1 1] (Calls.mono (New_c (by decide) w8 (rc_row (hO.row 0 rfl) (fun i hi => by rw [Nat.zero_add]; exact vals_get _ _ _ _ hi))) fun e w' hh => by obtain ⟨N, q, he, h9⟩ := hh; exact ⟨_, he, N, q, rfl, h9⟩) ?_
  rintro _ w9 ⟨NRa, qra, rfl, hO2⟩
  have hO9 := own_join hO hO2
  clear hO hO2
  have hO := hO9
  clear hO9
  replace hO : Own w7 w9 [(n72, vals .u8 1 (byt 254), 5), (NRa, rc qra 1 0, 92), (qra, vals .u8 1 (byt 254), 5)] := hO
  have hOp := hO.perm (List.perm_append_comm (l₁ := [_]))
  refine g_any 29 #[D K, D NRa] (PTake_c Hok.out (by decide) (by decide) NRa w7 _ w9 (hC.call hW2.low) hOp (i, 0, 1) (one_t0 hin Hl.out Hr.out).symm) ?_
  rintro _ w10 ⟨rfl, hO2⟩
  clear hO hOp
  have hW3 := hW2.call hO2.low
  clear hO2 hW2
  have hW2 := hW3
  clear hW3
  refine g_val (.tuple #[Nv .i64 i, Nv .i64 0]) ?_
  refine g_val (Nv .i64 i) ?_
  refine g_val (Nv .i64 0) ?_
  refine g_val (Nv .i64 i) ?_
  refine g_val (Nv .i64 0) ?_
  refine g_nil ?_
  simp only [Act.put, List.setIfInBounds_toArray, List.set_cons_succ, List.set_cons_zero]
  have hO := Own.start w10
  go_upto_region 13 with (fail)
  refine wp_region_list (WL.out ?_)
  refine g_val (D K) ?_
  refine g_new hO (fun q => .slice (some (⟨q, 0, none⟩ : Addr)) 1 1) (vals .u8 1 (byt 1)) 5 (fit_sl _ _) ((by kernel_rfl)) ?_
  intro n79 w11 hb79 hO
  replace hO : Own w10 w11 [(n79, vals .u8 1 (byt 1), 5)] := hO
  refine g_any (P := fun v w' => ∃ N q, v = D N ∧ Own w11 w' [(N, rc q 1 0, 92), (q, vals .u8 1 (byt 1), 5)]) 27 #[.slice (some (⟨n79, 0, none⟩ : Addr)) 1 1] (Calls.mono (New_c (by decide) w11 (rc_row (hO.row 0 rfl) (fun i hi => by rw [Nat.zero_add]; exact vals_get _ _ _ _ hi))) fun e w' hh => by obtain ⟨N, q, he, h9⟩ := hh; exact ⟨_, he, N, q, rfl, h9⟩) ?_
  rintro _ w12 ⟨NRb, qrb, rfl, hO2⟩
  have hO9 := own_join hO hO2
  clear hO hO2
  have hO := hO9
  clear hO9
  replace hO : Own w10 w12 [(n79, vals .u8 1 (byt 1), 5), (NRb, rc qrb 1 0, 92), (qrb, vals .u8 1 (byt 1), 5)] := hO
  have hOp := hO.perm (List.perm_append_comm (l₁ := [_]))
  refine g_any 29 #[D K, D NRb] (PTake_c Hok.out (by decide) (by decide) NRb w10 _ w12 (hC.call hW2.low) hOp (0, 130, 1) (one_t1 hin Hl.out Hr.out).symm) ?_
  rintro _ w13 ⟨rfl, hO2⟩
  clear hO hOp
  have hW3 := hW2.call hO2.low
  clear hO2 hW2
  have hW2 := hW3
  clear hW3
  refine g_val (.tuple #[Nv .i64 0, Nv .i64 130]) ?_
  refine g_val (Nv .i64 0) ?_
  refine g_val (Nv .i64 130) ?_
  refine g_val (Nv .i64 0) ?_
  refine g_val (Nv .i64 130) ?_
  refine g_nil ?_
  simp only [Act.put, List.setIfInBounds_toArray, List.set_cons_succ, List.set_cons_zero]
  have hlo := hW2.low
  go_upto_region 14 with (fail)
  refine wp_region_list (WL.out ?_)
  refine g_val (.bool true) ?_
  refine g_val (.bool true) ?_
  refine g_val (.slice (some (⟨q1, 0, none⟩ : Addr)) n n) ?_
  refine g_val (Nv .i64 i) ?_
  refine g_val (E q1 i) ?_ (b_isq (n := n) (c := n) hin Try.underlying25 sz_int w13)
  refine g_la (ad := ⟨q1, i, none⟩) (Nv .i64 1) (((hBq1.call hlo).cell i).trans (by rw [ints_get _ hin, Hz1.out]; rfl)) agg_int ?_
  refine g_val (.bool true) ?_ (B.eql_int (a := 1) (c := 1) (b := true) (rfl) w13)
  refine g_val (.bool true) ?_
  refine g_val (.bool true) ?_
  refine g_val (Nv .i64 0) ?_
  refine g_val (.bool true) ?_
  refine g_val (.bool true) ?_
  refine g_val (.bool true) ?_
  refine g_val (D n65) ?_
  obtain ⟨pw9, hBW, _⟩ := hW2.blk
  refine g_any (P := fun v w' => v = Nv .i64 (0 + 1) ∧ Below w13.heap.size w13 w') 26 #[D n65] (Calls.mono (Count_c n65 w13 hBW) fun e w' hh => ⟨_, hh.1, rfl, hh.2⟩) ?_
  rintro _ w14 ⟨rfl, hb9⟩
  refine g_val (.bool true) ?_ (B.eql_int (a := 0 + 1) (c := 1) (b := true) (rfl) w14)
  refine g_val (.bool true) ?_
  refine g_val (.bool true) ?_
  refine g_val (Nv .i64 i) ?_
  refine g_val (Nv .i64 i) ?_
  refine g_val (.bool true) ?_ (B.eql_int (a := i) (c := i) (b := true) (decide_eq_true rfl) w14)
  refine g_val (.bool true) ?_
  refine g_val (.bool true) ?_
  refine g_val (Nv .i64 0) ?_
  refine g_val (.bool true) ?_
  refine g_val (.bool true) ?_
  refine g_val (.bool true) ?_
  refine g_val (Nv .i64 130) ?_
  refine g_val (.bool true) ?_
  refine g_val (.bool true) ?_
  refine g_val (.bool true) ?_
  refine g_nil ?_
  simp only [Act.put, List.setIfInBounds_toArray, List.set_cons_succ, List.set_cons_zero]
  have HF := hide (HL.out.trans ((hlo.trans (hb9.mono hlo.size)).mono HL.out.size))
  clear hlo hb9 hW2 hC
  go_wp2_with (fail)
  go_ret
  exact ⟨rfl, HF.out⟩
end Q
end Go.Proofs.Ytkljpidlfddgbaa

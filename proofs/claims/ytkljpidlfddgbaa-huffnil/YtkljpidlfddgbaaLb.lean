/- The walk of HuffNil. No conditions. -/
import Derived.Test.YtkljpidlfddgbaaTa
namespace Go.Proofs.Ytkljpidlfddgbaa
set_option maxRecDepth 100000
open Go.RowKit Rg B

open W R
namespace Q
open H Z
set_option maxHeartbeats 4000000 in
theorem nil_walk {z : Int} (w : World) : Ret 9 #[.int .i64 z] w (.bool true) := by
  go_enter Try.func9, Try.ntmps9
  have hO := Own.start w
  go_upto_region 0 with (fail)
  refine wp_region_list (WL.out ?_)
  refine g_val (.bool false) ?_
  refine g_nil ?_
  simp only [Act.put, List.setIfInBounds_toArray, List.set_cons_succ, List.set_cons_zero]
  go_upto_region 1 with (fail)
  refine wp_region_list (WL.out ?_)
  refine g_call hO 13 #[] (.bool true) (Awake_c w) ?_
  intro w1 hb7 hO
  refine g_val (.bool true) ?_
  refine g_nil ?_
  simp only [Act.put, List.setIfInBounds_toArray, List.set_cons_succ, List.set_cons_zero]
  go_upto_region 2 with (fail)
  refine wp_region_list (WL.out ?_)
  refine g_val (.pointer none) ?_
  refine g_nil ?_
  simp only [Act.put, List.setIfInBounds_toArray, List.set_cons_succ, List.set_cons_zero]
  go_upto_region 3 with (fail)
  refine wp_region_list (WL.out ?_)
  refine g_val (.pointer none) ?_
  refine g_new hO (fun q => .slice (some (⟨q, 0, none⟩ : Addr)) 1 1) (vals .u8 1 (byt 1)) 5 (fit_sl _ _) ((by kernel_rfl)) ?_
  intro n10 w2 hb10 hO
  replace hO : Own w w2 [(n10, vals .u8 1 (byt 1), 5)] := hO
  refine g_any (P := fun v w' => ∃ N q, v = D N ∧ Own w2 w' [(N, rc q 1 0, 92), (q, vals .u8 1 (byt 1), 5)]) 27 #[.slice (some (⟨n10, 0, none⟩ : Addr)) 1 1] (Calls.mono (New_c (by decide) w2 (rc_row (hO.row 0 rfl) (fun i hi => by rw [Nat.zero_add]; exact vals_get _ _ _ _ hi))) fun e w' hh => by obtain ⟨N, q, he, h9⟩ := hh; exact ⟨_, he, N, q, rfl, h9⟩) ?_
  rintro _ w3 ⟨NR, qr, rfl, hO2⟩
  have hO9 := own_join hO hO2
  clear hO hO2
  have hO := hO9
  clear hO9
  replace hO : Own w w3 [(n10, vals .u8 1 (byt 1), 5), (NR, rc qr 1 0, 92), (qr, vals .u8 1 (byt 1), 5)] := hO
  refine g_call hO 29 #[.pointer none, D NR] (.tuple #[Nv .i64 0, Nv .i64 1]) (PTake_nil NR w3) ?_
  intro w4 hb12 hO
  refine g_val (.tuple #[Nv .i64 0, Nv .i64 1]) ?_
  refine g_val (Nv .i64 0) ?_
  refine g_val (Nv .i64 1) ?_
  refine g_val (Nv .i64 0) ?_
  refine g_val (Nv .i64 1) ?_
  refine g_nil ?_
  simp only [Act.put, List.setIfInBounds_toArray, List.set_cons_succ, List.set_cons_zero]
  go_upto_region 4 with (fail)
  refine wp_region_list (WL.out ?_)
  refine g_val (.bool true) ?_
  refine g_val (.bool true) ?_
  refine g_val (.pointer none) ?_
  refine g_val (A (wc none (fun _ => 0) 0)) ?_ (run_bd 49 _ rfl [] (by kernel_rfl) _ wc_zero w4)
  refine g_new hO (fun q => D q) (wc none (fun _ => 0) 0) 49 (wc_fit _ _ _) ((run_box 49 _ rfl _ (by kernel_rfl) w4)) ?_
  intro n19 w5 hb19 hO
  replace hO : Own w w5 [(n10, vals .u8 1 (byt 1), 5), (NR, rc qr 1 0, 92), (qr, vals .u8 1 (byt 1), 5), (n19, wc none (fun _ => 0) 0, 49)] := hO
  refine g_val (.int .i64 z) ?_
  refine g_call hO 22 #[.pointer none, D n19, .int .i64 z] (Nv .i64 1) (PPut_nil _ w5) ?_
  intro w6 hb21 hO
  refine g_val (.bool true) ?_
  refine g_val (.bool true) ?_
  refine g_val (.bool true) ?_
  refine g_val (Nv .i64 0) ?_
  refine g_val (.bool true) ?_ (B.eql_int (a := 0) (c := 0) (b := true) (rfl) w6)
  refine g_val (.bool true) ?_
  refine g_val (.bool true) ?_
  refine g_val (Nv .i64 1) ?_
  refine g_val (.bool true) ?_
  refine g_val (.bool true) ?_
  refine g_val (.bool true) ?_
  refine g_nil ?_
  simp only [Act.put, List.setIfInBounds_toArray, List.set_cons_succ, List.set_cons_zero]
  have HF := hide hO.low
  clear hO
  go_wp2_with (fail)
  go_ret
  exact ⟨rfl, HF.out⟩
end Q
end Go.Proofs.Ytkljpidlfddgbaa

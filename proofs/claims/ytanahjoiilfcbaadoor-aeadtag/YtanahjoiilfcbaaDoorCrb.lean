/- Walks: the reference's word. Four bytes of an older row; no other condition. -/
import Derived.Test.YtanahjoiilfcbaaDoorCra
namespace Go.Proofs.YtanahjoiilfcbaaDoor.C
set_option maxRecDepth 100000
open Go.RowKit Rg

set_option maxHeartbeats 4000000 in
theorem word_c (g : Nat → Nat) (hg : ∀ i, g i < 256) (B o c mb : Nat) (tb : TypeId) (w : World) (hB : Blk w B (vals .u8 mb g) tb) (ho : o + 4 ≤ mb) : Ret 36 #[.slice (some ⟨B, o, none⟩) 4 c] w (Nv .u32 (le4 g o)) := by
  have h0 : o < mb := by omega
  have h1 : o + 1 < mb := by omega
  have h2 : o + 2 < mb := by omega
  have h3 : o + 3 < mb := by omega
  have Hle := hide (le_ad hg o)
  go_enter Tryd.func36, Tryd.ntmps36
  have hO := Own.start w
  go_upto_region 1 with (fail)
  refine Rg.pd [] (fun _ => [(3, .slice (some ⟨B, o, none⟩) 4 c), (4, E B o), (5, Nv .u8 (g o)), (6, Nv .u32 (g o)), (7, .slice (some ⟨B, o, none⟩) 4 c), (8, E B (o + 1)), (9, Nv .u8 (g (o + 1))), (10, Nv .u32 (g (o + 1))), (11, Nv .u32 (g (o + 1) * 256)), (12, Nv .u32 (ad (g o) (g (o + 1) * 256))), (13, .slice (some ⟨B, o, none⟩) 4 c), (14, E B (o + 2)), (15, Nv .u8 (g (o + 2))), (16, Nv .u32 (g (o + 2))), (17, Nv .u32 (g (o + 2) * 65536)), (18, Nv .u32 (ad (ad (g o) (g (o + 1) * 256)) (g (o + 2) * 65536))), (19, .slice (some ⟨B, o, none⟩) 4 c), (20, E B (o + 3)), (21, Nv .u8 (g (o + 3))), (22, Nv .u32 (g (o + 3))), (23, Nv .u32 (g (o + 3) * 16777216)), (24, Nv .u32 (ad (ad (ad (g o) (g (o + 1) * 256)) (g (o + 2) * 65536)) (g (o + 3) * 16777216))), (2, Nv .u32 (ad (ad (ad (g o) (g (o + 1) * 256)) (g (o + 2) * 65536)) (g (o + 3) * 16777216)))]) (OI w (fun _ _ => [])) (fun _ => 0) hO.drew (Rg.ac nv (Rg.ac nv (Rg.ac (nco (Nv .u8 (g o)) hB (vals_get _ _ _ _ h0) agg_u8) (Rg.ac (nx (fun _ => Nv .u32 (g o)) (fun _ w => b_c58 (hg _) w)) (Rg.ac nv (Rg.ac nv (Rg.ac (nco (Nv .u8 (g (o + 1))) hB (vals_get _ _ _ _ h1) agg_u8) (Rg.ac (nx (fun _ => Nv .u32 (g (o + 1))) (fun _ w => b_c58 (hg _) w)) (Rg.ac (nx (fun _ => Nv .u32 (g (o + 1) * 256)) (fun _ w => b_shl8 (hg _) w)) (Rg.ac (nx (fun _ => Nv .u32 (ad (g o) (g (o + 1) * 256))) (fun _ w => b_add32 w)) (Rg.ac nv (Rg.ac nv (Rg.ac (nco (Nv .u8 (g (o + 2))) hB (vals_get _ _ _ _ h2) agg_u8) (Rg.ac (nx (fun _ => Nv .u32 (g (o + 2))) (fun _ w => b_c58 (hg _) w)) (Rg.ac (nx (fun _ => Nv .u32 (g (o + 2) * 65536)) (fun _ w => b_shl16 (hg _) w)) (Rg.ac (nx (fun _ => Nv .u32 (ad (ad (g o) (g (o + 1) * 256)) (g (o + 2) * 65536))) (fun _ w => b_add32 w)) (Rg.ac nv (Rg.ac nv (Rg.ac (nco (Nv .u8 (g (o + 3))) hB (vals_get _ _ _ _ h3) agg_u8) (Rg.ac (nx (fun _ => Nv .u32 (g (o + 3))) (fun _ w => b_c58 (hg _) w)) (Rg.ac (nx (fun _ => Nv .u32 (g (o + 3) * 16777216)) (fun _ w => b_shl24 (hg _) w)) (Rg.ac (nx (fun _ => Nv .u32 (ad (ad (ad (g o) (g (o + 1) * 256)) (g (o + 2) * 65536)) (g (o + 3) * 16777216))) (fun _ w => b_add32 w)) (Rg.ac nv Rg.an))))))))))))))))))))))) ?_
  intro ν w1 hO
  replace hO : Own w w1 [] := hO
  simp only [Rg.putL, Act.put, List.setIfInBounds_toArray, List.set_cons_succ, List.set_cons_zero]
  clear ν
  rw [Hle.out]
  have HF := hide hO.low
  clear hO
  go_wp2_with (fail)
  go_ret
  exact ⟨rfl, HF.out⟩
/-- x and y together. -/
def s1 (f : Nat → Nat) (x y j : Nat) : Nat := if j = x then ad (f x) (f y) else f j
/-- z changed by x and turned. -/
def s2 (f : Nat → Nat) (x z n j : Nat) : Nat := if j = z then rl (f z ^^^ f x) n else f j
theorem s12 (f : Nat → Nat) (x y z n : Nat) (h : x ≠ z) : s2 (s1 f x y) x z n = mix f x y z n := by
  funext j
  have e1 : s1 f x y z = f z := by unfold s1; rw [if_neg (fun e => h e.symm)]
  have e2 : s1 f x y x = ad (f x) (f y) := by unfold s1; rw [if_pos rfl]
  unfold s2 mix
  rw [e1, e2]
  rfl
theorem s1_lt {f : Nat → Nat} (hf : W32 f) (x y : Nat) : W32 (s1 f x y) := fun j => by
  unfold s1
  split
  · exact ad_lt _ _
  · exact hf j
set_option maxHeartbeats 4000000 in
theorem rquarter_c (f : Nat → Nat) (hf : W32 f) (a b c d : Nat) (ha : a < 16) (hb : b < 16) (hc : c < 16) (hd : d < 16) (hadn : a ≠ d) (hcbn : c ≠ b) (w : World) :
    Ret 37 #[A (vals .u32 16 f), Nv .i64 a, Nv .i64 b, Nv .i64 c, Nv .i64 d] w (A (vals .u32 16 (qr f a b c d))) := by
  go_enter Tryd.func37, Tryd.ntmps37
  have hO := Own.start w
  go_upto_region 0 with (fail)
  refine Rg.ps [0, 1] (fun ν => [(5, D (ν 0)), (10, D (ν 1))]) (OI w (fun s ν => [[], [((ν 0), vals .u32 16 f, 46)], [((ν 0), vals .u32 16 f, 46), ((ν 1), vals .u32 16 (fun _ => 0), 46)]].getD s [])) (fun _ => 0) hO (Rg.ac (sn 0 (fun _ => vals .u32 16 f) 46 (fun _ w => run_box 46 _ rfl _ (by kernel_rfl) w) (fun _ => fit_w16 _)) (Rg.ac (sn 1 (fun _ => vals .u32 16 (fun _ => 0)) 46 (fun _ w => al36 rfl w) (fun _ => fit_w16 _)) Rg.an)) ?_
  intro ν w1 hO
  replace hO : Own w w1 [((ν 0), vals .u32 16 f, 46), ((ν 1), vals .u32 16 (fun _ => 0), 46)] := hO
  simp only [Rg.putL, Act.put, List.setIfInBounds_toArray, List.set_cons_succ, List.set_cons_zero]
  generalize ν 0 = n5 at hO ⊢
  generalize ν 1 = n10 at hO ⊢
  clear ν
  go_upto_region 1 with (fail)
  refine Rg.pd [9] (fun _ => [(11, Nv .i64 a), (12, Nv .i64 a), (13, E n5 a), (14, Nv .u32 (f a)), (15, Nv .i64 b), (16, E n5 b), (17, Nv .u32 (f b)), (18, Nv .u32 (ad (f a) (f b))), (19, E n5 a)]) (OI w (fun s ν => [[(n5, vals .u32 16 f, 46), (n10, vals .u32 16 (fun _ => 0), 46)], [(n5, vals .u32 16 (s1 f a b), 46), (n10, vals .u32 16 (fun _ => 0), 46)]].getD s [])) (fun _ => 0) hO.drew (Rg.ac nv (Rg.ac nv (Rg.ac (nx (fun _ => E n5 a) (fun _ w => b_ia16 ha w)) (Rg.ac (nc 0 0 0 (fun _ => a) (fun _ => Nv .u32 (f a)) agg_u32 (fun _ => vals_get _ _ _ _ ha) (at1 0 fun _ => by kernel_rfl)) (Rg.ac nv (Rg.ac (nx (fun _ => E n5 b) (fun _ w => b_ia16 hb w)) (Rg.ac (nc 0 0 0 (fun _ => b) (fun _ => Nv .u32 (f b)) agg_u32 (fun _ => vals_get _ _ _ _ hb) (at1 0 fun _ => by kernel_rfl)) (Rg.ac (nx (fun _ => Nv .u32 (ad (f a) (f b))) (fun _ w => b_add32 w)) (Rg.ac (nx (fun _ => E n5 a) (fun _ w => b_ia16 ha w)) (Rg.ac (sl 0 0 (fun _ => a) (fun _ => Nv .u32 (f a)) (fun _ => ((ad (f a) (f b) : Nat) : Int)) sz_u32 (fun _ => vals_get _ _ _ _ ha) (fun _ => vals_set _ _ _ _ _) (fun _ => fit_w16 _)) Rg.an)))))))))) ?_
  intro ν w2 hO
  replace hO : Own w w2 [(n5, vals .u32 16 (s1 f a b), 46), (n10, vals .u32 16 (fun _ => 0), 46)] := hO
  simp only [Rg.putL, Act.put, List.setIfInBounds_toArray, List.set_cons_succ, List.set_cons_zero]
  clear ν
  have e0 := s12 f a b d 16 hadn
  have k0 : W32 (mix f a b d 16) := mix_lt hf _ _ _ _ (by omega)
  have m0 := s1_lt hf a b
  generalize s1 f a b = p0 at hO e0 m0
  go_upto_region 2 with (fail)
  refine Rg.pd [8, 10] (fun _ => [(20, Nv .i64 d), (21, Nv .i64 d), (22, E n5 d), (23, Nv .u32 (p0 d)), (24, Nv .i64 a), (25, E n5 a), (26, Nv .u32 (p0 a)), (27, Nv .u32 (p0 d ^^^ p0 a)), (28, Nv .u32 (rl (p0 d ^^^ p0 a) 16)), (29, E n5 d)]) (OI w (fun s ν => [[(n5, vals .u32 16 p0, 46), (n10, vals .u32 16 (fun _ => 0), 46)], [(n5, vals .u32 16 p0, 46), (n10, vals .u32 16 (fun _ => 0), 46)], [(n5, vals .u32 16 (s2 p0 a d 16), 46), (n10, vals .u32 16 (fun _ => 0), 46)]].getD s [])) (fun _ => 0) hO.drew (Rg.ac nv (Rg.ac nv (Rg.ac (nx (fun _ => E n5 d) (fun _ w => b_ia16 hd w)) (Rg.ac (nc 0 1 0 (fun _ => d) (fun _ => Nv .u32 (p0 d)) agg_u32 (fun _ => vals_get _ _ _ _ hd) (at2 0 1 (fun _ => by kernel_rfl) (at1 1 fun _ => by kernel_rfl))) (Rg.ac nv (Rg.ac (nx (fun _ => E n5 a) (fun _ w => b_ia16 ha w)) (Rg.ac (nc 0 1 0 (fun _ => a) (fun _ => Nv .u32 (p0 a)) agg_u32 (fun _ => vals_get _ _ _ _ ha) (at2 0 1 (fun _ => by kernel_rfl) (at1 1 fun _ => by kernel_rfl))) (Rg.ac (nx (fun _ => Nv .u32 (p0 d ^^^ p0 a)) (fun _ w => b_xor32 (m0 _) (m0 _) w)) (Rg.ac (sc 0 45 (fun _ => #[Nv .u32 (p0 d ^^^ p0 a), Nv .u64 16]) (fun _ => Nv .u32 (rl (p0 d ^^^ p0 a) 16)) (fun _ => turn_c _ 16 (xor_lt32 (m0 _) (m0 _)) (by omega))) (Rg.ac (nx (fun _ => E n5 d) (fun _ w => b_ia16 hd w)) (Rg.ac (sl 1 0 (fun _ => d) (fun _ => Nv .u32 (p0 d)) (fun _ => ((rl (p0 d ^^^ p0 a) 16 : Nat) : Int)) sz_u32 (fun _ => vals_get _ _ _ _ hd) (fun _ => vals_set _ _ _ _ _) (fun _ => fit_w16 _)) Rg.an))))))))))) ?_
  intro ν w3 hO
  replace hO : Own w w3 [(n5, vals .u32 16 (s2 p0 a d 16), 46), (n10, vals .u32 16 (fun _ => 0), 46)] := hO
  simp only [Rg.putL, Act.put, List.setIfInBounds_toArray, List.set_cons_succ, List.set_cons_zero]
  clear ν
  rw [e0] at hO
  generalize hf1 : mix f a b d 16 = f1 at hO k0
  clear e0
  have hh1 := hide hf1
  clear hf1
  go_upto_region 3 with (fail)
  refine Rg.pd [9] (fun _ => [(30, Nv .i64 c), (31, Nv .i64 c), (32, E n5 c), (33, Nv .u32 (f1 c)), (34, Nv .i64 d), (35, E n5 d), (36, Nv .u32 (f1 d)), (37, Nv .u32 (ad (f1 c) (f1 d))), (38, E n5 c)]) (OI w (fun s ν => [[(n5, vals .u32 16 f1, 46), (n10, vals .u32 16 (fun _ => 0), 46)], [(n5, vals .u32 16 (s1 f1 c d), 46), (n10, vals .u32 16 (fun _ => 0), 46)]].getD s [])) (fun _ => 0) hO.drew (Rg.ac nv (Rg.ac nv (Rg.ac (nx (fun _ => E n5 c) (fun _ w => b_ia16 hc w)) (Rg.ac (nc 0 0 0 (fun _ => c) (fun _ => Nv .u32 (f1 c)) agg_u32 (fun _ => vals_get _ _ _ _ hc) (at1 0 fun _ => by kernel_rfl)) (Rg.ac nv (Rg.ac (nx (fun _ => E n5 d) (fun _ w => b_ia16 hd w)) (Rg.ac (nc 0 0 0 (fun _ => d) (fun _ => Nv .u32 (f1 d)) agg_u32 (fun _ => vals_get _ _ _ _ hd) (at1 0 fun _ => by kernel_rfl)) (Rg.ac (nx (fun _ => Nv .u32 (ad (f1 c) (f1 d))) (fun _ w => b_add32 w)) (Rg.ac (nx (fun _ => E n5 c) (fun _ w => b_ia16 hc w)) (Rg.ac (sl 0 0 (fun _ => c) (fun _ => Nv .u32 (f1 c)) (fun _ => ((ad (f1 c) (f1 d) : Nat) : Int)) sz_u32 (fun _ => vals_get _ _ _ _ hc) (fun _ => vals_set _ _ _ _ _) (fun _ => fit_w16 _)) Rg.an)))))))))) ?_
  intro ν w4 hO
  replace hO : Own w w4 [(n5, vals .u32 16 (s1 f1 c d), 46), (n10, vals .u32 16 (fun _ => 0), 46)] := hO
  simp only [Rg.putL, Act.put, List.setIfInBounds_toArray, List.set_cons_succ, List.set_cons_zero]
  clear ν
  have e1 := s12 f1 c d b 12 hcbn
  have k1 : W32 (mix f1 c d b 12) := mix_lt k0 _ _ _ _ (by omega)
  have m1 := s1_lt k0 c d
  generalize s1 f1 c d = p1 at hO e1 m1
  go_upto_region 4 with (fail)
  refine Rg.pd [8, 10] (fun _ => [(39, Nv .i64 b), (40, Nv .i64 b), (41, E n5 b), (42, Nv .u32 (p1 b)), (43, Nv .i64 c), (44, E n5 c), (45, Nv .u32 (p1 c)), (46, Nv .u32 (p1 b ^^^ p1 c)), (47, Nv .u32 (rl (p1 b ^^^ p1 c) 12)), (48, E n5 b)]) (OI w (fun s ν => [[(n5, vals .u32 16 p1, 46), (n10, vals .u32 16 (fun _ => 0), 46)], [(n5, vals .u32 16 p1, 46), (n10, vals .u32 16 (fun _ => 0), 46)], [(n5, vals .u32 16 (s2 p1 c b 12), 46), (n10, vals .u32 16 (fun _ => 0), 46)]].getD s [])) (fun _ => 0) hO.drew (Rg.ac nv (Rg.ac nv (Rg.ac (nx (fun _ => E n5 b) (fun _ w => b_ia16 hb w)) (Rg.ac (nc 0 1 0 (fun _ => b) (fun _ => Nv .u32 (p1 b)) agg_u32 (fun _ => vals_get _ _ _ _ hb) (at2 0 1 (fun _ => by kernel_rfl) (at1 1 fun _ => by kernel_rfl))) (Rg.ac nv (Rg.ac (nx (fun _ => E n5 c) (fun _ w => b_ia16 hc w)) (Rg.ac (nc 0 1 0 (fun _ => c) (fun _ => Nv .u32 (p1 c)) agg_u32 (fun _ => vals_get _ _ _ _ hc) (at2 0 1 (fun _ => by kernel_rfl) (at1 1 fun _ => by kernel_rfl))) (Rg.ac (nx (fun _ => Nv .u32 (p1 b ^^^ p1 c)) (fun _ w => b_xor32 (m1 _) (m1 _) w)) (Rg.ac (sc 0 45 (fun _ => #[Nv .u32 (p1 b ^^^ p1 c), Nv .u64 12]) (fun _ => Nv .u32 (rl (p1 b ^^^ p1 c) 12)) (fun _ => turn_c _ 12 (xor_lt32 (m1 _) (m1 _)) (by omega))) (Rg.ac (nx (fun _ => E n5 b) (fun _ w => b_ia16 hb w)) (Rg.ac (sl 1 0 (fun _ => b) (fun _ => Nv .u32 (p1 b)) (fun _ => ((rl (p1 b ^^^ p1 c) 12 : Nat) : Int)) sz_u32 (fun _ => vals_get _ _ _ _ hb) (fun _ => vals_set _ _ _ _ _) (fun _ => fit_w16 _)) Rg.an))))))))))) ?_
  intro ν w5 hO
  replace hO : Own w w5 [(n5, vals .u32 16 (s2 p1 c b 12), 46), (n10, vals .u32 16 (fun _ => 0), 46)] := hO
  simp only [Rg.putL, Act.put, List.setIfInBounds_toArray, List.set_cons_succ, List.set_cons_zero]
  clear ν
  rw [e1] at hO
  generalize hf2 : mix f1 c d b 12 = f2 at hO k1
  clear e1
  have hh2 := hide hf2
  clear hf2
  go_upto_region 5 with (fail)
  refine Rg.pd [9] (fun _ => [(49, Nv .i64 a), (50, Nv .i64 a), (51, E n5 a), (52, Nv .u32 (f2 a)), (53, Nv .i64 b), (54, E n5 b), (55, Nv .u32 (f2 b)), (56, Nv .u32 (ad (f2 a) (f2 b))), (57, E n5 a)]) (OI w (fun s ν => [[(n5, vals .u32 16 f2, 46), (n10, vals .u32 16 (fun _ => 0), 46)], [(n5, vals .u32 16 (s1 f2 a b), 46), (n10, vals .u32 16 (fun _ => 0), 46)]].getD s [])) (fun _ => 0) hO.drew (Rg.ac nv (Rg.ac nv (Rg.ac (nx (fun _ => E n5 a) (fun _ w => b_ia16 ha w)) (Rg.ac (nc 0 0 0 (fun _ => a) (fun _ => Nv .u32 (f2 a)) agg_u32 (fun _ => vals_get _ _ _ _ ha) (at1 0 fun _ => by kernel_rfl)) (Rg.ac nv (Rg.ac (nx (fun _ => E n5 b) (fun _ w => b_ia16 hb w)) (Rg.ac (nc 0 0 0 (fun _ => b) (fun _ => Nv .u32 (f2 b)) agg_u32 (fun _ => vals_get _ _ _ _ hb) (at1 0 fun _ => by kernel_rfl)) (Rg.ac (nx (fun _ => Nv .u32 (ad (f2 a) (f2 b))) (fun _ w => b_add32 w)) (Rg.ac (nx (fun _ => E n5 a) (fun _ w => b_ia16 ha w)) (Rg.ac (sl 0 0 (fun _ => a) (fun _ => Nv .u32 (f2 a)) (fun _ => ((ad (f2 a) (f2 b) : Nat) : Int)) sz_u32 (fun _ => vals_get _ _ _ _ ha) (fun _ => vals_set _ _ _ _ _) (fun _ => fit_w16 _)) Rg.an)))))))))) ?_
  intro ν w6 hO
  replace hO : Own w w6 [(n5, vals .u32 16 (s1 f2 a b), 46), (n10, vals .u32 16 (fun _ => 0), 46)] := hO
  simp only [Rg.putL, Act.put, List.setIfInBounds_toArray, List.set_cons_succ, List.set_cons_zero]
  clear ν
  have e2 := s12 f2 a b d 8 hadn
  have k2 : W32 (mix f2 a b d 8) := mix_lt k1 _ _ _ _ (by omega)
  have m2 := s1_lt k1 a b
  generalize s1 f2 a b = p2 at hO e2 m2
  go_upto_region 6 with (fail)
  refine Rg.pd [8, 10] (fun _ => [(58, Nv .i64 d), (59, Nv .i64 d), (60, E n5 d), (61, Nv .u32 (p2 d)), (62, Nv .i64 a), (63, E n5 a), (64, Nv .u32 (p2 a)), (65, Nv .u32 (p2 d ^^^ p2 a)), (66, Nv .u32 (rl (p2 d ^^^ p2 a) 8)), (67, E n5 d)]) (OI w (fun s ν => [[(n5, vals .u32 16 p2, 46), (n10, vals .u32 16 (fun _ => 0), 46)], [(n5, vals .u32 16 p2, 46), (n10, vals .u32 16 (fun _ => 0), 46)], [(n5, vals .u32 16 (s2 p2 a d 8), 46), (n10, vals .u32 16 (fun _ => 0), 46)]].getD s [])) (fun _ => 0) hO.drew (Rg.ac nv (Rg.ac nv (Rg.ac (nx (fun _ => E n5 d) (fun _ w => b_ia16 hd w)) (Rg.ac (nc 0 1 0 (fun _ => d) (fun _ => Nv .u32 (p2 d)) agg_u32 (fun _ => vals_get _ _ _ _ hd) (at2 0 1 (fun _ => by kernel_rfl) (at1 1 fun _ => by kernel_rfl))) (Rg.ac nv (Rg.ac (nx (fun _ => E n5 a) (fun _ w => b_ia16 ha w)) (Rg.ac (nc 0 1 0 (fun _ => a) (fun _ => Nv .u32 (p2 a)) agg_u32 (fun _ => vals_get _ _ _ _ ha) (at2 0 1 (fun _ => by kernel_rfl) (at1 1 fun _ => by kernel_rfl))) (Rg.ac (nx (fun _ => Nv .u32 (p2 d ^^^ p2 a)) (fun _ w => b_xor32 (m2 _) (m2 _) w)) (Rg.ac (sc 0 45 (fun _ => #[Nv .u32 (p2 d ^^^ p2 a), Nv .u64 8]) (fun _ => Nv .u32 (rl (p2 d ^^^ p2 a) 8)) (fun _ => turn_c _ 8 (xor_lt32 (m2 _) (m2 _)) (by omega))) (Rg.ac (nx (fun _ => E n5 d) (fun _ w => b_ia16 hd w)) (Rg.ac (sl 1 0 (fun _ => d) (fun _ => Nv .u32 (p2 d)) (fun _ => ((rl (p2 d ^^^ p2 a) 8 : Nat) : Int)) sz_u32 (fun _ => vals_get _ _ _ _ hd) (fun _ => vals_set _ _ _ _ _) (fun _ => fit_w16 _)) Rg.an))))))))))) ?_
  intro ν w7 hO
  replace hO : Own w w7 [(n5, vals .u32 16 (s2 p2 a d 8), 46), (n10, vals .u32 16 (fun _ => 0), 46)] := hO
  simp only [Rg.putL, Act.put, List.setIfInBounds_toArray, List.set_cons_succ, List.set_cons_zero]
  clear ν
  rw [e2] at hO
  generalize hf3 : mix f2 a b d 8 = f3 at hO k2
  clear e2
  have hh3 := hide hf3
  clear hf3
  go_upto_region 7 with (fail)
  refine Rg.pd [9] (fun _ => [(68, Nv .i64 c), (69, Nv .i64 c), (70, E n5 c), (71, Nv .u32 (f3 c)), (72, Nv .i64 d), (73, E n5 d), (74, Nv .u32 (f3 d)), (75, Nv .u32 (ad (f3 c) (f3 d))), (76, E n5 c)]) (OI w (fun s ν => [[(n5, vals .u32 16 f3, 46), (n10, vals .u32 16 (fun _ => 0), 46)], [(n5, vals .u32 16 (s1 f3 c d), 46), (n10, vals .u32 16 (fun _ => 0), 46)]].getD s [])) (fun _ => 0) hO.drew (Rg.ac nv (Rg.ac nv (Rg.ac (nx (fun _ => E n5 c) (fun _ w => b_ia16 hc w)) (Rg.ac (nc 0 0 0 (fun _ => c) (fun _ => Nv .u32 (f3 c)) agg_u32 (fun _ => vals_get _ _ _ _ hc) (at1 0 fun _ => by kernel_rfl)) (Rg.ac nv (Rg.ac (nx (fun _ => E n5 d) (fun _ w => b_ia16 hd w)) (Rg.ac (nc 0 0 0 (fun _ => d) (fun _ => Nv .u32 (f3 d)) agg_u32 (fun _ => vals_get _ _ _ _ hd) (at1 0 fun _ => by kernel_rfl)) (Rg.ac (nx (fun _ => Nv .u32 (ad (f3 c) (f3 d))) (fun _ w => b_add32 w)) (Rg.ac (nx (fun _ => E n5 c) (fun _ w => b_ia16 hc w)) (Rg.ac (sl 0 0 (fun _ => c) (fun _ => Nv .u32 (f3 c)) (fun _ => ((ad (f3 c) (f3 d) : Nat) : Int)) sz_u32 (fun _ => vals_get _ _ _ _ hc) (fun _ => vals_set _ _ _ _ _) (fun _ => fit_w16 _)) Rg.an)))))))))) ?_
  intro ν w8 hO
  replace hO : Own w w8 [(n5, vals .u32 16 (s1 f3 c d), 46), (n10, vals .u32 16 (fun _ => 0), 46)] := hO
  simp only [Rg.putL, Act.put, List.setIfInBounds_toArray, List.set_cons_succ, List.set_cons_zero]
  clear ν
  have e3 := s12 f3 c d b 7 hcbn
  have k3 : W32 (mix f3 c d b 7) := mix_lt k2 _ _ _ _ (by omega)
  have m3 := s1_lt k2 c d
  generalize s1 f3 c d = p3 at hO e3 m3
  go_upto_region 8 with (fail)
  refine Rg.pd [8, 10] (fun _ => [(77, Nv .i64 b), (78, Nv .i64 b), (79, E n5 b), (80, Nv .u32 (p3 b)), (81, Nv .i64 c), (82, E n5 c), (83, Nv .u32 (p3 c)), (84, Nv .u32 (p3 b ^^^ p3 c)), (85, Nv .u32 (rl (p3 b ^^^ p3 c) 7)), (86, E n5 b)]) (OI w (fun s ν => [[(n5, vals .u32 16 p3, 46), (n10, vals .u32 16 (fun _ => 0), 46)], [(n5, vals .u32 16 p3, 46), (n10, vals .u32 16 (fun _ => 0), 46)], [(n5, vals .u32 16 (s2 p3 c b 7), 46), (n10, vals .u32 16 (fun _ => 0), 46)]].getD s [])) (fun _ => 0) hO.drew (Rg.ac nv (Rg.ac nv (Rg.ac (nx (fun _ => E n5 b) (fun _ w => b_ia16 hb w)) (Rg.ac (nc 0 1 0 (fun _ => b) (fun _ => Nv .u32 (p3 b)) agg_u32 (fun _ => vals_get _ _ _ _ hb) (at2 0 1 (fun _ => by kernel_rfl) (at1 1 fun _ => by kernel_rfl))) (Rg.ac nv (Rg.ac (nx (fun _ => E n5 c) (fun _ w => b_ia16 hc w)) (Rg.ac (nc 0 1 0 (fun _ => c) (fun _ => Nv .u32 (p3 c)) agg_u32 (fun _ => vals_get _ _ _ _ hc) (at2 0 1 (fun _ => by kernel_rfl) (at1 1 fun _ => by kernel_rfl))) (Rg.ac (nx (fun _ => Nv .u32 (p3 b ^^^ p3 c)) (fun _ w => b_xor32 (m3 _) (m3 _) w)) (Rg.ac (sc 0 45 (fun _ => #[Nv .u32 (p3 b ^^^ p3 c), Nv .u64 7]) (fun _ => Nv .u32 (rl (p3 b ^^^ p3 c) 7)) (fun _ => turn_c _ 7 (xor_lt32 (m3 _) (m3 _)) (by omega))) (Rg.ac (nx (fun _ => E n5 b) (fun _ w => b_ia16 hb w)) (Rg.ac (sl 1 0 (fun _ => b) (fun _ => Nv .u32 (p3 b)) (fun _ => ((rl (p3 b ^^^ p3 c) 7 : Nat) : Int)) sz_u32 (fun _ => vals_get _ _ _ _ hb) (fun _ => vals_set _ _ _ _ _) (fun _ => fit_w16 _)) Rg.an))))))))))) ?_
  intro ν w9 hO
  replace hO : Own w w9 [(n5, vals .u32 16 (s2 p3 c b 7), 46), (n10, vals .u32 16 (fun _ => 0), 46)] := hO
  simp only [Rg.putL, Act.put, List.setIfInBounds_toArray, List.set_cons_succ, List.set_cons_zero]
  clear ν
  rw [e3] at hO
  generalize hf4 : mix f3 c d b 7 = f4 at hO k3
  clear e3
  have hh4 := hide hf4
  clear hf4
  go_upto_region 9 with (fail)
  refine Rg.ps [1] (fun _ => [(87, A (vals .u32 16 f4))]) (OI w (fun s ν => [[(n5, vals .u32 16 f4, 46), (n10, vals .u32 16 (fun _ => 0), 46)], [(n5, vals .u32 16 f4, 46), (n10, vals .u32 16 f4, 46)]].getD s [])) (fun _ => 0) hO (Rg.ac (nld 0 0 0 (at1 0 fun _ => by kernel_rfl) Tryd.underlying46) (Rg.ac (sr 0 1 (fun _ => vals .u32 16 f4) (fun _ => fit_w16 _)) Rg.an)) ?_
  intro ν w10 hO
  replace hO : Own w w10 [(n5, vals .u32 16 f4, 46), (n10, vals .u32 16 f4, 46)] := hO
  simp only [Rg.putL, Act.put, List.setIfInBounds_toArray, List.set_cons_succ, List.set_cons_zero]
  clear ν
  have hfin : f4 = qr f a b c d := by rw [← hh4.out, ← hh3.out, ← hh2.out, ← hh1.out]; rfl
  go_wp2_with (fail)
  rw [← hfin]
  refine bodyPost_ret (v := A (vals .u32 16 f4)) (results_cell_row Tryd.results37 _ _ n10 46 _ (0, 0) _ rfl (hO.row 1 rfl) Tryd.underlying46 rfl ((fit_w16 _).size rfl)) rfl ⟨rfl, hO.low⟩
end Go.Proofs.YtanahjoiilfcbaaDoor.C

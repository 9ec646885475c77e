/- The Reader: New, Left, take, Take. At most 2^40 bytes; no other condition. -/
import Derived.Test.YtkljpidlfddgbaaCb
namespace Go.Proofs.Ytkljpidlfddgbaa
set_option maxRecDepth 100000
open Go.RowKit Rg B


namespace B
theorem b_ias {ρ : Operand → Value} {o : Oper} {x y : Operand} {q k n c : Nat} (hk : k < n) (w : World) (ho : o.op = .indexAddr 44 x y := by rfl) (hx : ρ x = .slice (some ⟨q, 0, none⟩) n c := by kernel_rfl) (hy : ρ y = Nv .i64 k := by kernel_rfl) : (execOp ρ o).run Try.prog w = .ok (.value (E q k)) w := by
  have h1 : (0 : Int) ≤ (k : Int) := by omega
  have h2 : (k : Int) < (n : Int) := by omega
  unfold execOp
  simp only [ho, hx, hy]
  go_simp
end B
namespace W
/-- The cells of a Reader. -/
def rc (q n t : Nat) : Array Value := #[.slice (some ⟨q, 0, none⟩) n n, Nv .i64 t]
theorem rc_0 (q n t : Nat) : (rc q n t)[0]? = some (.slice (some ⟨q, 0, none⟩) n n) := rfl
theorem rc_1 (q n t : Nat) : (rc q n t)[1]? = some (Nv .i64 t) := rfl
theorem rc_fit (q n t : Nat) : Fit 92 (rc q n t) := ⟨fun _ => by kernel_rfl, by simp [rc]; exact ⟨rfl, rfl⟩⟩
theorem rc_set (q n t s : Nat) : (rc q n t).setIfInBounds 1 (Nv .i64 s) = rc q n s := rfl
theorem rc_built (q n : Nat) : Try.prog.built 92 [(0, .slice (some ⟨q, 0, none⟩) n n)] = some (rc q n 0) := by kernel_rfl
theorem take_lt {Y t : Nat} : byt Y (t / 8) / 2 ^ (t % 8) < 256 := Nat.lt_of_le_of_lt (Nat.div_le_self ..) (M.byt_lt _ _)
theorem bit_lt (Y t : Nat) : Y / 2 ^ t % 2 < 2 := Nat.mod_lt _ (by decide)
theorem sh_lt {b k : Nat} (hb : b < 2) (hk : k < 33) : b * 2 ^ k < 18446744073709551616 := by
  have h5 : 2 ^ k ≤ 2 ^ 32 := Nat.pow_le_pow_right (by decide) (by omega)
  have := Nat.mul_le_mul (show b ≤ 1 by omega) h5
  omega
theorem tk_lt64 {Y t k : Nat} (hk : k < 33) : M.tk Y t k < 18446744073709551616 := Nat.lt_of_lt_of_le (M.tk_lt Y t k) (Nat.pow_le_pow_right (by decide) (show k ≤ 64 by omega))
set_option maxHeartbeats 4000000 in
theorem New_c {S : Option Addr} {n c : Nat} {f : Nat → Nat} (hn : n ≤ 2 ^ 40) (w : World) (hA : Rc w S n (by8 f)) :
    Calls Try.prog 27 #[.slice S n c] w fun e w' => ∃ N q, e = .returned (D N) ∧ Own w w' [(N, rc q n 0, 92), (q, vals .u8 n f, 5)] := by
  go_enter Try.func27, Try.ntmps27
  have hO := Own.start w
  go_upto_region 0 with (fail)
  refine wp_region_list (WL.out ?_)
  refine g_val (.pointer none) ?_
  refine g_nil ?_
  simp only [Act.put, List.setIfInBounds_toArray, List.set_cons_succ, List.set_cons_zero]
  go_upto_region 1 with (fail)
  refine wp_region_list (WL.out ?_)
  refine g_val (.slice S n c) ?_
  refine g_val (Nv .i64 n) ?_
  refine g_new hO (fun q => .slice (some ⟨q, 0, none⟩) n n) (vals .u8 n (fun _ => 0)) 5 (fit_sl _ _) (b_mk hn w) ?_
  intro n6 w1 hb6 hO
  replace hO : Own w w1 [(n6, vals .u8 n (fun _ => 0), 5)] := hO
  refine g_val (.slice (some ⟨n6, 0, none⟩) n n) ?_
  refine g_nil ?_
  simp only [Act.put, List.setIfInBounds_toArray, List.set_cons_succ, List.set_cons_zero]
  go_upto_region 2 with (fail)
  refine wp_region_list (WL.out ?_)
  refine g_val (.slice (some ⟨n6, 0, none⟩) n n) ?_
  refine g_val (.slice S n c) ?_
  refine g_cp (l := n) (l' := n) (q := n) (d := 0) (c := c) (f := f) hO 0 rfl (by simp) (by omega) (hA.low hO.low) ?_
  intro w2 hO
  replace hO : Own w w2 [(n6, vals .u8 n (laid (fun _ => 0) f 0 n), 5)] := hO
  refine g_nil ?_
  simp only [Act.put, List.setIfInBounds_toArray, List.set_cons_succ, List.set_cons_zero]
  rw [vals_congr .u8 n (laid (fun _ => 0) f 0 n) f fun i hi => by unfold laid; rw [if_pos ⟨Nat.zero_le _, by omega⟩, Nat.sub_zero]] at hO
  go_upto_region 3 with (fail)
  refine wp_region_list (WL.out ?_)
  refine g_val (.slice (some ⟨n6, 0, none⟩) n n) ?_
  refine g_val (A (rc n6 n 0)) ?_ (run_bd 92 _ rfl [(0, .slice (some ⟨n6, 0, none⟩) n n)] (by kernel_rfl) _ (rc_built _ _) w2)
  refine g_new hO D (rc n6 n 0) 92 (rc_fit _ _ _) (run_box 92 _ rfl _ (by kernel_rfl) w2) ?_
  intro n12 w3 _ hO
  replace hO : Own w w3 [(n6, vals .u8 n f, 5), (n12, rc n6 n 0, 92)] := hO
  refine g_val (D n12) ?_
  refine g_nil ?_
  simp only [Act.put, List.setIfInBounds_toArray, List.set_cons_succ, List.set_cons_zero]
  have HO := hide (hO.perm (List.Perm.swap _ _ []))
  clear hO
  go_wp2_with (fail)
  go_ret
  exact ⟨n12, n6, rfl, HO.out⟩
set_option maxHeartbeats 1000000 in
theorem Left_c {q n t : Nat} (hn : n ≤ 2 ^ 40) (ht : t ≤ 8 * n) (N : Nat) (w : World) (hB : Blk w N (rc q n t) 92) : Ret 31 #[D N] w (Nv .i64 (8 * n - t)) := by
  go_enter Try.func31, Try.ntmps31
  have hO := Own.start w
  go_upto_region 0 with (fail)
  refine wp_region_list (WL.out ?_)
  refine g_val (Nv .i64 0) ?_
  refine g_nil ?_
  simp only [Act.put, List.setIfInBounds_toArray, List.set_cons_succ, List.set_cons_zero]
  go_upto_region 1 with (fail)
  refine wp_region_list (WL.out ?_)
  refine g_val (D N) ?_
  refine g_val (.bool false) ?_
  refine g_nil ?_
  simp only [Act.put, List.setIfInBounds_toArray, List.set_cons_succ, List.set_cons_zero]
  go_upto_region 3 with (fail)
  refine Rg.pd [] (fun _ => [(5, D N), (6, D N), (7, D N), (8, .slice (some ⟨q, 0, none⟩) n n), (9, Nv .i64 n), (10, Nv .i64 (8 * n)), (11, D N), (12, D N), (13, E N 1), (14, Nv .i64 t), (15, Nv .i64 (8 * n - t)), (2, Nv .i64 (8 * n - t))]) (OI w (fun _ _ => [])) (fun _ => 0) hO.drew (Rg.ac nv (Rg.ac nv (Rg.ac nv (Rg.ac (nco (.slice (some ⟨q, 0, none⟩) n n) hB (rc_0 _ _ _) agg_sl) (Rg.ac nv (Rg.ac (nx (fun _ => Nv .i64 (8 * n)) (fun _ w => B.mul_int (a := 8) (c := n) (d := 8 * n) rfl (by omega) w)) (Rg.ac nv (Rg.ac nv (Rg.ac nv (Rg.ac (nco (Nv .i64 t) hB (rc_1 _ _ _) agg_int) (Rg.ac (nx (fun _ => Nv .i64 (8 * n - t)) (fun _ w => B.sub_int (a := 8 * n) (c := t) (d := 8 * n - t) (by omega) (by omega) w)) (Rg.ac nv Rg.an)))))))))))) ?_
  intro ν w1 hO
  replace hO : Own w w1 [] := hO
  simp only [Rg.putL, Act.put, List.setIfInBounds_toArray, List.set_cons_succ, List.set_cons_zero]
  clear ν
  have HF := hide hO.low
  clear hO
  go_wp2_with (fail)
  go_ret
  exact ⟨rfl, HF.out⟩
set_option maxHeartbeats 4000000 in
theorem take_c {q n t Y : Nat} (hn : n ≤ 2 ^ 40) (ht : t < 8 * n) (N : Nat) (u : World) (T : List Row) (w : World) (hO : Own u w ((N, rc q n t, 92) :: (q, vals .u8 n (byt Y), 5) :: T)) :
    Calls Try.prog 54 #[D N] w fun e w' => e = .returned (Nv .u8 (Y / 2 ^ t % 2)) ∧ Own u w' ((N, rc q n (t + 1), 92) :: (q, vals .u8 n (byt Y), 5) :: T) := by
  have h8 : t / 8 < n := by omega
  have hm8 : t % 8 < 8 := Nat.mod_lt _ (by decide)
  have Hb := hide (M.bit_byt Y t)
  have Hl := hide (take_lt (Y := Y) (t := t))
  go_enter Try.func54, Try.ntmps54
  go_upto_region 0 with (fail)
  refine wp_region_list (WL.out ?_)
  refine g_val (Nv .u8 0) ?_
  refine g_nil ?_
  simp only [Act.put, List.setIfInBounds_toArray, List.set_cons_succ, List.set_cons_zero]
  go_upto_region 1 with (fail)
  refine Rg.pd [] (fun _ => [(4, D N), (5, D N), (6, D N), (7, .slice (some ⟨q, 0, none⟩) n n), (8, D N), (9, D N), (10, E N 1), (11, Nv .i64 t), (12, Nv .i64 (t / 8)), (13, E q (t / 8)), (14, Nv .u8 (byt Y (t / 8))), (15, D N), (16, D N), (17, E N 1), (18, Nv .i64 t), (19, Nv .i64 (t % 8)), (20, Nv .u8 ((byt Y (t / 8)) / 2 ^ (t % 8))), (21, Nv .u8 (Y / 2 ^ t % 2)), (3, Nv .u8 (Y / 2 ^ t % 2))]) (OI u (fun _ _ => ((N, rc q n t, 92) :: (q, vals .u8 n (byt Y), 5) :: T))) (fun _ => 0) hO.drew (Rg.ac nv (Rg.ac nv (Rg.ac nv (Rg.ac (nc 0 0 0 (fun _ => 0) (fun _ => .slice (some ⟨q, 0, none⟩) n n) B.agg_sl (fun _ => rc_0 _ _ _) (at1 0 fun _ => by kernel_rfl)) (Rg.ac nv (Rg.ac nv (Rg.ac nv (Rg.ac (nc 0 0 0 (fun _ => 1) (fun _ => Nv .i64 t) B.agg_int (fun _ => rc_1 _ _ _) (at1 0 fun _ => by kernel_rfl)) (Rg.ac (nx (fun _ => Nv .i64 (t / 8)) (fun _ w => B.quo_int (a := t) (c := 8) (d := t / 8) rfl (by omega) (by omega) w)) (Rg.ac (nx (fun _ => E q (t / 8)) (fun _ w => b_ias (n := n) (c := n) h8 w)) (Rg.ac (nc 0 0 1 (fun _ => t / 8) (fun _ => Nv .u8 (byt Y (t / 8))) B.agg_u8 (fun _ => vals_get _ _ _ _ h8) (at1 0 fun _ => by kernel_rfl)) (Rg.ac nv (Rg.ac nv (Rg.ac nv (Rg.ac (nc 0 0 0 (fun _ => 1) (fun _ => Nv .i64 t) B.agg_int (fun _ => rc_1 _ _ _) (at1 0 fun _ => by kernel_rfl)) (Rg.ac (nx (fun _ => Nv .i64 (t % 8)) (fun _ w => B.rem_int (a := t) (c := 8) (d := t % 8) rfl (by omega) (by omega) w)) (Rg.ac (nx (fun _ => Nv .u8 ((byt Y (t / 8)) / 2 ^ (t % 8))) (fun _ w => B.shr_u8_int (a := byt Y (t / 8)) (s := t % 8) (d := (byt Y (t / 8)) / 2 ^ (t % 8)) rfl hm8 w)) (Rg.ac (nx (fun _ => Nv .u8 (Y / 2 ^ t % 2)) (fun _ w => B.and_u8 (a := (byt Y (t / 8)) / 2 ^ (t % 8)) (c := 1) (d := Y / 2 ^ t % 2) ((M.and1 _).trans Hb.out) Hl.out (by decide) w)) (Rg.ac nv Rg.an))))))))))))))))))) ?_
  intro ν w1 hO
  replace hO : Own u w1 ((N, rc q n t, 92) :: (q, vals .u8 n (byt Y), 5) :: T) := hO
  simp only [Rg.putL, Act.put, List.setIfInBounds_toArray, List.set_cons_succ, List.set_cons_zero]
  clear ν
  go_upto_region 2 with (fail)
  refine wp_region_list (WL.out ?_)
  refine g_val (D N) ?_
  refine g_val (D N) ?_
  refine g_val (E N 1) ?_
  refine g_lc hO 0 1 (Nv .i64 t) rfl (rc_1 _ _ _) agg_int ?_
  refine g_val (Nv .i64 (t + 1)) ?_ (B.add_int (a := t) (c := 1) (d := t + 1) rfl (by omega) w1)
  refine g_val (D N) ?_
  refine g_val (E N 1) ?_
  refine g_sc hO 0 1 (Nv .i64 (t + 1)) (Nv .i64 t) rfl (rc_1 _ _ _) (fun hc hf => st_int 3 sz_int rfl (by kernel_rfl) (by kernel_rfl) hc hf) (rc_set _ _ _ _) (rc_fit _ _ _) ?_
  intro w2 hO
  replace hO : Own u w2 ((N, rc q n (t + 1), 92) :: (q, vals .u8 n (byt Y), 5) :: T) := hO
  refine g_nil ?_
  simp only [Act.put, List.setIfInBounds_toArray, List.set_cons_succ, List.set_cons_zero]
  go_upto_region 3 with (fail)
  refine wp_region_list (WL.out ?_)
  refine g_val (Nv .u8 (Y / 2 ^ t % 2)) ?_
  refine g_val (Nv .u8 (Y / 2 ^ t % 2)) ?_
  refine g_nil ?_
  simp only [Act.put, List.setIfInBounds_toArray, List.set_cons_succ, List.set_cons_zero]
  have HO := hide hO
  clear hO
  go_wp2_with (fail)
  go_ret
  exact ⟨rfl, HO.out⟩
/-- What holds at each jump of Take: k bits are taken. -/
def TJ (u : World) (T : List Row) (N q n t Y bits : Nat) (a' : Act) (w' : World) : Prop :=
  ∃ (k s : Nat) (z2 z3 z4 z5 z8 z9 z10 z11 z12 z13 z14 z15 z16 z17 z18 z19 z20 z21 z22 z23 z24 z25 z26 z27 z28 z29 z30 z31 z32 z33 z34 : Value), a' = Fr [D N, Nv .i64 bits, z2, z3, z4, z5, Nv .u64 (M.tk Y t k), Nv .i64 k, z8, z9, z10, z11, z12, z13, z14, z15, z16, z17, z18, z19, z20, z21, z22, z23, z24, z25, z26, z27, z28, z29, z30, z31, z32, z33, z34] ∧ k ≤ bits ∧ s = t + k ∧ Own u w' ((N, rc q n s, 92) :: (q, vals .u8 n (byt Y), 5) :: T)
def tMu (m : Nat) (a' : Act) (_ : World) : Nat := m - (intOf (a'.tmps.getD 7 undef)).toNat
set_option maxHeartbeats 4000000 in
theorem Take_c {q n t Y bits : Nat} (hn : n ≤ 2 ^ 40) (hb : bits ≤ 32) (ht : t + bits ≤ 8 * n) (N : Nat) (u : World) (T : List Row) (w : World) (hO : Own u w ((N, rc q n t, 92) :: (q, vals .u8 n (byt Y), 5) :: T)) :
    Calls Try.prog 42 #[D N, Nv .i64 bits] w fun e w' => e = .returned (.tuple #[Nv .u64 (M.tk Y t bits), Nv .i64 0]) ∧ Own u w' ((N, rc q n (t + bits), 92) :: (q, vals .u8 n (byt Y), 5) :: T) := by
  go_enter Try.func42, Try.ntmps42
  go_upto_region 0 with (fail)
  refine wp_region_list (WL.out ?_)
  refine g_val (Nv .u64 0) ?_
  refine g_val (Nv .i64 0) ?_
  refine g_nil ?_
  simp only [Act.put, List.setIfInBounds_toArray, List.set_cons_succ, List.set_cons_zero]
  go_wp2_with (fail)
  refine scope_jumps 0 (TJ u T N q n t Y bits) (tMu bits) rfl ?_ ?_
  · clear hO
    rintro a' w' ⟨k, s, z2, z3, z4, z5, z8, z9, z10, z11, z12, z13, z14, z15, z16, z17, z18, z19, z20, z21, z22, z23, z24, z25, z26, z27, z28, z29, z30, z31, z32, z33, z34, rfl, hk, hs, hO⟩
    by_cases hz : k < bits
    · have hk33 : k < 33 := by omega
      have hs8 : s < 8 * n := by omega
      have Hor : Hid (M.tk Y t k ||| (Y / 2 ^ s % 2 * 2 ^ k) = M.tk Y t (k + 1)) := hide (by rw [hs]; exact M.tk_or Y t k)
      have Hl1 := hide (tk_lt64 (Y := Y) (t := t) hk33)
      have Hl2 := hide (sh_lt (bit_lt Y s) hk33)
      go_upto_region 6 with (fail)
      refine wp_region_list (WL.out ?_)
      refine g_val (Nv .i64 k) ?_
      refine g_val (Nv .i64 bits) ?_
      refine g_val (.bool true) ?_ (B.lss_int (a := k) (c := bits) (b := true) (decide_eq_true hz) w')
      refine g_nil ?_
      simp only [Act.put, List.setIfInBounds_toArray, List.set_cons_succ, List.set_cons_zero]
      go_upto_region 7 with (fail)
      refine wp_region_list (WL.out ?_)
      refine g_val (Nv .u64 (M.tk Y t k)) ?_
      refine g_val (D N) ?_
      refine g_chg (L' := ((N, rc q n (s + 1), 92) :: (q, vals .u8 n (byt Y), 5) :: T)) 54 #[D N] (Nv .u8 (Y / 2 ^ s % 2)) (take_c hn hs8 N u T w' hO) ?_
      intro w1 hO
      refine g_val (Nv .u64 (Y / 2 ^ s % 2)) ?_ (B.c_u8_u64 (a := Y / 2 ^ s % 2) (d := Y / 2 ^ s % 2) rfl (Nat.lt_trans (bit_lt Y s) (by decide)) w1)
      refine g_val (Nv .i64 k) ?_
      refine g_val (Nv .u64 (Y / 2 ^ s % 2 * 2 ^ k)) ?_ (B.shl_u64_int (a := Y / 2 ^ s % 2) (s := k) (d := Y / 2 ^ s % 2 * 2 ^ k) (Nat.mod_eq_of_lt Hl2.out) (by omega) w1)
      refine g_val (Nv .u64 (M.tk Y t (k + 1))) ?_ (B.or_u64 (a := M.tk Y t k) (c := Y / 2 ^ s % 2 * 2 ^ k) (d := M.tk Y t (k + 1)) Hor.out Hl1.out Hl2.out w1)
      refine g_val (Nv .u64 (M.tk Y t (k + 1))) ?_
      refine g_nil ?_
      simp only [Act.put, List.setIfInBounds_toArray, List.set_cons_succ, List.set_cons_zero]
      go_upto_region 8 with (fail)
      refine wp_region_list (WL.out ?_)
      refine g_val (Nv .i64 k) ?_
      refine g_val (Nv .i64 (k + 1)) ?_ (B.add_int (a := k) (c := 1) (d := k + 1) rfl (by omega) w1)
      refine g_val (Nv .i64 (k + 1)) ?_
      refine g_nil ?_
      simp only [Act.put, List.setIfInBounds_toArray, List.set_cons_succ, List.set_cons_zero]
      have HO := hide hO
      clear hO
      go_wp2_with (fail)
      go_step3
      refine ⟨rfl, ⟨k + 1, s + 1, _, _, _, _, _, _, _, _, _, _, _, _, _, _, _, _, _, _, _, _, _, _, _, _, _, _, _, _, _, _, _, rfl, hz, by omega, HO.out⟩, ?_⟩
      show bits - ((k + 1 : Nat) : Int).toNat < bits - ((k : Nat) : Int).toNat
      omega
    · obtain rfl : k = bits := by omega
      subst hs
      go_upto_region 6 with (fail)
      refine wp_region_list (WL.out ?_)
      refine g_val (Nv .i64 k) ?_
      refine g_val (Nv .i64 k) ?_
      refine g_val (.bool false) ?_ (B.lss_int (a := k) (c := k) (b := false) (decide_eq_false hz) w')
      refine g_nil ?_
      simp only [Act.put, List.setIfInBounds_toArray, List.set_cons_succ, List.set_cons_zero]
      go_upto_region 9 with (fail)
      refine wp_region_list (WL.out ?_)
      refine g_val (Nv .u64 (M.tk Y t k)) ?_
      refine g_val (Nv .u64 (M.tk Y t k)) ?_
      refine g_val (Nv .i64 0) ?_
      refine g_nil ?_
      simp only [Act.put, List.setIfInBounds_toArray, List.set_cons_succ, List.set_cons_zero]
      have HO := hide hO
      clear hO
      go_wp2_with (fail)
      simp only [Exit.jump]
      go_ret2
      exact ⟨rfl, HO.out⟩
  · intro H
    have hB := hO.row 0 rfl
    go_upto_region 1 with (fail)
    refine wp_region_list (WL.out ?_)
    refine g_val (D N) ?_
    refine g_val (.bool false) ?_
    refine g_val (.bool false) ?_
    refine g_val (Nv .i64 bits) ?_
    refine g_val (.bool false) ?_ (B.lss_int (a := bits) (c := 0) (b := false) (decide_eq_false (by omega)) w)
    refine g_val (.bool false) ?_
    refine g_val (.bool false) ?_
    refine g_val (Nv .i64 bits) ?_
    refine g_val (.bool false) ?_ (B.gtr_int (a := bits) (c := 32) (b := false) (decide_eq_false (by omega)) w)
    refine g_val (.bool false) ?_
    refine g_nil ?_
    simp only [Act.put, List.setIfInBounds_toArray, List.set_cons_succ, List.set_cons_zero]
    go_upto_region 3 with (fail)
    refine wp_region_list (WL.out ?_)
    refine g_val (Nv .i64 bits) ?_
    refine g_val (D N) ?_
    refine g_call hO 31 #[D N] (Nv .i64 (8 * n - t)) (Left_c hn (by omega) N w hB) ?_
    intro w1 hb20 hO
    refine g_val (.bool false) ?_ (B.gtr_int (a := bits) (c := 8 * n - t) (b := false) (decide_eq_false (by omega)) w1)
    refine g_nil ?_
    simp only [Act.put, List.setIfInBounds_toArray, List.set_cons_succ, List.set_cons_zero]
    go_upto_region 5 with (fail)
    refine wp_region_list (WL.out ?_)
    refine g_val (Nv .u64 0) ?_
    refine g_val (Nv .i64 0) ?_
    refine g_nil ?_
    simp only [Act.put, List.setIfInBounds_toArray, List.set_cons_succ, List.set_cons_zero]
    have HO := hide hO
    clear hO
    go_wp2_with (fail)
    go_step3
    rename_i hK
    refine hK _ _ (H _ _ ?_)
    exact ⟨0, t, _, _, _, _, _, _, _, _, _, _, _, _, _, _, _, _, _, _, _, _, _, _, _, _, _, _, _, _, _, _, _, (by rw [M.tk_zero]), Nat.zero_le _, rfl, HO.out⟩
set_option maxHeartbeats 1000000 in
theorem Take_neg {b : Int} (hb : b < 0) (N : Nat) (w : World) : Ret 42 #[D N, .int .i64 b] w (.tuple #[Nv .u64 0, Nv .i64 1]) := by
  go_enter Try.func42, Try.ntmps42
  have hO := Own.start w
  go_upto_region 0 with (fail)
  refine wp_region_list (WL.out ?_)
  refine g_val (Nv .u64 0) ?_
  refine g_val (Nv .i64 0) ?_
  refine g_nil ?_
  simp only [Act.put, List.setIfInBounds_toArray, List.set_cons_succ, List.set_cons_zero]
  go_wp2_with (fail)
  refine scope_jumps 0 (fun _ _ => False) (tMu 0) rfl (fun _ _ h => h.elim) ?_
  intro H
  clear H
  go_upto_region 1 with (fail)
  refine wp_region_list (WL.out ?_)
  refine g_val (D N) ?_
  refine g_val (.bool false) ?_
  refine g_val (.bool false) ?_
  refine g_val (.int .i64 b) ?_
  refine g_val (.bool true) ?_ (lssI_int (a := b) (c := 0) (decide_eq_true hb) w)
  refine g_val (.bool true) ?_
  refine g_val (.bool true) ?_
  refine g_skip ?_
  refine g_skip ?_
  refine g_val (.bool true) ?_
  refine g_nil ?_
  simp only [Act.put, List.setIfInBounds_toArray, List.set_cons_succ, List.set_cons_zero]
  go_upto_region 2 with (fail)
  refine wp_region_list (WL.out ?_)
  refine g_val (Nv .u64 0) ?_
  refine g_val (Nv .i64 1) ?_
  refine g_nil ?_
  simp only [Act.put, List.setIfInBounds_toArray, List.set_cons_succ, List.set_cons_zero]
  have HF := hide hO.low
  clear hO
  go_wp2_with (fail)
  simp only [Exit.jump]
  go_ret2
  exact ⟨rfl, HF.out⟩
set_option maxHeartbeats 1000000 in
theorem Take_big {b : Int} (hb : 32 < b) (N : Nat) (w : World) : Ret 42 #[D N, .int .i64 b] w (.tuple #[Nv .u64 0, Nv .i64 1]) := by
  go_enter Try.func42, Try.ntmps42
  have hO := Own.start w
  go_upto_region 0 with (fail)
  refine wp_region_list (WL.out ?_)
  refine g_val (Nv .u64 0) ?_
  refine g_val (Nv .i64 0) ?_
  refine g_nil ?_
  simp only [Act.put, List.setIfInBounds_toArray, List.set_cons_succ, List.set_cons_zero]
  go_wp2_with (fail)
  refine scope_jumps 0 (fun _ _ => False) (tMu 0) rfl (fun _ _ h => h.elim) ?_
  intro H
  clear H
  go_upto_region 1 with (fail)
  refine wp_region_list (WL.out ?_)
  refine g_val (D N) ?_
  refine g_val (.bool false) ?_
  refine g_val (.bool false) ?_
  refine g_val (.int .i64 b) ?_
  refine g_val (.bool false) ?_ (lssI_int (a := b) (c := 0) (decide_eq_false (by omega)) w)
  refine g_val (.bool false) ?_
  refine g_val (.bool false) ?_
  refine g_val (.int .i64 b) ?_
  refine g_val (.bool true) ?_ (gtrI_int (a := b) (c := 32) (decide_eq_true hb) w)
  refine g_val (.bool true) ?_
  refine g_nil ?_
  simp only [Act.put, List.setIfInBounds_toArray, List.set_cons_succ, List.set_cons_zero]
  go_upto_region 2 with (fail)
  refine wp_region_list (WL.out ?_)
  refine g_val (Nv .u64 0) ?_
  refine g_val (Nv .i64 1) ?_
  refine g_nil ?_
  simp only [Act.put, List.setIfInBounds_toArray, List.set_cons_succ, List.set_cons_zero]
  have HF := hide hO.low
  clear hO
  go_wp2_with (fail)
  simp only [Exit.jump]
  go_ret2
  exact ⟨rfl, HF.out⟩
set_option maxHeartbeats 1000000 in
theorem Take_more {q n t : Nat} {b : Nat} (hb : b ≤ 32) (hv : 8 * n < t + b) (hn : n ≤ 2 ^ 40) (ht : t ≤ 8 * n) (N : Nat) (w : World) (hB : Blk w N (rc q n t) 92) : Ret 42 #[D N, Nv .i64 b] w (.tuple #[Nv .u64 0, Nv .i64 120]) := by
  go_enter Try.func42, Try.ntmps42
  have hO := Own.start w
  go_upto_region 0 with (fail)
  refine wp_region_list (WL.out ?_)
  refine g_val (Nv .u64 0) ?_
  refine g_val (Nv .i64 0) ?_
  refine g_nil ?_
  simp only [Act.put, List.setIfInBounds_toArray, List.set_cons_succ, List.set_cons_zero]
  go_wp2_with (fail)
  refine scope_jumps 0 (fun _ _ => False) (tMu 0) rfl (fun _ _ h => h.elim) ?_
  intro H
  clear H
  go_upto_region 1 with (fail)
  refine wp_region_list (WL.out ?_)
  refine g_val (D N) ?_
  refine g_val (.bool false) ?_
  refine g_val (.bool false) ?_
  refine g_val (Nv .i64 b) ?_
  refine g_val (.bool false) ?_ (B.lss_int (a := b) (c := 0) (b := false) (decide_eq_false (by omega)) w)
  refine g_val (.bool false) ?_
  refine g_val (.bool false) ?_
  refine g_val (Nv .i64 b) ?_
  refine g_val (.bool false) ?_ (B.gtr_int (a := b) (c := 32) (b := false) (decide_eq_false (by omega)) w)
  refine g_val (.bool false) ?_
  refine g_nil ?_
  simp only [Act.put, List.setIfInBounds_toArray, List.set_cons_succ, List.set_cons_zero]
  go_upto_region 3 with (fail)
  refine wp_region_list (WL.out ?_)
  refine g_val (Nv .i64 b) ?_
  refine g_val (D N) ?_
  refine g_call hO 31 #[D N] (Nv .i64 (8 * n - t)) (Left_c hn ht N w hB) ?_
  intro w1 hb20 hO
  refine g_val (.bool true) ?_ (B.gtr_int (a := b) (c := 8 * n - t) (b := true) (decide_eq_true (by omega)) w1)
  refine g_nil ?_
  simp only [Act.put, List.setIfInBounds_toArray, List.set_cons_succ, List.set_cons_zero]
  go_upto_region 4 with (fail)
  refine wp_region_list (WL.out ?_)
  refine g_val (Nv .u64 0) ?_
  refine g_val (Nv .i64 120) ?_
  refine g_nil ?_
  simp only [Act.put, List.setIfInBounds_toArray, List.set_cons_succ, List.set_cons_zero]
  have HF := hide hO.low
  clear hO hB
  go_wp2_with (fail)
  simp only [Exit.jump]
  go_ret2
  exact ⟨rfl, HF.out⟩
end W
end Go.Proofs.Ytkljpidlfddgbaa

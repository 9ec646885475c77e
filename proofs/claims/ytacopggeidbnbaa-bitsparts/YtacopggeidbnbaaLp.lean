/- The walk of BitsParts. No conditions. -/
import Derived.Test.YtacopggeidbnbaaCh
namespace Go.Proofs.Ytacopggeidbnbaa
set_option maxRecDepth 100000
open Go.RowKit Rg B

open W R
namespace W
theorem wput1 {X v c bits X' c' : Nat} (hX : X < 2 ^ c) (hv : v < 2 ^ bits) (hb : bits ≤ 32) (hc : c + bits < 2048) (hX' : X + v * 2 ^ c = X') (hc' : c + bits = c') (N : Nat) (u : World) (T : List Row) (w : World) (hO : Own u w ((N, wc none (op X c) c, 28) :: T)) :
    RetP 10 #[D N, Nv .u64 v, Nv .i64 bits] w fun x w' => x = Nv .i64 0 ∧ ∃ C, Own u w' ((N, wc none (op X' c') c', 28) :: (C ++ T)) := by
  subst hX' hc'
  refine (Put_c (p := none) hX hv hb (by omega) N u T w hO).mono fun e w' hh => ?_
  obtain ⟨he, p', C, hO', hC'⟩ := hh
  have h0 := hC' [] (by rw [show c / 2048 = 0 by omega]; rfl)
  rw [show (c + bits) / 2048 = 0 by omega] at h0
  obtain rfl : p' = none := h0
  exact ⟨_, he, rfl, C, hO'⟩
theorem wput1a {X v c bits X' c' : Nat} (hX : X < 2 ^ c) (hv : v < 2 ^ bits) (hb : bits ≤ 32) (hc : c + bits < 2048) (hX' : X + v * 2 ^ c = X') (hc' : c + bits = c') (N : Nat) (u : World) (r : Row) (T : List Row) (w : World) (hO : Own u w ((N, wc none (op X c) c, 28) :: r :: T)) :
    RetP 10 #[D N, Nv .u64 v, Nv .i64 bits] w fun x w' => x = Nv .i64 0 ∧ ∃ C, Own u w' ((N, wc none (op X' c') c', 28) :: r :: (C ++ T)) := by
  refine (wput1 hX hv hb hc hX' hc' N u (r :: T) w hO).mono fun e w' hh => ?_
  obtain ⟨x, he, hx, C, h⟩ := hh
  exact ⟨x, he, hx, C, h.perm (List.Perm.cons _ List.perm_middle)⟩
theorem wput1b {X v c bits X' c' : Nat} (hX : X < 2 ^ c) (hv : v < 2 ^ bits) (hb : bits ≤ 32) (hc : c + bits < 2048) (hX' : X + v * 2 ^ c = X') (hc' : c + bits = c') (N : Nat) (u : World) (r : Row) (T : List Row) (w : World) (hO : Own u w (r :: (N, wc none (op X c) c, 28) :: T)) :
    RetP 10 #[D N, Nv .u64 v, Nv .i64 bits] w fun x w' => x = Nv .i64 0 ∧ ∃ C, Own u w' (r :: (N, wc none (op X' c') c', 28) :: (C ++ T)) := by
  refine (wput1a hX hv hb hc hX' hc' N u r T w (hO.perm (List.Perm.swap _ _ _))).mono fun e w' hh => ?_
  obtain ⟨x, he, hx, C, h⟩ := hh
  exact ⟨x, he, hx, C, h.perm (List.Perm.swap _ _ _)⟩
theorem new1 : wc none (fun _ => 0) 0 = wc none (op 0 0) 0 := wc_congr fun k _ => (M.byt_hi (c := 0) (by decide) (Nat.zero_le _)).symm
theorem bytes_z {X c n : Nat} (hn : n = (c + 7) / 8) (hc : c < 2048) (N : Nat) (w : World) (hB : Blk w N (wc none (op X c) c) 28) : RetZ 13 #[D N] w (fun z => .slice (some ⟨z 0, 0, none⟩) n n) (fun z => [(z 0, vals .u8 n (byt X), 5)]) := by
  refine (Bytes_c hn (by omega) N w hB (by rw [show c / 2048 = 0 by omega]; rfl)).mono fun e w' hh => ?_
  obtain ⟨q, he, hO⟩ := hh
  exact ⟨fun _ => q, he, hO⟩
theorem bytes_p {X c n : Nat} (hn : n = (c + 7) / 8) (hc : c < 2048) (N : Nat) (w : World) (hB : Blk w N (wc none (op X c) c) 28) : RetP 13 #[D N] w fun x w' => ∃ q, x = .slice (some ⟨q, 0, none⟩) n n ∧ Own w w' [(q, vals .u8 n (byt X), 5)] := by
  refine (Bytes_c hn (by omega) N w hB (by rw [show c / 2048 = 0 by omega]; rfl)).mono fun e w' hh => ?_
  obtain ⟨q, he, hO⟩ := hh
  exact ⟨_, he, q, rfl, hO⟩
theorem new_z {S : Option Addr} {n c : Nat} {f : Nat → Nat} (hn : n ≤ 2 ^ 40) (w : World) (hA : Rc w S n (by8 f)) : RetP 15 #[.slice S n c] w fun x w' => ∃ N q, x = D N ∧ Own w w' [(N, rc q n 0, 56), (q, vals .u8 n f, 5)] := New_p hn w hA
theorem two_parts {a n k l h : Nat} (hl : l = n % 2 ^ k) (hh : h = n / 2 ^ k) : a + l * 2 ^ 3 + h * 2 ^ (3 + k) = a + n * 2 ^ 3 := by
  rw [Nat.pow_add, hl, hh]
  have h1 := Nat.div_add_mod n (2 ^ k)
  rw [show n / 2 ^ k * (2 ^ 3 * 2 ^ k) = (2 ^ k * (n / 2 ^ k)) * 2 ^ 3 by rw [Nat.mul_comm (2 ^ 3), ← Nat.mul_assoc, Nat.mul_comm (n / 2 ^ k)], Nat.add_assoc, ← Nat.add_mul, Nat.add_comm (n % 2 ^ k), h1]
theorem tk_low {a n k : Nat} (ha : a < 8) : M.tk (a + n * 2 ^ 3) 3 k = n % 2 ^ k := by
  unfold M.tk
  rw [Nat.add_mul_div_right _ _ (by decide), Nat.div_eq_of_lt ha, Nat.zero_add]
theorem tk_high {a n k : Nat} (ha : a < 8) (hk : k ≤ 32) (hn : n < 2 ^ 32) : M.tk (a + n * 2 ^ 3) (3 + k) (32 - k) = n / 2 ^ k := by
  unfold M.tk
  rw [Nat.pow_add, ← Nat.div_div_eq_div_mul, Nat.add_mul_div_right _ _ (by decide), Nat.div_eq_of_lt ha, Nat.zero_add, Nat.mod_eq_of_lt]
  rw [Nat.div_lt_iff_lt_mul (Nat.two_pow_pos _), ← Nat.pow_add, show 32 - k + k = 32 by omega]
  exact hn
set_option maxHeartbeats 4000000 in
theorem parts_walk (a n cut : Nat) (ha : a < 256) (hn : n < 4294967296) (hcut : cut < 256) (w : World) : Ret 8 #[Nv .u8 a, Nv .u32 n, Nv .u8 cut] w (.bool true) := by
  obtain ⟨k, hk⟩ : ∃ k, k = cut % 33 := ⟨_, rfl⟩
  have hk32 : k ≤ 32 := by omega
  obtain ⟨l, hl⟩ : ∃ l, l = n % 2 ^ k := ⟨_, rfl⟩
  obtain ⟨h, hh⟩ : ∃ h, h = n / 2 ^ k := ⟨_, rfl⟩
  obtain ⟨b, hb⟩ : ∃ b, b = a % 8 := ⟨_, rfl⟩
  have hb8 : b < 2 ^ 3 := by omega
  have hlk : l < 2 ^ k := by rw [hl]; exact M.mod_lt2 _ _
  have hhk : h < 2 ^ (32 - k) := by
    rw [hh, Nat.div_lt_iff_lt_mul (Nat.two_pow_pos _), ← Nat.pow_add, show 32 - k + k = 32 by omega]
    exact hn
  have h2k : 2 ^ k < 18446744073709551616 := Nat.pow_lt_pow_right (by decide) (show k < 64 by omega)
  have HX := hide (two_parts (a := b) hl hh)
  have Hlo : Hid (M.tk (b + n * 2 ^ 3) 3 k = l) := hide (by rw [hl]; exact tk_low hb8)
  have Hhi : Hid (M.tk (b + n * 2 ^ 3) (3 + k) (32 - k) = h) := hide (by rw [hh]; exact tk_high hb8 hk32 hn)
  have Hk := hide hk
  have Hl := hide hl
  have Hh := hide hh
  have Hb := hide hb
  clear hk hl hh hb
  obtain ⟨m, hm⟩ : ∃ m, m = 32 - k := ⟨_, rfl⟩
  have Hm := hide hm
  rw [← hm] at hhk Hhi
  obtain ⟨Y, hY⟩ : ∃ Y, Hid (b + n * 2 ^ 3 = Y) := ⟨_, hide rfl⟩
  rw [hY.out] at HX Hlo Hhi
  have hY35 : Y < 2 ^ 35 := by rw [← hY.out]; omega
  go_enter Try.func8, Try.ntmps8
  have hO := Own.start w
  go_upto_region 0 with (fail)
  refine wp_region_list (WL.out ?_)
  refine g_val (.bool false) ?_
  refine g_nil ?_
  simp only [Act.put, List.setIfInBounds_toArray, List.set_cons_succ, List.set_cons_zero]
  go_upto_region 1 with (fail)
  refine wp_region_list (WL.out ?_)
  refine g_call hO 9 #[] (.bool true) (awake_c w) ?_
  intro w1 hb22 hO
  refine g_val (.bool true) ?_
  refine g_nil ?_
  simp only [Act.put, List.setIfInBounds_toArray, List.set_cons_succ, List.set_cons_zero]
  go_upto_region 2 with (fail)
  refine wp_region_list (WL.out ?_)
  refine g_val (.bool true) ?_
  refine g_val (.bool false) ?_
  refine g_nil ?_
  simp only [Act.put, List.setIfInBounds_toArray, List.set_cons_succ, List.set_cons_zero]
  go_upto_region 4 with (fail)
  refine wp_region_list (WL.out ?_)
  refine g_val (Nv .u8 cut) ?_
  refine g_val (Nv .i64 cut) ?_ (B.c_u8_int (a := cut) (d := cut) rfl (by omega) w1)
  refine g_val (Nv .i64 k) ?_ (B.rem_int (a := cut) (c := 33) (d := k) Hk.out.symm (by omega) (by omega) w1)
  refine g_val (Nv .i64 k) ?_
  refine g_nil ?_
  simp only [Act.put, List.setIfInBounds_toArray, List.set_cons_succ, List.set_cons_zero]
  go_upto_region 5 with (fail)
  refine wp_region_list (WL.out ?_)
  refine g_val (A (wc none (fun _ => 0) 0)) ?_ (run_bd 28 _ rfl [] (by kernel_rfl) _ wc_zero w1)
  refine g_new hO D (wc none (fun _ => 0) 0) 28 (wc_fit _ _ _) (run_box 28 _ rfl _ (by kernel_rfl) w1) ?_
  intro n29 w2 _ hO
  replace hO : Own w w2 [(n29, wc none (fun _ => 0) 0, 28)] := hO
  refine g_val (D n29) ?_
  refine g_nil ?_
  simp only [Act.put, List.setIfInBounds_toArray, List.set_cons_succ, List.set_cons_zero]
  go_upto_region 6 with (fail)
  refine wp_region_list (WL.out ?_)
  refine g_val (A (wc none (fun _ => 0) 0)) ?_ (run_bd 28 _ rfl [] (by kernel_rfl) _ wc_zero w2)
  refine g_new hO D (wc none (fun _ => 0) 0) 28 (wc_fit _ _ _) (run_box 28 _ rfl _ (by kernel_rfl) w2) ?_
  intro n31 w3 _ hO
  replace hO : Own w w3 [(n29, wc none (fun _ => 0) 0, 28), (n31, wc none (fun _ => 0) 0, 28)] := hO
  refine g_val (D n31) ?_
  refine g_nil ?_
  simp only [Act.put, List.setIfInBounds_toArray, List.set_cons_succ, List.set_cons_zero]
  rw [new1] at hO
  replace hO : Own w w3 ((n29, wc none (op 0 0) 0, 28) :: (n31, wc none (op 0 0) 0, 28) :: ([] : List Row)) := hO
  go_upto_region 7 with (fail)
  refine wp_region_list (WL.out ?_)
  refine g_val (Nv .u32 n) ?_
  refine g_val (Nv .u64 n) ?_ (B.c_u32_u64 (a := n) (d := n) rfl (by omega) w3)
  refine g_val (Nv .i64 k) ?_
  refine g_val (Nv .u64 k) ?_ (B.c_int_uint (a := k) (d := k) rfl (by omega) w3)
  refine g_val (Nv .u64 (2 ^ k)) ?_ (B.shl_u64_uint (a := 1) (s := k) (d := 2 ^ k) (by rw [Nat.one_mul]; exact Nat.mod_eq_of_lt h2k) (by omega) w3)
  refine g_val (Nv .u64 l) ?_ (B.rem_u64 (a := n) (c := 2 ^ k) (d := l) Hl.out.symm (Nat.two_pow_pos _) (Nat.lt_trans hlk h2k) w3)
  refine g_val (Nv .u64 l) ?_
  refine g_nil ?_
  simp only [Act.put, List.setIfInBounds_toArray, List.set_cons_succ, List.set_cons_zero]
  go_upto_region 8 with (fail)
  refine wp_region_list (WL.out ?_)
  refine g_val (D n29) ?_
  refine g_val (Nv .u8 a) ?_
  refine g_val (Nv .u64 a) ?_ (B.c_u8_u64 (a := a) (d := a) rfl (by omega) w3)
  refine g_val (Nv .u64 b) ?_ (B.rem_u64 (a := a) (c := 8) (d := b) Hb.out.symm (by omega) (by omega) w3)
  refine g_any 10 #[D n29, Nv .u64 b, Nv .i64 3] (wput1a (X := 0) (v := b) (c := 0) (bits := 3) (X' := b) (c' := 3) (by decide) (hb8) (by omega) (by omega) (by omega) (rfl) n29 w (n31, wc none (op 0 0) 0, 28) ([] : List Row) w3 hO) ?_
  rintro _ w4 ⟨rfl, C1, hO⟩
  replace hO : Own w w4 ((n29, wc none (op b 3) 3, 28) :: (n31, wc none (op 0 0) 0, 28) :: (C1 ++ ([] : List Row))) := hO
  refine g_val (Nv .i64 0) ?_
  refine g_nil ?_
  simp only [Act.put, List.setIfInBounds_toArray, List.set_cons_succ, List.set_cons_zero]
  go_upto_region 9 with (fail)
  refine wp_region_list (WL.out ?_)
  refine g_val (D n29) ?_
  refine g_val (Nv .u32 n) ?_
  refine g_val (Nv .u64 n) ?_ (B.c_u32_u64 (a := n) (d := n) rfl (by omega) w4)
  refine g_any 10 #[D n29, Nv .u64 n, Nv .i64 32] (wput1a (X := b) (v := n) (c := 3) (bits := 32) (X' := Y) (c' := 35) (hb8) (hn) (by omega) (by omega) (hY.out) (rfl) n29 w (n31, wc none (op 0 0) 0, 28) (C1 ++ ([] : List Row)) w4 hO) ?_
  rintro _ w5 ⟨rfl, C2, hO⟩
  replace hO : Own w w5 ((n29, wc none (op Y 35) 35, 28) :: (n31, wc none (op 0 0) 0, 28) :: (C2 ++ (C1 ++ ([] : List Row)))) := hO
  refine g_val (Nv .i64 0) ?_
  refine g_nil ?_
  simp only [Act.put, List.setIfInBounds_toArray, List.set_cons_succ, List.set_cons_zero]
  go_upto_region 10 with (fail)
  refine wp_region_list (WL.out ?_)
  refine g_val (D n31) ?_
  refine g_val (Nv .u8 a) ?_
  refine g_val (Nv .u64 a) ?_ (B.c_u8_u64 (a := a) (d := a) rfl (by omega) w5)
  refine g_val (Nv .u64 b) ?_ (B.rem_u64 (a := a) (c := 8) (d := b) Hb.out.symm (by omega) (by omega) w5)
  refine g_any 10 #[D n31, Nv .u64 b, Nv .i64 3] (wput1b (X := 0) (v := b) (c := 0) (bits := 3) (X' := b) (c' := 3) (by decide) (hb8) (by omega) (by omega) (by omega) (rfl) n31 w (n29, wc none (op Y 35) 35, 28) (C2 ++ (C1 ++ ([] : List Row))) w5 hO) ?_
  rintro _ w6 ⟨rfl, C3, hO⟩
  replace hO : Own w w6 ((n29, wc none (op Y 35) 35, 28) :: (n31, wc none (op b 3) 3, 28) :: (C3 ++ (C2 ++ (C1 ++ ([] : List Row))))) := hO
  refine g_val (Nv .i64 0) ?_
  refine g_nil ?_
  simp only [Act.put, List.setIfInBounds_toArray, List.set_cons_succ, List.set_cons_zero]
  obtain ⟨Z, hZ⟩ : ∃ Z, Hid (b + l * 2 ^ 3 = Z) := ⟨_, hide rfl⟩
  have hZk : Z < 2 ^ (3 + k) := by rw [← hZ.out]; exact M.put_lt hb8 hlk
  rw [hZ.out] at HX
  go_upto_region 11 with (fail)
  refine wp_region_list (WL.out ?_)
  refine g_val (D n31) ?_
  refine g_val (Nv .u64 l) ?_
  refine g_val (Nv .i64 k) ?_
  refine g_any 10 #[D n31, Nv .u64 l, Nv .i64 k] (wput1b (X := b) (v := l) (c := 3) (bits := k) (X' := Z) (c' := 3 + k) (hb8) (hlk) (by omega) (by omega) (hZ.out) (rfl) n31 w (n29, wc none (op Y 35) 35, 28) (C3 ++ (C2 ++ (C1 ++ ([] : List Row)))) w6 hO) ?_
  rintro _ w7 ⟨rfl, C4, hO⟩
  replace hO : Own w w7 ((n29, wc none (op Y 35) 35, 28) :: (n31, wc none (op Z (3 + k)) (3 + k), 28) :: (C4 ++ (C3 ++ (C2 ++ (C1 ++ ([] : List Row)))))) := hO
  refine g_val (Nv .i64 0) ?_
  refine g_nil ?_
  simp only [Act.put, List.setIfInBounds_toArray, List.set_cons_succ, List.set_cons_zero]
  go_upto_region 12 with (fail)
  refine wp_region_list (WL.out ?_)
  refine g_val (D n31) ?_
  refine g_val (Nv .u32 n) ?_
  refine g_val (Nv .u64 n) ?_ (B.c_u32_u64 (a := n) (d := n) rfl (by omega) w7)
  refine g_val (Nv .i64 k) ?_
  refine g_val (Nv .u64 k) ?_ (B.c_int_uint (a := k) (d := k) rfl (by omega) w7)
  refine g_val (Nv .u64 h) ?_ (B.shr_u64_uint (a := n) (s := k) (d := h) Hh.out.symm (by omega) w7)
  refine g_val (Nv .i64 k) ?_
  refine g_val (Nv .i64 m) ?_ (B.sub_int (a := 32) (c := k) (d := m) (by omega) (by omega) w7)
  refine g_any 10 #[D n31, Nv .u64 h, Nv .i64 m] (wput1b (X := Z) (v := h) (c := 3 + k) (bits := m) (X' := Y) (c' := 35) (hZk) (hhk) (by omega) (by omega) (HX.out) (by omega) n31 w (n29, wc none (op Y 35) 35, 28) (C4 ++ (C3 ++ (C2 ++ (C1 ++ ([] : List Row))))) w7 hO) ?_
  rintro _ w8 ⟨rfl, C5, hO⟩
  replace hO : Own w w8 ((n29, wc none (op Y 35) 35, 28) :: (n31, wc none (op Y 35) 35, 28) :: (C5 ++ (C4 ++ (C3 ++ (C2 ++ (C1 ++ ([] : List Row))))))) := hO
  refine g_val (Nv .i64 0) ?_
  refine g_nil ?_
  simp only [Act.put, List.setIfInBounds_toArray, List.set_cons_succ, List.set_cons_zero]
  have hBa := hO.row 0 rfl
  have hBb := hO.row 1 rfl
  have HL := hide hO.low
  clear hO
  have hO := Own.start w8
  go_upto_region 13 with (fail)
  refine Rg.pd [20, 23] (fun ν => [(65, Nv .i64 0), (66, .bool false), (67, .bool false), (68, Nv .i64 0), (69, .bool false), (70, .bool false), (71, .bool false), (72, Nv .i64 0), (73, .bool false), (74, .bool false), (75, .bool false), (76, Nv .i64 0), (77, .bool false), (78, .bool false), (79, .bool false), (80, Nv .i64 0), (81, .bool false), (82, .bool false), (83, .bool false), (84, D n29), (85, .slice (some ⟨(ν 1200), 0, none⟩) 5 5), (86, .string (sk 5 (byt Y))), (87, D n31), (88, .slice (some ⟨(ν 1230), 0, none⟩) 5 5), (89, .string (sk 5 (byt Y))), (90, .bool (!true)), (91, .bool (!true))]) (OI w8 (fun s ν => [[], [((ν 1200), vals .u8 5 (byt Y), 5)], [((ν 1200), vals .u8 5 (byt Y), 5), ((ν 1230), vals .u8 5 (byt Y), 5)]].getD s [])) (fun _ => 0) hO.drew (Rg.ac nv (Rg.ac (nx (fun _ => .bool false) (fun _ w => B.neq_errno (a := 0) (c := 0) (b := false) (rfl) w)) (Rg.ac nv (Rg.ac nv (Rg.ac (nx (fun _ => .bool false) (fun _ w => B.neq_errno (a := 0) (c := 0) (b := false) (rfl) w)) (Rg.ac nv (Rg.ac nv (Rg.ac nv (Rg.ac (nx (fun _ => .bool false) (fun _ w => B.neq_errno (a := 0) (c := 0) (b := false) (rfl) w)) (Rg.ac nv (Rg.ac nv (Rg.ac nv (Rg.ac (nx (fun _ => .bool false) (fun _ w => B.neq_errno (a := 0) (c := 0) (b := false) (rfl) w)) (Rg.ac nv (Rg.ac nv (Rg.ac nv (Rg.ac (nx (fun _ => .bool false) (fun _ w => B.neq_errno (a := 0) (c := 0) (b := false) (rfl) w)) (Rg.ac nv (Rg.ac nv (Rg.ac nv (Rg.ac (sz 0 1200 13 (fun _ => #[D n29]) (fun z => .slice (some ⟨(z 0), 0, none⟩) 5 5) (fun z => [(z 0, vals .u8 5 (byt Y), 5)]) (fun ν w hO => bytes_z (n := 5) (c := 35) (by decide) (by decide) _ w (hBa.call hO.low))) (Rg.ac (nss 1 2 0 5 5 (fun ν => (ν 1200)) (byt Y) (fun i => M.byt_lt _ i) (at2 1 2 (fun _ => by kernel_rfl) (at1 2 fun _ => by kernel_rfl))) (Rg.ac nv (Rg.ac (sz 1 1230 13 (fun _ => #[D n31]) (fun z => .slice (some ⟨(z 0), 0, none⟩) 5 5) (fun z => [(z 0, vals .u8 5 (byt Y), 5)]) (fun ν w hO => bytes_z (n := 5) (c := 35) (by decide) (by decide) _ w (hBb.call hO.low))) (Rg.ac (nss 2 2 1 5 5 (fun ν => (ν 1230)) (byt Y) (fun i => M.byt_lt _ i) (at1 2 fun _ => by kernel_rfl)) (Rg.ac (nx (fun _ => .bool (!true)) (fun _ w => b_sne (s := sk 5 (byt Y)) (t := sk 5 (byt Y)) (b := true) (by simp) w)) (Rg.ac nv Rg.an))))))))))))))))))))))))))) ?_
  intro ν w9 hO
  replace hO : Own w8 w9 [((ν 1200), vals .u8 5 (byt Y), 5), ((ν 1230), vals .u8 5 (byt Y), 5)] := hO
  simp only [Rg.putL, Act.put, List.setIfInBounds_toArray, List.set_cons_succ, List.set_cons_zero]
  generalize ν 1200 = n85_0 at hO ⊢
  generalize ν 1230 = n88_0 at hO ⊢
  clear ν
  have HL2 := hide (HL.out.trans (hO.low.mono HL.out.size))
  have hBa := hBa.call hO.low
  clear hO hBb HL
  have hO := Own.start w9
  go_upto_region 15 with (fail)
  refine wp_region_list (WL.out ?_)
  refine g_val (D n29) ?_
  refine g_any 13 #[D n29] (bytes_p (X := Y) (n := 5) (c := 35) (by decide) (by decide) _ w9 (hBa.call hO.low)) ?_
  rintro _ w10 ⟨q, rfl, hO1⟩
  refine g_any 15 #[.slice (some ⟨q, 0, none⟩) 5 5] (New_p (f := byt Y) (c := 5) (by decide) w10 (rc_row (hO1.row 0 rfl) fun i hi => by rw [Nat.zero_add]; exact vals_get _ _ _ _ hi)) ?_
  rintro _ w11 ⟨m2, q2, rfl, hN⟩
  refine g_val (D m2) ?_
  refine g_nil ?_
  simp only [Act.put, List.setIfInBounds_toArray, List.set_cons_succ, List.set_cons_zero]
  have HL3 := hide (HL2.out.trans ((hO.low.trans (hO1.low.mono hO.low.size)).mono HL2.out.size))
  clear hO hBa HL2
  have hO := hN
  clear hN
  replace hO : Own w10 w11 [(m2, rc q2 5 0, 56), (q2, vals .u8 5 (byt Y), 5)] := hO
  go_upto_region 16 with (fail)
  refine wp_region_list (WL.out ?_)
  refine g_val (D m2) ?_
  refine g_chg (L' := [(m2, rc q2 5 (0 + 3), 56), (q2, vals .u8 5 (byt Y), 5)]) 19 #[D m2, Nv .i64 3] (.tuple #[Nv .u64 (M.tk Y 0 3), Nv .i64 0]) (Take_c (Y := Y) (t := 0) (bits := 3) (by decide) (by omega) (by omega) m2 w10 [] w11 hO) ?_
  intro w12 hO
  refine g_nil ?_
  simp only [Act.put, List.setIfInBounds_toArray, List.set_cons_succ, List.set_cons_zero]
  replace hO : Own w10 w12 [(m2, rc q2 5 3, 56), (q2, vals .u8 5 (byt Y), 5)] := hO
  go_upto_region 17 with (fail)
  refine wp_region_list (WL.out ?_)
  refine g_val (D m2) ?_
  refine g_val (Nv .i64 k) ?_
  refine g_chg (L' := [(m2, rc q2 5 (3 + k), 56), (q2, vals .u8 5 (byt Y), 5)]) 19 #[D m2, Nv .i64 k] (.tuple #[Nv .u64 (M.tk Y 3 k), Nv .i64 0]) (Take_c (Y := Y) (t := 3) (bits := k) (by decide) (by omega) (by omega) m2 w10 [] w12 hO) ?_
  intro w13 hO
  refine g_val (.tuple #[Nv .u64 (M.tk Y 3 k), Nv .i64 0]) ?_
  refine g_val (Nv .u64 (M.tk Y 3 k)) ?_
  refine g_val (Nv .i64 0) ?_
  refine g_val (Nv .u64 (M.tk Y 3 k)) ?_
  refine g_val (Nv .i64 0) ?_
  refine g_nil ?_
  simp only [Act.put, List.setIfInBounds_toArray, List.set_cons_succ, List.set_cons_zero]
  go_upto_region 18 with (fail)
  refine wp_region_list (WL.out ?_)
  refine g_val (D m2) ?_
  refine g_val (Nv .i64 k) ?_
  refine g_val (Nv .i64 m) ?_ (B.sub_int (a := 32) (c := k) (d := m) (by omega) (by omega) w13)
  refine g_chg (L' := [(m2, rc q2 5 (3 + k + m), 56), (q2, vals .u8 5 (byt Y), 5)]) 19 #[D m2, Nv .i64 m] (.tuple #[Nv .u64 (M.tk Y (3 + k) m), Nv .i64 0]) (Take_c (Y := Y) (t := 3 + k) (bits := m) (by decide) (by omega) (by omega) m2 w10 [] w13 hO) ?_
  intro w14 hO
  refine g_val (.tuple #[Nv .u64 (M.tk Y (3 + k) m), Nv .i64 0]) ?_
  refine g_val (Nv .u64 (M.tk Y (3 + k) m)) ?_
  refine g_val (Nv .i64 0) ?_
  refine g_val (Nv .u64 (M.tk Y (3 + k) m)) ?_
  refine g_val (Nv .i64 0) ?_
  refine g_nil ?_
  simp only [Act.put, List.setIfInBounds_toArray, List.set_cons_succ, List.set_cons_zero]
  have HF := hide (HL3.out.trans (hO.low.mono HL3.out.size))
  clear hO
  go_upto_region 19 with (fail)
  refine wp_region_list (WL.out ?_)
  refine g_val (Nv .u64 (M.tk Y 3 k)) ?_
  refine g_val (Nv .u64 l) ?_
  refine g_val (.bool true) ?_ (B.eql_u64 (a := M.tk Y 3 k) (c := l) (b := true) (decide_eq_true Hlo.out) w14)
  refine g_val (.bool true) ?_
  refine g_val (Nv .u64 (M.tk Y (3 + k) m)) ?_
  refine g_val (Nv .u32 n) ?_
  refine g_val (Nv .u64 n) ?_ (B.c_u32_u64 (a := n) (d := n) rfl (by omega) w14)
  refine g_val (Nv .i64 k) ?_
  refine g_val (Nv .u64 k) ?_ (B.c_int_uint (a := k) (d := k) rfl (by omega) w14)
  refine g_val (Nv .u64 h) ?_ (B.shr_u64_uint (a := n) (s := k) (d := h) Hh.out.symm (by omega) w14)
  refine g_val (.bool true) ?_ (B.eql_u64 (a := M.tk Y (3 + k) m) (c := h) (b := true) (decide_eq_true Hhi.out) w14)
  refine g_val (.bool true) ?_
  refine g_val (.bool true) ?_
  refine g_val (Nv .i64 0) ?_
  refine g_val (.bool true) ?_ (B.eql_errno (a := 0) (c := 0) (b := true) (rfl) w14)
  refine g_val (.bool true) ?_
  refine g_val (.bool true) ?_
  refine g_val (Nv .i64 0) ?_
  refine g_val (.bool true) ?_ (B.eql_errno (a := 0) (c := 0) (b := true) (rfl) w14)
  refine g_val (.bool true) ?_
  refine g_val (.bool true) ?_
  refine g_nil ?_
  simp only [Act.put, List.setIfInBounds_toArray, List.set_cons_succ, List.set_cons_zero]
  go_wp2_with (fail)
  go_ret
  exact ⟨rfl, HF.out⟩
end W
end Go.Proofs.Ytacopggeidbnbaa

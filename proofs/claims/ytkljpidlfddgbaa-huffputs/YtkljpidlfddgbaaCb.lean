/- Put and Count. A Writer of less than 2^39 bits; no other condition. -/
import Derived.Test.YtkljpidlfddgbaaCa
namespace Go.Proofs.Ytkljpidlfddgbaa
set_option maxRecDepth 100000
open Go.RowKit Rg B

namespace W
theorem put_p {X b c : Nat} {p : Option Addr} (hX : X < 2 ^ c) (hb : b < 2) (hc : c < 2 ^ 40) (N : Nat) (u : World) (T : List Row) (w : World) (hO : Own u w ((N, wc p (op X c) c, 49) :: T)) :
    RetP 53 #[D N, Nv .u8 b] w fun v w' => v = .tuple #[] ∧ ∃ p' C, Own u w' ((N, wc p' (op (X + b * 2 ^ c) (c + 1)) (c + 1), 49) :: (C ++ T)) ∧ ∀ B, Chn B X (c / 2048) p → Chn (C ++ B) (X + b * 2 ^ c) ((c + 1) / 2048) p' :=
  (put_c hX hb hc N u T w hO).mono fun _ _ h => ⟨_, h.1, rfl, h.2⟩
/-- What holds at each jump of Put: k bits are put. -/
def PJ (u : World) (T : List Row) (N X c v bits : Nat) (p : Option Addr) (a' : Act) (w' : World) : Prop :=
  ∃ (k n m d Y : Nat) (p' : Option Addr) (C : List Row) (z3 z4 z5 z6 z7 z8 z9 z10 z11 z12 z13 z14 z15 z16 z17 z18 z19 z20 z21 z22 z23 z24 z25 z26 z27 z28 z29 z30 z31 z32 z33 : Value), a' = Fr [D N, Nv .u64 n, Nv .i64 m, z3, z4, z5, z6, z7, z8, z9, z10, z11, z12, z13, z14, z15, z16, z17, z18, z19, z20, z21, z22, z23, z24, z25, z26, z27, z28, z29, z30, z31, z32, z33] ∧ m + k = bits ∧ n = v / 2 ^ k ∧ d = c + k ∧ Y = X + v % 2 ^ k * 2 ^ c ∧ Own u w' ((N, wc p' (op Y d) d, 49) :: (C ++ T)) ∧ ∀ B, Chn B X (c / 2048) p → Chn (C ++ B) Y (d / 2048) p'
def pMu (a' : Act) (_ : World) : Nat := (intOf (a'.tmps.getD 2 undef)).toNat
set_option maxHeartbeats 4000000 in
theorem Put_c {X v c bits : Nat} {p : Option Addr} (hX : X < 2 ^ c) (hv : v < 2 ^ bits) (hb : bits ≤ 32) (hc : c < 2 ^ 39) (N : Nat) (u : World) (T : List Row) (w : World) (hO : Own u w ((N, wc p (op X c) c, 49) :: T)) :
    Calls Try.prog 40 #[D N, Nv .u64 v, Nv .i64 bits] w fun e w' => e = .returned (Nv .i64 0) ∧ ∃ p' C, Own u w' ((N, wc p' (op (X + v * 2 ^ c) (c + bits)) (c + bits), 49) :: (C ++ T)) ∧ ∀ B, Chn B X (c / 2048) p → Chn (C ++ B) (X + v * 2 ^ c) ((c + bits) / 2048) p' := by
  have hv64 : v < 18446744073709551616 := Nat.lt_of_lt_of_le hv (Nat.pow_le_pow_right (by decide) (show bits ≤ 64 by omega))
  have hdv : v / 2 ^ bits = 0 := Nat.div_eq_of_lt hv
  have Hst := hide (M.put_zero X v c)
  have Hal := hide (M.put_all (X := X) (c := c) hv)
  go_enter Try.func40, Try.ntmps40
  go_upto_region 0 with (fail)
  refine wp_region_list (WL.out ?_)
  refine g_val (Nv .i64 0) ?_
  refine g_nil ?_
  simp only [Act.put, List.setIfInBounds_toArray, List.set_cons_succ, List.set_cons_zero]
  go_wp2_with (fail)
  refine scope_jumps 0 (PJ u T N X c v bits p) pMu rfl ?_ ?_
  · clear hO hdv Hst
    rintro a' w' ⟨k, n, m, d, Y, p', C, z3, z4, z5, z6, z7, z8, z9, z10, z11, z12, z13, z14, z15, z16, z17, z18, z19, z20, z21, z22, z23, z24, z25, z26, z27, z28, z29, z30, z31, z32, z33, rfl, hm, hn, hd, hY, hO, hC⟩
    have hn64 : n < 18446744073709551616 := by rw [hn]; exact Nat.lt_of_le_of_lt (Nat.div_le_self ..) hv64
    have hYd : Y < 2 ^ d := by rw [hY, hd]; exact M.put_lt hX (M.mod_lt2 _ _)
    have hd40 : d < 2 ^ 40 := by omega
    have Hn := hide hn
    have HY := hide hY
    have HC := hide hC
    have Hd := hide hd
    clear hn hY hC hv64 hd
    by_cases hz : 0 < m
    · have hm2 : n % 2 < 2 := Nat.mod_lt _ (by decide)
      go_upto_region 3 with (fail)
      refine wp_region_list (WL.out ?_)
      refine g_val (Nv .i64 m) ?_
      refine g_val (.bool true) ?_ (B.gtr_int (a := m) (c := 0) (b := true) (decide_eq_true (by omega)) w')
      refine g_nil ?_
      simp only [Act.put, List.setIfInBounds_toArray, List.set_cons_succ, List.set_cons_zero]
      go_upto_region 4 with (fail)
      refine wp_region_list (WL.out ?_)
      refine g_val (D N) ?_
      refine g_val (Nv .u64 n) ?_
      refine g_val (Nv .u64 (n % 2)) ?_ (B.and_u64 (a := n) (c := 1) (d := n % 2) (M.and1 _) (by omega) (by omega) w')
      refine g_val (Nv .u8 (n % 2)) ?_ (B.c_u64_u8 (a := n % 2) (d := n % 2) rfl (by omega) w')
      refine g_any 53 #[D N, Nv .u8 (n % 2)] (put_p hYd hm2 hd40 N u (C ++ T) w' hO) ?_
      rintro _ w1 ⟨rfl, p2, C2, hO, hC2⟩
      replace hO : Own u w1 ((N, wc p2 (op (Y + n % 2 * 2 ^ d) (d + 1)) (d + 1), 49) :: (C2 ++ (C ++ T))) := hO
      refine g_nil ?_
      simp only [Act.put, List.setIfInBounds_toArray, List.set_cons_succ, List.set_cons_zero]
      go_upto_region 5 with (fail)
      refine wp_region_list (WL.out ?_)
      refine g_val (Nv .u64 n) ?_
      refine g_val (Nv .u64 (n / 2)) ?_ (B.shr_u64_uint (a := n) (s := 1) (d := n / 2) (by rw [Nat.pow_one]) (by omega) w1)
      refine g_val (Nv .u64 (n / 2)) ?_
      refine g_nil ?_
      simp only [Act.put, List.setIfInBounds_toArray, List.set_cons_succ, List.set_cons_zero]
      go_upto_region 6 with (fail)
      refine wp_region_list (WL.out ?_)
      refine g_val (Nv .i64 m) ?_
      refine g_val (Nv .i64 (m - 1)) ?_ (B.sub_int (a := m) (c := 1) (d := m - 1) (by omega) (by omega) w1)
      refine g_val (Nv .i64 (m - 1)) ?_
      refine g_nil ?_
      simp only [Act.put, List.setIfInBounds_toArray, List.set_cons_succ, List.set_cons_zero]
      have HO : Hid (Own u w1 ((N, wc p2 (op (Y + n % 2 * 2 ^ d) (d + 1)) (d + 1), 49) :: ((C2 ++ C) ++ T))) := hide (by rw [List.append_assoc]; exact hO)
      clear hO
      go_wp2_with (fail)
      go_step3
      refine ⟨rfl, ⟨k + 1, n / 2, m - 1, d + 1, Y + n % 2 * 2 ^ d, p2, C2 ++ C, _, _, _, _, _, _, _, _, _, _, _, _, _, _, _, _, _, _, _, _, _, _, _, _, _, _, _, _, _, _, _, rfl, by omega, by rw [Hn.out, M.div_div], by rw [Hd.out]; rfl, by rw [HY.out, Hn.out, Hd.out, M.put_step], HO.out, fun B hB => by rw [List.append_assoc]; exact hC2 _ (HC.out B hB)⟩, ?_⟩
      show (((m - 1 : Nat) : Int)).toNat < ((m : Nat) : Int).toNat
      omega
    · obtain rfl : m = 0 := by omega
      obtain rfl : k = bits := by omega
      go_upto_region 3 with (fail)
      refine wp_region_list (WL.out ?_)
      refine g_val (Nv .i64 0) ?_
      refine g_val (.bool false) ?_ (B.gtr_int (a := 0) (c := 0) (b := false) (decide_eq_false (by omega)) w')
      refine g_nil ?_
      simp only [Act.put, List.setIfInBounds_toArray, List.set_cons_succ, List.set_cons_zero]
      go_upto_region 7 with (fail)
      refine wp_region_list (WL.out ?_)
      refine g_val (Nv .i64 0) ?_
      refine g_nil ?_
      simp only [Act.put, List.setIfInBounds_toArray, List.set_cons_succ, List.set_cons_zero]
      have hF := Hd.out
      subst hF
      rw [HY.out, Hal.out] at hO HC
      have HO := hide hO
      clear hO
      go_wp2_with (fail)
      simp only [Exit.jump]
      go_ret
      exact ⟨rfl, _, _, HO.out, HC.out⟩
  · intro H
    go_upto_region 1 with (fail)
    refine wp_region_list (WL.out ?_)
    refine g_val (D N) ?_
    refine g_val (.bool false) ?_
    refine g_val (.bool false) ?_
    refine g_val (Nv .i64 bits) ?_
    refine g_val (.bool false) ?_ (B.lss_int (a := bits) (c := 0) (b := false) (decide_eq_false (by omega)) w)
    refine g_val (.bool false) ?_
    refine g_val (.bool false) ?_
    refine g_val (Nv .i64 bits) ?_
    refine g_val (.bool false) ?_ (B.gtr_int (a := bits) (c := 32) (b := false) (decide_eq_false (by omega)) w)
    refine g_val (.bool false) ?_
    refine g_val (.bool false) ?_
    refine g_val (Nv .u64 v) ?_
    refine g_val (Nv .i64 bits) ?_
    refine g_val (Nv .u64 (v / 2 ^ bits)) ?_ (B.shr_u64_int (a := v) (s := bits) (d := v / 2 ^ bits) rfl (by omega) w)
    refine g_val (.bool false) ?_ (B.neq_u64 (a := v / 2 ^ bits) (c := 0) (b := false) (decide_eq_false (by rw [hdv]; decide)) w)
    refine g_val (.bool false) ?_
    refine g_nil ?_
    simp only [Act.put, List.setIfInBounds_toArray, List.set_cons_succ, List.set_cons_zero]
    have HO := hide hO
    clear hO
    go_wp2_with (fail)
    go_step3
    rename_i hK
    refine hK _ _ (H _ _ ?_)
    exact ⟨0, v, bits, c, X, p, [], _, _, _, _, _, _, _, _, _, _, _, _, _, _, _, _, _, _, _, _, _, _, _, _, _, _, _, _, _, _, _, rfl, rfl, by rw [Nat.pow_zero, Nat.div_one], rfl, Hst.out.symm, HO.out, fun _ hB => hB⟩
set_option maxHeartbeats 1000000 in
theorem Put_neg {v : Nat} {b : Int} (hb : b < 0) (N : Nat) (w : World) : Ret 40 #[D N, Nv .u64 v, .int .i64 b] w (Nv .i64 1) := by
  go_enter Try.func40, Try.ntmps40
  have hO := Own.start w
  go_upto_region 0 with (fail)
  refine wp_region_list (WL.out ?_)
  refine g_val (Nv .i64 0) ?_
  refine g_nil ?_
  simp only [Act.put, List.setIfInBounds_toArray, List.set_cons_succ, List.set_cons_zero]
  go_wp2_with (fail)
  refine scope_jumps 0 (fun _ _ => False) pMu rfl (fun _ _ h => h.elim) ?_
  intro H
  clear H
  go_upto_region 1 with (fail)
  refine wp_region_list (WL.out ?_)
  refine g_val (D N) ?_
  refine g_val (.bool false) ?_
  refine g_val (.bool false) ?_
  refine g_val (.int .i64 b) ?_
  refine g_val (.bool true) ?_ (lssI_int (a := b) (c := 0) (decide_eq_true hb) w)
  refine g_val (.bool true) ?_
  refine g_val (.bool true) ?_
  refine g_skip ?_
  refine g_skip ?_
  refine g_val (.bool true) ?_
  refine g_val (.bool true) ?_
  refine g_skip ?_
  refine g_skip ?_
  refine g_skip ?_
  refine g_skip ?_
  refine g_val (.bool true) ?_
  refine g_nil ?_
  simp only [Act.put, List.setIfInBounds_toArray, List.set_cons_succ, List.set_cons_zero]
  go_upto_region 2 with (fail)
  refine wp_region_list (WL.out ?_)
  refine g_val (Nv .i64 1) ?_
  refine g_nil ?_
  simp only [Act.put, List.setIfInBounds_toArray, List.set_cons_succ, List.set_cons_zero]
  have HF := hide hO.low
  clear hO
  go_wp2_with (fail)
  simp only [Exit.jump]
  go_ret
  exact ⟨rfl, HF.out⟩
set_option maxHeartbeats 1000000 in
theorem Put_big {v : Nat} {b : Int} (hb : 32 < b) (N : Nat) (w : World) : Ret 40 #[D N, Nv .u64 v, .int .i64 b] w (Nv .i64 1) := by
  go_enter Try.func40, Try.ntmps40
  have hO := Own.start w
  go_upto_region 0 with (fail)
  refine wp_region_list (WL.out ?_)
  refine g_val (Nv .i64 0) ?_
  refine g_nil ?_
  simp only [Act.put, List.setIfInBounds_toArray, List.set_cons_succ, List.set_cons_zero]
  go_wp2_with (fail)
  refine scope_jumps 0 (fun _ _ => False) pMu rfl (fun _ _ h => h.elim) ?_
  intro H
  clear H
  go_upto_region 1 with (fail)
  refine wp_region_list (WL.out ?_)
  refine g_val (D N) ?_
  refine g_val (.bool false) ?_
  refine g_val (.bool false) ?_
  refine g_val (.int .i64 b) ?_
  refine g_val (.bool false) ?_ (lssI_int (a := b) (c := 0) (decide_eq_false (by omega)) w)
  refine g_val (.bool false) ?_
  refine g_val (.bool false) ?_
  refine g_val (.int .i64 b) ?_
  refine g_val (.bool true) ?_ (gtrI_int (a := b) (c := 32) (decide_eq_true hb) w)
  refine g_val (.bool true) ?_
  refine g_val (.bool true) ?_
  refine g_skip ?_
  refine g_skip ?_
  refine g_skip ?_
  refine g_skip ?_
  refine g_val (.bool true) ?_
  refine g_nil ?_
  simp only [Act.put, List.setIfInBounds_toArray, List.set_cons_succ, List.set_cons_zero]
  go_upto_region 2 with (fail)
  refine wp_region_list (WL.out ?_)
  refine g_val (Nv .i64 1) ?_
  refine g_nil ?_
  simp only [Act.put, List.setIfInBounds_toArray, List.set_cons_succ, List.set_cons_zero]
  have HF := hide hO.low
  clear hO
  go_wp2_with (fail)
  simp only [Exit.jump]
  go_ret
  exact ⟨rfl, HF.out⟩
set_option maxHeartbeats 1000000 in
theorem Put_wide {v : Nat} {b : Nat} (hb : b ≤ 32) (hv : 2 ^ b ≤ v) (N : Nat) (w : World) : Ret 40 #[D N, Nv .u64 v, Nv .i64 b] w (Nv .i64 1) := by
  go_enter Try.func40, Try.ntmps40
  have hO := Own.start w
  go_upto_region 0 with (fail)
  refine wp_region_list (WL.out ?_)
  refine g_val (Nv .i64 0) ?_
  refine g_nil ?_
  simp only [Act.put, List.setIfInBounds_toArray, List.set_cons_succ, List.set_cons_zero]
  go_wp2_with (fail)
  refine scope_jumps 0 (fun _ _ => False) pMu rfl (fun _ _ h => h.elim) ?_
  intro H
  clear H
  go_upto_region 1 with (fail)
  refine wp_region_list (WL.out ?_)
  refine g_val (D N) ?_
  refine g_val (.bool false) ?_
  refine g_val (.bool false) ?_
  refine g_val (Nv .i64 b) ?_
  refine g_val (.bool false) ?_ (B.lss_int (a := b) (c := 0) (b := false) (decide_eq_false (by omega)) w)
  refine g_val (.bool false) ?_
  refine g_val (.bool false) ?_
  refine g_val (Nv .i64 b) ?_
  refine g_val (.bool false) ?_ (B.gtr_int (a := b) (c := 32) (b := false) (decide_eq_false (by omega)) w)
  refine g_val (.bool false) ?_
  refine g_val (.bool false) ?_
  refine g_val (Nv .u64 v) ?_
  refine g_val (Nv .i64 b) ?_
  refine g_val (Nv .u64 (v / 2 ^ b)) ?_ (B.shr_u64_int (a := v) (s := b) (d := v / 2 ^ b) rfl (by omega) w)
  refine g_val (.bool true) ?_ (B.neq_u64 (a := v / 2 ^ b) (c := 0) (b := true) (decide_eq_true (Nat.pos_iff_ne_zero.1 (Nat.div_pos hv (Nat.two_pow_pos _)))) w)
  refine g_val (.bool true) ?_
  refine g_nil ?_
  simp only [Act.put, List.setIfInBounds_toArray, List.set_cons_succ, List.set_cons_zero]
  go_upto_region 2 with (fail)
  refine wp_region_list (WL.out ?_)
  refine g_val (Nv .i64 1) ?_
  refine g_nil ?_
  simp only [Act.put, List.setIfInBounds_toArray, List.set_cons_succ, List.set_cons_zero]
  have HF := hide hO.low
  clear hO
  go_wp2_with (fail)
  simp only [Exit.jump]
  go_ret
  exact ⟨rfl, HF.out⟩
/-- What Put refuses. -/
def Bad (v : Nat) (b : Int) : Prop := b < 0 ∨ 32 < b ∨ ∃ n : Nat, b = (n : Int) ∧ n ≤ 32 ∧ 2 ^ n ≤ v
theorem bad_or (v : Nat) (b : Int) : Bad v b ∨ ∃ n : Nat, b = (n : Int) ∧ n ≤ 32 ∧ v < 2 ^ n := by
  by_cases h1 : b < 0
  · exact .inl (.inl h1)
  · by_cases h2 : 32 < b
    · exact .inl (.inr (.inl h2))
    · by_cases h3 : 2 ^ b.toNat ≤ v
      · exact .inl (.inr (.inr ⟨b.toNat, by omega, by omega, h3⟩))
      · exact .inr ⟨b.toNat, by omega, by omega, by omega⟩
theorem Put_bad {v : Nat} {b : Int} (h : Bad v b) (N : Nat) (w : World) : Ret 40 #[D N, Nv .u64 v, .int .i64 b] w (Nv .i64 1) := by
  rcases h with h | h | ⟨n, rfl, h1, h2⟩
  · exact Put_neg h N w
  · exact Put_big h N w
  · exact Put_wide h1 h2 N w
theorem Count_c {f : Nat → Nat} {c : Nat} {p : Option Addr} (N : Nat) (w : World) (hB : Blk w N (wc p f c) 49) : Ret 26 #[D N] w (Nv .i64 c) := by
  go_enter Try.func26, Try.ntmps26
  go_upto_region 0 with (fail)
  refine wp_region_list (WL.out ?_)
  refine g_val (Nv .i64 0) ?_
  refine g_nil ?_
  simp only [Act.put, List.setIfInBounds_toArray, List.set_cons_succ, List.set_cons_zero]
  go_upto_region 1 with (fail)
  refine wp_region_list (WL.out ?_)
  refine g_val (D N) ?_
  refine g_val (.bool false) ?_
  refine g_nil ?_
  simp only [Act.put, List.setIfInBounds_toArray, List.set_cons_succ, List.set_cons_zero]
  go_upto_region 3 with (fail)
  refine wp_region_list (WL.out ?_)
  refine g_val (D N) ?_
  refine g_val (D N) ?_
  refine g_val (E N 257) ?_
  refine g_la (Nv .i64 c) ((hB.cell 257).trans (wc_c _ _ _)) agg_int ?_
  refine g_val (Nv .i64 c) ?_
  refine g_nil ?_
  simp only [Act.put, List.setIfInBounds_toArray, List.set_cons_succ, List.set_cons_zero]
  go_wp2_with (fail)
  go_ret
  exact ⟨rfl, Below.refl _ _⟩
end W
end Go.Proofs.Ytkljpidlfddgbaa

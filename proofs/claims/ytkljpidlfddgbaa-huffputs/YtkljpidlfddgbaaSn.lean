/- Take of a Code: the symbol whose word lies ahead, or the error that the document's own reader tells; the Reader is as it was then. Of no Code the error. No other condition but the number of bytes. -/
import Derived.Test.YtkljpidlfddgbaaSm
import Derived.Test.YtkljpidlfddgbaaSk
import Derived.Test.YtkljpidlfddgbaaCd
namespace Go.Proofs.Ytkljpidlfddgbaa
set_option maxRecDepth 100000
open Go.RowKit Rg B

open W
namespace B
theorem al_rd {ρ : Operand → Value} {o : Oper} (w : World) (ho : o.op = .alloc 92 := by rfl) : (execOp ρ o).run Try.prog w = .ok (.value (D w.heap.size)) (w.alloc (.cells #[.slice none 0 0, .int .i64 0] 92)) := by
  unfold execOp
  simp only [ho]
  kernel_rfl
theorem ltI_int {a c : Int} {b : Bool} (h : decide (a < c) = b) (w : World) {ρ : Operand → Value} {o : Oper} {x y : Operand} (ho : o.op = .binOp .lss 3 x y 3 := by rfl) (hx : ρ x = .int .i64 a := by kernel_rfl) (hy : ρ y = .int .i64 c := by kernel_rfl) : (execOp ρ o).run Try.prog w = .ok (.value (.bool b)) w := lssI_int h w ho hx hy
end B
namespace Q
open H
/-- What holds at each jump: k bits are taken, none of these is a word. -/
def KJ (u : World) (T : List Row) (K N q nb t Y : Nat) (l : Nat → Nat) (n : Nat) (C : Nat → Nat) (r : Nat × Nat × Nat) (a' : Act) (w' : World) : Prop :=
  ∃ (k N2 s : Nat) (ξ : Nat → Value), a' = Fr [D K, D N, ξ 2, ξ 3, ξ 4, ξ 5, D N2, Nv .i64 (hv Y t k), Nv .i64 (fs C k), Nv .i64 (sh C k), Nv .i64 k, ξ 11, ξ 12, ξ 13, ξ 14, ξ 15, ξ 16, ξ 17, ξ 18, ξ 19, ξ 20, ξ 21, ξ 22, ξ 23, ξ 24, ξ 25, ξ 26, ξ 27, ξ 28, ξ 29, ξ 30, ξ 31, ξ 32, ξ 33, ξ 34, ξ 35, ξ 36, ξ 37, ξ 38, ξ 39, ξ 40, ξ 41, ξ 42, ξ 43, ξ 44, ξ 45, ξ 46, ξ 47, ξ 48, ξ 49, ξ 50, ξ 51, ξ 52, ξ 53, ξ 54, ξ 55, ξ 56, ξ 57, ξ 58, ξ 59, ξ 60, ξ 61, ξ 62, ξ 63, ξ 64, ξ 65, ξ 66, ξ 67, ξ 68, ξ 69, ξ 70, ξ 71, ξ 72, ξ 73, ξ 74, ξ 75, ξ 76, ξ 77, ξ 78, ξ 79, ξ 80, ξ 81, ξ 82, ξ 83, ξ 84, ξ 85, ξ 86, ξ 87, ξ 88, ξ 89, ξ 90, ξ 91, ξ 92] ∧ k ≤ 15 ∧ s = t + k ∧ s ≤ 8 * nb ∧ fs C k + C k ≤ hv Y t k ∧ (∀ i, i < n → 1 ≤ l i → l i ≤ k → word l n i ≠ hv Y t (l i)) ∧ (k = 0 ∨ many l n ≠ 1) ∧ r = tko l n (8 * nb) Y t (15 - k) k ∧ Own u w' ((N2, rc q nb s, 92) :: (q, vals .u8 nb (byt Y), 5) :: (N, rc q nb t, 92) :: T)
def kMu (a' : Act) (_ : World) : Nat := 16 - (intOf (a'.tmps.getD 10 undef)).toNat
theorem kj_perm {a b c : Row} {T : List Row} : (a :: b :: (T ++ [c])).Perm (c :: b :: a :: T) :=
  (List.perm_append_comm (l₁ := a :: b :: T) (l₂ := [c])).trans ((List.Perm.swap b a T).cons c)
theorem kj_perm2 {a b c : Row} {T : List Row} : (c :: b :: a :: T).Perm (a :: b :: c :: T) :=
  ((List.Perm.swap b c (a :: T))).trans (((List.Perm.swap a c T).cons b).trans (List.Perm.swap a b (c :: T)))
theorem fs_lt {C : Nat → Nat} {k v : Nat} (h : fs C k + C k ≤ v) : fs C (k + 1) ≤ 2 * v := by rw [fs]; omega
set_option maxHeartbeats 8000000 in
theorem PTake_c {z : Nat → Int} {n K q nb t Y : Nat} (hok : okW z n) (hn : nb ≤ 2 ^ 38) (ht : t ≤ 8 * nb) (N : Nat) (u : World) (T : List Row) (w : World) (hC : Cde z n u K) (hO : Own u w ((N, rc q nb t, 92) :: (q, vals .u8 nb (byt Y), 5) :: T)) (r : Nat × Nat × Nat) (hr : r = tko (ln z) n (8 * nb) Y t 15 0) :
    RetP 29 #[D K, D N] w fun v w' => v = .tuple #[Nv .i64 r.1, Nv .i64 r.2.1] ∧ Own u w' ((N, rc q nb (if r.2.1 = 0 then t + r.2.2 else t), 92) :: (q, vals .u8 nb (byt Y), 5) :: T) := by
  obtain ⟨qw, ql, d, qo, dd, C, hBK, hf, hBW, hBL, hBO⟩ := hC.parts hok
  have hC9 : C = nw9 (ln z) n := hf
  have h15 := ln_le z
  have hn1 := hok.1
  have hpos : 0 < many (ln z) n := Nat.pos_of_ne_zero hok.2.2.1
  have hmn : many (ln z) n ≤ n := many_le
  obtain ⟨l, hl⟩ : ∃ l, ln z = l := ⟨_, rfl⟩
  have Hhf := hide (one_half hok).1
  have Hcnt : Hid (many (ln z) n = 1 → 0 < nw9 (ln z) n 1) := hide (one_cnt hok)
  have Hfl := hide (one_half hok).2
  rw [hl] at hC9 h15 hpos hmn Hhf Hfl Hcnt hBO hBK hr
  have hCle : ∀ i, C i ≤ 1000 := fun i => by rw [hC9]; exact Nat.le_trans nw9_le hn1
  have hC0 : C 0 = 0 := by rw [hC9]; exact nw9_zero
  obtain ⟨m, hm⟩ : ∃ m, many l n = m := ⟨_, rfl⟩
  rw [hm] at hpos hmn hBO hBK
  have HC9 := hide hC9
  have Hm := hide hm
  have Hr := hide hr
  have HC0 := hide hC0
  clear hf hC hok hr hBW hBL hC9 hl hm hC0
  go_enter Try.func29, Try.ntmps29
  go_upto_region 0 with (fail)
  refine wp_region_list (WL.out ?_)
  refine g_val (Nv .i64 0) ?_
  refine g_val (Nv .i64 0) ?_
  refine g_nil ?_
  simp only [Act.put, List.setIfInBounds_toArray, List.set_cons_succ, List.set_cons_zero]
  go_wp2_with (fail)
  refine scope_jumps 0 (KJ u T K N q nb t Y l n C r) kMu rfl ?_ ?_
  · clear hO Hr
    rintro a' w' ⟨k, N2, s, ξ, rfl, hk, hs, hs8, hfs, hno, hone, hr, hO⟩
    have hk15 : k < 15 := by
      rcases Nat.lt_or_eq_of_le hk with h | h
      · exact h
      · subst h
        rcases hone with h0 | h0
        · exact absurd h0 (by decide)
        · exact (tk_full h15 (Hfl.out h0) hno).elim
    have hhv := hv_lt Y t (k + 1)
    have hpw : 2 ^ (k + 1) ≤ 2 ^ 15 := Nat.pow_le_pow_right (by decide) (by omega)
    have hbt : Y / 2 ^ (t + k) % 2 < 2 := Nat.mod_lt _ (by decide)
    have hsh := sh_le hCle (k + 1)
    have hck := hCle k
    have hfk := fs_lt hfs
    have hhk := hv_lt Y t k
    have hpk : 2 ^ k ≤ 2 ^ 15 := Nat.pow_le_pow_right (by decide) (by omega)
    have hfb : fs C k + C k < 32768 := by omega
    clear hhk hpk
    obtain ⟨f, hf⟩ : ∃ f, 15 - k = f + 1 := ⟨15 - k - 1, by omega⟩
    rw [hf] at hr
    have Hno := hide hno
    have Hone := hide hone
    have Hfs := hide hfs
    have Hr := hide hr
    have Hf := hide hf
    have Hs := hide hs
    clear hno hone hfs hr hf
    by_cases hlt : 8 * nb < s + 1
    · have hres : Hid (r = (0, 120, k)) := hide (by rw [Hr.out]; exact tko_short (by omega))
      have hB := hO.row 0 rfl
      go_upto_region 5 with (fail)
      refine wp_region_list (WL.out ?_)
      refine g_call hO 42 #[D N2, Nv .i64 1] (.tuple #[Nv .u64 0, Nv .i64 120]) (Take_more (b := 1) (by decide) hlt (by omega) (by omega) N2 w' hB) ?_
      intro w1 hb24 hO
      refine g_val (.tuple #[Nv .u64 0, Nv .i64 120]) ?_
      refine g_val (Nv .u64 0) ?_
      refine g_val (Nv .i64 120) ?_
      refine g_val (Nv .u64 0) ?_
      refine g_val (Nv .i64 120) ?_
      refine g_nil ?_
      simp only [Act.put, List.setIfInBounds_toArray, List.set_cons_succ, List.set_cons_zero]
      go_upto_region 6 with (fail)
      refine wp_region_list (WL.out ?_)
      refine g_val (Nv .i64 120) ?_
      refine g_val (.bool true) ?_ (B.neq_errno (a := 120) (c := 0) (b := true) (decide_eq_true (by decide)) w1)
      refine g_nil ?_
      simp only [Act.put, List.setIfInBounds_toArray, List.set_cons_succ, List.set_cons_zero]
      go_upto_region 7 with (fail)
      refine wp_region_list (WL.out ?_)
      refine g_val (Nv .i64 120) ?_
      refine g_val (Nv .i64 0) ?_
      refine g_val (Nv .i64 120) ?_
      refine g_nil ?_
      simp only [Act.put, List.setIfInBounds_toArray, List.set_cons_succ, List.set_cons_zero]
      have HO : Hid (Own u w1 ((N, rc q nb t, 92) :: (q, vals .u8 nb (byt Y), 5) :: T)) := hide ((hO.perm kj_perm2).sub (List.Sublist.cons_cons _ (List.Sublist.cons_cons _ (List.sublist_cons_self _ _))))
      clear hO
      go_wp2_with (fail)
      simp only [Exit.jump]
      go_ret2
      refine ⟨_, rfl, ?_⟩
      rw [hres.out]
      exact ⟨rfl, HO.out⟩
    · have htk : M.tk Y s 1 = Y / 2 ^ (t + k) % 2 := by rw [Hs.out]; exact M.tk_one Y (t + k)
      obtain ⟨b, hb⟩ : ∃ b, Y / 2 ^ (t + k) % 2 = b := ⟨_, rfl⟩
      have hhv1 : hv Y t (k + 1) = 2 * hv Y t k + b := by rw [hv, hb]
      rw [hb] at htk hbt
      have Hb := hide hb
      clear hb
      have hc42 : ∀ w, Own u w ((N2, rc q nb s, 92) :: (q, vals .u8 nb (byt Y), 5) :: (N, rc q nb t, 92) :: T) → RetP 42 #[D N2, Nv .i64 1] w (fun x w' => x = .tuple #[Nv .u64 b, Nv .i64 0] ∧ Own u w' ((N2, rc q nb (s + 1), 92) :: (q, vals .u8 nb (byt Y), 5) :: (N, rc q nb t, 92) :: T)) := fun w hO => (Take_c (bits := 1) (by omega) (by decide) (by omega) N2 u _ w hO).mono fun e w' h => ⟨_, h.1, by rw [htk], h.2⟩
      have Hc42 := hide hc42
      clear hc42 htk
      go_upto_region 5 with (fail)
      refine wp_region_list (WL.out ?_)
      refine g_any 42 #[D N2, Nv .i64 1] (Hc42.out w' hO) ?_
      rintro _ w1 ⟨rfl, hO⟩
      replace hO : Own u w1 ((N2, rc q nb (s + 1), 92) :: (q, vals .u8 nb (byt Y), 5) :: (N, rc q nb t, 92) :: T) := hO
      refine g_val (.tuple #[Nv .u64 b, Nv .i64 0]) ?_
      refine g_val (Nv .u64 b) ?_
      refine g_val (Nv .i64 0) ?_
      refine g_val (Nv .u64 b) ?_
      refine g_val (Nv .i64 0) ?_
      refine g_nil ?_
      simp only [Act.put, List.setIfInBounds_toArray, List.set_cons_succ, List.set_cons_zero]
      go_upto_region 6 with (fail)
      refine wp_region_list (WL.out ?_)
      refine g_val (Nv .i64 0) ?_
      refine g_val (.bool false) ?_ (B.neq_errno (a := 0) (c := 0) (b := false) (decide_eq_false (by decide)) w1)
      refine g_nil ?_
      simp only [Act.put, List.setIfInBounds_toArray, List.set_cons_succ, List.set_cons_zero]
      go_upto_region 8 with (fail)
      refine wp_region_list (WL.out ?_)
      refine g_val (Nv .i64 k) ?_
      refine g_val (Nv .i64 (k + 1)) ?_ (B.add_int (a := k) (c := 1) (d := k + 1) rfl (by omega) w1)
      refine g_val (Nv .i64 (k + 1)) ?_
      refine g_nil ?_
      simp only [Act.put, List.setIfInBounds_toArray, List.set_cons_succ, List.set_cons_zero]
      have hC1 : m = 1 → k = 0 ∧ ∀ i, C i ≤ 1 := fun h => ⟨by rcases Hone.out with h2 | h2; exact h2; exact absurd (Hm.out.trans h) h2, fun i => by rw [HC9.out]; have h3 := cw_le l n i (many l n); rw [Hm.out] at h3; unfold nw9; rw [Hm.out]; omega⟩
      have HC1 := hide hC1
      clear hC1
      by_cases hA : m = 1 ∧ b = 1
      · have hm1 := hA.1
        have hb1 := hA.2
        have hres : Hid (r = (0, 130, 1)) := hide (by
          rw [Hr.out]
          have h1 := HC1.out hm1
          have h2 := h1.2 (k + 1)
          have h3 : fs C (k + 1) = 0 := by rw [h1.1]; show 2 * (0 + C 0) = 0; rw [HC0.out]
          refine tko_one (by omega) (fd_no h15 (Nat.succ_pos k) ?_) ⟨h1.1, Hhf.out.1 (Hm.out.trans hm1)⟩
          rw [← HC9.out, h3]
          omega)
        go_upto_region 9 with (fail)
        refine wp_region_list (WL.out ?_)
        refine g_val (Nv .i64 (k + 1)) ?_
        refine g_val (.bool false) ?_ (B.gtr_int (a := k + 1) (c := 15) (b := false) (decide_eq_false (by omega)) w1)
        refine g_val (.bool false) ?_
        refine g_val (D K) ?_
        refine g_val (D K) ?_
        refine g_val (E K 2) ?_
        refine g_la (.slice (some ⟨qo, 0, none⟩) m (m + dd)) (((hBK.call hO.low).cell 2).trans cde_2) agg_si ?_
        refine g_val (Nv .i64 m) ?_
        refine g_val (.bool true) ?_ (B.eql_int (a := m) (c := 1) (b := true) (decide_eq_true hm1) w1)
        refine g_val (.bool true) ?_
        refine g_val (Nv .u64 b) ?_
        refine g_val (.bool true) ?_ (B.eql_u64 (a := b) (c := 1) (b := true) (decide_eq_true hb1) w1)
        refine g_val (.bool true) ?_
        refine g_val (.bool true) ?_
        refine g_nil ?_
        simp only [Act.put, List.setIfInBounds_toArray, List.set_cons_succ, List.set_cons_zero]
        go_upto_region 10 with (fail)
        refine wp_region_list (WL.out ?_)
        refine g_val (Nv .i64 0) ?_
        refine g_val (Nv .i64 130) ?_
        refine g_nil ?_
        simp only [Act.put, List.setIfInBounds_toArray, List.set_cons_succ, List.set_cons_zero]
        have HO : Hid (Own u w1 ((N, rc q nb t, 92) :: (q, vals .u8 nb (byt Y), 5) :: T)) := hide ((hO.perm kj_perm2).sub (List.Sublist.cons_cons _ (List.Sublist.cons_cons _ (List.sublist_cons_self _ _))))
        clear hO
        go_wp2_with (fail)
        simp only [Exit.jump]
        go_ret2
        refine ⟨_, rfl, ?_⟩
        rw [hres.out]
        exact ⟨rfl, HO.out⟩
      · have hcase : m ≠ 1 ∨ (m = 1 ∧ b ≠ 1) := by omega
        go_upto_region 9 with (fail)
        refine reg_ways (fun x : Value × Value × Value × Value => Fr [D K, D N, (ξ 2), (ξ 3), (ξ 4), (ξ 5), D N2, Nv .i64 (hv Y t k), Nv .i64 (fs C k), Nv .i64 (sh C k), Nv .i64 (k + 1), Nv .u64 b, Nv .i64 0, (ξ 13), (ξ 14), (ξ 15), (ξ 16), (ξ 17), (ξ 18), (ξ 19), (ξ 20), (ξ 21), (ξ 22), .tuple #[Nv .u64 b, Nv .i64 0], .tuple #[Nv .u64 b, Nv .i64 0], Nv .u64 b, Nv .i64 0, Nv .i64 0, .bool false, (ξ 29), Nv .i64 k, Nv .i64 (k + 1), Nv .i64 (k + 1), .bool false, .bool false, D K, D K, E K 2, .slice (some ⟨qo, 0, none⟩) m (m + dd), Nv .i64 m, x.1, x.2.1, x.2.2.1, x.2.2.2, .bool false, .bool false, (ξ 46), (ξ 47), (ξ 48), (ξ 49), (ξ 50), (ξ 51), (ξ 52), (ξ 53), (ξ 54), (ξ 55), (ξ 56), (ξ 57), (ξ 58), (ξ 59), (ξ 60), (ξ 61), (ξ 62), (ξ 63), (ξ 64), (ξ 65), (ξ 66), (ξ 67), (ξ 68), (ξ 69), (ξ 70), (ξ 71), (ξ 72), (ξ 73), (ξ 74), (ξ 75), (ξ 76), (ξ 77), (ξ 78), (ξ 79), (ξ 80), (ξ 81), (ξ 82), (ξ 83), (ξ 84), (ξ 85), (ξ 86), (ξ 87), (ξ 88), (ξ 89), (ξ 90), (ξ 91), (ξ 92)]) ?_ ?_
        · intro H
          rcases hcase with hm1 | ⟨hm1, hb1⟩
          · refine wp_region_list (WL.out ?_)
            refine g_val (Nv .i64 (k + 1)) ?_
            refine g_val (.bool false) ?_ (B.gtr_int (a := k + 1) (c := 15) (b := false) (decide_eq_false (by omega)) w1)
            refine g_val (.bool false) ?_
            refine g_val (D K) ?_
            refine g_val (D K) ?_
            refine g_val (E K 2) ?_
            refine g_la (.slice (some ⟨qo, 0, none⟩) m (m + dd)) (((hBK.call hO.low).cell 2).trans cde_2) agg_si ?_
            refine g_val (Nv .i64 m) ?_
            refine g_val (.bool false) ?_ (B.eql_int (a := m) (c := 1) (b := false) (decide_eq_false hm1) w1)
            refine g_val (.bool false) ?_
            refine g_skip ?_
            refine g_skip ?_
            refine g_val (.bool false) ?_
            refine g_val (.bool false) ?_
            refine g_nil ?_
            simp only [Act.put, List.setIfInBounds_toArray, List.set_cons_succ, List.set_cons_zero]
            exact H (.bool false, .bool false, U, U)
          · refine wp_region_list (WL.out ?_)
            refine g_val (Nv .i64 (k + 1)) ?_
            refine g_val (.bool false) ?_ (B.gtr_int (a := k + 1) (c := 15) (b := false) (decide_eq_false (by omega)) w1)
            refine g_val (.bool false) ?_
            refine g_val (D K) ?_
            refine g_val (D K) ?_
            refine g_val (E K 2) ?_
            refine g_la (.slice (some ⟨qo, 0, none⟩) m (m + dd)) (((hBK.call hO.low).cell 2).trans cde_2) agg_si ?_
            refine g_val (Nv .i64 m) ?_
            refine g_val (.bool true) ?_ (B.eql_int (a := m) (c := 1) (b := true) (decide_eq_true hm1) w1)
            refine g_val (.bool true) ?_
            refine g_val (Nv .u64 b) ?_
            refine g_val (.bool false) ?_ (B.eql_u64 (a := b) (c := 1) (b := false) (decide_eq_false hb1) w1)
            refine g_val (.bool false) ?_
            refine g_val (.bool false) ?_
            refine g_nil ?_
            simp only [Act.put, List.setIfInBounds_toArray, List.set_cons_succ, List.set_cons_zero]
            exact H (.bool true, .bool true, Nv .u64 b, .bool false)
        rintro ⟨x40, x41, x42, x43⟩
        dsimp only
        go_upto_region 11 with (fail)
        refine wp_region_list (WL.out ?_)
        refine g_val (Nv .i64 (hv Y t k)) ?_
        refine g_val (Nv .i64 (2 * hv Y t k)) ?_ (B.mul_int (a := 2) (c := hv Y t k) (d := 2 * hv Y t k) rfl (by omega) w1)
        refine g_val (Nv .u64 b) ?_
        refine g_val (Nv .i64 b) ?_ (B.c_u64_int (a := b) (d := b) rfl (by omega) w1)
        refine g_val (Nv .i64 (hv Y t (k + 1))) ?_ (B.add_int (a := 2 * hv Y t k) (c := b) (d := hv Y t (k + 1)) hhv1.symm (by omega) w1)
        refine g_val (Nv .i64 (hv Y t (k + 1))) ?_
        refine g_nil ?_
        simp only [Act.put, List.setIfInBounds_toArray, List.set_cons_succ, List.set_cons_zero]
        go_upto_region 12 with (fail)
        refine wp_region_list (WL.out ?_)
        refine g_val (Nv .i64 (fs C k)) ?_
        refine g_val (D K) ?_
        refine g_val (Nv .i64 (k + 1)) ?_
        refine g_val (Nv .i64 k) ?_ (B.sub_int (a := k + 1) (c := 1) (d := k) (by omega) (by omega) w1)
        refine g_val (D K) ?_
        refine g_val (E K 3) ?_
        refine g_val (E K (3 + k)) ?_ (b_ia16 (by omega) w1)
        refine g_la (Nv .i64 (C k)) (((hBK.call hO.low).cell (3 + k)).trans (cde_c (by omega))) agg_int ?_
        refine g_val (Nv .i64 ((fs C k) + (C k))) ?_ (B.add_int (a := fs C k) (c := C k) (d := (fs C k) + (C k)) rfl (by omega) w1)
        refine g_val (Nv .i64 (fs C (k + 1))) ?_ (B.mul_int (a := 2) (c := (fs C k) + (C k)) (d := fs C (k + 1)) rfl (by omega) w1)
        refine g_val (Nv .i64 (fs C (k + 1))) ?_
        refine g_nil ?_
        simp only [Act.put, List.setIfInBounds_toArray, List.set_cons_succ, List.set_cons_zero]
        go_upto_region 13 with (fail)
        refine wp_region_list (WL.out ?_)
        refine g_val (Nv .i64 (sh C k)) ?_
        refine g_val (D K) ?_
        refine g_val (Nv .i64 (k + 1)) ?_
        refine g_val (Nv .i64 k) ?_ (B.sub_int (a := k + 1) (c := 1) (d := k) (by omega) (by omega) w1)
        refine g_val (D K) ?_
        refine g_val (E K 3) ?_
        refine g_val (E K (3 + k)) ?_ (b_ia16 (by omega) w1)
        refine g_la (Nv .i64 (C k)) (((hBK.call hO.low).cell (3 + k)).trans (cde_c (by omega))) agg_int ?_
        refine g_val (Nv .i64 (sh C (k + 1))) ?_ (B.add_int (a := sh C k) (c := C k) (d := sh C (k + 1)) rfl (by omega) w1)
        refine g_val (Nv .i64 (sh C (k + 1))) ?_
        refine g_nil ?_
        simp only [Act.put, List.setIfInBounds_toArray, List.set_cons_succ, List.set_cons_zero]
        obtain ⟨a9, hat⟩ : ∃ a9, hv Y t (k + 1) = fs C (k + 1) + a9 := ⟨hv Y t (k + 1) - fs C (k + 1), by omega⟩
        go_upto_region 14 with (fail)
        refine wp_region_list (WL.out ?_)
        refine g_val (Nv .i64 (hv Y t (k + 1))) ?_
        refine g_val (Nv .i64 (fs C (k + 1))) ?_
        refine g_val (Nv .i64 a9) ?_ (B.sub_int (a := hv Y t (k + 1)) (c := fs C (k + 1)) (d := a9) (by omega) (by omega) w1)
        refine g_val (Nv .i64 a9) ?_
        refine g_nil ?_
        simp only [Act.put, List.setIfInBounds_toArray, List.set_cons_succ, List.set_cons_zero]
        have hcle1 := hCle (k + 1)
        by_cases hlt9 : a9 < C (k + 1)
        · have hj9 : ∃ j, j < many l n ∧ j = sh C (k + 1) + a9 ∧ l (og l n j) = k + 1 ∧ word l n (og l n j) = fs C (k + 1) + a9 := by rw [HC9.out] at hlt9 ⊢; exact tk_found h15 hlt9
          rw [← hat] at hj9
          obtain ⟨j, hj, hj2, hj3, hj4⟩ := hj9
          have hres : Hid (r = (og l n j, 0, k + 1)) := hide (by rw [Hr.out]; exact tko_found (by omega) (by rw [← hj4]; exact fd_at h15 hj hj3))
          rw [Hm.out] at hj
          have Hj2 := hide hj2
          have hjs : j < 2 ^ 30 := by omega
          clear hj2 hj3 hj4
          go_upto_region 15 with (fail)
          refine wp_region_list (WL.out ?_)
          refine g_val (Nv .i64 a9) ?_
          refine g_val (D K) ?_
          refine g_val (Nv .i64 (k + 1)) ?_
          refine g_val (D K) ?_
          refine g_val (E K 3) ?_
          refine g_val (E K (3 + (k + 1))) ?_ (b_ia16 (by omega) w1)
          refine g_la (Nv .i64 (C (k + 1))) (((hBK.call hO.low).cell (3 + (k + 1))).trans (cde_c (by omega))) agg_int ?_
          refine g_val (.bool true) ?_ (B.lss_int (a := a9) (c := C (k + 1)) (b := true) (decide_eq_true hlt9) w1)
          refine g_nil ?_
          simp only [Act.put, List.setIfInBounds_toArray, List.set_cons_succ, List.set_cons_zero]
          go_upto_region 16 with (fail)
          refine wp_region_list (WL.out ?_)
          refine g_val (D N) ?_
          refine g_ld hO 0 rfl Try.underlying92 ?_
          refine g_val (D N) ?_
          refine g_st hO 2 (e := rc q nb (s + 1)) rfl (rc_fit _ _ _) ?_
          intro w2 hO
          replace hO : Own u w2 ((N2, rc q nb (s + 1), 92) :: (q, vals .u8 nb (byt Y), 5) :: (N, rc q nb (s + 1), 92) :: T) := hO
          refine g_nil ?_
          simp only [Act.put, List.setIfInBounds_toArray, List.set_cons_succ, List.set_cons_zero]
          go_upto_region 17 with (fail)
          refine wp_region_list (WL.out ?_)
          refine g_val (D K) ?_
          refine g_val (D K) ?_
          refine g_val (E K 2) ?_
          refine g_la (.slice (some ⟨qo, 0, none⟩) m (m + dd)) (((hBK.call hO.low).cell 2).trans cde_2) agg_si ?_
          refine g_val (Nv .i64 (sh C (k + 1))) ?_
          refine g_val (Nv .i64 a9) ?_
          refine g_val (Nv .i64 j) ?_ (B.add_int (a := sh C (k + 1)) (c := a9) (d := j) Hj2.out.symm (by omega) w2)
          refine g_val (E qo j) ?_ (b_isq (n := m) (c := m + dd) hj Try.underlying25 sz_int w2)
          refine g_la (Nv .i64 (og l n j)) (((hBO.call hO.low).cell j).trans (cI_get (by omega) _ hj)) agg_int ?_
          refine g_val (Nv .i64 (og l n j)) ?_
          refine g_val (Nv .i64 0) ?_
          refine g_nil ?_
          simp only [Act.put, List.setIfInBounds_toArray, List.set_cons_succ, List.set_cons_zero]
          have HO : Hid (Own u w2 ((N, rc q nb (t + (k + 1)), 92) :: (q, vals .u8 nb (byt Y), 5) :: T)) := hide (by rw [← Nat.add_assoc, ← Hs.out]; exact (hO.perm kj_perm2).sub (List.Sublist.cons_cons _ (List.Sublist.cons_cons _ (List.sublist_cons_self _ _))))
          clear hO
          go_wp2_with (fail)
          simp only [Exit.jump]
          go_ret2
          refine ⟨_, rfl, ?_⟩
          rw [hres.out]
          exact ⟨rfl, HO.out⟩
        · have hm2 : m ≠ 1 := fun h => by
            have h1 := HC1.out h
            have h2 := Hcnt.out (Hm.out.trans h)
            rw [← HC9.out] at h2
            have h3 := h1.1
            subst h3
            have h4 : hv Y t 0 = 0 := rfl
            have h5 : 0 < C (0 + 1) := h2
            rw [h4] at hhv1
            have h6 : b = 0 := by omega
            rw [hat] at hhv1
            omega
          have hge : fs C (k + 1) + C (k + 1) ≤ hv Y t (k + 1) := by omega
          have hge9 := hge
          rw [HC9.out] at hge9
          have Hr2 : Hid (r = tko l n (8 * nb) Y t (15 - (k + 1)) (k + 1)) := hide (by rw [Hr.out, show 15 - (k + 1) = f by have := Hf.out; omega]; exact tko_next (by omega) (fd_no h15 (Nat.succ_pos k) hge9) (fun h => hm2 (Hm.out.symm.trans (Hhf.out.2 h.2))))
          have Hno2 : Hid (∀ i, i < n → 1 ≤ l i → l i ≤ k + 1 → word l n i ≠ hv Y t (l i)) := hide fun i hi h1 h2 => by
            rcases Nat.lt_or_eq_of_le h2 with h | h
            · exact Hno.out i hi h1 (by omega)
            · exact tk_none h15 hi h1 (by rw [h]; exact hge9)
          have Hge := hide hge
          clear hge hge9
          go_upto_region 15 with (fail)
          refine wp_region_list (WL.out ?_)
          refine g_val (Nv .i64 a9) ?_
          refine g_val (D K) ?_
          refine g_val (Nv .i64 (k + 1)) ?_
          refine g_val (D K) ?_
          refine g_val (E K 3) ?_
          refine g_val (E K (3 + (k + 1))) ?_ (b_ia16 (by omega) w1)
          refine g_la (Nv .i64 (C (k + 1))) (((hBK.call hO.low).cell (3 + (k + 1))).trans (cde_c (by omega))) agg_int ?_
          refine g_val (.bool false) ?_ (B.lss_int (a := a9) (c := C (k + 1)) (b := false) (decide_eq_false hlt9) w1)
          refine g_nil ?_
          simp only [Act.put, List.setIfInBounds_toArray, List.set_cons_succ, List.set_cons_zero]
          have HO := hide hO
          clear hO
          go_wp2_with (fail)
          go_step3
          refine ⟨rfl, ⟨k + 1, N2, s + 1, (fun x9 => [D K, D N, (ξ 2), (ξ 3), (ξ 4), (ξ 5), D N2, Nv .i64 (hv Y t (k + 1)), Nv .i64 (fs C (k + 1)), Nv .i64 (sh C (k + 1)), Nv .i64 (k + 1), Nv .u64 b, Nv .i64 0, Nv .i64 a9, (ξ 14), (ξ 15), (ξ 16), (ξ 17), (ξ 18), (ξ 19), (ξ 20), (ξ 21), (ξ 22), .tuple #[Nv .u64 b, Nv .i64 0], .tuple #[Nv .u64 b, Nv .i64 0], Nv .u64 b, Nv .i64 0, Nv .i64 0, .bool false, (ξ 29), Nv .i64 k, Nv .i64 (k + 1), Nv .i64 (k + 1), .bool false, .bool false, D K, D K, E K 2, .slice (some ⟨qo, 0, none⟩) m (m + dd), Nv .i64 m, x40, x41, x42, x43, .bool false, .bool false, Nv .i64 (hv Y t k), Nv .i64 (2 * hv Y t k), Nv .u64 b, Nv .i64 b, Nv .i64 (hv Y t (k + 1)), Nv .i64 (fs C k), D K, Nv .i64 (k + 1), Nv .i64 k, D K, E K 3, E K (3 + k), Nv .i64 (C k), Nv .i64 ((fs C k) + (C k)), Nv .i64 (fs C (k + 1)), Nv .i64 (sh C k), D K, Nv .i64 (k + 1), Nv .i64 k, D K, E K 3, E K (3 + k), Nv .i64 (C k), Nv .i64 (sh C (k + 1)), Nv .i64 (hv Y t (k + 1)), Nv .i64 (fs C (k + 1)), Nv .i64 a9, Nv .i64 a9, D K, Nv .i64 (k + 1), D K, E K 3, E K (3 + (k + 1)), Nv .i64 (C (k + 1)), .bool false, (ξ 81), (ξ 82), (ξ 83), (ξ 84), (ξ 85), (ξ 86), (ξ 87), (ξ 88), (ξ 89), (ξ 90), (ξ 91), (ξ 92)].getD x9 undef), by kernel_rfl, by omega, by rw [Hs.out]; rfl, by omega, Hge.out, Hno2.out, Or.inr (by rw [Hm.out]; exact hm2), Hr2.out, HO.out⟩, ?_⟩
          show 16 - ((k + 1 : Nat) : Int).toNat < 16 - ((k : Nat) : Int).toNat
          omega
  · intro H
    go_upto_region 1 with (fail)
    refine wp_region_list (WL.out ?_)
    refine g_val (D K) ?_
    refine g_val (.bool false) ?_
    refine g_val (.bool false) ?_
    refine g_val (D N) ?_
    refine g_val (.bool false) ?_
    refine g_val (.bool false) ?_
    refine g_nil ?_
    simp only [Act.put, List.setIfInBounds_toArray, List.set_cons_succ, List.set_cons_zero]
    go_upto_region 3 with (fail)
    refine wp_region_list (WL.out ?_)
    refine g_val (D N) ?_
    refine g_val (D N) ?_
    refine g_ld hO 0 rfl Try.underlying92 ?_
    refine g_new hO D #[.slice none 0 0, .int .i64 0] 92 ⟨(fun _ => by kernel_rfl), by simp; exact ⟨rfl, rfl⟩⟩ (al_rd w) ?_
    intro n6 w1 _ hO
    replace hO : Own u w1 ((N, rc q nb t, 92) :: (q, vals .u8 nb (byt Y), 5) :: (T ++ [(n6, #[.slice none 0 0, .int .i64 0], 92)])) := hO
    replace hO := hO.perm kj_perm
    replace hO : Own u w1 ((n6, #[.slice none 0 0, .int .i64 0], 92) :: (q, vals .u8 nb (byt Y), 5) :: (N, rc q nb t, 92) :: T) := hO
    refine g_st hO 0 (e := rc q nb t) rfl (rc_fit _ _ _) ?_
    intro w2 hO
    replace hO : Own u w2 ((n6, rc q nb t, 92) :: (q, vals .u8 nb (byt Y), 5) :: (N, rc q nb t, 92) :: T) := hO
    refine g_nil ?_
    simp only [Act.put, List.setIfInBounds_toArray, List.set_cons_succ, List.set_cons_zero]
    go_upto_region 4 with (fail)
    refine wp_region_list (WL.out ?_)
    refine g_val (Nv .i64 0) ?_
    refine g_val (Nv .i64 0) ?_
    refine g_val (Nv .i64 0) ?_
    refine g_val (Nv .i64 0) ?_
    refine g_nil ?_
    simp only [Act.put, List.setIfInBounds_toArray, List.set_cons_succ, List.set_cons_zero]
    have HO := hide hO
    clear hO
    go_wp2_with (fail)
    go_step3
    rename_i hK
    refine hK _ _ (H _ _ ?_)
    exact ⟨0, n6, t, (fun x9 => [D K, D N, U, U, Nv .i64 0, Nv .i64 0, D n6, Nv .i64 0, Nv .i64 0, Nv .i64 0, Nv .i64 0, U, U, U, D K, .bool false, .bool false, D N, .bool false, .bool false, D N, D N, A (rc q nb t), U, U, U, U, U, U, U, U, U, U, U, U, U, U, U, U, U, U, U, U, U, U, U, U, U, U, U, U, U, U, U, U, U, U, U, U, U, U, U, U, U, U, U, U, U, U, U, U, U, U, U, U, U, U, U, U, U, U, U, U, U, U, U, U, U, U, U, U, U, U].getD x9 undef), by kernel_rfl, by decide, rfl, ht, by rw [HC0.out]; exact Nat.zero_le _, fun i _ h1 h2 => by omega, Or.inl rfl, Hr.out, HO.out⟩
set_option maxHeartbeats 4000000 in
theorem PTake_nil (N : Nat) (w : World) : Ret 29 #[.pointer none, D N] w (.tuple #[Nv .i64 0, Nv .i64 1]) := by
  go_enter Try.func29, Try.ntmps29
  have hO := Own.start w
  go_upto_region 0 with (fail)
  refine wp_region_list (WL.out ?_)
  refine g_val (Nv .i64 0) ?_
  refine g_val (Nv .i64 0) ?_
  refine g_nil ?_
  simp only [Act.put, List.setIfInBounds_toArray, List.set_cons_succ, List.set_cons_zero]
  go_wp2_with (fail)
  refine scope_jumps 0 (fun _ _ => False) kMu rfl (fun _ _ h => h.elim) ?_
  intro H
  clear H
  go_upto_region 1 with (fail)
  refine wp_region_list (WL.out ?_)
  refine g_val (.pointer none) ?_
  refine g_val (.bool true) ?_
  refine g_val (.bool true) ?_
  refine g_skip ?_
  refine g_skip ?_
  refine g_val (.bool true) ?_
  refine g_nil ?_
  simp only [Act.put, List.setIfInBounds_toArray, List.set_cons_succ, List.set_cons_zero]
  go_upto_region 2 with (fail)
  refine wp_region_list (WL.out ?_)
  refine g_val (Nv .i64 0) ?_
  refine g_val (Nv .i64 1) ?_
  refine g_nil ?_
  simp only [Act.put, List.setIfInBounds_toArray, List.set_cons_succ, List.set_cons_zero]
  have HF := hide hO.low
  clear hO
  go_wp2_with (fail)
  simp only [Exit.jump]
  go_ret2
  exact ⟨rfl, HF.out⟩
end Q
end Go.Proofs.Ytkljpidlfddgbaa

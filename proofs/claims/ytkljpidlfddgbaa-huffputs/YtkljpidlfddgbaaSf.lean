/- SortStableFunc of package slices. At most 2^40 places; no other condition. -/
import Derived.Test.YtkljpidlfddgbaaSe
namespace Go.Proofs.Ytkljpidlfddgbaa
set_option maxRecDepth 100000
open Go.RowKit Rg B

namespace Q
open H
theorem mgd_part {k f0 f f' : Nat → Nat} {a b n : Nat} (h1 : Bj 0 n f0 f) (h2 : Sb k f 0 n) (h : Mgd k f f' a b) (hb : b ≤ n) : Bj 0 n f0 f' ∧ Sb k f' 0 n := ⟨h1.trans (h.1.mono (Nat.zero_le _) hb), sb_of h.1 h2 h.2.2 (Nat.zero_le _) hb⟩
set_option maxHeartbeats 8000000 in
theorem Stab_c {N n c K : Nat} {g : FuncId} {lb : Array Value} {k : Nat → Nat} (eg : ∀ args w, (callFunc g args).run Try.prog w = .ok (.enter g args) w) (hN : n ≤ N) (hn : n ≤ 2 ^ 40) (q : Nat) (f0 : Nat → Nat) (hK : ∀ i, i < n → f0 i < K) (hs : Sb k f0 0 n) (u : World) (M : List Row) (hcmp : CmpOK g lb k K N n q u M) (w : World) (hO : Own u w ((q, cI N n f0, 3) :: M)) :
    RetP 56 #[.slice (some ⟨q, 0, none⟩) n c, Nv .i64 n, .func (.func g) #[] lb] w fun v w' => v = .tuple #[] ∧ ∃ f, Mgd k f0 f 0 n ∧ Own u w' ((q, cI N n f, 3) :: M) := by
  go_enter Try.func56, Try.ntmps56
  go_upto_region 0 with (fail)
  refine wp_region_list (WL.out ?_)
  refine g_val (Nv .i64 20) ?_
  refine g_nil ?_
  simp only [Act.put, List.setIfInBounds_toArray, List.set_cons_succ, List.set_cons_zero]
  go_upto_region 1 with (fail)
  refine wp_region_list (WL.out ?_)
  refine g_val (Nv .i64 20) ?_
  refine g_val (Nv .i64 0) ?_
  refine g_val (Nv .i64 20) ?_
  refine g_nil ?_
  simp only [Act.put, List.setIfInBounds_toArray, List.set_cons_succ, List.set_cons_zero]
  have HO := hide hO
  clear hO
  go_wp2_with (fail)
  go_loopw [7, 8] (fun x7 x8 wr => ∃ (p a : Nat) (f : Nat → Nat), x7 = .int .i64 (a : Int) ∧ x8 = .int .i64 ((a + 20 : Nat) : Int) ∧ a = p * 20 ∧ a ≤ n ∧ Bj 0 n f0 f ∧ Bs k f 20 0 a ∧ Sb k f 0 n ∧ Own u wr ((q, cI N n f, 3) :: M)) (fun x7 _ _ => n - (intOf x7).toNat)
  case atStart => exact ⟨0, 0, f0, rfl, rfl, rfl, Nat.zero_le _, Bj.refl .., bs_none _ _ _ _ rfl, hs, HO.out⟩
  case round =>
    clear HO
    obtain ⟨p, a, f, rfl, rfl, hap, han, hj, hbs, hsb, hO⟩ := hrel
    have hK1 := ck_of hj (Nat.le_refl _) hK
    by_cases hz : a + 20 ≤ n
    · have hz' := hz
      go_upto_region 2 with (fail)
      refine wp_region_list (WL.out ?_)
      refine g_val (Nv .i64 (a + 20)) ?_
      refine g_val (Nv .i64 n) ?_
      refine g_val (.bool true) ?_ (B.leq_int (a := a + 20) (c := n) (b := true) (decide_eq_true hz) wr)
      refine g_nil ?_
      simp only [Act.put, List.setIfInBounds_toArray, List.set_cons_succ, List.set_cons_zero]
      go_upto_region 3 with (fail)
      refine wp_region_list (WL.out ?_)
      refine g_val (.slice (some ⟨q, 0, none⟩) n c) ?_
      refine g_val (Nv .i64 a) ?_
      refine g_val (Nv .i64 (a + 20)) ?_
      refine g_val (.func (.func g) #[] lb) ?_
      refine g_any 59 #[.slice (some ⟨q, 0, none⟩) n c, Nv .i64 a, Nv .i64 (a + 20), .func (.func g) #[] lb] (InsS_c eg hN hn (show a ≤ a + 20 by omega) hz q f hK1 (hsb.mono (Nat.zero_le _) hz) u M hcmp wr hO) ?_
      rintro _ w1 ⟨rfl, f1, hm, hO⟩
      replace hO : Own u w1 ((q, cI N n f1, 3) :: M) := hO
      refine g_nil ?_
      simp only [Act.put, List.setIfInBounds_toArray, List.set_cons_succ, List.set_cons_zero]
      have hp := mgd_part hj hsb hm hz
      have hb1 := bs_step hbs hap hm.1 hm.2.1
      have HO := hide hO
      clear hO hm
      go_upto_region 4 with (fail)
      refine wp_region_list (WL.out ?_)
      refine g_val (Nv .i64 (a + 20)) ?_
      refine g_val (Nv .i64 (a + 20)) ?_
      refine g_nil ?_
      simp only [Act.put, List.setIfInBounds_toArray, List.set_cons_succ, List.set_cons_zero]
      go_upto_region 5 with (fail)
      refine wp_region_list (WL.out ?_)
      refine g_val (Nv .i64 (a + 20)) ?_
      refine g_val (Nv .i64 20) ?_
      refine g_val (Nv .i64 (a + 20 + 20)) ?_ (B.add_int (a := a + 20) (c := 20) (d := a + 20 + 20) rfl (by omega) w1)
      refine g_val (Nv .i64 (a + 20 + 20)) ?_
      refine g_nil ?_
      simp only [Act.put, List.setIfInBounds_toArray, List.set_cons_succ, List.set_cons_zero]
      go_wp2_with (fail)
      go_roundw
      case rel => exact ⟨p + 1, a + 20, f1, rfl, rfl, by omega, hz, hp.1, hb1, hp.2, HO.out⟩
      case measure => show n - ((a + 20 : Nat) : Int).toNat < n - ((a : Nat) : Int).toNat; omega
    · have hz' := hz
      go_upto_region 2 with (fail)
      refine wp_region_list (WL.out ?_)
      refine g_val (Nv .i64 (a + 20)) ?_
      refine g_val (Nv .i64 n) ?_
      refine g_val (.bool false) ?_ (B.leq_int (a := a + 20) (c := n) (b := false) (decide_eq_false hz) wr)
      refine g_nil ?_
      simp only [Act.put, List.setIfInBounds_toArray, List.set_cons_succ, List.set_cons_zero]
      go_upto_region 6 with (fail)
      refine wp_region_list (WL.out ?_)
      refine g_val (.slice (some ⟨q, 0, none⟩) n c) ?_
      refine g_val (Nv .i64 a) ?_
      refine g_val (Nv .i64 n) ?_
      refine g_val (.func (.func g) #[] lb) ?_
      refine g_any 59 #[.slice (some ⟨q, 0, none⟩) n c, Nv .i64 a, Nv .i64 n, .func (.func g) #[] lb] (InsS_c eg hN hn han (Nat.le_refl _) q f hK1 (hsb.mono (Nat.zero_le _) (Nat.le_refl _)) u M hcmp wr hO) ?_
      rintro _ w1 ⟨rfl, f1, hm, hO⟩
      replace hO : Own u w1 ((q, cI N n f1, 3) :: M) := hO
      refine g_nil ?_
      simp only [Act.put, List.setIfInBounds_toArray, List.set_cons_succ, List.set_cons_zero]
      have hp := mgd_part hj hsb hm (Nat.le_refl _)
      have hb1 := bs_step hbs hap hm.1 hm.2.1
      have HO := hide hO
      clear hO hm hj hbs hsb hK1
      go_wp2_with (fail)
      go_loopw [6] (fun x6 wr => ∃ (bz : Nat) (f : Nat → Nat), x6 = .int .i64 (bz : Int) ∧ 0 < bz ∧ bz ≤ 2 ^ 41 ∧ Bj 0 n f0 f ∧ Bs k f bz 0 n ∧ Sb k f 0 n ∧ Own u wr ((q, cI N n f, 3) :: M)) (fun x6 _ => n - (intOf x6).toNat)
      case atStart => exact ⟨20, f1, rfl, by decide, by decide, hp.1, hb1, hp.2, HO.out⟩
      case round =>
        clear HO hp hb1 hap han hz hz'
        obtain ⟨bz, f, rfl, hB0, hB1, hj, hbs, hsb, hO⟩ := hrel
        by_cases hz : bz < n
        · have hz' := hz
          go_upto_region 7 with (fail)
          refine wp_region_list (WL.out ?_)
          refine g_val (Nv .i64 bz) ?_
          refine g_val (Nv .i64 n) ?_
          refine g_val (.bool true) ?_ (B.lss_int (a := bz) (c := n) (b := true) (decide_eq_true hz) wr)
          refine g_nil ?_
          simp only [Act.put, List.setIfInBounds_toArray, List.set_cons_succ, List.set_cons_zero]
          go_upto_region 8 with (fail)
          refine wp_region_list (WL.out ?_)
          refine g_val (Nv .i64 bz) ?_
          refine g_val (Nv .i64 (2 * bz)) ?_ (B.mul_int (a := 2) (c := bz) (d := 2 * bz) rfl (by omega) wr)
          refine g_val (Nv .i64 0) ?_
          refine g_val (Nv .i64 (2 * bz)) ?_
          refine g_nil ?_
          simp only [Act.put, List.setIfInBounds_toArray, List.set_cons_succ, List.set_cons_zero]
          have HO := hide hO
          clear hO
          go_wp2_with (fail)
          go_loopw [7, 8] (fun x7 x8 wr => ∃ (p a : Nat) (f : Nat → Nat), x7 = .int .i64 (a : Int) ∧ x8 = .int .i64 ((a + 2 * bz : Nat) : Int) ∧ a = p * (2 * bz) ∧ a ≤ n ∧ Bj 0 n f0 f ∧ Bs k f (2 * bz) 0 a ∧ Bs k f bz a n ∧ Sb k f 0 n ∧ Own u wr ((q, cI N n f, 3) :: M)) (fun x7 _ _ => n - (intOf x7).toNat)
          case atStart => exact ⟨0, 0, f, rfl, by rw [Nat.zero_add], by rw [Nat.zero_mul], Nat.zero_le _, hj, bs_none _ _ _ _ rfl, hbs, hsb, HO.out⟩
          case round =>
            clear HO hj hbs hsb
            obtain ⟨p, a, f, rfl, rfl, hap, han, hj, hbs, hbr, hsb, hO⟩ := hrel
            have hK1 := ck_of hj (Nat.le_refl _) hK
            by_cases hy : a + 2 * bz ≤ n
            · have hy' := hy
              go_upto_region 9 with (fail)
              refine wp_region_list (WL.out ?_)
              refine g_val (Nv .i64 (a + 2 * bz)) ?_
              refine g_val (Nv .i64 n) ?_
              refine g_val (.bool true) ?_ (B.leq_int (a := a + 2 * bz) (c := n) (b := true) (decide_eq_true hy) wr)
              refine g_nil ?_
              simp only [Act.put, List.setIfInBounds_toArray, List.set_cons_succ, List.set_cons_zero]
              have hA := bs_lo hbr hap (show a + bz ≤ n by omega) (Nat.le_refl _)
              have hB2 := bs_hi hbr hap hy (Nat.le_refl _)
              go_upto_region 10 with (fail)
              refine wp_region_list (WL.out ?_)
              refine g_val (.slice (some ⟨q, 0, none⟩) n c) ?_
              refine g_val (Nv .i64 a) ?_
              refine g_val (Nv .i64 a) ?_
              refine g_val (Nv .i64 bz) ?_
              refine g_val (Nv .i64 (a + bz)) ?_ (B.add_int (a := a) (c := bz) (d := a + bz) rfl (by omega) wr)
              refine g_val (Nv .i64 (a + 2 * bz)) ?_
              refine g_val (.func (.func g) #[] lb) ?_
              refine g_any 60 #[.slice (some ⟨q, 0, none⟩) n c, Nv .i64 a, Nv .i64 (a + bz), Nv .i64 (a + 2 * bz), .func (.func g) #[] lb] (SymM_c eg hN hn q u M hcmp (2 * bz + 1) a (a + bz) (a + 2 * bz) (by omega) (by omega) (by omega) hy f hK1 hA hB2 (hsb.mono (Nat.zero_le _) hy) wr hO) ?_
              rintro _ w2 ⟨rfl, f1, hm, hO⟩
              replace hO : Own u w2 ((q, cI N n f1, 3) :: M) := hO
              refine g_nil ?_
              simp only [Act.put, List.setIfInBounds_toArray, List.set_cons_succ, List.set_cons_zero]
              have hp := mgd_part hj hsb hm hy
              have hb1 := bs_step hbs hap hm.1 hm.2.1
              have hb2 := bs_rest hbr hm.1 (Nat.le_refl _) (show a ≤ a + 2 * bz by omega)
              have HO := hide hO
              clear hO hm
              go_upto_region 11 with (fail)
              refine wp_region_list (WL.out ?_)
              refine g_val (Nv .i64 (a + 2 * bz)) ?_
              refine g_val (Nv .i64 (a + 2 * bz)) ?_
              refine g_nil ?_
              simp only [Act.put, List.setIfInBounds_toArray, List.set_cons_succ, List.set_cons_zero]
              go_upto_region 12 with (fail)
              refine wp_region_list (WL.out ?_)
              refine g_val (Nv .i64 (a + 2 * bz)) ?_
              refine g_val (Nv .i64 bz) ?_
              refine g_val (Nv .i64 (2 * bz)) ?_ (B.mul_int (a := 2) (c := bz) (d := 2 * bz) (by omega) (by omega) w2)
              refine g_val (Nv .i64 (a + 2 * bz + 2 * bz)) ?_ (B.add_int (a := a + 2 * bz) (c := 2 * bz) (d := a + 2 * bz + 2 * bz) rfl (by omega) w2)
              refine g_val (Nv .i64 (a + 2 * bz + 2 * bz)) ?_
              refine g_nil ?_
              simp only [Act.put, List.setIfInBounds_toArray, List.set_cons_succ, List.set_cons_zero]
              go_wp2_with (fail)
              go_roundw
              case rel => exact ⟨p + 1, a + 2 * bz, f1, rfl, rfl, by rw [Nat.add_mul, Nat.one_mul, ← hap], hy, hp.1, hb1, hb2, hp.2, HO.out⟩
              case measure => show n - ((a + 2 * bz : Nat) : Int).toNat < n - ((a : Nat) : Int).toNat; omega
            · have hy' := hy
              go_upto_region 9 with (fail)
              refine wp_region_list (WL.out ?_)
              refine g_val (Nv .i64 (a + 2 * bz)) ?_
              refine g_val (Nv .i64 n) ?_
              refine g_val (.bool false) ?_ (B.leq_int (a := a + 2 * bz) (c := n) (b := false) (decide_eq_false hy) wr)
              refine g_nil ?_
              simp only [Act.put, List.setIfInBounds_toArray, List.set_cons_succ, List.set_cons_zero]
              go_upto_region 13 with (fail)
              refine wp_region_list (WL.out ?_)
              refine g_val (Nv .i64 a) ?_
              refine g_val (Nv .i64 bz) ?_
              refine g_val (Nv .i64 (a + bz)) ?_ (B.add_int (a := a) (c := bz) (d := a + bz) rfl (by omega) wr)
              refine g_val (Nv .i64 (a + bz)) ?_
              refine g_nil ?_
              simp only [Act.put, List.setIfInBounds_toArray, List.set_cons_succ, List.set_cons_zero]
              have hlo := bs_lo (x := n) hbr hap (Nat.le_refl _)
              by_cases hx : a + bz < n
              · have hx' := hx
                go_upto_region 14 with (fail)
                refine wp_region_list (WL.out ?_)
                refine g_val (Nv .i64 (a + bz)) ?_
                refine g_val (Nv .i64 n) ?_
                refine g_val (.bool true) ?_ (B.lss_int (a := a + bz) (c := n) (b := true) (decide_eq_true hx) wr)
                refine g_nil ?_
                simp only [Act.put, List.setIfInBounds_toArray, List.set_cons_succ, List.set_cons_zero]
                have hA := bs_lo hbr hap (show a + bz ≤ n by omega) (Nat.le_refl _)
                have hB2 := bs_hi hbr hap (Nat.le_refl n) (by omega)
                go_upto_region 15 with (fail)
                refine wp_region_list (WL.out ?_)
                refine g_val (.slice (some ⟨q, 0, none⟩) n c) ?_
                refine g_val (Nv .i64 a) ?_
                refine g_val (Nv .i64 (a + bz)) ?_
                refine g_val (Nv .i64 n) ?_
                refine g_val (.func (.func g) #[] lb) ?_
                refine g_any 60 #[.slice (some ⟨q, 0, none⟩) n c, Nv .i64 a, Nv .i64 (a + bz), Nv .i64 n, .func (.func g) #[] lb] (SymM_c eg hN hn q u M hcmp (n + 1) a (a + bz) n (by omega) (by omega) hx (Nat.le_refl _) f hK1 hA hB2 (hsb.mono (Nat.zero_le _) (Nat.le_refl _)) wr hO) ?_
                rintro _ w2 ⟨rfl, f1, hm, hO⟩
                replace hO : Own u w2 ((q, cI N n f1, 3) :: M) := hO
                refine g_nil ?_
                simp only [Act.put, List.setIfInBounds_toArray, List.set_cons_succ, List.set_cons_zero]
                have hp := mgd_part hj hsb hm (Nat.le_refl _)
                have hb1 := bs_step hbs hap hm.1 hm.2.1
                have HO := hide hO
                clear hO
                go_upto_region 16 with (fail)
                refine wp_region_list (WL.out ?_)
                refine g_val (Nv .i64 bz) ?_
                refine g_val (Nv .i64 (2 * bz)) ?_ (B.mul_int (a := bz) (c := 2) (d := 2 * bz) (by omega) (by omega) w2)
                refine g_val (Nv .i64 (2 * bz)) ?_
                refine g_nil ?_
                simp only [Act.put, List.setIfInBounds_toArray, List.set_cons_succ, List.set_cons_zero]
                go_wp2_with (fail)
                go_roundw
                case rel => exact ⟨2 * bz, f1, rfl, by omega, by omega, hp.1, hb1, hp.2, HO.out⟩
                case measure => show n - ((2 * bz : Nat) : Int).toNat < n - ((bz : Nat) : Int).toNat; omega
              · have hx' := hx
                go_upto_region 14 with (fail)
                refine wp_region_list (WL.out ?_)
                refine g_val (Nv .i64 (a + bz)) ?_
                refine g_val (Nv .i64 n) ?_
                refine g_val (.bool false) ?_ (B.lss_int (a := a + bz) (c := n) (b := false) (decide_eq_false hx) wr)
                refine g_nil ?_
                simp only [Act.put, List.setIfInBounds_toArray, List.set_cons_succ, List.set_cons_zero]
                have hb1 := bs_step hbs hap (Bj.refl a n f) (hlo (by omega))
                have HO := hide hO
                clear hO
                go_upto_region 16 with (fail)
                refine wp_region_list (WL.out ?_)
                refine g_val (Nv .i64 bz) ?_
                refine g_val (Nv .i64 (2 * bz)) ?_ (B.mul_int (a := bz) (c := 2) (d := 2 * bz) (by omega) (by omega) wr)
                refine g_val (Nv .i64 (2 * bz)) ?_
                refine g_nil ?_
                simp only [Act.put, List.setIfInBounds_toArray, List.set_cons_succ, List.set_cons_zero]
                go_wp2_with (fail)
                go_roundw
                case rel => exact ⟨2 * bz, f, rfl, by omega, by omega, hj, hb1, hsb, HO.out⟩
                case measure => show n - ((2 * bz : Nat) : Int).toNat < n - ((bz : Nat) : Int).toNat; omega
        · have hz' := hz
          go_upto_region 7 with (fail)
          refine wp_region_list (WL.out ?_)
          refine g_val (Nv .i64 bz) ?_
          refine g_val (Nv .i64 n) ?_
          refine g_val (.bool false) ?_ (B.lss_int (a := bz) (c := n) (b := false) (decide_eq_false hz) wr)
          refine g_nil ?_
          simp only [Act.put, List.setIfInBounds_toArray, List.set_cons_succ, List.set_cons_zero]
          have HO := hide hO
          clear hO
          go_wp2_with (fail)
          go_end0
          exact ⟨_, rfl, rfl, f, ⟨hj, bs_all hbs (by omega), hsb⟩, HO.out⟩
set_option maxHeartbeats 4000000 in
theorem SortS_c {N n c K : Nat} {g : FuncId} {lb : Array Value} {k : Nat → Nat} (eg : ∀ args w, (callFunc g args).run Try.prog w = .ok (.enter g args) w) (hN : n ≤ N) (hn : n ≤ 2 ^ 40) (q : Nat) (f0 : Nat → Nat) (hK : ∀ i, i < n → f0 i < K) (hs : Sb k f0 0 n) (u : World) (M : List Row) (hcmp : CmpOK g lb k K N n q u M) (w : World) (hO : Own u w ((q, cI N n f0, 3) :: M)) :
    RetP 44 #[.slice (some ⟨q, 0, none⟩) n c, .func (.func g) #[] lb] w fun v w' => v = .tuple #[] ∧ ∃ f, Mgd k f0 f 0 n ∧ Own u w' ((q, cI N n f, 3) :: M) := by
  go_enter Try.func44, Try.ntmps44
  go_upto_region 0 with (fail)
  refine wp_region_list (WL.out ?_)
  refine g_val (.slice (some ⟨q, 0, none⟩) n c) ?_
  refine g_val (.slice (some ⟨q, 0, none⟩) n c) ?_
  refine g_val (Nv .i64 n) ?_
  refine g_val (.func (.func g) #[] lb) ?_
  refine g_any 56 #[.slice (some ⟨q, 0, none⟩) n c, Nv .i64 n, .func (.func g) #[] lb] (Stab_c eg hN hn q f0 hK hs u M hcmp w hO) ?_
  rintro _ w1 ⟨rfl, f1, hm, hO⟩
  replace hO : Own u w1 ((q, cI N n f1, 3) :: M) := hO
  refine g_nil ?_
  simp only [Act.put, List.setIfInBounds_toArray, List.set_cons_succ, List.set_cons_zero]
  have HO := hide hO
  clear hO
  go_wp2_with (fail)
  go_end0
  exact ⟨_, rfl, rfl, f1, hm, HO.out⟩
set_option maxHeartbeats 4000000 in
theorem InsN_c (fv : Value) (w : World) : Ret 59 #[.slice none 0 0, Nv .i64 0, Nv .i64 0, fv] w (.tuple #[]) := by
  go_enter Try.func59, Try.ntmps59
  have hO := Own.start w
  go_upto_region 0 with (fail)
  refine wp_region_list (WL.out ?_)
  refine g_val (Nv .i64 0) ?_
  refine g_val (Nv .i64 1) ?_ (B.add_int (a := 0) (c := 1) (d := 1) rfl (by omega) w)
  refine g_val (Nv .i64 1) ?_
  refine g_nil ?_
  simp only [Act.put, List.setIfInBounds_toArray, List.set_cons_succ, List.set_cons_zero]
  have HW := hide hO.low
  clear hO
  go_wp2_with (fail)
  refine wp_loop_rounds 1 ?_
  rw [rounds_succ]
  have hO := Own.start w
  clear HW
  go_upto_region 1 with (fail)
  refine wp_region_list (WL.out ?_)
  refine g_val (Nv .i64 1) ?_
  refine g_val (Nv .i64 0) ?_
  refine g_val (.bool false) ?_ (B.lss_int (a := 1) (c := 0) (b := false) (rfl) w)
  refine g_nil ?_
  simp only [Act.put, List.setIfInBounds_toArray, List.set_cons_succ, List.set_cons_zero]
  have HF := hide hO.low
  clear hO
  go_wp2_with (fail)
  go_end0
  exact ⟨rfl, HF.out⟩
set_option maxHeartbeats 4000000 in
theorem StabN_c (fv : Value) (w : World) : Ret 56 #[.slice none 0 0, Nv .i64 0, fv] w (.tuple #[]) := by
  go_enter Try.func56, Try.ntmps56
  have hO := Own.start w
  go_upto_region 0 with (fail)
  refine wp_region_list (WL.out ?_)
  refine g_val (Nv .i64 20) ?_
  refine g_nil ?_
  simp only [Act.put, List.setIfInBounds_toArray, List.set_cons_succ, List.set_cons_zero]
  go_upto_region 1 with (fail)
  refine wp_region_list (WL.out ?_)
  refine g_val (Nv .i64 20) ?_
  refine g_val (Nv .i64 0) ?_
  refine g_val (Nv .i64 20) ?_
  refine g_nil ?_
  simp only [Act.put, List.setIfInBounds_toArray, List.set_cons_succ, List.set_cons_zero]
  clear hO
  go_wp2_with (fail)
  refine wp_loop_rounds 1 ?_
  rw [rounds_succ]
  have hO := Own.start w
  go_upto_region 2 with (fail)
  refine wp_region_list (WL.out ?_)
  refine g_val (Nv .i64 20) ?_
  refine g_val (Nv .i64 0) ?_
  refine g_val (.bool false) ?_ (B.leq_int (a := 20) (c := 0) (b := false) (rfl) w)
  refine g_nil ?_
  simp only [Act.put, List.setIfInBounds_toArray, List.set_cons_succ, List.set_cons_zero]
  go_upto_region 6 with (fail)
  refine wp_region_list (WL.out ?_)
  refine g_val (.slice none 0 0) ?_
  refine g_val (Nv .i64 0) ?_
  refine g_val (Nv .i64 0) ?_
  refine g_val (fv) ?_
  refine g_call hO 59 #[.slice none 0 0, Nv .i64 0, Nv .i64 0, fv] (.tuple #[]) (InsN_c fv w) ?_
  intro w1 hb27 hO
  refine g_nil ?_
  simp only [Act.put, List.setIfInBounds_toArray, List.set_cons_succ, List.set_cons_zero]
  have HW := hide hO
  clear hO
  go_wp2_with (fail)
  refine wp_loop_rounds 1 ?_
  rw [rounds_succ]
  have hO := HW.out
  clear HW
  go_upto_region 7 with (fail)
  refine wp_region_list (WL.out ?_)
  refine g_val (Nv .i64 20) ?_
  refine g_val (Nv .i64 0) ?_
  refine g_val (.bool false) ?_ (B.lss_int (a := 20) (c := 0) (b := false) (rfl) w1)
  refine g_nil ?_
  simp only [Act.put, List.setIfInBounds_toArray, List.set_cons_succ, List.set_cons_zero]
  have HF := hide hO.low
  clear hO
  go_wp2_with (fail)
  go_end0
  exact ⟨rfl, HF.out⟩
set_option maxHeartbeats 4000000 in
theorem SortN_c (fv : Value) (w : World) : Ret 44 #[.slice none 0 0, fv] w (.tuple #[]) := by
  go_enter Try.func44, Try.ntmps44
  have hO := Own.start w
  go_upto_region 0 with (fail)
  refine wp_region_list (WL.out ?_)
  refine g_val (.slice none 0 0) ?_
  refine g_val (.slice none 0 0) ?_
  refine g_val (Nv .i64 0) ?_
  refine g_val (fv) ?_
  refine g_call hO 56 #[.slice none 0 0, Nv .i64 0, fv] (.tuple #[]) (StabN_c fv w) ?_
  intro w1 hb8 hO
  refine g_nil ?_
  simp only [Act.put, List.setIfInBounds_toArray, List.set_cons_succ, List.set_cons_zero]
  have HF := hide hO.low
  clear hO
  go_wp2_with (fail)
  go_end0
  exact ⟨rfl, HF.out⟩
end Q
end Go.Proofs.Ytkljpidlfddgbaa

/- Walks: Mul. -/
import Derived.Test.YtidhffaphbiapaaPg
namespace Go.Proofs.Ytidhffaphbiapaa
open F Go.RowKit

theorem lad_step (u s i a b c d : Nat) (K : Nat → Nat → Nat → Nat → Nat) (bit : Bool) (hbit : s.testBit i = bit) (a1 b1 c1 d1 x y S T E : Nat) (h1 : a1 = cond bit c a) (h2 : b1 = cond bit d b) (h3 : c1 = cond bit a c) (h4 : d1 = cond bit b d) (hx : x = mm (am c1 d1) (sm a1 b1)) (hy : y = mm (sm c1 d1) (am a1 b1)) (hS : S = mm (am a1 b1) (am a1 b1)) (hT : T = mm (sm a1 b1) (sm a1 b1)) (hE : E = sm S T) :
    nl pP 121665 u (nbits s (i + 1)) a b c d K = nl pP 121665 u (nbits s i) (cond bit (mm (am x y) (am x y)) (mm S T)) (cond bit (mm u (mm (sm x y) (sm x y))) (mm E (am S (mm 121665 E)))) (cond bit (mm S T) (mm (am x y) (am x y))) (cond bit (mm E (am S (mm 121665 E))) (mm u (mm (sm x y) (sm x y)))) K := by
  subst h1 h2 h3 h4 hx hy hS hT hE hbit
  rw [nl_step]
  simp only [nst, Num.force_eq]
  rfl
theorem cond_lt {b : Bool} {x y : Nat} (hx : x < pP) (hy : y < pP) : cond b x y < pP := by cases b; exact hy; exact hx
set_option maxRecDepth 100000 in
set_option maxHeartbeats 2000000 in
theorem mul_c9 (f g : Nat → Nat) (w : World) (hf : ∀ i, f i < 256) (hg : ∀ i, g i < 256) : Ret 9 #[.agg (vals .u8 32 f), .agg (vals .u8 32 g)] w (.agg (vals .u8 32 (byt (xm f g)))) := by
  go_enter Try.func9, Try.ntmps9
  go_upto_region 0 with (fail)
  refine mu0_region _ (fun _ _ _ _ _ h => h) w _ _ _ _ f g ?_
  intro n2 n3 n4 w1 hK gn2 Bn2 gn3 Bn3 gn4 Bn4 en2n3 en2n4 en3n4
  have hL := hK.below w _ (Nat.le_refl _) (Below.refl _ w)
  have s1 := hK.size
  go_upto_region 1 with (fail)
  refine mu1_region _ (fun _ _ _ _ _ h => h) w1 _ _ _ _ _ _ _ _ _ _ _ _ _ _ _ _ _ _ _ _ n2 n3 f g hf hg Bn2 (not_nil _) Bn3 (not_nil _) ?_
  intro n5 n6 w2 hK2 gn5 Bn5 gn6 Bn6 en5n6
  have C4 := hK2.keep _ _ _ (not_nil _) Bn4
  have hL2 := hK2.below w _ s1 hL
  have s2 := Nat.le_trans s1 hK2.size
  have q45 : n4 < n5 := Nat.lt_of_lt_of_le Bn4.lt gn5
  have q46 : n4 < n6 := Nat.lt_of_lt_of_le Bn4.lt gn6
  clear hK2 hL Bn2 Bn3 Bn4 hK gn2 gn3 gn5 gn6 en2n3 en2n4 en3n4
  go_upto_region 2 with (fail)
  refine mu2_region _ (fun _ _ _ _ _ h => h) w2 _ _ _ _ _ _ _ _ _ _ _ _ _ _ _ _ _ _ _ _ _ _ _ _ ?_
  intro n7 w3 hK3 gn7 Bn7
  have D4 := hK3.keep _ _ _ (not_nil _) C4
  have D5 := hK3.keep _ _ _ (not_nil _) Bn5
  have D6 := hK3.keep _ _ _ (not_nil _) Bn6
  have hL3 := hK3.below w _ s2 hL2
  have s3 := Nat.le_trans s2 hK3.size
  clear hK3 hL2 C4 Bn5 Bn6 gn7
  go_upto_region 3 with (fail)
  refine mu3_region _ (fun _ _ _ _ _ h => h) w3 _ _ _ _ _ _ _ _ _ _ _ _ _ _ _ _ _ _ _ _ _ _ _ _ _ _ n6 n7 (co g) D6 (not_nil _) Bn7 (not_nil _) ?_
  intro n8 n9 n10 n11 w4 hK4 gn8 Bn8 gn9 Bn9 gn10 Bn10 gn11 Bn11 e89 e810 e811 e910 e911 e1011
  have E4 := hK4.keep _ _ _ (not_nil _) D4
  have E5 := hK4.keep _ _ _ (not_nil _) D5
  have E6 := hK4.keep _ _ _ (not_nil _) D6
  have hL4 := hK4.below w _ s3 hL3
  have s4 := Nat.le_trans s3 hK4.size
  have q4 : n4 < w3.heap.size := D4.lt
  have q5 : n5 < w3.heap.size := D5.lt
  have q6 : n6 < w3.heap.size := D6.lt
  clear hK4 hL3 D4 D5 D6 Bn7
  go_wp2_with fail
  go_loopw [28] (fun i wr => ∃ k a b c d : Nat, k ≤ 255 ∧ i = .int .i64 k ∧ a < pP ∧ b < pP ∧ c < pP ∧ d < pP ∧ nl pP 121665 (co g) (nbits (sc f) (255 - k)) a b c d (fun a b _ _ => a * iN b % pP) = xm f g ∧ Blk wr n8 (arr 4 (limb a)) 32 ∧ Blk wr n9 (arr 4 (limb b)) 32 ∧ Blk wr n10 (arr 4 (limb c)) 32 ∧ Blk wr n11 (arr 4 (limb d)) 32 ∧ Blk wr n4 (vals .u8 32 fun _ => 0) 22 ∧ Blk wr n5 (vals .u8 32 (clb f)) 22 ∧ Blk wr n6 (arr 4 (limb (co g))) 32 ∧ Below w.heap.size w wr) (fun i _ => 255 - (intOf i).toNat)
  case atStart => exact ⟨0, 1, 0, co g, 1, by omega, rfl, one_lt, pP_pos', co_lt g, one_lt, rfl, Bn8, Bn9, Bn10, Bn11, E4, E5, E6, hL4⟩
  case round =>
    clear Bn8 Bn9 Bn10 Bn11 E4 E5 E6 hL4 s4
    obtain ⟨k, a, b, c, d, hk, rfl, ha, hb, hc, hd, hN, G8, G9, G10, G11, G4, G5, G6, hL5⟩ := hrel
    have s5 : w.heap.size ≤ wr.heap.size := hL5.size
    by_cases hlt : k < 255
    · have hlt' : (k : Int) < 255 := by omega
      obtain ⟨i, hi⟩ : ∃ i, i = 254 - k := ⟨_, rfl⟩
      have ki : IntKind.i64.wrap (254 - ((k : Nat) : Int)) = ((i : Nat) : Int) := by rw [wrap_i64_small' _ (by omega) (by omega)]; omega
      have hi5 : i < 255 := by omega
      rw [show 255 - k = i + 1 by omega] at hN
      go_upto_region 8 with (fail)
      refine mu8_region _ (fun _ _ _ _ _ h => h) wr _ _ _ _ _ _ _ _ _ _ _ _ _ _ _ _ _ _ _ _ _ _ _ _ _ _ _ _ _ _ _ _ _ _ n5 (clb f) k i (clb_lt f hf) hi5 ki G5 (not_nil _) ?_
      intro w5 hK5
      have hbit0 := sc_bit f hf i hi5
      generalize (clb f (i / 8) / 2 ^ (i % 8) % 2 == 1) = bit at hbit0 ⊢
      have P8 := hK5.keep _ _ _ (not_nil _) G8
      have P9 := hK5.keep _ _ _ (not_nil _) G9
      have P10 := hK5.keep _ _ _ (not_nil _) G10
      have P11 := hK5.keep _ _ _ (not_nil _) G11
      have P4 := hK5.keep _ _ _ (not_nil _) G4
      have P5 := hK5.keep _ _ _ (not_nil _) G5
      have P6 := hK5.keep _ _ _ (not_nil _) G6
      have hL6 := hK5.low _ _ (fun _ hx => by cases hx) s5 hL5
      have s6 := Nat.le_trans s5 hK5.size
      clear hK5 hL5 G8 G9 G10 G11 G4 G5 G6
      have hr : w3.heap.size ≤ w5.heap.size := Nat.le_of_lt (Nat.lt_of_le_of_lt gn8 P8.lt)
      go_upto_region 10 with (go_at_call 18; refine (change_c bit a b c d n10 n8 n11 n9 _ P10 P8 P11 P9 (Ne.symm e810) (Ne.symm e911) (Ne.symm e1011) (Ne.symm e811) e910 (Ne.symm e89)).mono ?_; rintro e w6 ⟨rfl, hK6, J10, J8, J11, J9⟩; dsimp only)
      have J4 := hK6.keep _ _ _ (by simp; omega) P4
      have J5 := hK6.keep _ _ _ (by simp; omega) P5
      have J6 := hK6.keep _ _ _ (by simp; omega) P6
      have hL7 := hK6.low _ _ (by intro x hx; simp at hx; omega) s6 hL6
      have s7 := Nat.le_trans s6 hK6.size
      clear hK6 hL6 P8 P9 P10 P11 P4 P5 P6
      obtain ⟨a1, ea1⟩ : ∃ x, x = cond bit c a := ⟨_, rfl⟩
      have ha1 : a1 < pP := by rw [ea1]; exact (cond_lt hc ha)
      obtain ⟨b1, eb1⟩ : ∃ x, x = cond bit d b := ⟨_, rfl⟩
      have hb1 : b1 < pP := by rw [eb1]; exact (cond_lt hd hb)
      obtain ⟨c1, ec1⟩ : ∃ x, x = cond bit a c := ⟨_, rfl⟩
      have hc1 : c1 < pP := by rw [ec1]; exact (cond_lt ha hc)
      obtain ⟨d1, ed1⟩ : ∃ x, x = cond bit b d := ⟨_, rfl⟩
      have hd1 : d1 < pP := by rw [ed1]; exact (cond_lt hb hd)
      rw [← ea1] at J8
      rw [← eb1] at J9
      rw [← ec1] at J10
      rw [← ed1] at J11
      refine mu10_region _ (fun _ _ _ _ _ h => h) w6 _ _ _ _ _ _ _ _ _ _ _ _ _ _ _ _ _ _ _ _ _ _ _ _ _ _ _ _ _ _ _ _ _ _ _ _ _ _ _ _ _ _ _ n8 n9 n10 n11 a1 b1 c1 d1 ha1 hb1 hc1 hd1 J8 (not_nil _) J9 (not_nil _) J10 (not_nil _) J11 (not_nil _) ?_
      intro n15 n16 w7 hK7 g15 B15 g16 B16 e1516
      obtain ⟨x, ex⟩ : ∃ x, x = mm (am c1 d1) (sm a1 b1) := ⟨_, rfl⟩
      obtain ⟨y, ey⟩ : ∃ x, x = mm (sm c1 d1) (am a1 b1) := ⟨_, rfl⟩
      obtain ⟨S, eS⟩ : ∃ x, x = mm (am a1 b1) (am a1 b1) := ⟨_, rfl⟩
      obtain ⟨T, eT⟩ : ∃ x, x = mm (sm a1 b1) (sm a1 b1) := ⟨_, rfl⟩
      obtain ⟨E, eE⟩ : ∃ x, x = sm S T := ⟨_, rfl⟩
      rw [← ex] at B15 ⊢
      rw [← ey] at B16 ⊢
      have hx : x < pP := by rw [ex]; exact mm_lt _ _
      have hy : y < pP := by rw [ey]; exact mm_lt _ _
      have hr7 : ∀ n, n < w6.heap.size → n < n15 ∧ n < n16 := fun n h => ⟨Nat.lt_of_lt_of_le h g15, Nat.lt_of_lt_of_le h g16⟩
      have t8 := hr7 n8 J8.lt
      have t9 := hr7 n9 J9.lt
      have t10 := hr7 n10 J10.lt
      have t11 := hr7 n11 J11.lt
      have t4 := hr7 n4 J4.lt
      have t5 := hr7 n5 J5.lt
      have t6 := hr7 n6 J6.lt
      have M8 := hK7.keep _ _ _ (not_nil _) J8
      have M9 := hK7.keep _ _ _ (not_nil _) J9
      have M10 := hK7.keep _ _ _ (not_nil _) J10
      have M11 := hK7.keep _ _ _ (not_nil _) J11
      have M4 := hK7.keep _ _ _ (not_nil _) J4
      have M5 := hK7.keep _ _ _ (not_nil _) J5
      have M6 := hK7.keep _ _ _ (not_nil _) J6
      have hL8 := hK7.low _ _ (fun _ hx => by cases hx) s7 hL7
      have s8 := Nat.le_trans s7 hK7.size
      clear hK7 hL7 J8 J9 J10 J11 J4 J5 J6 hr7 g15 g16
      go_upto_region 11 with (fail)
      refine mu11_region _ (fun _ _ _ _ _ h => h) w7 _ _ _ _ _ _ _ _ _ _ _ _ _ _ _ _ _ _ _ _ _ _ _ _ _ _ _ _ _ _ _ _ _ _ _ _ _ _ _ _ _ _ _ _ _ _ _ _ _ _ _ n8 n9 a1 b1 S T E ha1 hb1 eS eT eE M8 M9 e89 ?_
      intro w8 hK8 V8 V9
      have V10 := hK8.keep _ _ _ (by simp; omega) M10
      have V11 := hK8.keep _ _ _ (by simp; omega) M11
      have V4 := hK8.keep _ _ _ (by simp; omega) M4
      have V5 := hK8.keep _ _ _ (by simp; omega) M5
      have V6 := hK8.keep _ _ _ (by simp; omega) M6
      have V15 := hK8.keep _ _ _ (by simp; omega) B15
      have V16 := hK8.keep _ _ _ (by simp; omega) B16
      have hL9 := hK8.low _ _ (by intro x hx; simp at hx; omega) s8 hL8
      have s9 := Nat.le_trans s8 hK8.size
      clear hK8 hL8 M8 M9 M10 M11 M4 M5 M6 B15 B16
      go_upto_region 12 with (fail)
      refine mu12_region _ (fun _ _ _ _ _ h => h) w8 _ _ _ _ _ _ _ _ _ _ _ _ _ _ _ _ _ _ _ _ _ _ _ _ _ _ _ _ _ _ _ _ _ _ _ _ _ _ _ _ _ _ _ _ _ _ _ _ _ _ _ _ _ _ _ _ _ _ n6 n10 n11 n15 n16 x y (co g) c1 d1 hx hy (co_lt g) V6 (by simp; omega) V10 V11 V15 (by simp; omega) V16 (by simp; omega) e1011 ?_
      intro w9 hK9 W10 W11
      have W8 := hK9.keep _ _ _ (by simp; omega) V8
      have W9 := hK9.keep _ _ _ (by simp; omega) V9
      have W4 := hK9.keep _ _ _ (by simp; omega) V4
      have W5 := hK9.keep _ _ _ (by simp; omega) V5
      have W6 := hK9.keep _ _ _ (by simp; omega) V6
      have hL10 := hK9.low _ _ (by intro x hx; simp at hx; omega) s9 hL9
      have s10 := Nat.le_trans s9 hK9.size
      clear hK9 hL9 V8 V9 V10 V11 V4 V5 V6 V15 V16
      have hn := lad_step (co g) (sc f) i a b c d (fun a b _ _ => a * iN b % pP) bit hbit0 a1 b1 c1 d1 x y S T E ea1 eb1 ec1 ed1 ex ey eS eT eE
      rw [hN] at hn
      have hA : mm S T < pP := mm_lt _ _
      generalize mm S T = A at *
      have hB : mm E (am S (mm 121665 E)) < pP := mm_lt _ _
      generalize mm E (am S (mm 121665 E)) = B at *
      have hC : mm (am x y) (am x y) < pP := mm_lt _ _
      generalize mm (am x y) (am x y) = C at *
      have hD : mm (co g) (mm (sm x y) (sm x y)) < pP := mm_lt _ _
      generalize mm (co g) (mm (sm x y) (sm x y)) = D at *
      clear ea1 eb1 ec1 ed1 ex ey eS eT eE hx hy ha1 hb1 hc1 hd1 hbit0 hN ki
      go_upto_region 14 with (go_at_call 18; refine (change_c bit A B C D n10 n8 n11 n9 _ W10 W8 W11 W9 (Ne.symm e810) (Ne.symm e911) (Ne.symm e1011) (Ne.symm e811) e910 (Ne.symm e89)).mono ?_; rintro e w10 ⟨rfl, hK10, Y10, Y8, Y11, Y9⟩; dsimp only)
      have Y4 := hK10.keep _ _ _ (by simp; omega) W4
      have Y5 := hK10.keep _ _ _ (by simp; omega) W5
      have Y6 := hK10.keep _ _ _ (by simp; omega) W6
      have hL11 := hK10.low _ _ (by intro x hx; simp at hx; omega) s10 hL10
      have s11 := Nat.le_trans s10 hK10.size
      clear hK10 hL10 W8 W9 W10 W11 W4 W5 W6
      go_wp2_with fail
      go_roundw
      case rel => exact ⟨k + 1, cond bit C A, cond bit D B, cond bit A C, cond bit B D, by omega, by go_num, cond_lt hC hA, cond_lt hD hB, cond_lt hA hC, cond_lt hB hD, by rw [show 255 - (k + 1) = i by omega]; exact hn.symm, Y8, Y9, Y10, Y11, Y4, Y5, Y6, hL11⟩
      case measure => simp [intOf]; omega
    · have hk5 : k = 255 := by omega
      subst hk5
      have hN' : a * iN b % pP = xm f g := hN
      go_upto_region 15 with (fail)
      refine mu15_region _ (fun _ _ _ _ _ h => h) wr _ _ _ _ _ _ _ _ _ _ _ _ _ _ _ _ _ _ _ _ _ _ _ _ _ _ _ _ _ _ _ _ _ _ _ _ _ _ _ _ _ _ _ _ _ _ _ _ _ _ _ _ _ _ _ _ _ _ _ _ _ _ _ _ _ _ _ _ n4 n8 n9 a b ha hb G4 G8 (by simp; omega) G9 (by simp; omega) ?_
      rw [show mm a (iN b) = xm f g from hN']
      intro w5 hK5 P4
      go_wp2_with fail
      refine bodyPost_ret (v := .agg (vals .u8 32 (byt (xm f g)))) (results_cell_row Try.results9 _ _ n4 22 _ (0, 0) _ rfl P4 Try.underlying22 rfl (size_by _)) rfl ⟨rfl, ?_⟩
      exact hK5.low _ _ (by intro x hx; simp at hx; omega) s5 hL5
end Go.Proofs.Ytidhffaphbiapaa

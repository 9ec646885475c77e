/- Walks: the reference's Mul. Thirty-two bytes each; no other condition. -/
import Derived.Test.YtidhffaphbiapaaPp
namespace Go.Proofs.Ytidhffaphbiapaa
open F Go.RowKit

theorem clr7 (n : Nat) (h : n < 256) : bits .andNot .u8 (n : Int) 7 = ((n / 8 * 8 : Nat) : Int) := by
  have := (by decide +kernel : ∀ i : Fin 256, bits .andNot .u8 ((i.val : Nat) : Int) 7 = ((i.val / 8 * 8 : Nat) : Int)) ⟨n, h⟩
  exact this
theorem clr128 (n : Nat) (h : n < 256) : bits .andNot .u8 (n : Int) 128 = ((n % 128 : Nat) : Int) := by
  have := (by decide +kernel : ∀ i : Fin 256, bits .andNot .u8 ((i.val : Nat) : Int) 128 = ((i.val % 128 : Nat) : Int)) ⟨n, h⟩
  exact this
set_option maxRecDepth 100000 in
set_option maxHeartbeats 8000000 in
theorem rmul_c10 (f g : Nat → Nat) (w : World) (hf : ∀ i, f i < 256) (hg : ∀ i, g i < 256) : Ret 10 #[.agg (vals .u8 32 f), .agg (vals .u8 32 g)] w (.agg (vals .u8 32 (byt (xm f g)))) := by
  have M0 := hide (clr7 (f 0) (hf 0))
  have M1 := hide (clr128 (f 31) (hf 31))
  have M2 := hide (or64 (f 31) (hf 31))
  have M3 := hide (clr128 (g 31) (hg 31))
  go_enter Try.func10, Try.ntmps10
  go_upto_region 0 with (fail)
  refine rf0_region _ (fun _ _ _ _ _ h => h) w _ _ _ _ f g ?_
  intro n2 n3 n4 w1 hK1 g2_1 B2_1 g3_1 B3_1 g4_1 B4_1 e2_3_1 e2_4_1 e3_4_1
  have hL1 := hK1.below w _ (Nat.le_refl _) (Below.refl _ w)
  have s1 := hK1.size
  clear hK1
  go_upto_region 1 with (fail)
  refine rf1_region _ (fun _ _ _ _ _ h => h) w1 _ _ _ _ _ _ _ _ _ _ _ _ _ _ _ _ _ _ _ _ _ _ _ _ _ n2 f (f 0 / 8 * 8) M0.out B2_1 ?_
  intro  w2 hK2 B2_2
  have B3_2 := hK2.keep _ _ _ (by simp; omega) B3_1
  have B4_2 := hK2.keep _ _ _ (by simp; omega) B4_1
  have hL2 := hK2.low _ _ (by intro x hx; simp at hx; omega) s1 hL1
  have s2 := Nat.le_trans s1 hK2.size
  clear hK2 B2_1 B3_1 B4_1 hL1
  go_upto_region 2 with (fail)
  refine rf2_region _ (fun _ _ _ _ _ h => h) w2 _ _ _ _ _ _ _ _ _ _ _ _ _ _ _ _ _ _ _ _ _ _ _ _ _ _ _ _ _ _ n2 (fun j => if j = 0 then f 0 / 8 * 8 else f j) (f 31 % 128) (f 31 % 64 + 64) M1.out M2.out B2_2 ?_
  intro  w3 hK3 B2_3
  have B3_3 := hK3.keep _ _ _ (by simp; omega) B3_2
  have B4_3 := hK3.keep _ _ _ (by simp; omega) B4_2
  have hL3 := hK3.low _ _ (by intro x hx; simp at hx; omega) s2 hL2
  have s3 := Nat.le_trans s2 hK3.size
  clear hK3 B2_2 B3_2 B4_2 hL2
  have B2c := B2_3.cast (vals_congr .u8 32 _ (clb f) fun j _ => by unfold clb; by_cases h : j = 0 <;> by_cases h2 : j = 31 <;> simp [h, h2])
  clear B2_3
  go_upto_region 3 with (fail)
  refine rf3_region _ (fun _ _ _ _ _ h => h) w3 _ _ _ _ _ _ _ _ _ _ _ _ _ _ _ _ _ _ _ _ _ _ _ _ _ _ _ _ _ _ _ _ _ _ n3 g (g 31 % 128) M3.out B3_3 ?_
  intro  w4 hK4 B3_4
  have B2_4 := hK4.keep _ _ _ (by simp; omega) B2c
  have B4_4 := hK4.keep _ _ _ (by simp; omega) B4_3
  have hL4 := hK4.low _ _ (by intro x hx; simp at hx; omega) s3 hL3
  have s4 := Nat.le_trans s3 hK4.size
  clear hK4 B2c B3_3 B4_3 hL3
  have B3c := B3_4.cast (vals_congr .u8 32 _ (cob g) fun j _ => by unfold cob; by_cases h2 : j = 31 <;> simp [h2])
  clear B3_4
  go_upto_region 4 with (fail)
  refine rf4_region _ (fun _ _ _ _ _ h => h) w4 _ _ _ _ _ _ _ _ _ _ _ _ _ _ _ _ _ _ _ _ _ _ _ _ _ _ _ _ _ _ _ _ _ _ _ _ n3 (cob g) (cob_lt g hg) B3c (not_nil _) ?_
  rw [show nb (cob g) 32 % pP = co g from rfl]
  intro n5 w5 hK5 g5_5 B5_5
  have B2_5 := hK5.keep _ _ _ (not_nil _) B2_4
  have B3_5 := hK5.keep _ _ _ (not_nil _) B3c
  have B4_5 := hK5.keep _ _ _ (not_nil _) B4_4
  have hL5 := hK5.low _ _ (fun _ hx => by cases hx) s4 hL4
  have s5 := Nat.le_trans s4 hK5.size
  have q5 : n4 < n5 := Nat.lt_of_lt_of_le B4_4.lt g5_5
  have q5b : n2 < n5 := Nat.lt_of_lt_of_le B2_4.lt g5_5
  clear hK5 B2_4 B3c B4_4 hL4
  clear B3_5
  go_upto_region 5 with (fail)
  refine rf5_region _ (fun _ _ _ _ _ h => h) w5 _ _ _ _ _ _ _ _ _ _ _ _ _ _ _ _ _ _ _ _ _ _ _ _ _ _ _ _ _ _ _ _ _ _ _ _ _ _ ?_
  intro n6 w6 hK6 g6_6 B6_6
  have B2_6 := hK6.keep _ _ _ (not_nil _) B2_5
  have B4_6 := hK6.keep _ _ _ (not_nil _) B4_5
  have B5_6 := hK6.keep _ _ _ (not_nil _) B5_5
  have hL6 := hK6.low _ _ (fun _ hx => by cases hx) s5 hL5
  have s6 := Nat.le_trans s5 hK6.size
  have q6 : n5 < n6 := Nat.lt_of_lt_of_le B5_5.lt g6_6
  clear hK6 B2_5 B4_5 B5_5 hL5
  go_upto_region 6 with (fail)
  refine rf6_region _ (fun _ _ _ _ _ h => h) w6 _ _ _ _ _ _ _ _ _ _ _ _ _ _ _ _ _ _ _ _ _ _ _ _ _ _ _ _ _ _ _ _ _ _ _ _ _ _ _ ?_
  intro n7 w7 hK7 g7_7 B7_7
  have B2_7 := hK7.keep _ _ _ (not_nil _) B2_6
  have B4_7 := hK7.keep _ _ _ (not_nil _) B4_6
  have B5_7 := hK7.keep _ _ _ (not_nil _) B5_6
  have B6_7 := hK7.keep _ _ _ (not_nil _) B6_6
  have hL7 := hK7.low _ _ (fun _ hx => by cases hx) s6 hL6
  have s7 := Nat.le_trans s6 hK7.size
  have q7 : n6 < n7 := Nat.lt_of_lt_of_le B6_6.lt g7_7
  clear hK7 B2_6 B4_6 B5_6 B6_6 hL6
  go_upto_region 7 with (fail)
  refine rf7_region _ (fun _ _ _ _ _ h => h) w7 _ _ _ _ _ _ _ _ _ _ _ _ _ _ _ _ _ _ _ _ _ _ _ _ _ _ _ _ _ _ _ _ _ _ _ _ _ _ _ n5 (co g) B5_7 (not_nil _) ?_
  intro n8 w8 hK8 g8_8 B8_8
  have B2_8 := hK8.keep _ _ _ (not_nil _) B2_7
  have B4_8 := hK8.keep _ _ _ (not_nil _) B4_7
  have B5_8 := hK8.keep _ _ _ (not_nil _) B5_7
  have B6_8 := hK8.keep _ _ _ (not_nil _) B6_7
  have B7_8 := hK8.keep _ _ _ (not_nil _) B7_7
  have hL8 := hK8.low _ _ (fun _ hx => by cases hx) s7 hL7
  have s8 := Nat.le_trans s7 hK8.size
  have q8 : n7 < n8 := Nat.lt_of_lt_of_le B7_7.lt g8_8
  clear hK8 B2_7 B4_7 B5_7 B6_7 B7_7 hL7
  go_upto_region 8 with (fail)
  refine rf8_region _ (fun _ _ _ _ _ h => h) w8 _ _ _ _ _ _ _ _ _ _ _ _ _ _ _ _ _ _ _ _ _ _ _ _ _ _ _ _ _ _ _ _ _ _ _ _ _ _ _ _ _ ?_
  intro n9 w9 hK9 g9_9 B9_9
  have B2_9 := hK9.keep _ _ _ (not_nil _) B2_8
  have B4_9 := hK9.keep _ _ _ (not_nil _) B4_8
  have B5_9 := hK9.keep _ _ _ (not_nil _) B5_8
  have B6_9 := hK9.keep _ _ _ (not_nil _) B6_8
  have B7_9 := hK9.keep _ _ _ (not_nil _) B7_8
  have B8_9 := hK9.keep _ _ _ (not_nil _) B8_8
  have hL9 := hK9.low _ _ (fun _ hx => by cases hx) s8 hL8
  have s9 := Nat.le_trans s8 hK9.size
  have q9 : n8 < n9 := Nat.lt_of_lt_of_le B8_8.lt g9_9
  clear hK9 B2_8 B4_8 B5_8 B6_8 B7_8 B8_8 hL8
  clear M0 M1 M2 M3
  go_wp2_with fail
  go_loopw [10] (fun i wr => ∃ k a b c d : Nat, k ≤ 255 ∧ i = .int .i64 ((k : Int) - 1) ∧ a < pP ∧ b < pP ∧ c < pP ∧ d < pP ∧ nl pP 121665 (co g) (nbits (sc f) k) a b c d (fun a b _ _ => a * iN b % pP) = xm f g ∧ Blk wr n6 (vals .u64 16 (F.dg a)) 47 ∧ Blk wr n7 (vals .u64 16 (F.dg b)) 47 ∧ Blk wr n8 (vals .u64 16 (F.dg c)) 47 ∧ Blk wr n9 (vals .u64 16 (F.dg d)) 47 ∧ Blk wr n2 (vals .u8 32 (clb f)) 22 ∧ Blk wr n4 (vals .u8 32 fun _ => 0) 22 ∧ Blk wr n5 (vals .u64 16 (F.dg (co g))) 47 ∧ Below w.heap.size w wr) (fun i _ => (intOf i + 1).toNat)
  case atStart => exact ⟨255, 1, 0, co g, 1, by omega, rfl, one_lt, pP_pos', co_lt g, one_lt, rfl, B6_9, B7_9, B8_9, B9_9, B2_9, B4_9, B5_9, hL9⟩
  case round =>
    clear B6_9 B7_9 B8_9 B9_9 B2_9 B4_9 B5_9 hL9 s9
    obtain ⟨k, a, b, c, d, hk, rfl, ha, hb, hc, hd, hN, B6_10, B7_10, B8_10, B9_10, B2_10, B4_10, B5_10, hL10⟩ := hrel
    have s10 : w.heap.size ≤ wr.heap.size := hL10.size
    rcases Nat.eq_zero_or_pos k with h0 | h0
    · subst h0
      rw [show ((0 : Nat) : Int) - 1 = -1 from rfl]
      have hN' : a * iN b % pP = xm f g := hN
      go_upto_region 32 with (fail)
      refine rf32_region _ (fun _ _ _ _ _ h => h) wr _ _ _ _ _ _ _ _ _ _ _ _ _ _ _ _ _ _ _ _ _ _ _ _ _ _ _ _ _ _ _ _ _ _ _ _ _ _ _ _ _ _ _ _ _ _ _ _ _ _ _ _ _ _ _ _ _ _ _ _ _ _ _ _ _ _ _ _ _ _ _ _ _ _ _ _ _ _ _ _ _ _ _ _ _ _ _ _ _ _ _ _ _ _ _ _ _ _ _ _ _ _ _ _ _ _ _ _ _ _ _ _ _ _ _ n4 n6 n7 a b ha hb B4_10 B6_10 (by simp; omega) B7_10 (by simp; omega) ?_
      rw [show mm a (iN b) = xm f g from hN']
      intro  w11 hK11 B4_11
      have B6_11 := hK11.keep _ _ _ (by simp; omega) B6_10
      have B7_11 := hK11.keep _ _ _ (by simp; omega) B7_10
      have B8_11 := hK11.keep _ _ _ (by simp; omega) B8_10
      have B9_11 := hK11.keep _ _ _ (by simp; omega) B9_10
      have B2_11 := hK11.keep _ _ _ (by simp; omega) B2_10
      have B5_11 := hK11.keep _ _ _ (by simp; omega) B5_10
      have hL11 := hK11.low _ _ (by intro x hx; simp at hx; omega) s10 hL10
      have s11 := Nat.le_trans s10 hK11.size
      clear hK11 B6_10 B7_10 B8_10 B9_10 B2_10 B4_10 B5_10 hL10
      go_wp2_with fail
      refine bodyPost_ret (v := .agg (vals .u8 32 (byt (xm f g)))) (results_cell_row Try.results10 _ _ n4 22 _ (0, 0) _ rfl B4_11 Try.underlying22 rfl (size_by _)) rfl ⟨rfl, hL11⟩
    · obtain ⟨i, rfl⟩ : ∃ i, k = i + 1 := ⟨k - 1, by omega⟩
      rw [show ((i + 1 : Nat) : Int) - 1 = (i : Int) by omega]
      have hm0 : (0 : Int) ≤ (i : Int) := by omega
      have hm4 : (i : Int) < 256 := by omega
      have hq0 : (0 : Int) ≤ (i : Int) / 8 := by omega
      have hq4 : (i : Int) / 8 < 32 := by omega
      have hq : IntKind.i64.wrap ((i : Int).tdiv 8) = (i : Int) / 8 := quo8 i (by omega)
      have hq' : IntKind.i64.wrap ((i : Int) / 8) = (i : Int) / 8 := quo8' i (by omega)
      have hr : IntKind.i64.wrap ((i : Int).tmod 8) = (i : Int) % 8 := rem8 i
      have hr' : (i : Int).tmod 8 = (i : Int) % 8 := by rw [Int.tmod_eq_emod_of_nonneg (by omega)]
      have hqn : ((i : Int) / 8).toNat = i / 8 := by omega
      have hrn : ((i : Int) % 8).toNat = i % 8 := by omega
      have hr0 : (0 : Int) ≤ (i : Int) % 8 := by omega
      have hr4 : (i : Int) % 8 < 8 := by omega
      have hdl2 : clb f (i / 8) / 2 ^ (i % 8) < 256 := Nat.lt_of_le_of_lt (Nat.div_le_self _ _) (clb_lt f hf _)
      have hand := and8_one _ hdl2
      have hbit0 := sc_bit f hf i (by omega)
      rw [show ((clb f (i / 8) / 2 ^ (i % 8) : Nat) : Int) = ((clb f (i / 8) : Nat) : Int) / 2 ^ (i % 8) by simp] at hand
      obtain ⟨x0, hx0⟩ : ∃ x, x = clb f (i / 8) / 2 ^ (i % 8) % 2 := ⟨_, rfl⟩
      rw [← hx0] at hand hbit0
      have c0 := (B2_10.cell (i / 8)).trans (vals_get _ _ _ _ (by omega))
      have Hbs := hide hbit0
      clear hx0 hdl2 hbit0
      go_upto_region 13 with (fail)
      generalize hbe : (((x0 : Nat) : Int) == 1) = bit
      have hbit : (sc f).testBit i = bit := by rw [Hbs.out, ← hbe, Bool.eq_iff_iff]; simp; omega
      clear hbe hand Hbs c0 hq0 hq4 hq hq' hr hr' hqn hrn hr0 hr4 hm4
      go_upto_if 54 with (fail)
      refine sw1 _ (fun _ _ _ _ _ h => h) wr _ _ _ _ _ _ _ _ _ _ _ _ _ _ _ _ _ _ _ _ _ _ _ _ _ _ _ _ _ _ _ _ _ _ _ _ _ _ _ _ _ _ _ _ _ _ _ _ _ _ _ _ _ _ _ _ _ _ _ _ _ _ _ _ _ _ _ _ _ _ _ _ _ _ _ _ _ _ _ _ _ _ _ _ _ _ _ _ _ _ _ _ _ _ _ _ _ _ _ _ _ _ _ _ _ _ _ _ _ _ _ _ _ n6 n7 n8 n9 a b c d bit B6_10 B7_10 B8_10 B9_10 (by omega) (by omega) (by omega) ?_
      intro y1_11 y2_11 y3_11 y4_11 w11 hK11 B6_11 B7_11 B8_11 B9_11
      have B2_11 := hK11.keep _ _ _ (by simp; omega) B2_10
      have B4_11 := hK11.keep _ _ _ (by simp; omega) B4_10
      have B5_11 := hK11.keep _ _ _ (by simp; omega) B5_10
      have hL11 := hK11.low _ _ (by intro x hx; simp at hx; omega) s10 hL10
      have s11 := Nat.le_trans s10 hK11.size
      clear hK11 B6_10 B7_10 B8_10 B9_10 B2_10 B4_10 B5_10 hL10
      obtain ⟨a1, ea1⟩ : ∃ t0, t0 = cond bit c a := ⟨_, rfl⟩
      have ha1 : a1 < pP := by rw [ea1]; exact (cond_lt hc ha)
      obtain ⟨b1, eb1⟩ : ∃ t0, t0 = cond bit d b := ⟨_, rfl⟩
      have hb1 : b1 < pP := by rw [eb1]; exact (cond_lt hd hb)
      obtain ⟨c1, ec1⟩ : ∃ t0, t0 = cond bit a c := ⟨_, rfl⟩
      have hc1 : c1 < pP := by rw [ec1]; exact (cond_lt ha hc)
      obtain ⟨d1, ed1⟩ : ∃ t0, t0 = cond bit b d := ⟨_, rfl⟩
      have hd1 : d1 < pP := by rw [ed1]; exact (cond_lt hb hd)
      rw [← ea1] at B6_11
      rw [← eb1] at B7_11
      rw [← ec1] at B8_11
      rw [← ed1] at B9_11
      obtain ⟨p, ep⟩ : ∃ t0, t0 = am a1 b1 := ⟨_, rfl⟩
      have hp : p < pP := by rw [ep]; exact am_lt _ _
      obtain ⟨q, eq⟩ : ∃ t0, t0 = sm a1 b1 := ⟨_, rfl⟩
      have hq : q < pP := by rw [eq]; exact sm_lt _ _
      obtain ⟨S, eS⟩ : ∃ t0, t0 = mm p p := ⟨_, rfl⟩
      have hS : S < pP := by rw [eS]; exact mm_lt _ _
      obtain ⟨T, eT⟩ : ∃ t0, t0 = mm q q := ⟨_, rfl⟩
      have hT : T < pP := by rw [eT]; exact mm_lt _ _
      obtain ⟨E, eE⟩ : ∃ t0, t0 = sm S T := ⟨_, rfl⟩
      have hE : E < pP := by rw [eE]; exact sm_lt _ _
      obtain ⟨x, ex⟩ : ∃ t0, t0 = mm (am c1 d1) q := ⟨_, rfl⟩
      have hx : x < pP := by rw [ex]; exact mm_lt _ _
      obtain ⟨y, ey⟩ : ∃ t0, t0 = mm (sm c1 d1) p := ⟨_, rfl⟩
      have hy : y < pP := by rw [ey]; exact mm_lt _ _
      obtain ⟨x2, ex2⟩ : ∃ t0, t0 = am x y := ⟨_, rfl⟩
      have hx2 : x2 < pP := by rw [ex2]; exact am_lt _ _
      obtain ⟨y2, ey2⟩ : ∃ t0, t0 = sm x y := ⟨_, rfl⟩
      have hy2 : y2 < pP := by rw [ey2]; exact sm_lt _ _
      go_upto_region 16 with (fail)
      refine rf16_region _ (fun _ _ _ _ _ h => h) w11 _ _ _ _ _ _ _ _ _ _ _ _ _ _ _ _ _ _ _ _ _ _ _ _ _ _ _ _ _ _ _ _ _ _ _ _ _ _ _ _ _ _ _ _ _ _ _ _ _ _ _ _ _ _ _ _ _ _ _ _ _ n6 n7 a1 b1 ha1 hb1 B6_11 (not_nil _) B7_11 (not_nil _) ?_
      rw [← ep]
      intro n12 w12 hK12 g12_12 B12_12
      have B6_12 := hK12.keep _ _ _ (not_nil _) B6_11
      have B7_12 := hK12.keep _ _ _ (not_nil _) B7_11
      have B8_12 := hK12.keep _ _ _ (not_nil _) B8_11
      have B9_12 := hK12.keep _ _ _ (not_nil _) B9_11
      have B2_12 := hK12.keep _ _ _ (not_nil _) B2_11
      have B4_12 := hK12.keep _ _ _ (not_nil _) B4_11
      have B5_12 := hK12.keep _ _ _ (not_nil _) B5_11
      have hL12 := hK12.low _ _ (fun _ hx => by cases hx) s11 hL11
      have s12 := Nat.le_trans s11 hK12.size
      have q12 : n9 < n12 := Nat.lt_of_lt_of_le B9_11.lt g12_12
      clear hK12 B6_11 B7_11 B8_11 B9_11 B2_11 B4_11 B5_11 hL11
      go_upto_region 17 with (fail)
      refine rf17_region _ (fun _ _ _ _ _ h => h) w12 _ _ _ _ _ _ _ _ _ _ _ _ _ _ _ _ _ _ _ _ _ _ _ _ _ _ _ _ _ _ _ _ _ _ _ _ _ _ _ _ _ _ _ _ _ _ _ _ _ _ _ _ _ _ _ _ _ _ _ _ _ _ _ _ n6 n7 a1 b1 ha1 hb1 B6_12 (not_nil _) B7_12 (not_nil _) ?_
      rw [← eq]
      intro n13 w13 hK13 g13_13 B13_13
      have B6_13 := hK13.keep _ _ _ (not_nil _) B6_12
      have B7_13 := hK13.keep _ _ _ (not_nil _) B7_12
      have B8_13 := hK13.keep _ _ _ (not_nil _) B8_12
      have B9_13 := hK13.keep _ _ _ (not_nil _) B9_12
      have B2_13 := hK13.keep _ _ _ (not_nil _) B2_12
      have B4_13 := hK13.keep _ _ _ (not_nil _) B4_12
      have B5_13 := hK13.keep _ _ _ (not_nil _) B5_12
      have B12_13 := hK13.keep _ _ _ (not_nil _) B12_12
      have hL13 := hK13.low _ _ (fun _ hx => by cases hx) s12 hL12
      have s13 := Nat.le_trans s12 hK13.size
      have q13 : n9 < n13 := Nat.lt_of_lt_of_le B9_12.lt g13_13
      clear hK13 B6_12 B7_12 B8_12 B9_12 B2_12 B4_12 B5_12 B12_12 hL12
      go_upto_region 18 with (fail)
      refine rf18_region _ (fun _ _ _ _ _ h => h) w13 _ _ _ _ _ _ _ _ _ _ _ _ _ _ _ _ _ _ _ _ _ _ _ _ _ _ _ _ _ _ _ _ _ _ _ _ _ _ _ _ _ _ _ _ _ _ _ _ _ _ _ _ _ _ _ _ _ _ _ _ _ _ _ _ _ _ _ _ n12 p hp B12_13 (not_nil _) ?_
      rw [← eS]
      intro n14 w14 hK14 g14_14 B14_14
      have B6_14 := hK14.keep _ _ _ (not_nil _) B6_13
      have B7_14 := hK14.keep _ _ _ (not_nil _) B7_13
      have B8_14 := hK14.keep _ _ _ (not_nil _) B8_13
      have B9_14 := hK14.keep _ _ _ (not_nil _) B9_13
      have B2_14 := hK14.keep _ _ _ (not_nil _) B2_13
      have B4_14 := hK14.keep _ _ _ (not_nil _) B4_13
      have B5_14 := hK14.keep _ _ _ (not_nil _) B5_13
      have B12_14 := hK14.keep _ _ _ (not_nil _) B12_13
      have B13_14 := hK14.keep _ _ _ (not_nil _) B13_13
      have hL14 := hK14.low _ _ (fun _ hx => by cases hx) s13 hL13
      have s14 := Nat.le_trans s13 hK14.size
      have q14 : n9 < n14 := Nat.lt_of_lt_of_le B9_13.lt g14_14
      clear hK14 B6_13 B7_13 B8_13 B9_13 B2_13 B4_13 B5_13 B12_13 B13_13 hL13
      go_upto_region 19 with (fail)
      refine rf19_region _ (fun _ _ _ _ _ h => h) w14 _ _ _ _ _ _ _ _ _ _ _ _ _ _ _ _ _ _ _ _ _ _ _ _ _ _ _ _ _ _ _ _ _ _ _ _ _ _ _ _ _ _ _ _ _ _ _ _ _ _ _ _ _ _ _ _ _ _ _ _ _ _ _ _ _ _ _ _ _ _ _ n13 q hq B13_14 (not_nil _) ?_
      rw [← eT]
      intro n15 w15 hK15 g15_15 B15_15
      have B6_15 := hK15.keep _ _ _ (not_nil _) B6_14
      have B7_15 := hK15.keep _ _ _ (not_nil _) B7_14
      have B8_15 := hK15.keep _ _ _ (not_nil _) B8_14
      have B9_15 := hK15.keep _ _ _ (not_nil _) B9_14
      have B2_15 := hK15.keep _ _ _ (not_nil _) B2_14
      have B4_15 := hK15.keep _ _ _ (not_nil _) B4_14
      have B5_15 := hK15.keep _ _ _ (not_nil _) B5_14
      have B12_15 := hK15.keep _ _ _ (not_nil _) B12_14
      have B13_15 := hK15.keep _ _ _ (not_nil _) B13_14
      have B14_15 := hK15.keep _ _ _ (not_nil _) B14_14
      have hL15 := hK15.low _ _ (fun _ hx => by cases hx) s14 hL14
      have s15 := Nat.le_trans s14 hK15.size
      have q15 : n9 < n15 := Nat.lt_of_lt_of_le B9_14.lt g15_15
      clear hK15 B6_14 B7_14 B8_14 B9_14 B2_14 B4_14 B5_14 B12_14 B13_14 B14_14 hL14
      go_upto_region 20 with (fail)
      refine rf20_region _ (fun _ _ _ _ _ h => h) w15 _ _ _ _ _ _ _ _ _ _ _ _ _ _ _ _ _ _ _ _ _ _ _ _ _ _ _ _ _ _ _ _ _ _ _ _ _ _ _ _ _ _ _ _ _ _ _ _ _ _ _ _ _ _ _ _ _ _ _ _ _ _ _ _ _ _ _ _ _ _ _ _ _ n14 n15 S T hS hT B14_15 (not_nil _) B15_15 (not_nil _) ?_
      rw [← eE]
      intro n16 w16 hK16 g16_16 B16_16
      have B6_16 := hK16.keep _ _ _ (not_nil _) B6_15
      have B7_16 := hK16.keep _ _ _ (not_nil _) B7_15
      have B8_16 := hK16.keep _ _ _ (not_nil _) B8_15
      have B9_16 := hK16.keep _ _ _ (not_nil _) B9_15
      have B2_16 := hK16.keep _ _ _ (not_nil _) B2_15
      have B4_16 := hK16.keep _ _ _ (not_nil _) B4_15
      have B5_16 := hK16.keep _ _ _ (not_nil _) B5_15
      have B12_16 := hK16.keep _ _ _ (not_nil _) B12_15
      have B13_16 := hK16.keep _ _ _ (not_nil _) B13_15
      have B14_16 := hK16.keep _ _ _ (not_nil _) B14_15
      have B15_16 := hK16.keep _ _ _ (not_nil _) B15_15
      have hL16 := hK16.low _ _ (fun _ hx => by cases hx) s15 hL15
      have s16 := Nat.le_trans s15 hK16.size
      have q16 : n9 < n16 := Nat.lt_of_lt_of_le B9_15.lt g16_16
      clear hK16 B6_15 B7_15 B8_15 B9_15 B2_15 B4_15 B5_15 B12_15 B13_15 B14_15 B15_15 hL15
      go_upto_region 21 with (fail)
      refine rf21_region _ (fun _ _ _ _ _ h => h) w16 _ _ _ _ _ _ _ _ _ _ _ _ _ _ _ _ _ _ _ _ _ _ _ _ _ _ _ _ _ _ _ _ _ _ _ _ _ _ _ _ _ _ _ _ _ _ _ _ _ _ _ _ _ _ _ _ _ _ _ _ _ _ _ _ _ _ _ _ _ _ _ _ _ _ _ _ _ n8 n9 n13 c1 d1 q hc1 hd1 hq B8_16 (not_nil _) B9_16 (not_nil _) B13_16 (not_nil _) ?_
      rw [← ex]
      intro n17 w17 hK17 g17_17 B17_17
      have B6_17 := hK17.keep _ _ _ (not_nil _) B6_16
      have B7_17 := hK17.keep _ _ _ (not_nil _) B7_16
      have B8_17 := hK17.keep _ _ _ (not_nil _) B8_16
      have B9_17 := hK17.keep _ _ _ (not_nil _) B9_16
      have B2_17 := hK17.keep _ _ _ (not_nil _) B2_16
      have B4_17 := hK17.keep _ _ _ (not_nil _) B4_16
      have B5_17 := hK17.keep _ _ _ (not_nil _) B5_16
      have B12_17 := hK17.keep _ _ _ (not_nil _) B12_16
      have B13_17 := hK17.keep _ _ _ (not_nil _) B13_16
      have B14_17 := hK17.keep _ _ _ (not_nil _) B14_16
      have B15_17 := hK17.keep _ _ _ (not_nil _) B15_16
      have B16_17 := hK17.keep _ _ _ (not_nil _) B16_16
      have hL17 := hK17.low _ _ (fun _ hx => by cases hx) s16 hL16
      have s17 := Nat.le_trans s16 hK17.size
      have q17 : n9 < n17 := Nat.lt_of_lt_of_le B9_16.lt g17_17
      clear hK17 B6_16 B7_16 B8_16 B9_16 B2_16 B4_16 B5_16 B12_16 B13_16 B14_16 B15_16 B16_16 hL16
      clear B13_17
      go_upto_region 22 with (fail)
      refine rf22_region _ (fun _ _ _ _ _ h => h) w17 _ _ _ _ _ _ _ _ _ _ _ _ _ _ _ _ _ _ _ _ _ _ _ _ _ _ _ _ _ _ _ _ _ _ _ _ _ _ _ _ _ _ _ _ _ _ _ _ _ _ _ _ _ _ _ _ _ _ _ _ _ _ _ _ _ _ _ _ _ _ _ _ _ _ _ _ _ _ _ _ _ _ n8 n9 n12 c1 d1 p hc1 hd1 hp B8_17 (not_nil _) B9_17 (not_nil _) B12_17 (not_nil _) ?_
      rw [← ey]
      intro n18 w18 hK18 g18_18 B18_18
      have B6_18 := hK18.keep _ _ _ (not_nil _) B6_17
      have B7_18 := hK18.keep _ _ _ (not_nil _) B7_17
      have B8_18 := hK18.keep _ _ _ (not_nil _) B8_17
      have B9_18 := hK18.keep _ _ _ (not_nil _) B9_17
      have B2_18 := hK18.keep _ _ _ (not_nil _) B2_17
      have B4_18 := hK18.keep _ _ _ (not_nil _) B4_17
      have B5_18 := hK18.keep _ _ _ (not_nil _) B5_17
      have B12_18 := hK18.keep _ _ _ (not_nil _) B12_17
      have B14_18 := hK18.keep _ _ _ (not_nil _) B14_17
      have B15_18 := hK18.keep _ _ _ (not_nil _) B15_17
      have B16_18 := hK18.keep _ _ _ (not_nil _) B16_17
      have B17_18 := hK18.keep _ _ _ (not_nil _) B17_17
      have hL18 := hK18.low _ _ (fun _ hx => by cases hx) s17 hL17
      have s18 := Nat.le_trans s17 hK18.size
      have q18 : n9 < n18 := Nat.lt_of_lt_of_le B9_17.lt g18_18
      clear hK18 B6_17 B7_17 B8_17 B9_17 B2_17 B4_17 B5_17 B12_17 B14_17 B15_17 B16_17 B17_17 hL17
      clear B12_18
      go_upto_region 23 with (fail)
      refine rf23_region _ (fun _ _ _ _ _ h => h) w18 _ _ _ _ _ _ _ _ _ _ _ _ _ _ _ _ _ _ _ _ _ _ _ _ _ _ _ _ _ _ _ _ _ _ _ _ _ _ _ _ _ _ _ _ _ _ _ _ _ _ _ _ _ _ _ _ _ _ _ _ _ _ _ _ _ _ _ _ _ _ _ _ _ _ _ _ _ _ _ _ _ _ _ _ _ n6 n14 n15 a1 S T hS hT B6_18 B14_18 (by simp; omega) B15_18 (by simp; omega) ?_
      intro  w19 hK19 B6_19
      have B7_19 := hK19.keep _ _ _ (by simp; omega) B7_18
      have B8_19 := hK19.keep _ _ _ (by simp; omega) B8_18
      have B9_19 := hK19.keep _ _ _ (by simp; omega) B9_18
      have B2_19 := hK19.keep _ _ _ (by simp; omega) B2_18
      have B4_19 := hK19.keep _ _ _ (by simp; omega) B4_18
      have B5_19 := hK19.keep _ _ _ (by simp; omega) B5_18
      have B14_19 := hK19.keep _ _ _ (by simp; omega) B14_18
      have B15_19 := hK19.keep _ _ _ (by simp; omega) B15_18
      have B16_19 := hK19.keep _ _ _ (by simp; omega) B16_18
      have B17_19 := hK19.keep _ _ _ (by simp; omega) B17_18
      have B18_19 := hK19.keep _ _ _ (by simp; omega) B18_18
      have hL19 := hK19.low _ _ (by intro x hx; simp at hx; omega) s18 hL18
      have s19 := Nat.le_trans s18 hK19.size
      clear hK19 B6_18 B7_18 B8_18 B9_18 B2_18 B4_18 B5_18 B14_18 B15_18 B16_18 B17_18 B18_18 hL18
      clear B15_19
      go_upto_region 24 with (fail)
      refine rf24_region _ (fun _ _ _ _ _ h => h) w19 _ _ _ _ _ _ _ _ _ _ _ _ _ _ _ _ _ _ _ _ _ _ _ _ _ _ _ _ _ _ _ _ _ _ _ _ _ _ _ _ _ _ _ _ _ _ _ _ _ _ _ _ _ _ _ _ _ _ _ _ _ _ _ _ _ _ _ _ _ _ _ _ _ _ _ _ _ _ _ _ _ _ _ _ _ _ _ _ _ _ _ _ n7 n14 n16 b1 S E hS hE B7_19 B14_19 (by simp; omega) B16_19 (by simp; omega) ?_
      intro  w20 hK20 B7_20
      have B6_20 := hK20.keep _ _ _ (by simp; omega) B6_19
      have B8_20 := hK20.keep _ _ _ (by simp; omega) B8_19
      have B9_20 := hK20.keep _ _ _ (by simp; omega) B9_19
      have B2_20 := hK20.keep _ _ _ (by simp; omega) B2_19
      have B4_20 := hK20.keep _ _ _ (by simp; omega) B4_19
      have B5_20 := hK20.keep _ _ _ (by simp; omega) B5_19
      have B14_20 := hK20.keep _ _ _ (by simp; omega) B14_19
      have B16_20 := hK20.keep _ _ _ (by simp; omega) B16_19
      have B17_20 := hK20.keep _ _ _ (by simp; omega) B17_19
      have B18_20 := hK20.keep _ _ _ (by simp; omega) B18_19
      have hL20 := hK20.low _ _ (by intro x hx; simp at hx; omega) s19 hL19
      have s20 := Nat.le_trans s19 hK20.size
      clear hK20 B6_19 B7_19 B8_19 B9_19 B2_19 B4_19 B5_19 B14_19 B16_19 B17_19 B18_19 hL19
      clear B14_20 B16_20
      go_upto_region 25 with (fail)
      refine rf25_region _ (fun _ _ _ _ _ h => h) w20 _ _ _ _ _ _ _ _ _ _ _ _ _ _ _ _ _ _ _ _ _ _ _ _ _ _ _ _ _ _ _ _ _ _ _ _ _ _ _ _ _ _ _ _ _ _ _ _ _ _ _ _ _ _ _ _ _ _ _ _ _ _ _ _ _ _ _ _ _ _ _ _ _ _ _ _ _ _ _ _ _ _ _ _ _ _ _ _ _ _ _ _ _ _ _ _ n17 n18 x y hx hy B17_20 (not_nil _) B18_20 (not_nil _) ?_
      rw [← ex2]
      intro n19 w21 hK21 g19_21 B19_21
      have B6_21 := hK21.keep _ _ _ (not_nil _) B6_20
      have B7_21 := hK21.keep _ _ _ (not_nil _) B7_20
      have B8_21 := hK21.keep _ _ _ (not_nil _) B8_20
      have B9_21 := hK21.keep _ _ _ (not_nil _) B9_20
      have B2_21 := hK21.keep _ _ _ (not_nil _) B2_20
      have B4_21 := hK21.keep _ _ _ (not_nil _) B4_20
      have B5_21 := hK21.keep _ _ _ (not_nil _) B5_20
      have B17_21 := hK21.keep _ _ _ (not_nil _) B17_20
      have B18_21 := hK21.keep _ _ _ (not_nil _) B18_20
      have hL21 := hK21.low _ _ (fun _ hx => by cases hx) s20 hL20
      have s21 := Nat.le_trans s20 hK21.size
      have q19 : n9 < n19 := Nat.lt_of_lt_of_le B9_20.lt g19_21
      clear hK21 B6_20 B7_20 B8_20 B9_20 B2_20 B4_20 B5_20 B17_20 B18_20 hL20
      go_upto_region 26 with (fail)
      refine rf26_region _ (fun _ _ _ _ _ h => h) w21 _ _ _ _ _ _ _ _ _ _ _ _ _ _ _ _ _ _ _ _ _ _ _ _ _ _ _ _ _ _ _ _ _ _ _ _ _ _ _ _ _ _ _ _ _ _ _ _ _ _ _ _ _ _ _ _ _ _ _ _ _ _ _ _ _ _ _ _ _ _ _ _ _ _ _ _ _ _ _ _ _ _ _ _ _ _ _ _ _ _ _ _ _ _ _ _ _ _ _ n17 n18 x y hx hy B17_21 (not_nil _) B18_21 (not_nil _) ?_
      rw [← ey2]
      intro n20 w22 hK22 g20_22 B20_22
      have B6_22 := hK22.keep _ _ _ (not_nil _) B6_21
      have B7_22 := hK22.keep _ _ _ (not_nil _) B7_21
      have B8_22 := hK22.keep _ _ _ (not_nil _) B8_21
      have B9_22 := hK22.keep _ _ _ (not_nil _) B9_21
      have B2_22 := hK22.keep _ _ _ (not_nil _) B2_21
      have B4_22 := hK22.keep _ _ _ (not_nil _) B4_21
      have B5_22 := hK22.keep _ _ _ (not_nil _) B5_21
      have B17_22 := hK22.keep _ _ _ (not_nil _) B17_21
      have B18_22 := hK22.keep _ _ _ (not_nil _) B18_21
      have B19_22 := hK22.keep _ _ _ (not_nil _) B19_21
      have hL22 := hK22.low _ _ (fun _ hx => by cases hx) s21 hL21
      have s22 := Nat.le_trans s21 hK22.size
      have q20 : n9 < n20 := Nat.lt_of_lt_of_le B9_21.lt g20_22
      clear hK22 B6_21 B7_21 B8_21 B9_21 B2_21 B4_21 B5_21 B17_21 B18_21 B19_21 hL21
      clear B17_22 B18_22
      go_upto_region 27 with (fail)
      refine rf27_region _ (fun _ _ _ _ _ h => h) w22 _ _ _ _ _ _ _ _ _ _ _ _ _ _ _ _ _ _ _ _ _ _ _ _ _ _ _ _ _ _ _ _ _ _ _ _ _ _ _ _ _ _ _ _ _ _ _ _ _ _ _ _ _ _ _ _ _ _ _ _ _ _ _ _ _ _ _ _ _ _ _ _ _ _ _ _ _ _ _ _ _ _ _ _ _ _ _ _ _ _ _ _ _ _ _ _ _ _ _ _ _ _ n8 n19 c1 x2 hx2 B8_22 B19_22 (by simp; omega) ?_
      intro  w23 hK23 B8_23
      have B6_23 := hK23.keep _ _ _ (by simp; omega) B6_22
      have B7_23 := hK23.keep _ _ _ (by simp; omega) B7_22
      have B9_23 := hK23.keep _ _ _ (by simp; omega) B9_22
      have B2_23 := hK23.keep _ _ _ (by simp; omega) B2_22
      have B4_23 := hK23.keep _ _ _ (by simp; omega) B4_22
      have B5_23 := hK23.keep _ _ _ (by simp; omega) B5_22
      have B19_23 := hK23.keep _ _ _ (by simp; omega) B19_22
      have B20_23 := hK23.keep _ _ _ (by simp; omega) B20_22
      have hL23 := hK23.low _ _ (by intro x hx; simp at hx; omega) s22 hL22
      have s23 := Nat.le_trans s22 hK23.size
      clear hK23 B6_22 B7_22 B8_22 B9_22 B2_22 B4_22 B5_22 B19_22 B20_22 hL22
      clear B19_23
      go_upto_region 28 with (fail)
      refine rf28_region _ (fun _ _ _ _ _ h => h) w23 _ _ _ _ _ _ _ _ _ _ _ _ _ _ _ _ _ _ _ _ _ _ _ _ _ _ _ _ _ _ _ _ _ _ _ _ _ _ _ _ _ _ _ _ _ _ _ _ _ _ _ _ _ _ _ _ _ _ _ _ _ _ _ _ _ _ _ _ _ _ _ _ _ _ _ _ _ _ _ _ _ _ _ _ _ _ _ _ _ _ _ _ _ _ _ _ _ _ _ _ _ _ _ _ _ _ n5 n9 n20 (co g) d1 y2 (co_lt g) hy2 B5_23 (by simp; omega) B9_23 B20_23 (by simp; omega) ?_
      intro  w24 hK24 B9_24
      have B6_24 := hK24.keep _ _ _ (by simp; omega) B6_23
      have B7_24 := hK24.keep _ _ _ (by simp; omega) B7_23
      have B8_24 := hK24.keep _ _ _ (by simp; omega) B8_23
      have B2_24 := hK24.keep _ _ _ (by simp; omega) B2_23
      have B4_24 := hK24.keep _ _ _ (by simp; omega) B4_23
      have B5_24 := hK24.keep _ _ _ (by simp; omega) B5_23
      have B20_24 := hK24.keep _ _ _ (by simp; omega) B20_23
      have hL24 := hK24.low _ _ (by intro x hx; simp at hx; omega) s23 hL23
      have s24 := Nat.le_trans s23 hK24.size
      clear hK24 B6_23 B7_23 B8_23 B9_23 B2_23 B4_23 B5_23 B20_23 hL23
      clear B20_24
      have hn := lad_step (co g) (sc f) i a b c d (fun a b _ _ => a * iN b % pP) bit hbit a1 b1 c1 d1 x y S T E ea1 eb1 ec1 ed1 (by rw [ex, eq]) (by rw [ey, ep]) (by rw [eS, ep]) (by rw [eT, eq]) eE
      rw [hN, ← ex2, ← ey2] at hn
      have hA : mm S T < pP := mm_lt _ _
      generalize mm S T = A at *
      have hB : mm E (am S (mm 121665 E)) < pP := mm_lt _ _
      generalize mm E (am S (mm 121665 E)) = B at *
      have hC : mm x2 x2 < pP := mm_lt _ _
      generalize mm x2 x2 = C at *
      have hD : mm (co g) (mm y2 y2) < pP := mm_lt _ _
      generalize mm (co g) (mm y2 y2) = D at *
      clear ea1 eb1 ec1 ed1 ep eq eS eT eE ex ey ex2 ey2 ha1 hb1 hc1 hd1 hp hq hS hT hE hx hy hx2 hy2 hbit hN
      go_upto_if 108 with (fail)
      refine sw2 _ (fun _ _ _ _ _ h => h) w24 _ _ _ _ _ _ _ _ _ _ _ _ _ _ _ _ _ _ _ _ _ _ _ _ _ _ _ _ _ _ _ _ _ _ _ _ _ _ _ _ _ _ _ _ _ _ _ _ _ _ _ _ _ _ _ _ _ _ _ _ _ _ _ _ _ _ _ _ _ _ _ _ _ _ _ _ _ _ _ _ _ _ _ _ _ _ _ _ _ _ _ _ _ _ _ _ _ _ _ _ _ _ _ _ _ _ _ _ _ _ _ _ _ n6 n7 n8 n9 A B C D bit B6_24 B7_24 B8_24 B9_24 (by omega) (by omega) (by omega) ?_
      intro y1_25 y2_25 y3_25 y4_25 w25 hK25 B6_25 B7_25 B8_25 B9_25
      have B2_25 := hK25.keep _ _ _ (by simp; omega) B2_24
      have B4_25 := hK25.keep _ _ _ (by simp; omega) B4_24
      have B5_25 := hK25.keep _ _ _ (by simp; omega) B5_24
      have hL25 := hK25.low _ _ (by intro x hx; simp at hx; omega) s24 hL24
      have s25 := Nat.le_trans s24 hK25.size
      clear hK25 B6_24 B7_24 B8_24 B9_24 B2_24 B4_24 B5_24 hL24
      go_wp2_with fail
      go_roundw
      case rel => exact ⟨i, cond bit C A, cond bit D B, cond bit A C, cond bit B D, by omega, by go_num, cond_lt hC hA, cond_lt hD hB, cond_lt hA hC, cond_lt hB hD, hn.symm, B6_25, B7_25, B8_25, B9_25, B2_25, B4_25, B5_25, hL25⟩
      case measure => simp [intOf]
end Go.Proofs.Ytidhffaphbiapaa

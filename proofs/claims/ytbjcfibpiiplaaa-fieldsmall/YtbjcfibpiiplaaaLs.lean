/- FieldSmall's walk: for every two numbers of 32 bits the law returns true. -/
import Derived.Test.YtbjcfibpiiplaaaWq
namespace Go.Proofs.Ytbjcfibpiiplaaa
open Go.RowKit

theorem small_sum (a b : Nat) (ha : a < 2 ^ 32) (hb : b < 2 ^ 32) : (a + b) % pP = a + b := Nat.mod_eq_of_lt (by unfold pP; omega)
theorem small_le (a b : Nat) (ha : a < 2 ^ 32) (hb : b < 2 ^ 32) : a * b ≤ (2 ^ 32 - 1) * (2 ^ 32 - 1) := Nat.mul_le_mul (by omega) (by omega)
theorem small_prod (a b : Nat) (ha : a < 2 ^ 32) (hb : b < 2 ^ 32) : a * b % pP = a * b := Nat.mod_eq_of_lt (by have := small_le a b ha hb; unfold pP; omega)
theorem small_dif (a b : Nat) (ha : a < 2 ^ 32) (h : b ≤ a) : (a + pP - b) % pP = a - b := by
  rw [show a + pP - b = (a - b) + pP * 1 by omega, Nat.add_mul_mod_self_left, Nat.mod_eq_of_lt (by unfold pP; omega)]
theorem small_lt (a : Nat) (ha : a < 2 ^ 64) : a < pP := by unfold pP; omega
theorem wrap_add (a b : Nat) (ha : a < 2 ^ 32) (hb : b < 2 ^ 32) : IntKind.u64.wrap ((a : Int) + (b : Int)) = ((a + b : Nat) : Int) := by rw [wrap_u64']; omega
theorem wrap_mul (a b : Nat) (ha : a < 2 ^ 32) (hb : b < 2 ^ 32) : IntKind.u64.wrap ((a : Int) * (b : Int)) = ((a * b : Nat) : Int) := by
  have := small_le a b ha hb
  rw [wrap_u64', show (a : Int) * (b : Int) = ((a * b : Nat) : Int) from rfl]; omega
theorem wrap_sub32 (a b : Nat) (ha : a < 2 ^ 32) (h : b ≤ a) : IntKind.u32.wrap ((a : Int) - (b : Int)) = ((a - b : Nat) : Int) := by
  rw [IntKind.wrap_u32']; omega
theorem wrap_id (a : Nat) (ha : a < 2 ^ 64) : IntKind.u64.wrap (a : Int) = (a : Int) := by rw [wrap_u64']; omega

set_option maxHeartbeats 1000000 in
theorem small_walk (a b : Nat) (w : World) (ha : a < 4294967296) (hb : b < 4294967296) :
    Calls Try.prog 9 #[.int .u32 a, .int .u32 b] w fun e w' => e = .returned (.bool true) ∧ Below w.heap.size w w' := by
  have A64 := hide (show a < 2 ^ 64 by omega)
  have B64 := hide (show b < 2 ^ 64 by omega)
  have AB64 := hide (show a + b < 2 ^ 64 by omega)
  have M64 := hide (show a * b < 2 ^ 64 by have := small_le a b ha hb; omega)
  have Ap := hide (small_lt a A64.out)
  have Bp := hide (small_lt b B64.out)
  have ABp := hide (small_lt _ AB64.out)
  have Mp := hide (small_lt _ M64.out)
  have Es := hide (small_sum a b ha hb)
  have Em := hide (small_prod a b ha hb)
  have Ws := hide (wrap_add a b ha hb)
  have Wm := hide (wrap_mul a b ha hb)
  have Wa := hide (wrap_id a A64.out)
  have Wb := hide (wrap_id b B64.out)
  by_cases hlt : a < b
  · have hi : (a : Int) < (b : Int) := by omega
    have D64 := hide (show b - a < 2 ^ 64 by omega)
    have Dp := hide (small_lt _ D64.out)
    have Ed := hide (small_dif b a hb (by omega))
    have Wd3 : Hid ((b : Int) - (a : Int) = ((b - a : Nat) : Int)) := hide (by omega)
    have L0 := hide (Below.refl w.heap.size w)
    go_enter Try.func9, Try.ntmps9
    go_wp2_with fail
    refine (awake_at _ _ (by rfl)).mono ?_
    rintro e k1 ⟨rfl, hb⟩
    have Lw_1 := hide (L0.out.trans (hb.mono L0.out.size))
    clear L0 hb
    dsimp only
    go_wp2_with fail
    refine (word_at a _ _ (by first | rfl | (rw [Wa.out])) A64.out).mono ?_
    rw [fe_def a]
    rintro e k2 ⟨rfl, hb⟩
    have Lw_2 := hide (Lw_1.out.trans (hb.mono Lw_1.out.size))
    clear Lw_1 hb
    dsimp only
    go_wp2_with fail
    have X_3 := hide (Blk.new k2 (lits a) 27)
    have Lw_3 := hide (Lw_2.out.alloc Lw_2.out.size (.cells (lits a) 27))
    clear Lw_2
    refine (word_at b _ _ (by first | rfl | (rw [Wb.out])) B64.out).mono ?_
    rw [fe_def b]
    rintro e k4 ⟨rfl, hb⟩
    have X_4 := hide (X_3.out.call hb)
    have Lw_4 := hide (Lw_3.out.trans (hb.mono Lw_3.out.size))
    clear X_3 Lw_3 hb
    dsimp only
    have Y_5 := hide (Blk.new k4 (lits b) 27)
    have X_5 := hide (X_4.out.alloc (.cells (lits b) 27))
    have Lw_5 := hide (Lw_4.out.alloc Lw_4.out.size (.cells (lits b) 27))
    clear X_4 Lw_4
    obtain ⟨cX, fX⟩ := X_5.out.rules
    obtain ⟨cY, fY⟩ := Y_5.out.rules
    go_wp2_with fail
    clear cX fX cY fY
    refine (add_at' a b _ _ (by simp only [fe_def]) Ap.out Bp.out).mono ?_
    rw [Es.out]
    rintro e k6 ⟨rfl, hb⟩
    have X_6 := hide (X_5.out.call hb)
    have Y_6 := hide (Y_5.out.call hb)
    have Lw_6 := hide (Lw_5.out.trans (hb.mono Lw_5.out.size))
    clear X_5 Y_5 Lw_5 hb
    dsimp only
    go_wp2_with fail
    refine (word_at (a + b) _ _ (by first | rfl | (rw [Ws.out])) AB64.out).mono ?_
    rintro e k7 ⟨rfl, hb⟩
    have X_7 := hide (X_6.out.call hb)
    have Y_7 := hide (Y_6.out.call hb)
    have Lw_7 := hide (Lw_6.out.trans (hb.mono Lw_6.out.size))
    clear X_6 Y_6 Lw_6 hb
    dsimp only
    go_wp2_with fail
    refine (same_b (a + b) (a + b) true _ _ (by rfl) ABp.out ABp.out (by simp)).mono ?_
    rintro e k8 ⟨rfl, hb⟩
    have X_8 := hide (X_7.out.call hb)
    have Y_8 := hide (Y_7.out.call hb)
    have Lw_8 := hide (Lw_7.out.trans (hb.mono Lw_7.out.size))
    clear X_7 Y_7 Lw_7 hb
    dsimp only
    obtain ⟨cX, fX⟩ := X_8.out.rules
    obtain ⟨cY, fY⟩ := Y_8.out.rules
    go_wp2_with fail
    clear cX fX cY fY
    refine (mul_at a b _ _ (by simp only [fe_def]) Ap.out Bp.out).mono ?_
    rw [Em.out]
    rintro e k9 ⟨rfl, hb⟩
    have X_9 := hide (X_8.out.call hb)
    have Y_9 := hide (Y_8.out.call hb)
    have Lw_9 := hide (Lw_8.out.trans (hb.mono Lw_8.out.size))
    clear X_8 Y_8 Lw_8 hb
    dsimp only
    go_wp2_with fail
    refine (word_at (a * b) _ _ (by first | rfl | (rw [Wm.out])) M64.out).mono ?_
    rintro e k10 ⟨rfl, hb⟩
    have X_10 := hide (X_9.out.call hb)
    have Y_10 := hide (Y_9.out.call hb)
    have Lw_10 := hide (Lw_9.out.trans (hb.mono Lw_9.out.size))
    clear X_9 Y_9 Lw_9 hb
    dsimp only
    go_wp2_with fail
    refine (same_b (a * b) (a * b) true _ _ (by rfl) Mp.out Mp.out (by simp)).mono ?_
    rintro e k11 ⟨rfl, hb⟩
    have X_11 := hide (X_10.out.call hb)
    have Y_11 := hide (Y_10.out.call hb)
    have Lw_11 := hide (Lw_10.out.trans (hb.mono Lw_10.out.size))
    clear X_10 Y_10 Lw_10 hb
    dsimp only
    go_wp2_with fail
    refine (word_at b _ _ (by first | rfl | (rw [Wb.out])) B64.out).mono ?_
    rintro e k12 ⟨rfl, hb⟩
    have X_12 := hide (X_11.out.call hb)
    have Y_12 := hide (Y_11.out.call hb)
    have Lw_12 := hide (Lw_11.out.trans (hb.mono Lw_11.out.size))
    clear X_11 Y_11 Lw_11 hb
    dsimp only
    go_wp2_with fail
    refine (word_at a _ _ (by first | rfl | (rw [Wa.out])) A64.out).mono ?_
    rintro e k13 ⟨rfl, hb⟩
    have X_13 := hide (X_12.out.call hb)
    have Y_13 := hide (Y_12.out.call hb)
    have Lw_13 := hide (Lw_12.out.trans (hb.mono Lw_12.out.size))
    clear X_12 Y_12 Lw_12 hb
    dsimp only
    go_wp2_with fail
    refine (sub_at' b a _ _ (by rfl) Bp.out Ap.out).mono ?_
    rw [Ed.out]
    rintro e k14 ⟨rfl, hb⟩
    have X_14 := hide (X_13.out.call hb)
    have Y_14 := hide (Y_13.out.call hb)
    have Lw_14 := hide (Lw_13.out.trans (hb.mono Lw_13.out.size))
    clear X_13 Y_13 Lw_13 hb
    dsimp only
    go_wp2_with fail
    refine (word_at (b - a) _ _ (by rw [Wd3.out]) D64.out).mono ?_
    rintro e k15 ⟨rfl, hb⟩
    have X_15 := hide (X_14.out.call hb)
    have Y_15 := hide (Y_14.out.call hb)
    have Lw_15 := hide (Lw_14.out.trans (hb.mono Lw_14.out.size))
    clear X_14 Y_14 Lw_14 hb
    dsimp only
    go_wp2_with fail
    refine (same_b (b - a) (b - a) true _ _ (by rfl) Dp.out Dp.out (by simp)).mono ?_
    rintro e k16 ⟨rfl, hb⟩
    have X_16 := hide (X_15.out.call hb)
    have Y_16 := hide (Y_15.out.call hb)
    have Lw_16 := hide (Lw_15.out.trans (hb.mono Lw_15.out.size))
    clear X_15 Y_15 Lw_15 hb
    dsimp only
    go_wp2
    go_ret
    exact ⟨rfl, Lw_16.out⟩
  · have hi : ¬ (a : Int) < (b : Int) := by omega
    have D64 := hide (show a - b < 2 ^ 64 by omega)
    have Dp := hide (small_lt _ D64.out)
    have Ed := hide (small_dif a b ha (by omega))
    have Wd3 : Hid ((a : Int) - (b : Int) = ((a - b : Nat) : Int)) := hide (by omega)
    have L0 := hide (Below.refl w.heap.size w)
    go_enter Try.func9, Try.ntmps9
    go_wp2_with fail
    refine (awake_at _ _ (by rfl)).mono ?_
    rintro e k1 ⟨rfl, hb⟩
    have Lw_1 := hide (L0.out.trans (hb.mono L0.out.size))
    clear L0 hb
    dsimp only
    go_wp2_with fail
    refine (word_at a _ _ (by first | rfl | (rw [Wa.out])) A64.out).mono ?_
    rw [fe_def a]
    rintro e k2 ⟨rfl, hb⟩
    have Lw_2 := hide (Lw_1.out.trans (hb.mono Lw_1.out.size))
    clear Lw_1 hb
    dsimp only
    go_wp2_with fail
    have X_3 := hide (Blk.new k2 (lits a) 27)
    have Lw_3 := hide (Lw_2.out.alloc Lw_2.out.size (.cells (lits a) 27))
    clear Lw_2
    refine (word_at b _ _ (by first | rfl | (rw [Wb.out])) B64.out).mono ?_
    rw [fe_def b]
    rintro e k4 ⟨rfl, hb⟩
    have X_4 := hide (X_3.out.call hb)
    have Lw_4 := hide (Lw_3.out.trans (hb.mono Lw_3.out.size))
    clear X_3 Lw_3 hb
    dsimp only
    have Y_5 := hide (Blk.new k4 (lits b) 27)
    have X_5 := hide (X_4.out.alloc (.cells (lits b) 27))
    have Lw_5 := hide (Lw_4.out.alloc Lw_4.out.size (.cells (lits b) 27))
    clear X_4 Lw_4
    obtain ⟨cX, fX⟩ := X_5.out.rules
    obtain ⟨cY, fY⟩ := Y_5.out.rules
    go_wp2_with fail
    clear cX fX cY fY
    refine (add_at' a b _ _ (by simp only [fe_def]) Ap.out Bp.out).mono ?_
    rw [Es.out]
    rintro e k6 ⟨rfl, hb⟩
    have X_6 := hide (X_5.out.call hb)
    have Y_6 := hide (Y_5.out.call hb)
    have Lw_6 := hide (Lw_5.out.trans (hb.mono Lw_5.out.size))
    clear X_5 Y_5 Lw_5 hb
    dsimp only
    go_wp2_with fail
    refine (word_at (a + b) _ _ (by first | rfl | (rw [Ws.out])) AB64.out).mono ?_
    rintro e k7 ⟨rfl, hb⟩
    have X_7 := hide (X_6.out.call hb)
    have Y_7 := hide (Y_6.out.call hb)
    have Lw_7 := hide (Lw_6.out.trans (hb.mono Lw_6.out.size))
    clear X_6 Y_6 Lw_6 hb
    dsimp only
    go_wp2_with fail
    refine (same_b (a + b) (a + b) true _ _ (by rfl) ABp.out ABp.out (by simp)).mono ?_
    rintro e k8 ⟨rfl, hb⟩
    have X_8 := hide (X_7.out.call hb)
    have Y_8 := hide (Y_7.out.call hb)
    have Lw_8 := hide (Lw_7.out.trans (hb.mono Lw_7.out.size))
    clear X_7 Y_7 Lw_7 hb
    dsimp only
    obtain ⟨cX, fX⟩ := X_8.out.rules
    obtain ⟨cY, fY⟩ := Y_8.out.rules
    go_wp2_with fail
    clear cX fX cY fY
    refine (mul_at a b _ _ (by simp only [fe_def]) Ap.out Bp.out).mono ?_
    rw [Em.out]
    rintro e k9 ⟨rfl, hb⟩
    have X_9 := hide (X_8.out.call hb)
    have Y_9 := hide (Y_8.out.call hb)
    have Lw_9 := hide (Lw_8.out.trans (hb.mono Lw_8.out.size))
    clear X_8 Y_8 Lw_8 hb
    dsimp only
    go_wp2_with fail
    refine (word_at (a * b) _ _ (by first | rfl | (rw [Wm.out])) M64.out).mono ?_
    rintro e k10 ⟨rfl, hb⟩
    have X_10 := hide (X_9.out.call hb)
    have Y_10 := hide (Y_9.out.call hb)
    have Lw_10 := hide (Lw_9.out.trans (hb.mono Lw_9.out.size))
    clear X_9 Y_9 Lw_9 hb
    dsimp only
    go_wp2_with fail
    refine (same_b (a * b) (a * b) true _ _ (by rfl) Mp.out Mp.out (by simp)).mono ?_
    rintro e k11 ⟨rfl, hb⟩
    have X_11 := hide (X_10.out.call hb)
    have Y_11 := hide (Y_10.out.call hb)
    have Lw_11 := hide (Lw_10.out.trans (hb.mono Lw_10.out.size))
    clear X_10 Y_10 Lw_10 hb
    dsimp only
    go_wp2_with fail
    refine (word_at a _ _ (by first | rfl | (rw [Wa.out])) A64.out).mono ?_
    rintro e k12 ⟨rfl, hb⟩
    have X_12 := hide (X_11.out.call hb)
    have Y_12 := hide (Y_11.out.call hb)
    have Lw_12 := hide (Lw_11.out.trans (hb.mono Lw_11.out.size))
    clear X_11 Y_11 Lw_11 hb
    dsimp only
    go_wp2_with fail
    refine (word_at b _ _ (by first | rfl | (rw [Wb.out])) B64.out).mono ?_
    rintro e k13 ⟨rfl, hb⟩
    have X_13 := hide (X_12.out.call hb)
    have Y_13 := hide (Y_12.out.call hb)
    have Lw_13 := hide (Lw_12.out.trans (hb.mono Lw_12.out.size))
    clear X_12 Y_12 Lw_12 hb
    dsimp only
    go_wp2_with fail
    refine (sub_at' a b _ _ (by rfl) Ap.out Bp.out).mono ?_
    rw [Ed.out]
    rintro e k14 ⟨rfl, hb⟩
    have X_14 := hide (X_13.out.call hb)
    have Y_14 := hide (Y_13.out.call hb)
    have Lw_14 := hide (Lw_13.out.trans (hb.mono Lw_13.out.size))
    clear X_13 Y_13 Lw_13 hb
    dsimp only
    go_wp2_with fail
    refine (word_at (a - b) _ _ (by rw [Wd3.out]) D64.out).mono ?_
    rintro e k15 ⟨rfl, hb⟩
    have X_15 := hide (X_14.out.call hb)
    have Y_15 := hide (Y_14.out.call hb)
    have Lw_15 := hide (Lw_14.out.trans (hb.mono Lw_14.out.size))
    clear X_14 Y_14 Lw_14 hb
    dsimp only
    go_wp2_with fail
    refine (same_b (a - b) (a - b) true _ _ (by rfl) Dp.out Dp.out (by simp)).mono ?_
    rintro e k16 ⟨rfl, hb⟩
    have X_16 := hide (X_15.out.call hb)
    have Y_16 := hide (Y_15.out.call hb)
    have Lw_16 := hide (Lw_15.out.trans (hb.mono Lw_15.out.size))
    clear X_15 Y_15 Lw_15 hb
    dsimp only
    go_wp2
    go_ret
    exact ⟨rfl, Lw_16.out⟩
end Go.Proofs.Ytbjcfibpiiplaaa

/- Numbers as bits, lowest first: bytes of them, one bit more, bits taken. No conditions but those that each names. -/
import Derived.Test.YtkljpidlfddgbaaBm
namespace Go.Proofs.Ytkljpidlfddgbaa
set_option maxRecDepth 100000
open Go.RowKit Rg B


namespace M
theorem put_lt {X v c n : Nat} (hX : X < 2 ^ c) (hv : v < 2 ^ n) : X + v * 2 ^ c < 2 ^ (c + n) := by
  rw [Nat.pow_add]
  have := Nat.mul_le_mul_right (2 ^ c) (show v + 1 ≤ 2 ^ n from hv)
  rw [Nat.add_mul, Nat.one_mul, Nat.mul_comm (2 ^ n)] at this
  omega
theorem byt_lt (X i : Nat) : byt X i < 256 := Nat.mod_lt _ (by decide)
theorem byt_hi {X c j : Nat} (hX : X < 2 ^ c) (h : c ≤ 8 * j) : byt X j = 0 := by
  unfold byt
  rw [Nat.div_eq_of_lt (Nat.lt_of_lt_of_le hX (Nat.pow_le_pow_right (by decide) h)), Nat.zero_mod]
theorem byt_part {X c j : Nat} (hX : X < 2 ^ c) (h : 8 * j ≤ c) : X / 2 ^ (8 * j) < 2 ^ (c - 8 * j) := by
  rw [Nat.div_lt_iff_lt_mul (Nat.two_pow_pos _), ← Nat.pow_add, Nat.sub_add_cancel h]; exact hX
theorem byt_open {X c : Nat} (hX : X < 2 ^ c) : byt X (c / 8) < 2 ^ (c % 8) := by
  have h := byt_part hX (show 8 * (c / 8) ≤ c by omega)
  rw [show c - 8 * (c / 8) = c % 8 by omega] at h
  exact Nat.lt_of_le_of_lt (Nat.mod_le _ _) h
theorem byt_put {X b c : Nat} (hX : X < 2 ^ c) (hb : b < 2) (j : Nat) : byt (X + b * 2 ^ c) j = if j = c / 8 then byt X j + b * 2 ^ (c % 8) else byt X j := by
  by_cases h1 : c / 8 < j
  · rw [if_neg (by omega), byt_hi hX (by omega), byt_hi (c := c + 1) (put_lt hX hb) (by omega)]
  · have h2 : 8 * j ≤ c := by omega
    have e : (X + b * 2 ^ c) / 2 ^ (8 * j) = X / 2 ^ (8 * j) + b * 2 ^ (c - 8 * j) := by
      rw [show b * 2 ^ c = 2 ^ (8 * j) * (b * 2 ^ (c - 8 * j)) by rw [Nat.mul_left_comm, ← Nat.pow_add, Nat.add_sub_cancel' h2], Nat.add_mul_div_left _ _ (Nat.two_pow_pos _)]
    unfold byt
    rw [e]
    have h3 := byt_part hX h2
    by_cases h : j = c / 8
    · rw [if_pos h]
      have h4 : c - 8 * j = c % 8 := by omega
      rw [h4] at h3 ⊢
      have h5 : 2 ^ (c % 8) ≤ 2 ^ 7 := Nat.pow_le_pow_right (by decide) (by omega)
      have h6 : b * 2 ^ (c % 8) ≤ 2 ^ (c % 8) := by
        have := Nat.mul_le_mul_right (2 ^ (c % 8)) (show b ≤ 1 by omega)
        omega
      rw [Nat.mod_eq_of_lt (show X / 2 ^ (8 * j) < 256 by omega), Nat.mod_eq_of_lt (by omega)]
    · rw [if_neg h]
      have h5 : c - 8 * j = 8 + (c - 8 * j - 8) := by omega
      rw [h5, Nat.pow_add, show b * (2 ^ 8 * 2 ^ (c - 8 * j - 8)) = 256 * (b * 2 ^ (c - 8 * j - 8)) by rw [Nat.mul_left_comm], Nat.add_mul_mod_self_left]
theorem or_put {a b s : Nat} (h : a < 2 ^ s) : a ||| (b * 2 ^ s) = a + b * 2 ^ s := by
  rw [Nat.or_comm, Nat.mul_comm, ← Nat.two_pow_add_eq_or_of_lt h, Nat.add_comm]
theorem and1 (a : Nat) : a &&& 1 = a % 2 := Nat.and_one_is_mod a
theorem mod_step (v k : Nat) : v % 2 ^ (k + 1) = v % 2 ^ k + v / 2 ^ k % 2 * 2 ^ k := by
  rw [Nat.mod_pow_succ, Nat.mul_comm]
theorem put_step (X v c k : Nat) : X + v % 2 ^ k * 2 ^ c + v / 2 ^ k % 2 * 2 ^ (c + k) = X + v % 2 ^ (k + 1) * 2 ^ c := by
  rw [mod_step, Nat.add_mul, Nat.mul_assoc, ← Nat.pow_add, Nat.add_comm k c, Nat.add_assoc]
theorem put_zero (X v c : Nat) : X + v % 2 ^ 0 * 2 ^ c = X := by simp [Nat.mod_one]
theorem put_all {X v c n : Nat} (hv : v < 2 ^ n) : X + v % 2 ^ n * 2 ^ c = X + v * 2 ^ c := by rw [Nat.mod_eq_of_lt hv]
theorem mod_lt2 (v k : Nat) : v % 2 ^ k < 2 ^ k := Nat.mod_lt _ (Nat.two_pow_pos _)
theorem div_div (v k : Nat) : v / 2 ^ k / 2 = v / 2 ^ (k + 1) := by rw [Nat.div_div_eq_div_mul, Nat.pow_succ]
/-- A bit out of its byte. -/
theorem bit_byt (Y t : Nat) : byt Y (t / 8) / 2 ^ (t % 8) % 2 = Y / 2 ^ t % 2 := by
  unfold byt
  have h8 : t % 8 < 8 := Nat.mod_lt _ (by decide)
  rw [show (256 : Nat) = 2 ^ (t % 8) * 2 ^ (8 - t % 8) by rw [← Nat.pow_add, show t % 8 + (8 - t % 8) = 8 by omega], Nat.mod_mul_right_div_self, Nat.div_div_eq_div_mul, ← Nat.pow_add, show 8 * (t / 8) + t % 8 = t by omega,
    show 8 - t % 8 = (8 - t % 8 - 1) + 1 by omega, Nat.pow_succ, Nat.mul_comm (2 ^ (8 - t % 8 - 1)) 2, Nat.mod_mul_right_mod]
/-- k bits from t on. -/
def tk (Y t k : Nat) : Nat := Y / 2 ^ t % 2 ^ k
theorem tk_lt (Y t k : Nat) : tk Y t k < 2 ^ k := mod_lt2 _ _
theorem tk_zero (Y t : Nat) : tk Y t 0 = 0 := by unfold tk; simp [Nat.mod_one]
theorem tk_step (Y t k : Nat) : tk Y t (k + 1) = tk Y t k + Y / 2 ^ (t + k) % 2 * 2 ^ k := by
  unfold tk
  rw [mod_step, Nat.div_div_eq_div_mul, ← Nat.pow_add]
theorem tk_or (Y t k : Nat) : tk Y t k ||| (Y / 2 ^ (t + k) % 2 * 2 ^ k) = tk Y t (k + 1) := by rw [or_put (tk_lt _ _ _), tk_step]
theorem tk_one (Y t : Nat) : tk Y t 1 = Y / 2 ^ t % 2 := by rw [tk, Nat.pow_one]
/-- Bits of what was put. -/
theorem bit_put {X c : Nat} (hX : X < 2 ^ c) (v j : Nat) : (X + v * 2 ^ c).testBit j = if j < c then X.testBit j else v.testBit (j - c) := by
  rw [Nat.add_comm, Nat.mul_comm, Nat.testBit_two_pow_mul_add _ hX]
theorem bit_is (X i : Nat) : X.testBit i = decide (X / 2 ^ i % 2 = 1) := by rw [Nat.testBit_eq_decide_div_mod_eq]
theorem bit_mod {X k i : Nat} (h : i < k) : (X % 2 ^ k).testBit i = X.testBit i := by rw [Nat.testBit_mod_two_pow]; simp [h]
theorem byt_nb (f : Nat → Nat) (hf : ∀ i, f i < 256) : ∀ n i, i < n → byt (nb f n) i = f i
  | 0, i, h => absurd h (Nat.not_lt_zero i)
  | n + 1, i, h => by
    have hn := nb_lt f hf n
    have e : nb f (n + 1) = nb f n + f n * 2 ^ (8 * n) := by simp [nb, Nat.mul_comm, Nat.add_comm]
    rw [e]
    by_cases hi : i = n
    · subst hi
      unfold byt
      rw [Nat.add_mul_div_right _ _ (Nat.two_pow_pos _), Nat.div_eq_of_lt hn, Nat.zero_add, Nat.mod_eq_of_lt (hf i)]
    · have h9 := byt_nb f hf n i (by omega)
      rw [← h9]
      unfold byt
      have h3 : f n * 2 ^ (8 * n) = 2 ^ (8 * i) * (256 * (f n * 2 ^ (8 * n - 8 * i - 8))) := by
        have : 2 ^ (8 * n) = 2 ^ (8 * i) * (256 * 2 ^ (8 * n - 8 * i - 8)) := by
          rw [show (256 : Nat) = 2 ^ 8 by decide, ← Nat.pow_add, ← Nat.pow_add]; congr 1; omega
        rw [this, Nat.mul_left_comm, Nat.mul_left_comm (f n) 256]
      rw [h3, Nat.add_mul_div_left _ _ (Nat.two_pow_pos _), Nat.add_mul_mod_self_left]
theorem nb_step (f : Nat → Nat) (n : Nat) : nb f (n + 1) = nb f n + f n * 2 ^ (8 * n) := by simp [nb, Nat.mul_comm, Nat.add_comm]
/-- What is behind what was put. -/
theorem tk_put {X c : Nat} (v n : Nat) (hX : X < 2 ^ c) (hv : v < 2 ^ n) : tk (X + v * 2 ^ c) c n = v := by
  unfold tk
  rw [Nat.add_mul_div_right _ _ (Nat.two_pow_pos _), Nat.div_eq_of_lt hX, Nat.zero_add, Nat.mod_eq_of_lt hv]
/-- What was put ahead stays. -/
theorem tk_keep {X c t k : Nat} (v : Nat) (h : t + k ≤ c) : tk (X + v * 2 ^ c) t k = tk X t k := by
  unfold tk
  have e : v * 2 ^ c = 2 ^ t * (2 ^ k * (v * 2 ^ (c - t - k))) := by
    have : 2 ^ c = 2 ^ t * (2 ^ k * 2 ^ (c - t - k)) := by rw [← Nat.pow_add, ← Nat.pow_add]; congr 1; omega
    rw [this, Nat.mul_left_comm, Nat.mul_left_comm v]
  rw [e, Nat.add_mul_div_left _ _ (Nat.two_pow_pos _), Nat.add_mul_mod_self_left]
theorem tk_hi {X c t : Nat} (k : Nat) (hX : X < 2 ^ c) (h : c ≤ t) : tk X t k = 0 := by
  unfold tk
  rw [Nat.div_eq_of_lt (Nat.lt_of_lt_of_le hX (Nat.pow_le_pow_right (by decide) h)), Nat.zero_mod]
/-- A number by its bytes. -/
theorem byt_ext : ∀ {n X Y : Nat}, X < 2 ^ (8 * n) → Y < 2 ^ (8 * n) → (∀ i, i < n → byt X i = byt Y i) → X = Y
  | 0, X, Y, hX, hY, _ => by simp at hX hY; omega
  | n + 1, X, Y, hX, hY, h => by
    have h0 := h 0 (by omega)
    have hs : ∀ Z i, byt (Z / 256) i = byt Z (i + 1) := fun Z i => by
      unfold byt
      rw [Nat.div_div_eq_div_mul, show (256 : Nat) * 2 ^ (8 * i) = 2 ^ (8 * (i + 1)) by rw [show (256 : Nat) = 2 ^ 8 by decide, ← Nat.pow_add]; congr 1; omega]
    have hd : ∀ Z, Z < 2 ^ (8 * (n + 1)) → Z / 256 < 2 ^ (8 * n) := fun Z hZ => by
      rw [Nat.div_lt_iff_lt_mul (by decide), show (256 : Nat) = 2 ^ 8 by decide, ← Nat.pow_add]
      exact hZ
    have := byt_ext (hd X hX) (hd Y hY) fun i hi => by rw [hs, hs]; exact h (i + 1) (by omega)
    simp [byt] at h0
    omega
end M
end Go.Proofs.Ytkljpidlfddgbaa

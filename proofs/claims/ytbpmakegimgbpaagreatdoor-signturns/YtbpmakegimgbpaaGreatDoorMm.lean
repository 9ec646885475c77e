/- Plain arithmetic under Mul: limbs of products, rows of carries, and the fold of the upper half. No program; no conditions but those that each names. -/
import Derived.Test.YtbpmakegimgbpaaGreatDoorJw
namespace Go.Proofs.YtbpmakegimgbpaaGreatDoor.F
/-- The product so far, and what the inner rounds add. -/
def prd (x y k : Nat) : Nat := x % 2 ^ (64 * k) * y
def sj (x y k j : Nat) : Nat := prd x y k % 2 ^ (64 * (k + j)) + limb x k * (y % 2 ^ (64 * j)) * 2 ^ (64 * k)
def cj (x y k j : Nat) : Nat := sj x y k j / 2 ^ (64 * (k + j))
def wj (x y k j i : Nat) : Nat := if i < k + j then limb (sj x y k j) i else limb (prd x y k) i

theorem sj_succ (x y k j : Nat) : sj x y k (j + 1) = sj x y k j + 2 ^ (64 * (k + j)) * (limb x k * limb y j + limb (prd x y k) (k + j)) := by
  unfold sj
  rw [← Nat.add_assoc, mod_succ, mod_succ, pw_add k j]
  generalize prd x y k % (2 ^ (64 * k) * 2 ^ (64 * j)) = a
  generalize limb (prd x y k) (k + j) = t
  generalize limb x k = X
  generalize limb y j = l
  generalize y % 2 ^ (64 * j) = b
  generalize 2 ^ (64 * k) = K
  generalize 2 ^ (64 * j) = J
  rw [Nat.mul_add X, Nat.add_mul, Nat.mul_add (K * J)]
  have : X * (J * l) * K = K * J * (X * l) := by
    rw [Nat.mul_comm K J, Nat.mul_left_comm X J l, Nat.mul_assoc J K, Nat.mul_assoc J, Nat.mul_comm K]
  omega
theorem cj_lt (x y k j : Nat) : cj x y k j < 2 ^ 64 := by
  unfold cj
  apply Nat.div_lt_of_lt_mul
  unfold sj
  have h1 : prd x y k % 2 ^ (64 * (k + j)) < 2 ^ (64 * (k + j)) := Nat.mod_lt _ (pos64 _)
  have h2 : y % 2 ^ (64 * j) ≤ 2 ^ (64 * j) := Nat.le_of_lt (Nat.mod_lt _ (pos64 _))
  have h3 : limb x k ≤ 2 ^ 64 - 1 := by have := limb_lt x k; omega
  have h4 : limb x k * (y % 2 ^ (64 * j)) * 2 ^ (64 * k) ≤ (2 ^ 64 - 1) * 2 ^ (64 * j) * 2 ^ (64 * k) := Nat.mul_le_mul_right _ (Nat.mul_le_mul h3 h2)
  rw [Nat.mul_assoc (2 ^ 64 - 1), ← Nat.pow_add, show 64 * j + 64 * k = 64 * (k + j) by omega] at h4
  generalize 2 ^ (64 * (k + j)) = M at *
  omega
theorem cj_zero (x y k : Nat) : cj x y k 0 = 0 := by
  unfold cj sj
  simp only [Nat.mul_zero, Nat.pow_zero, Nat.mod_one, Nat.zero_mul, Nat.add_zero]
  exact Nat.div_eq_of_lt (Nat.mod_lt _ (pos64 _))
theorem tj (x y k j : Nat) : sj x y k (j + 1) / 2 ^ (64 * (k + j)) = limb x k * limb y j + limb (prd x y k) (k + j) + cj x y k j := by
  rw [sj_succ, Nat.add_mul_div_left _ _ (pos64 _)]
  unfold cj; omega
theorem cj_succ (x y k j : Nat) : cj x y k (j + 1) = (limb x k * limb y j + limb (prd x y k) (k + j) + cj x y k j) / 2 ^ 64 := by
  rw [← tj, Nat.div_div_eq_div_mul, ← pw_succ]; rfl
theorem lowj (x y k j : Nat) : limb (sj x y k (j + 1)) (k + j) = (limb x k * limb y j + limb (prd x y k) (k + j) + cj x y k j) % 2 ^ 64 := by
  rw [← tj]; rfl
theorem wj_zero (x y k i : Nat) : wj x y k 0 i = limb (prd x y k) i := by
  unfold wj
  split
  · apply limb_congr _ _ i k (by omega)
    unfold sj
    simp only [Nat.mul_zero, Nat.pow_zero, Nat.mod_one, Nat.zero_mul, Nat.add_zero, Nat.mod_mod]
  · rfl
theorem wj_succ (x y k j i : Nat) : wj x y k (j + 1) i = if i = k + j then (limb x k * limb y j + limb (prd x y k) (k + j) + cj x y k j) % 2 ^ 64 else wj x y k j i := by
  by_cases h : i = k + j
  · subst h
    rw [if_pos rfl, ← lowj]
    unfold wj; rw [if_pos (by omega)]
  · rw [if_neg h]
    unfold wj
    by_cases h2 : i < k + j
    · rw [if_pos (by omega), if_pos h2]
      apply limb_congr _ _ i (k + j) h2
      exact add_mod_of _ _ _ _ (sj_succ x y k j)
    · rw [if_neg (by omega), if_neg h2]
theorem wj_at (x y k j : Nat) : wj x y k j (k + j) = limb (prd x y k) (k + j) := by unfold wj; rw [if_neg (by omega)]
theorem prd_lt (x y k m : Nat) (hy : y < 2 ^ (64 * m)) : prd x y k < 2 ^ (64 * (k + m)) := by
  unfold prd
  rw [pw_add]
  have h1 : x % 2 ^ (64 * k) < 2 ^ (64 * k) := Nat.mod_lt _ (pos64 _)
  have h2 : x % 2 ^ (64 * k) * y ≤ (2 ^ (64 * k) - 1) * y := Nat.mul_le_mul_right _ (by omega)
  have h3 : (2 ^ (64 * k) - 1) * y ≤ (2 ^ (64 * k) - 1) * 2 ^ (64 * m) := Nat.mul_le_mul_left _ (by omega)
  have h4 : (2 ^ (64 * k) - 1) * 2 ^ (64 * m) < 2 ^ (64 * k) * 2 ^ (64 * m) := Nat.mul_lt_mul_of_pos_right (by have := pos64 k; omega) (pos64 m)
  omega
theorem sj_four (x y k : Nat) (hy : y < 2 ^ 256) : sj x y k 4 = prd x y (k + 1) := by
  unfold sj
  rw [Nat.mod_eq_of_lt (prd_lt x y k 4 hy), Nat.mod_eq_of_lt (show y < 2 ^ (64 * 4) from hy)]
  unfold prd
  rw [mod_succ, Nat.add_mul]
  congr 1
  rw [Nat.mul_right_comm, Nat.mul_comm (limb x k)]
theorem wide_next (x y k i : Nat) (hy : y < 2 ^ 256) : (if i = k + 4 then cj x y k 4 else wj x y k 4 i) = limb (prd x y (k + 1)) i := by
  have hl := prd_lt x y (k + 1) 4 hy
  by_cases h : i = k + 4
  · subst h
    rw [if_pos rfl, limb_top _ _ (by rw [show k + 4 + 1 = k + 1 + 4 by omega]; exact hl)]
    unfold cj; rw [sj_four x y k hy]
  · rw [if_neg h]
    unfold wj
    split
    · rw [sj_four x y k hy]
    · have h5 : k + 5 ≤ i := by omega
      have e1 : 2 ^ (64 * (k + 4)) ≤ 2 ^ (64 * i) := Nat.pow_le_pow_right (by omega) (by omega)
      have e2 : 2 ^ (64 * (k + 1 + 4)) ≤ 2 ^ (64 * i) := Nat.pow_le_pow_right (by omega) (by omega)
      rw [limb_zero _ _ (Nat.lt_of_lt_of_le hl e2), limb_zero _ _ (Nat.lt_of_lt_of_le (prd_lt x y k 4 hy) e1)]
theorem prd_zero (x y i : Nat) : limb (prd x y 0) i = 0 := by
  unfold prd; simp [limb, Nat.mod_one]
theorem prd_four (x y : Nat) (hx : x < 2 ^ 256) : prd x y 4 = x * y := by
  unfold prd; rw [Nat.mod_eq_of_lt (show x < 2 ^ (64 * 4) from hx)]

/-- The fold: the upper half times 38 onto the lower one. -/
def fo (n : Nat) : Nat := 38 * (n / 2 ^ 256) + n % 2 ^ 256
def fc (n k : Nat) : Nat := (38 * (n / 2 ^ 256 % 2 ^ (64 * k)) + n % 2 ^ (64 * k)) / 2 ^ (64 * k)
theorem limb_up (n k : Nat) : limb n (k + 4) = limb (n / 2 ^ 256) k := by
  unfold limb
  rw [pw_add, Nat.div_div_eq_div_mul, Nat.mul_comm]
theorem fs_succ (n k : Nat) : 38 * (n / 2 ^ 256 % 2 ^ (64 * (k + 1))) + n % 2 ^ (64 * (k + 1)) = (38 * (n / 2 ^ 256 % 2 ^ (64 * k)) + n % 2 ^ (64 * k)) + 2 ^ (64 * k) * (limb n (k + 4) * 38 + limb n k) := by
  rw [mod_succ, mod_succ, limb_up, Nat.mul_add 38, Nat.mul_add (2 ^ (64 * k))]
  have : 38 * (2 ^ (64 * k) * limb (n / 2 ^ 256) k) = 2 ^ (64 * k) * (limb (n / 2 ^ 256) k * 38) := by
    rw [Nat.mul_left_comm, Nat.mul_comm 38]
  omega
theorem ft (n k : Nat) : (38 * (n / 2 ^ 256 % 2 ^ (64 * (k + 1))) + n % 2 ^ (64 * (k + 1))) / 2 ^ (64 * k) = limb n (k + 4) * 38 + limb n k + fc n k := by
  rw [fs_succ, Nat.add_mul_div_left _ _ (pos64 _)]; unfold fc; omega
theorem fc_succ (n k : Nat) : fc n (k + 1) = (limb n (k + 4) * 38 + limb n k + fc n k) / 2 ^ 64 := by
  rw [← ft, Nat.div_div_eq_div_mul, ← pw_succ]; rfl
theorem fc_zero (n : Nat) : fc n 0 = 0 := by unfold fc; simp [Nat.mod_one]
theorem fo_low (n k : Nat) (h : k < 4) : limb (fo n) k = (limb n (k + 4) * 38 + limb n k + fc n k) % 2 ^ 64 := by
  rw [← ft]
  show _ = limb (38 * (n / 2 ^ 256 % 2 ^ (64 * (k + 1))) + n % 2 ^ (64 * (k + 1))) k
  apply limb_congr _ _ k (k + 1) (by omega)
  unfold fo
  have e : 2 ^ 256 = 2 ^ (64 * (k + 1)) * 2 ^ (64 * (3 - k)) := by rw [← Nat.pow_add]; congr 1; omega
  rw [Nat.add_mod, Nat.mul_mod, Nat.add_mod (38 * (n / 2 ^ 256 % 2 ^ (64 * (k + 1)))), Nat.mul_mod 38 (n / 2 ^ 256 % 2 ^ (64 * (k + 1))), Nat.mod_mod, Nat.mod_mod]
  congr 2
  rw [e, Nat.mod_mul_right_mod]
theorem fc_lt (n k : Nat) : fc n k < 39 := by
  unfold fc
  apply Nat.div_lt_of_lt_mul
  have h1 := Nat.mod_lt (n / 2 ^ 256) (pos64 k)
  have h2 := Nat.mod_lt n (pos64 k)
  omega
theorem fc_four (n : Nat) (hn : n < 2 ^ 256 * 2 ^ 256) : fc n 4 = fo n / 2 ^ 256 := by
  unfold fc fo
  rw [show 64 * 4 = 256 from rfl, Nat.mod_eq_of_lt (Nat.div_lt_of_lt_mul hn)]
theorem prod_lt (x y : Nat) (hx : x < 2 ^ 256) (hy : y < 2 ^ 256) : x * y < 2 ^ 256 * 2 ^ 256 := Nat.mul_lt_mul'' hx hy
theorem fo_val (n : Nat) : fo n % (2 ^ 255 - 19) = n % (2 ^ 255 - 19) := by
  unfold fo
  have e : n = 38 * (n / 2 ^ 256) + n % 2 ^ 256 + (2 ^ 255 - 19) * (2 * (n / 2 ^ 256)) := by omega
  conv => rhs; rw [e]
  rw [Nat.add_mul_mod_self_left]
theorem fo_split (n : Nat) : fo n % 2 ^ 256 + fo n / 2 ^ 256 * 2 ^ 256 = fo n := by omega

end Go.Proofs.YtbpmakegimgbpaaGreatDoor.F

/- Plain arithmetic under MulAdd: limbs of a product and a number, rows of carries; copy. -/
import Derived.Test.YtalnkcijebdpbaaDoorAh
import Derived.Laws.CopyRow
namespace Go.Proofs.YtalnkcijebdpbaaDoor.S
open Go.RowKit

/-- The product so far, and what the inner rounds add. -/
def prd (c x y k : Nat) : Nat := c + x % 2 ^ (64 * k) * y
def sj (c x y k j : Nat) : Nat := prd c x y k % 2 ^ (64 * (k + j)) + limb x k * (y % 2 ^ (64 * j)) * 2 ^ (64 * k)
def cj (c x y k j : Nat) : Nat := sj c x y k j / 2 ^ (64 * (k + j))
def wj (c x y k j i : Nat) : Nat := if i < k + j then limb (sj c x y k j) i else limb (prd c x y k) i

theorem sj_succ (c x y k j : Nat) : sj c x y k (j + 1) = sj c x y k j + 2 ^ (64 * (k + j)) * (limb x k * limb y j + limb (prd c x y k) (k + j)) := by
  unfold sj
  rw [← Nat.add_assoc, mod_succ, mod_succ, pw_add k j]
  generalize prd c x y k % (2 ^ (64 * k) * 2 ^ (64 * j)) = a
  generalize limb (prd c x y k) (k + j) = t
  generalize limb x k = X
  generalize limb y j = l
  generalize y % 2 ^ (64 * j) = b
  generalize 2 ^ (64 * k) = K
  generalize 2 ^ (64 * j) = J
  rw [Nat.mul_add X, Nat.add_mul, Nat.mul_add (K * J)]
  have : X * (J * l) * K = K * J * (X * l) := by
    rw [Nat.mul_comm K J, Nat.mul_left_comm X J l, Nat.mul_assoc J K, Nat.mul_assoc J, Nat.mul_comm K]
  omega
theorem cj_lt (c x y k j : Nat) : cj c x y k j < 2 ^ 64 := by
  unfold cj
  apply Nat.div_lt_of_lt_mul
  unfold sj
  have h1 : prd c x y k % 2 ^ (64 * (k + j)) < 2 ^ (64 * (k + j)) := Nat.mod_lt _ (pos64 _)
  have h2 : y % 2 ^ (64 * j) ≤ 2 ^ (64 * j) := Nat.le_of_lt (Nat.mod_lt _ (pos64 _))
  have h3 : limb x k ≤ 2 ^ 64 - 1 := by have := limb_lt x k; omega
  have h4 : limb x k * (y % 2 ^ (64 * j)) * 2 ^ (64 * k) ≤ (2 ^ 64 - 1) * 2 ^ (64 * j) * 2 ^ (64 * k) := Nat.mul_le_mul_right _ (Nat.mul_le_mul h3 h2)
  rw [Nat.mul_assoc (2 ^ 64 - 1), ← Nat.pow_add, show 64 * j + 64 * k = 64 * (k + j) by omega] at h4
  generalize 2 ^ (64 * (k + j)) = M at *
  omega
theorem cj_zero (c x y k : Nat) : cj c x y k 0 = 0 := by
  unfold cj sj
  simp only [Nat.mul_zero, Nat.pow_zero, Nat.mod_one, Nat.zero_mul, Nat.add_zero]
  exact Nat.div_eq_of_lt (Nat.mod_lt _ (pos64 _))
theorem tj (c x y k j : Nat) : sj c x y k (j + 1) / 2 ^ (64 * (k + j)) = limb x k * limb y j + limb (prd c x y k) (k + j) + cj c x y k j := by
  rw [sj_succ, Nat.add_mul_div_left _ _ (pos64 _)]
  unfold cj; omega
theorem cj_succ (c x y k j : Nat) : cj c x y k (j + 1) = (limb x k * limb y j + limb (prd c x y k) (k + j) + cj c x y k j) / 2 ^ 64 := by
  rw [← tj, Nat.div_div_eq_div_mul, ← pw_succ]; rfl
theorem lowj (c x y k j : Nat) : limb (sj c x y k (j + 1)) (k + j) = (limb x k * limb y j + limb (prd c x y k) (k + j) + cj c x y k j) % 2 ^ 64 := by
  rw [← tj]; rfl
theorem wj_zero (c x y k i : Nat) : wj c x y k 0 i = limb (prd c x y k) i := by
  unfold wj
  split
  · apply limb_congr _ _ i k (by omega)
    unfold sj
    simp only [Nat.mul_zero, Nat.pow_zero, Nat.mod_one, Nat.zero_mul, Nat.add_zero, Nat.mod_mod]
  · rfl
theorem wj_succ (c x y k j i : Nat) : wj c x y k (j + 1) i = if i = k + j then (limb x k * limb y j + limb (prd c x y k) (k + j) + cj c x y k j) % 2 ^ 64 else wj c x y k j i := by
  by_cases h : i = k + j
  · subst h
    rw [if_pos rfl, ← lowj]
    unfold wj; rw [if_pos (by omega)]
  · rw [if_neg h]
    unfold wj
    by_cases h2 : i < k + j
    · rw [if_pos (by omega), if_pos h2]
      apply limb_congr _ _ i (k + j) h2
      exact add_mod_of _ _ _ _ (sj_succ c x y k j)
    · rw [if_neg (by omega), if_neg h2]
theorem wj_at (c x y k j : Nat) : wj c x y k j (k + j) = limb (prd c x y k) (k + j) := by unfold wj; rw [if_neg (by omega)]
theorem fit_lt (c X y K M : Nat) (hX : X < K) (hy : y < M) (hc : c < M) : c + X * y < K * M := by
  obtain ⟨k, rfl⟩ : ∃ k, K = k + 1 := ⟨K - 1, by omega⟩
  have h1 : X * y ≤ k * y := Nat.mul_le_mul_right _ (by omega)
  have h2 : k * y ≤ k * M := Nat.mul_le_mul_left _ (by omega)
  rw [Nat.add_mul, Nat.one_mul]
  omega
theorem prd_lt (c x y k m : Nat) (hy : y < 2 ^ (64 * m)) (hc : c < 2 ^ (64 * m)) : prd c x y k < 2 ^ (64 * (k + m)) := by
  unfold prd
  rw [pw_add]
  exact fit_lt c _ y _ _ (Nat.mod_lt _ (pos64 _)) hy hc
theorem sj_four (c x y k : Nat) (hy : y < 2 ^ 256) (hc : c < 2 ^ 256) : sj c x y k 4 = prd c x y (k + 1) := by
  unfold sj
  rw [Nat.mod_eq_of_lt (prd_lt c x y k 4 hy hc), Nat.mod_eq_of_lt (show y < 2 ^ (64 * 4) from hy)]
  unfold prd
  rw [mod_succ, Nat.add_mul, ← Nat.add_assoc]
  congr 1
  rw [Nat.mul_right_comm, Nat.mul_comm (limb x k)]
theorem wide_next (c x y k i : Nat) (hy : y < 2 ^ 256) (hc : c < 2 ^ 256) : (if i = k + 4 then cj c x y k 4 else wj c x y k 4 i) = limb (prd c x y (k + 1)) i := by
  have hl := prd_lt c x y (k + 1) 4 hy hc
  by_cases h : i = k + 4
  · subst h
    rw [if_pos rfl, limb_top _ _ (by rw [show k + 4 + 1 = k + 1 + 4 by omega]; exact hl)]
    unfold cj; rw [sj_four c x y k hy hc]
  · rw [if_neg h]
    unfold wj
    split
    · rw [sj_four c x y k hy hc]
    · have h5 : k + 5 ≤ i := by omega
      have e1 : 2 ^ (64 * (k + 4)) ≤ 2 ^ (64 * i) := Nat.pow_le_pow_right (by omega) (by omega)
      have e2 : 2 ^ (64 * (k + 1 + 4)) ≤ 2 ^ (64 * i) := Nat.pow_le_pow_right (by omega) (by omega)
      rw [limb_zero _ _ (Nat.lt_of_lt_of_le hl e2), limb_zero _ _ (Nat.lt_of_lt_of_le (prd_lt c x y k 4 hy hc) e1)]
theorem prd_zero (c x y : Nat) : prd c x y 0 = c := by
  unfold prd; simp [Nat.mod_one]
theorem prd_four (c x y : Nat) (hx : x < 2 ^ 256) : prd c x y 4 = x * y + c := by
  unfold prd; rw [Nat.mod_eq_of_lt (show x < 2 ^ (64 * 4) from hx), Nat.add_comm]
theorem sum_lt (c x y : Nat) (hx : x < 2 ^ 256) (hy : y < 2 ^ 256) (hc : c < 2 ^ 256) : x * y + c < 2 ^ 256 * 2 ^ 256 := by
  rw [Nat.add_comm]; exact fit_lt c x y _ _ hx hy hc

theorem limb_high (c i : Nat) (hc : c < 2 ^ 256) (hi : 4 ≤ i) : limb c i = 0 := limb_zero _ _ (Nat.lt_of_lt_of_le hc (Nat.pow_le_pow_right (by omega) (by omega)))
theorem copy_words (w : World) (b b9 c : Nat) (hc : c < 2 ^ 256) (B : Blk w b (arr 8 (fun _ => 0)) 49) (B9 : Blk w b9 (arr 4 (limb c)) 25) (ty : TypeId) :
    (Builtin.copy_ #[50, 50] ty #[.slice (some ⟨b, 0, none⟩) 8 8, .slice (some ⟨b9, 0, none⟩) 4 4]).run Tryd.prog w = .ok (goInt 4) (w.setRow b (arr 8 (limb c))) := by
  have h := run_copy_row (P := Tryd.prog) w 50 50 ty 24 b 0 8 8 ⟨b9, 0, none⟩ 4 4 (arr 8 (fun _ => 0)) 49 (arr 4 (limb c)).toList Tryd.underlying50 (by kernel_rfl) B (by simp [arr]) (fun j v hv => by
    have := B9.cell j
    rw [show (Addr.add ⟨b9, 0, none⟩ j : Addr) = ⟨b9, j, none⟩ by simp [Addr.add]; omega, this]
    simpa using hv) (by simp [arr]) (fun v hv => by simp [arr] at hv; obtain ⟨j, _, rfl⟩ := hv; rfl)
  have e1 : limb c 4 = 0 := limb_high c 4 hc (by omega)
  have e2 : limb c 5 = 0 := limb_high c 5 hc (by omega)
  have e3 : limb c 6 = 0 := limb_high c 6 hc (by omega)
  have e4 : limb c 7 = 0 := limb_high c 7 hc (by omega)
  rw [h]
  congr 2
  simp [arr, List.range_succ, e1, e2, e3, e4]
end Go.Proofs.YtalnkcijebdpbaaDoor.S

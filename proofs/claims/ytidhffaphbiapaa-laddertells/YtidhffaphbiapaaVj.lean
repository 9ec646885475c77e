/- Walks of the reference: half. -/
import Derived.Test.YtidhffaphbiapaaVd
namespace Go.Proofs.Ytidhffaphbiapaa.F
open Go.RowKit

theorem dg_half (a i : Nat) : dg (a / 2) i = dg a i / 2 + dg a (i + 1) % 2 * 32768 := by
  unfold dg
  rw [d_succ, ← Nat.div_div_eq_div_mul a (2 ^ (16 * i)) 65536, Nat.div_div_eq_div_mul a 2, Nat.mul_comm 2, ← Nat.div_div_eq_div_mul]
  generalize a / 2 ^ (16 * i) = A
  omega
theorem upd_one (n k v : Nat) (g : Nat → Nat) (h : v = g k) (j : Nat) : (if j = k then v else (if j < k then g j else n)) = if j < k + 1 then g j else n := by
  by_cases h1 : j = k
  · subst h1; rw [if_pos rfl, if_pos (by omega), h]
  · rw [if_neg h1]
    by_cases h2 : j < k
    · rw [if_pos h2, if_pos (by omega)]
    · rw [if_neg h2, if_neg (by omega)]
theorem upd_two (n k v v' : Nat) (g : Nat → Nat) (h : v = g k) (j : Nat) : (if j = k then v else (if j = k then v' else (if j < k then g j else n))) = if j < k + 1 then g j else n := by
  by_cases h1 : j = k
  · subst h1; rw [if_pos rfl, if_pos (by omega), h]
  · rw [if_neg h1, if_neg h1]
    by_cases h2 : j < k
    · rw [if_pos h2, if_pos (by omega)]
    · rw [if_neg h2, if_neg (by omega)]
end Go.Proofs.Ytidhffaphbiapaa.F

/- Numbers under the reference's roots: digits of sixteen bits, primes, roots bit by bit. No program. -/
import Derived.Test.YtplckpmicoohnaaDoorSp
namespace Go.Proofs.YtplckpmicoohnaaDoor
open Go.RowKit

/-- The digit of sixteen bits in place i. -/
def dgt (n i : Nat) : Nat := n / 2 ^ (16 * i) % 65536
theorem dgt_lt (n i : Nat) : dgt n i < 65536 := Nat.mod_lt _ (by omega)
theorem d_pos (i : Nat) : 0 < 2 ^ (16 * i) := Nat.two_pow_pos _
theorem d_succ (i : Nat) : 2 ^ (16 * (i + 1)) = 2 ^ (16 * i) * 65536 := by rw [Nat.mul_add, Nat.mul_one, Nat.pow_add]
theorem d_add (i j : Nat) : 2 ^ (16 * (i + j)) = 2 ^ (16 * i) * 2 ^ (16 * j) := by rw [Nat.mul_add, Nat.pow_add]
theorem dgt_mod (n i m : Nat) (h : i < m) : dgt (n % 2 ^ (16 * m)) i = dgt n i := by
  have e : 2 ^ (16 * m) = 2 ^ (16 * i) * (65536 * 2 ^ (16 * (m - i - 1))) := by
    rw [show 65536 = 2 ^ 16 from rfl, ← Nat.pow_add, ← Nat.pow_add]; congr 1; omega
  unfold dgt
  rw [e, Nat.mod_mul_right_div_self, Nat.mod_mul_right_mod]
theorem dgt_congr (a b i m : Nat) (h : i < m) (e : a % 2 ^ (16 * m) = b % 2 ^ (16 * m)) : dgt a i = dgt b i := by
  rw [← dgt_mod a i m h, ← dgt_mod b i m h, e]
theorem dgt_zero (n i m : Nat) (h : n < 2 ^ (16 * m)) (hi : m ≤ i) : dgt n i = 0 := by
  unfold dgt; rw [Nat.div_eq_of_lt (Nat.lt_of_lt_of_le h (Nat.pow_le_pow_right (by omega) (by omega)))]
theorem mod_split (A k : Nat) : A % 2 ^ (16 * (k + 1)) = A % 2 ^ (16 * k) + 2 ^ (16 * k) * dgt A k := by
  rw [d_succ, Nat.mod_mul]; rfl
/-- The number that the first k digits are, whatever their size. -/
def pv (l : Nat → Nat) : Nat → Nat
  | 0 => 0
  | k + 1 => pv l k + l k * 2 ^ (16 * k)
theorem pv_mod (l : Nat → Nat) (j : Nat) : ∀ m, j ≤ m → pv l m % 2 ^ (16 * j) = pv l j % 2 ^ (16 * j)
  | 0, h => by rw [show j = 0 by omega]
  | m + 1, h => by
    by_cases e : j = m + 1
    · subst e; rfl
    · rw [pv, show 2 ^ (16 * m) = 2 ^ (16 * j) * 2 ^ (16 * (m - j)) by rw [← Nat.pow_add]; congr 1; omega, Nat.mul_left_comm, Nat.add_mul_mod_self_left]
      exact pv_mod l j m (by omega)
theorem pv_zero : ∀ k, pv (fun _ => 0) k = 0
  | 0 => rfl
  | k + 1 => by rw [pv, pv_zero k]; simp
theorem pv_lt (l : Nat → Nat) (hl : ∀ j, l j < 2 ^ 44) : ∀ k, pv l k < 2 ^ 29 * 2 ^ (16 * k)
  | 0 => by simp [pv]
  | k + 1 => by
    have ih := pv_lt l hl k
    have h1 : l k * 2 ^ (16 * k) ≤ 2 ^ 44 * 2 ^ (16 * k) := Nat.mul_le_mul_right _ (Nat.le_of_lt (hl k))
    rw [pv, d_succ]
    have := d_pos k
    omega
def ca (l : Nat → Nat) (k : Nat) : Nat := pv l k / 2 ^ (16 * k)
theorem ca_lt (l : Nat → Nat) (hl : ∀ j, l j < 2 ^ 44) (k : Nat) : ca l k < 2 ^ 29 := by
  unfold ca
  apply Nat.div_lt_of_lt_mul
  rw [Nat.mul_comm]; exact pv_lt l hl k
theorem ca_sum (l : Nat → Nat) (k : Nat) : pv l (k + 1) / 2 ^ (16 * k) = l k + ca l k := by
  rw [pv, Nat.mul_comm, Nat.add_mul_div_left _ _ (d_pos k)]; unfold ca; omega
theorem ca_succ (l : Nat → Nat) (k : Nat) : ca l (k + 1) = (l k + ca l k) / 65536 := by
  rw [← ca_sum, Nat.div_div_eq_div_mul, ← d_succ]; rfl
theorem ca_low (l : Nat → Nat) (k m : Nat) (h : k < m) : dgt (pv l m) k = (l k + ca l k) % 65536 := by
  rw [← ca_sum]
  show _ = dgt (pv l (k + 1)) k
  exact dgt_congr _ _ k (k + 1) (by omega) (pv_mod l (k + 1) m h)
theorem ca_zero (l : Nat → Nat) : ca l 0 = 0 := by simp [ca, pv]
/-- Digits with one that is greater. -/
def up (l : Nat → Nat) (m v j : Nat) : Nat := if j = m then l m + v else l j
theorem pv_up (l : Nat → Nat) (m v : Nat) : ∀ n, pv (up l m v) n = pv l n + if m < n then v * 2 ^ (16 * m) else 0
  | 0 => by simp [pv]
  | n + 1 => by
    rw [pv, pv, pv_up l m v n, up]
    by_cases h1 : n = m
    · subst h1
      rw [if_pos rfl, if_neg (by omega), if_pos (by omega)]
      grind
    · rw [if_neg h1]
      by_cases h2 : m < n
      · rw [if_pos h2, if_pos (by omega)]; omega
      · rw [if_neg h2, if_neg (by omega)]; omega
/-- The greatest number and one, of twenty digits; a name that no rule opens. -/
def m20 : Nat := 20
def M20 : Nat := 2 ^ (16 * m20)
def Eqm (a b : Nat) : Prop := a % M20 = b % M20
theorem mul_step (l : Nat → Nat) (a b i k : Nat) (hik : i + k < 20) (h : Eqm (pv l 20) (a % 2 ^ (16 * i) * b + 2 ^ (16 * i) * dgt a i * (b % 2 ^ (16 * k)))) :
    Eqm (pv (up l (i + k) (dgt a i * dgt b k)) 20) (a % 2 ^ (16 * i) * b + 2 ^ (16 * i) * dgt a i * (b % 2 ^ (16 * (k + 1)))) := by
  unfold Eqm at *
  rw [pv_up, if_pos hik, mod_split b k, d_add]
  have e : a % 2 ^ (16 * i) * b + 2 ^ (16 * i) * dgt a i * (b % 2 ^ (16 * k) + 2 ^ (16 * k) * dgt b k) = (a % 2 ^ (16 * i) * b + 2 ^ (16 * i) * dgt a i * (b % 2 ^ (16 * k))) + dgt a i * dgt b k * (2 ^ (16 * i) * 2 ^ (16 * k)) := by grind
  rw [e, Nat.add_mod, h, ← Nat.add_mod]
theorem mul_row (l : Nat → Nat) (a b i : Nat) (hi : i < 20) (h : Eqm (pv l 20) (a % 2 ^ (16 * i) * b + 2 ^ (16 * i) * dgt a i * (b % 2 ^ (16 * (20 - i))))) : Eqm (pv l 20) (a % 2 ^ (16 * (i + 1)) * b) := by
  unfold Eqm at *
  rw [h, mod_split a i, Nat.add_mul]
  have e : 2 ^ (16 * i) * dgt a i * b = 2 ^ (16 * i) * dgt a i * (b % 2 ^ (16 * (20 - i))) + M20 * (dgt a i * (b / 2 ^ (16 * (20 - i)))) := by
    have h1 := Nat.mod_add_div b (2 ^ (16 * (20 - i)))
    have h2 : M20 = 2 ^ (16 * i) * 2 ^ (16 * (20 - i)) := by unfold M20 m20; rw [← Nat.pow_add]; congr 1; omega
    rw [h2]
    generalize 2 ^ (16 * (20 - i)) = T at *
    generalize b % T = x at *
    generalize b / T = y at *
    rw [← h1]
    grind
  rw [e, ← Nat.add_assoc, Nat.add_mul_mod_self_left]
theorem mul_end (X a b i : Nat) (hi : i = m20) (h : Eqm X (a % 2 ^ (16 * i) * b)) : Eqm X (a * b) := by
  subst hi
  unfold Eqm M20 at *
  rw [h, Nat.mul_mod, Nat.mod_mod, ← Nat.mul_mod]
theorem dd_le (a b i k : Nat) : dgt a i * dgt b k ≤ 4294836225 := by
  have h1 := dgt_lt a i
  have h2 := dgt_lt b k
  exact Nat.mul_le_mul (show dgt a i ≤ 65535 by omega) (show dgt b k ≤ 65535 by omega)
theorem up_le (l : Nat → Nat) (m v c : Nat) (hl : ∀ j, l j ≤ c * 4294836225) (hv : v ≤ 4294836225) (j : Nat) : up l m v j ≤ (c + 1) * 4294836225 := by
  have h1 := hl j
  have h2 := hl m
  rw [Nat.add_mul, Nat.one_mul]
  generalize c * 4294836225 = C at h1 h2 ⊢
  unfold up
  by_cases h : j = m
  · rw [if_pos h]; exact Nat.add_le_add h2 hv
  · rw [if_neg h]; exact Nat.le_trans h1 (Nat.le_add_right _ _)
theorem dgt_eqm (a b i : Nat) (hi : i < m20) (h : Eqm a b) : dgt a i = dgt b i := dgt_congr a b i m20 hi h
/-- How numbers compare, by their highest unlike digit. -/
theorem above_dec (a b i : Nat) (h : a / 2 ^ (16 * (i + 1)) = b / 2 ^ (16 * (i + 1))) (hne : dgt a i ≠ dgt b i) : dgt b i < dgt a i ↔ b < a := by
  have ha : a / 2 ^ (16 * i) = 65536 * (a / 2 ^ (16 * (i + 1))) + dgt a i := by rw [d_succ, ← Nat.div_div_eq_div_mul]; unfold dgt; omega
  have hb : b / 2 ^ (16 * i) = 65536 * (b / 2 ^ (16 * (i + 1))) + dgt b i := by rw [d_succ, ← Nat.div_div_eq_div_mul]; unfold dgt; omega
  have h1 := Nat.div_add_mod a (2 ^ (16 * i))
  have h2 := Nat.div_add_mod b (2 ^ (16 * i))
  have h3 := Nat.mod_lt a (d_pos i)
  have h4 := Nat.mod_lt b (d_pos i)
  rw [h] at ha
  generalize 2 ^ (16 * i) = M at *
  generalize b / 2 ^ (16 * (i + 1)) = q at *
  generalize dgt a i = x at *
  generalize dgt b i = y at *
  generalize a % M = r at *
  generalize b % M = s at *
  rw [ha] at h1
  rw [hb] at h2
  constructor
  · intro hxy
    have : M * (65536 * q + y + 1) ≤ M * (65536 * q + x) := Nat.mul_le_mul_left _ (by omega)
    rw [Nat.mul_add, Nat.mul_one] at this
    omega
  · intro hba
    rcases Nat.lt_or_gt_of_ne hne with hxy | hxy
    · have : M * (65536 * q + x + 1) ≤ M * (65536 * q + y) := Nat.mul_le_mul_left _ (by omega)
      rw [Nat.mul_add, Nat.mul_one] at this
      omega
    · exact hxy
theorem top_next (a b i : Nat) (h : a / 2 ^ (16 * (i + 1)) = b / 2 ^ (16 * (i + 1))) (he : dgt a i = dgt b i) : a / 2 ^ (16 * i) = b / 2 ^ (16 * i) := by
  have ha : a / 2 ^ (16 * i) = 65536 * (a / 2 ^ (16 * (i + 1))) + dgt a i := by rw [d_succ, ← Nat.div_div_eq_div_mul]; unfold dgt; omega
  have hb : b / 2 ^ (16 * i) = 65536 * (b / 2 ^ (16 * (i + 1))) + dgt b i := by rw [d_succ, ← Nat.div_div_eq_div_mul]; unfold dgt; omega
  rw [ha, hb, h, he]
/-- The root, bit by bit: behind k bits. -/
def pw3 (third : Bool) (t : Nat) : Nat := if third then t * t * t else t * t
def rtN (g : Nat) (third : Bool) : Nat → Nat
  | 0 => 0
  | k + 1 => if pw3 third (rtN g third k + 2 ^ (68 - k)) ≤ g then rtN g third k + 2 ^ (68 - k) else rtN g third k
theorem rtN_low (g : Nat) (third : Bool) : ∀ k, k ≤ 69 → rtN g third k % 2 ^ (69 - k) = 0 ∧ rtN g third k < 2 ^ 69
  | 0, _ => by simp [rtN]
  | k + 1, hk => by
    obtain ⟨h1, h2⟩ := rtN_low g third k (by omega)
    have e : 2 ^ (69 - k) = 2 * 2 ^ (68 - k) := by rw [← Nat.pow_succ']; congr 1; omega
    have e2 : 69 - (k + 1) = 68 - k := by omega
    have hb : rtN g third k + 2 ^ (68 - k) < 2 ^ 69 := by
      have h3 : 2 ^ 69 = 2 ^ (69 - k) * 2 ^ k := by rw [← Nat.pow_add]; congr 1; omega
      have h4 := Nat.div_add_mod (rtN g third k) (2 ^ (69 - k))
      rw [h1, Nat.add_zero] at h4
      have h5 : rtN g third k / 2 ^ (69 - k) < 2 ^ k := Nat.div_lt_of_lt_mul (by rw [← h3]; exact h2)
      have h6 : 2 ^ (69 - k) * (rtN g third k / 2 ^ (69 - k) + 1) ≤ 2 ^ (69 - k) * 2 ^ k := Nat.mul_le_mul_left _ h5
      rw [Nat.mul_add, Nat.mul_one, h4, ← h3, e] at h6
      have := Nat.two_pow_pos (68 - k)
      omega
    have hm : rtN g third k % 2 ^ (68 - k) = 0 := by
      rw [e] at h1
      have := Nat.mod_mul_left_mod (rtN g third k) 2 (2 ^ (68 - k))
      rw [h1, Nat.zero_mod] at this
      exact this.symm
    rw [rtN, e2]
    split
    · exact ⟨by rw [Nat.add_mod_right]; exact hm, hb⟩
    · exact ⟨hm, h2⟩
def pL : List Nat := [2, 3, 5, 7, 11, 13, 17, 19, 23, 29, 31, 37, 41, 43, 47, 53, 59, 61, 67, 71, 73, 79, 83, 89, 97, 101, 103, 107, 109, 113, 127, 131, 137, 139, 149, 151, 157, 163, 167, 173, 179, 181, 191, 193, 197, 199, 211, 223, 227, 229, 233, 239, 241, 251, 257, 263, 269, 271, 277, 281, 283, 293, 307, 311, 313, 317, 331, 337, 347, 349, 353, 359, 367, 373, 379, 383, 389, 397, 401, 409]
def pr (i : Nat) : Nat := pL.getD i 0
theorem k_root (i : Nat) (hi : i < 80) : rtN (pr i * 2 ^ 192) true 69 % 2 ^ 64 = kc i := by
  have : (List.range 80).all (fun i => rtN (pr i * 2 ^ 192) true 69 % 2 ^ 64 == kc i) = true := by decide +kernel
  simpa using List.all_eq_true.1 this i (by simpa using hi)
theorem h_root (i : Nat) (hi : i < 8) : rtN (pr i * 2 ^ 128) false 69 % 2 ^ 64 = hc i := by
  have : (List.range 8).all (fun i => rtN (pr i * 2 ^ 128) false 69 % 2 ^ 64 == hc i) = true := by decide +kernel
  simpa using List.all_eq_true.1 this i (by simpa using hi)
/-- No number from 2 up to d divides p. -/
def pf (p : Nat) : Nat → Bool
  | 0 => true
  | d + 1 => pf p d && (decide (d < 2) || p % d != 0)
/-- How many primes there are up to p. -/
def cnt (p : Nat) : Nat := (pL.filter (fun q => decide (q ≤ p))).length
theorem pf_stop (p d : Nat) (hp : p ≤ 409) (hd : d ≤ 21) (h : p < d * d) (h1 : (d - 1) * (d - 1) ≤ p) (h2 : 2 ≤ p) : pf p d = pL.contains p := by
  have : (List.range 410).all (fun p => (List.range 22).all fun d => !(decide (p < d * d) && decide ((d - 1) * (d - 1) ≤ p) && decide (2 ≤ p)) || (pf p d == pL.contains p)) = true := by decide +kernel
  have h3 := List.all_eq_true.1 (List.all_eq_true.1 this p (by simpa using (by omega : p < 410))) d (by simpa using (by omega : d < 22))
  simpa [h, h1, h2] using h3
theorem cnt_step (p : Nat) (hp : p < 409) : cnt (p + 1) = cnt p + if pL.contains (p + 1) then 1 else 0 := by
  have : (List.range 409).all (fun p => cnt (p + 1) == cnt p + if pL.contains (p + 1) then 1 else 0) = true := by decide +kernel
  simpa using List.all_eq_true.1 this p (by simpa using hp)
theorem cnt_pr (p n : Nat) (hp : p ≤ 409) (hn : n < 80) : cnt p ≤ n ↔ p < pr n := by
  have : (List.range 410).all (fun p => (List.range 80).all fun n => decide (cnt p ≤ n) == decide (p < pr n)) = true := by decide +kernel
  have h3 := List.all_eq_true.1 (List.all_eq_true.1 this p (by simpa using (by omega : p < 410))) n (by simpa using hn)
  simpa using h3
theorem pr_le (n : Nat) (hn : n < 80) : pr n ≤ 409 ∧ 2 ≤ pr n := by
  have : (List.range 80).all (fun n => decide (pr n ≤ 409) && decide (2 ≤ pr n)) = true := by decide +kernel
  simpa using List.all_eq_true.1 this n (by simpa using hn)
end Go.Proofs.YtplckpmicoohnaaDoor

/- Numbers byte by byte: carries, borrows, doubling; no program. -/
import Derived.Deep.DeepCutAuto
import Derived.Test.YtbpmakegimgbpaaDoorSh
namespace Go.Proofs.YtbpmakegimgbpaaDoor.S

theorem d_pos (i : Nat) : 0 < 2 ^ (8 * i) := Nat.two_pow_pos _
theorem d_succ (i : Nat) : 2 ^ (8 * (i + 1)) = 2 ^ (8 * i) * 256 := by rw [Nat.mul_add, Nat.mul_one, Nat.pow_add]
theorem d_add (i j : Nat) : 2 ^ (8 * (i + j)) = 2 ^ (8 * i) * 2 ^ (8 * j) := by rw [Nat.mul_add, Nat.pow_add]
theorem byt_mod (n i m : Nat) (h : i < m) : byt (n % 2 ^ (8 * m)) i = byt n i := by
  have e : 2 ^ (8 * m) = 2 ^ (8 * i) * (256 * 2 ^ (8 * (m - i - 1))) := by
    rw [show 256 = 2 ^ 8 from rfl, ← Nat.pow_add, ← Nat.pow_add]; congr 1; omega
  unfold byt
  rw [e, Nat.mod_mul_right_div_self, Nat.mod_mul_right_mod]
theorem byt_congr (a b i m : Nat) (h : i < m) (e : a % 2 ^ (8 * m) = b % 2 ^ (8 * m)) : byt a i = byt b i := by
  rw [← byt_mod a i m h, ← byt_mod b i m h, e]
theorem nb_mod (l : Nat → Nat) (j : Nat) : ∀ m, j ≤ m → nb l m % 2 ^ (8 * j) = nb l j % 2 ^ (8 * j)
  | 0, h => by rw [show j = 0 by omega]
  | m + 1, h => by
    by_cases e : j = m + 1
    · subst e; rfl
    · rw [nb, show 2 ^ (8 * m) = 2 ^ (8 * j) * 2 ^ (8 * (m - j)) by rw [← Nat.pow_add]; congr 1; omega, Nat.mul_left_comm, Nat.add_mul_mod_self_left]
      exact nb_mod l j m (by omega)
theorem nb_lt27 (l : Nat → Nat) (hl : ∀ j, l j < 2 ^ 27) : ∀ k, nb l k < 2 ^ 20 * 2 ^ (8 * k)
  | 0 => by simp [nb]
  | k + 1 => by
    have ih := nb_lt27 l hl k
    have h1 : l k * 2 ^ (8 * k) ≤ 2 ^ 27 * 2 ^ (8 * k) := Nat.mul_le_mul_right _ (Nat.le_of_lt (hl k))
    rw [nb, d_succ]
    have := d_pos k
    omega
def ca (l : Nat → Nat) (k : Nat) : Nat := nb l k / 2 ^ (8 * k)
theorem ca_lt (l : Nat → Nat) (hl : ∀ j, l j < 2 ^ 27) (k : Nat) : ca l k < 2 ^ 20 := by
  unfold ca
  apply Nat.div_lt_of_lt_mul
  rw [Nat.mul_comm]; exact nb_lt27 l hl k
theorem ca_sum (l : Nat → Nat) (k : Nat) : nb l (k + 1) / 2 ^ (8 * k) = l k + ca l k := by
  rw [nb, Nat.mul_comm, Nat.add_mul_div_left _ _ (d_pos k)]; unfold ca; omega
theorem ca_succ (l : Nat → Nat) (k : Nat) : ca l (k + 1) = (l k + ca l k) / 256 := by
  rw [← ca_sum, Nat.div_div_eq_div_mul, ← d_succ]; rfl
theorem ca_low (l : Nat → Nat) (k m : Nat) (h : k < m) : byt (nb l m) k = (l k + ca l k) % 256 := by
  rw [← ca_sum]
  show _ = byt (nb l (k + 1)) k
  exact byt_congr _ _ k (k + 1) (by omega) (nb_mod l (k + 1) m h)
theorem ca_zero (l : Nat → Nat) : ca l 0 = 0 := by simp [ca, nb]
theorem d_split (A k : Nat) : A / 2 ^ (8 * k) = 256 * (A / 2 ^ (8 * (k + 1))) + byt A k := by
  rw [d_succ, ← Nat.div_div_eq_div_mul]; unfold byt; omega
theorem mod_split (A k : Nat) : A % 2 ^ (8 * (k + 1)) = A % 2 ^ (8 * k) + 2 ^ (8 * k) * byt A k := by
  rw [d_succ, Nat.mod_mul]; rfl
theorem lex_lt (M x y x0 y0 : Nat) (hx : x0 < M) (hy : y0 < M) : (x0 + M * x < y0 + M * y) ↔ (x < y ∨ (x = y ∧ x0 < y0)) := by
  constructor
  · intro h
    by_cases h1 : x < y
    · exact .inl h1
    · right
      by_cases h2 : x = y
      · subst h2; exact ⟨rfl, by omega⟩
      · exfalso
        have : M * (y + 1) ≤ M * x := Nat.mul_le_mul_left M (by omega)
        rw [Nat.mul_add] at this
        omega
  · rintro (h | ⟨rfl, h⟩)
    · have : M * (x + 1) ≤ M * y := Nat.mul_le_mul_left M (by omega)
      rw [Nat.mul_add] at this
      omega
    · omega
/-- The borrow into place k. -/
def bw (A B k : Nat) : Nat := if A % 2 ^ (8 * k) < B % 2 ^ (8 * k) then 1 else 0
theorem bw_le (A B k : Nat) : bw A B k ≤ 1 := by unfold bw; split <;> omega
theorem bw_zero (A B : Nat) : bw A B 0 = 0 := by unfold bw; simp [Nat.mod_one]
theorem bw_succ (A B k : Nat) : bw A B (k + 1) = 1 - (byt A k + 256 - byt B k - bw A B k) / 256 := by
  have ha := byt_lt A k
  have hb := byt_lt B k
  have hA := Nat.mod_lt A (d_pos k)
  have hB := Nat.mod_lt B (d_pos k)
  have key := lex_lt (2 ^ (8 * k)) (byt A k) (byt B k) _ _ hA hB
  unfold bw
  rw [mod_split, mod_split]
  by_cases h0 : A % 2 ^ (8 * k) < B % 2 ^ (8 * k)
  · rw [if_pos h0]
    by_cases h1 : A % 2 ^ (8 * k) + 2 ^ (8 * k) * byt A k < B % 2 ^ (8 * k) + 2 ^ (8 * k) * byt B k
    · rw [if_pos h1]
      have := key.1 h1
      omega
    · rw [if_neg h1]
      have : ¬ (byt A k < byt B k ∨ (byt A k = byt B k ∧ A % 2 ^ (8 * k) < B % 2 ^ (8 * k))) := fun h => h1 (key.2 h)
      omega
  · rw [if_neg h0]
    by_cases h1 : A % 2 ^ (8 * k) + 2 ^ (8 * k) * byt A k < B % 2 ^ (8 * k) + 2 ^ (8 * k) * byt B k
    · rw [if_pos h1]
      have := key.1 h1
      omega
    · rw [if_neg h1]
      have : ¬ (byt A k < byt B k ∨ (byt A k = byt B k ∧ A % 2 ^ (8 * k) < B % 2 ^ (8 * k))) := fun h => h1 (key.2 h)
      omega
theorem sub_div (M a1 b1 a0 b0 : Nat) (ha : a0 < M) (hb : b0 < M) (h : M * b1 + b0 ≤ M * a1 + a0) : (M * a1 + a0 - (M * b1 + b0)) / M = a1 - b1 - (if a0 < b0 then 1 else 0) ∧ b1 + (if a0 < b0 then 1 else 0) ≤ a1 := by
  by_cases h0 : a0 < b0
  · rw [if_pos h0]
    have h1 : b1 + 1 ≤ a1 := by
      apply Classical.byContradiction
      intro hc
      have : M * a1 ≤ M * b1 := Nat.mul_le_mul_left M (by omega)
      omega
    refine ⟨?_, h1⟩
    obtain ⟨c, rfl⟩ : ∃ c, a1 = b1 + 1 + c := ⟨a1 - b1 - 1, by omega⟩
    rw [show M * (b1 + 1 + c) + a0 - (M * b1 + b0) = (M + a0 - b0) + M * c by rw [Nat.mul_add, Nat.mul_add]; omega, Nat.add_mul_div_left _ _ (by omega), Nat.div_eq_of_lt (by omega)]
    omega
  · rw [if_neg h0]
    have h1 : b1 ≤ a1 := by
      apply Classical.byContradiction
      intro hc
      have : M * (a1 + 1) ≤ M * b1 := Nat.mul_le_mul_left M (by omega)
      rw [Nat.mul_add] at this
      omega
    refine ⟨?_, by omega⟩
    obtain ⟨c, rfl⟩ : ∃ c, a1 = b1 + c := ⟨a1 - b1, by omega⟩
    rw [show M * (b1 + c) + a0 - (M * b1 + b0) = (a0 - b0) + M * c by rw [Nat.mul_add]; omega, Nat.add_mul_div_left _ _ (by omega), Nat.div_eq_of_lt (by omega)]
    omega
theorem byt_sub (A B k : Nat) (h : B ≤ A) : byt (A - B) k = (byt A k + 256 - byt B k - bw A B k) % 256 := by
  have hA := Nat.mod_lt A (d_pos k)
  have hB := Nat.mod_lt B (d_pos k)
  have eA := Nat.div_add_mod A (2 ^ (8 * k))
  have eB := Nat.div_add_mod B (2 ^ (8 * k))
  have hs := sub_div (2 ^ (8 * k)) (A / 2 ^ (8 * k)) (B / 2 ^ (8 * k)) _ _ hA hB (by rw [eA, eB]; exact h)
  rw [eA, eB] at hs
  have hb := bw_le A B k
  unfold byt
  rw [hs.1]
  have h2 := hs.2
  unfold bw at hb ⊢
  generalize (if A % 2 ^ (8 * k) < B % 2 ^ (8 * k) then 1 else 0) = b at *
  generalize A / 2 ^ (8 * k) = a1 at *
  generalize B / 2 ^ (8 * k) = b1 at *
  omega
theorem same_up (A B k : Nat) (h : A / 2 ^ (8 * (k + 1)) = B / 2 ^ (8 * (k + 1))) (hd : byt A k = byt B k) : A / 2 ^ (8 * k) = B / 2 ^ (8 * k) := by
  rw [d_split A k, d_split B k, h, hd]
theorem lt_up (A B k : Nat) (h : A / 2 ^ (8 * (k + 1)) = B / 2 ^ (8 * (k + 1))) (hd : byt A k ≠ byt B k) : decide (A < B) = decide (byt A k < byt B k) := by
  have e1 := d_split A k
  have e2 := d_split B k
  rw [h] at e1
  rw [Bool.eq_iff_iff, decide_eq_true_eq, decide_eq_true_eq]
  constructor
  · intro hl
    have : A / 2 ^ (8 * k) ≤ B / 2 ^ (8 * k) := Nat.div_le_div_right (Nat.le_of_lt hl)
    omega
  · intro hl
    apply Classical.byContradiction
    intro hc
    have : B / 2 ^ (8 * k) ≤ A / 2 ^ (8 * k) := Nat.div_le_div_right (by omega)
    omega
/-- Digits with one that is greater. -/
def up (l : Nat → Nat) (m v j : Nat) : Nat := if j = m then l m + v else l j
theorem nb_up (l : Nat → Nat) (m v : Nat) : ∀ n, nb (up l m v) n = nb l n + if m < n then v * 2 ^ (8 * m) else 0
  | 0 => by simp [nb]
  | n + 1 => by
    rw [nb, nb, nb_up l m v n, up]
    by_cases h1 : n = m
    · subst h1
      rw [if_pos rfl, if_neg (by omega), if_pos (by omega)]
      grind
    · rw [if_neg h1]
      by_cases h2 : m < n
      · rw [if_pos h2, if_pos (by omega)]; omega
      · rw [if_neg h2, if_neg (by omega)]; omega

theorem mul_step (l : Nat → Nat) (a b c i k : Nat) (hik : i + k < 65) (h : nb l 65 = a % 2 ^ (8 * i) * b + c % 2 ^ (8 * i) + 2 ^ (8 * i) * byt a i * (b % 2 ^ (8 * k))) :
    nb (up l (i + k) (byt a i * byt b k)) 65 = a % 2 ^ (8 * i) * b + c % 2 ^ (8 * i) + 2 ^ (8 * i) * byt a i * (b % 2 ^ (8 * (k + 1))) := by
  rw [nb_up, if_pos hik, h, mod_split b k, d_add]
  grind
theorem mul_row (l : Nat → Nat) (a b c i : Nat) (hi : i < 65) (hb : b < 2 ^ 256) (h : nb l 65 = a % 2 ^ (8 * i) * b + c % 2 ^ (8 * i) + 2 ^ (8 * i) * byt a i * (b % 2 ^ (8 * 32))) :
    nb (up l i (byt c i)) 65 = a % 2 ^ (8 * (i + 1)) * b + c % 2 ^ (8 * (i + 1)) := by
  rw [nb_up, if_pos hi, h, mod_split a i, mod_split c i, Nat.mod_eq_of_lt (show b < 2 ^ (8 * 32) from hb)]
  grind

/-- The bit that goes into place k. -/
def tb (n b k : Nat) : Nat := if k = 0 then b else byt n (k - 1) / 128
theorem tb_le (n b k : Nat) (hb : b ≤ 1) : tb n b k ≤ 1 := by
  unfold tb
  split
  · exact hb
  · have := byt_lt n (k - 1); omega
theorem tb_next (n b k : Nat) : tb n b (k + 1) = byt n k / 128 := by
  unfold tb; rw [if_neg (by omega)]; rfl
theorem twice_div (M q r b : Nat) (hr : r < 256 * M) (hb : b ≤ 1) : (2 * (256 * M * q + r) + b) / (256 * M) = 2 * q + r / M / 128 := by
  have hM : 0 < M := by rcases Nat.eq_zero_or_pos M with h | h; subst h; omega; exact h
  have e1 : r / M / 128 = r / (M * 128) := Nat.div_div_eq_div_mul _ _ _
  rw [e1, show 2 * (256 * M * q + r) + b = (2 * r + b) + 256 * M * (2 * q) by rw [Nat.mul_left_comm (256 * M) 2 q, Nat.mul_add]; omega, Nat.add_mul_div_left _ _ (by omega)]
  by_cases h : r < M * 128
  · rw [Nat.div_eq_of_lt h, Nat.div_eq_of_lt (by omega)]; omega
  · have e2 : r / (M * 128) = 1 := by
      exact Nat.div_eq_of_lt_le (k := 1) (by omega) (by omega)
    have e3 : (2 * r + b) / (256 * M) = 1 := by
      exact Nat.div_eq_of_lt_le (k := 1) (by omega) (by omega)
    omega
theorem byt_twice (n b k : Nat) (hb : b ≤ 1) : byt (2 * n + b) k = byt n k * 2 % 256 + tb n b k := by
  rcases Nat.eq_zero_or_pos k with h | h
  · subst h; unfold tb byt; simp; omega
  · obtain ⟨j, rfl⟩ : ∃ j, k = j + 1 := ⟨k - 1, by omega⟩
    rw [tb_next]
    have hM := d_pos j
    have e := Nat.div_add_mod n (256 * 2 ^ (8 * j))
    have hr := Nat.mod_lt n (show 0 < 256 * 2 ^ (8 * j) by omega)
    have hk := twice_div (2 ^ (8 * j)) (n / (256 * 2 ^ (8 * j))) (n % (256 * 2 ^ (8 * j))) b hr hb
    rw [e] at hk
    have e1 : 2 ^ (8 * (j + 1)) = 256 * 2 ^ (8 * j) := by rw [d_succ, Nat.mul_comm]
    have e2 : n % (256 * 2 ^ (8 * j)) / 2 ^ (8 * j) = byt n j := by
      rw [Nat.mul_comm, Nat.mod_mul_right_div_self]; rfl
    rw [e2] at hk
    have h3 := byt_lt n j
    unfold byt at hk h3 ⊢
    rw [e1, hk]
    generalize n / (256 * 2 ^ (8 * j)) = q
    generalize n / 2 ^ (8 * j) % 256 = c at *
    omega
theorem bit_byt (m i : Nat) : byt m (i / 8) / 2 ^ (i % 8) % 2 = m / 2 ^ i % 2 := by
  unfold byt
  have h8 : 256 = 2 ^ (i % 8) * (2 * 2 ^ (8 - i % 8 - 1)) := by
    rw [show 2 ^ (i % 8) * (2 * 2 ^ (8 - i % 8 - 1)) = 2 ^ (i % 8) * (2 ^ 1 * 2 ^ (8 - i % 8 - 1)) from rfl, ← Nat.pow_add, ← Nat.pow_add, show 256 = 2 ^ 8 from rfl]; congr 1; omega
  rw [h8, Nat.mod_mul_right_div_self, Nat.mod_mul_right_mod, Nat.div_div_eq_div_mul, ← Nat.pow_add]
  congr 3; omega
theorem dd_le (a b i k : Nat) : byt a i * byt b k ≤ 65025 := by
  have h1 := byt_lt a i
  have h2 := byt_lt b k
  exact Nat.mul_le_mul (show byt a i ≤ 255 by omega) (show byt b k ≤ 255 by omega)
theorem up_le (l : Nat → Nat) (m v c : Nat) (hl : ∀ j, l j ≤ c * 65025) (hv : v ≤ 65025) (j : Nat) : up l m v j ≤ (c + 1) * 65025 := by
  have h1 := hl j
  have h2 := hl m
  rw [Nat.add_mul, Nat.one_mul]
  generalize c * 65025 = C at h1 h2 ⊢
  unfold up
  by_cases h : j = m
  · rw [if_pos h]; exact Nat.add_le_add h2 hv
  · rw [if_neg h]; exact Nat.le_trans h1 (Nat.le_add_right _ _)

end Go.Proofs.YtbpmakegimgbpaaDoor.S

/- Plain arithmetic under the reference: digits of sixteen bits, carries, borrows and folds. No program; no conditions but those that each names. -/
import Derived.Test.YtbpmakegimgbpaaGreatDoorMm
import Derived.Test.YtbpmakegimgbpaaGreatDoorJw
namespace Go.Proofs.YtbpmakegimgbpaaGreatDoor.F
/-- The digit of sixteen bits in place i. -/
def dg (n i : Nat) : Nat := n / 2 ^ (16 * i) % 65536
theorem dg_lt (n i : Nat) : dg n i < 65536 := Nat.mod_lt _ (by omega)
theorem d_pos (i : Nat) : 0 < 2 ^ (16 * i) := Nat.two_pow_pos _
theorem d_succ (i : Nat) : 2 ^ (16 * (i + 1)) = 2 ^ (16 * i) * 65536 := by rw [Nat.mul_add, Nat.mul_one, Nat.pow_add]
theorem d_add (i j : Nat) : 2 ^ (16 * (i + j)) = 2 ^ (16 * i) * 2 ^ (16 * j) := by rw [Nat.mul_add, Nat.pow_add]
theorem dg_mod (n i m : Nat) (h : i < m) : dg (n % 2 ^ (16 * m)) i = dg n i := by
  have e : 2 ^ (16 * m) = 2 ^ (16 * i) * (65536 * 2 ^ (16 * (m - i - 1))) := by
    rw [show 65536 = 2 ^ 16 from rfl, ← Nat.pow_add, ← Nat.pow_add]; congr 1; omega
  unfold dg
  rw [e, Nat.mod_mul_right_div_self, Nat.mod_mul_right_mod]
theorem dg_congr (a b i m : Nat) (h : i < m) (e : a % 2 ^ (16 * m) = b % 2 ^ (16 * m)) : dg a i = dg b i := by
  rw [← dg_mod a i m h, ← dg_mod b i m h, e]
theorem dg_up (n i m : Nat) : dg n (i + m) = dg (n / 2 ^ (16 * m)) i := by
  unfold dg; rw [d_add, Nat.div_div_eq_div_mul, Nat.mul_comm]
theorem dg_zero (n i m : Nat) (h : n < 2 ^ (16 * m)) (hi : m ≤ i) : dg n i = 0 := by
  unfold dg; rw [Nat.div_eq_of_lt (Nat.lt_of_lt_of_le h (Nat.pow_le_pow_right (by omega) (by omega)))]
/-- The number that the first k digits are, whatever their size. -/
def pv (l : Nat → Nat) : Nat → Nat
  | 0 => 0
  | k + 1 => pv l k + l k * 2 ^ (16 * k)
theorem pv_congr (f g : Nat → Nat) : ∀ k, (∀ j, j < k → f j = g j) → pv f k = pv g k
  | 0, _ => rfl
  | k + 1, h => by rw [pv, pv, pv_congr f g k (fun j hj => h j (by omega)), h k (by omega)]
theorem pv_dg (n : Nat) : ∀ k, pv (dg n) k = n % 2 ^ (16 * k)
  | 0 => by simp [pv, Nat.mod_one]
  | k + 1 => by
    rw [pv, pv_dg n k, d_succ, Nat.mod_mul, Nat.mul_comm (dg n k)]; rfl
theorem pv_mod (l : Nat → Nat) (j : Nat) : ∀ m, j ≤ m → pv l m % 2 ^ (16 * j) = pv l j % 2 ^ (16 * j)
  | 0, h => by rw [show j = 0 by omega]
  | m + 1, h => by
    by_cases e : j = m + 1
    · subst e; rfl
    · rw [pv, show 2 ^ (16 * m) = 2 ^ (16 * j) * 2 ^ (16 * (m - j)) by rw [← Nat.pow_add]; congr 1; omega, Nat.mul_left_comm, Nat.add_mul_mod_self_left]
      exact pv_mod l j m (by omega)
theorem pv_lt (l : Nat → Nat) (hl : ∀ j, l j < 2 ^ 40) : ∀ k, pv l k < 2 ^ 25 * 2 ^ (16 * k)
  | 0 => by simp [pv]
  | k + 1 => by
    have ih := pv_lt l hl k
    have h1 : l k * 2 ^ (16 * k) ≤ 2 ^ 40 * 2 ^ (16 * k) := Nat.mul_le_mul_right _ (Nat.le_of_lt (hl k))
    rw [pv, d_succ]
    have := d_pos k
    omega
def ca (l : Nat → Nat) (k : Nat) : Nat := pv l k / 2 ^ (16 * k)
theorem ca_lt (l : Nat → Nat) (hl : ∀ j, l j < 2 ^ 40) (k : Nat) : ca l k < 2 ^ 25 := by
  unfold ca
  apply Nat.div_lt_of_lt_mul
  rw [Nat.mul_comm]; exact pv_lt l hl k
theorem ca_sum (l : Nat → Nat) (k : Nat) : pv l (k + 1) / 2 ^ (16 * k) = l k + ca l k := by
  rw [pv, Nat.mul_comm, Nat.add_mul_div_left _ _ (d_pos k)]; unfold ca; omega
theorem ca_succ (l : Nat → Nat) (k : Nat) : ca l (k + 1) = (l k + ca l k) / 65536 := by
  rw [← ca_sum, Nat.div_div_eq_div_mul, ← d_succ]; rfl
theorem ca_low (l : Nat → Nat) (k m : Nat) (h : k < m) : dg (pv l m) k = (l k + ca l k) % 65536 := by
  rw [← ca_sum]
  show _ = dg (pv l (k + 1)) k
  exact dg_congr _ _ k (k + 1) (by omega) (pv_mod l (k + 1) m h)
theorem ca_zero (l : Nat → Nat) : ca l 0 = 0 := by simp [ca, pv]
theorem pv_add (a b : Nat → Nat) : ∀ k, pv (fun j => a j + 38 * b j) k = pv a k + 38 * pv b k
  | 0 => rfl
  | k + 1 => by
    have ih := pv_add a b k
    simp only [pv]
    rw [ih, Nat.add_mul, Nat.mul_assoc, Nat.mul_add]
    omega
theorem pv_stop (g : Nat → Nat) (m : Nat) : ∀ k, (∀ j, m ≤ j → g j = 0) → pv g (m + k) = pv g m
  | 0, _ => rfl
  | k + 1, h => by rw [← Nat.add_assoc, pv, pv_stop g m k h, h (m + k) (by omega), Nat.zero_mul, Nat.add_zero]
/-- One round's digits, folded. -/
def fdg (v j : Nat) : Nat := if j < 16 then dg v j + 38 * dg v (j + 16) else 0
theorem fdg_lt (v j : Nat) : fdg v j < 2 ^ 40 := by
  unfold fdg
  have h1 := dg_lt v j
  have h2 := dg_lt v (j + 16)
  split <;> omega
theorem pv_fdg (v : Nat) (hv : v < 2 ^ 256 * 2 ^ 256) : pv (fdg v) 32 = fo v := by
  have e1 : pv (fdg v) (16 + 16) = pv (fdg v) 16 := pv_stop _ 16 16 (fun j hj => by unfold fdg; rw [if_neg (by omega)])
  have e2 : pv (fdg v) 16 = pv (fun j => dg v j + 38 * dg (v / 2 ^ 256) j) 16 := pv_congr _ _ 16 fun j hj => by
    unfold fdg; rw [if_pos hj, dg_up v j 16]
  rw [show (32 : Nat) = 16 + 16 from rfl, e1, e2, pv_add, pv_dg, pv_dg, show 16 * 16 = 256 from rfl, Nat.mod_eq_of_lt (Nat.div_lt_of_lt_mul hv)]
  unfold fo; omega
/-- Rounds of folding. -/
def foN (v : Nat) : Nat → Nat
  | 0 => v
  | r + 1 => fo (foN v r)
theorem foN_lt (v : Nat) (hv : v < 2 ^ 256 * 2 ^ 256) : ∀ r, foN v r < 2 ^ 256 * 2 ^ 256
  | 0 => hv
  | r + 1 => by
    have ih := foN_lt v hv r
    have h1 : foN v r / 2 ^ 256 < 2 ^ 256 := Nat.div_lt_of_lt_mul ih
    have h2 := Nat.mod_lt (foN v r) (show 2 ^ 256 > 0 by omega)
    simp only [foN, fo]
    omega
theorem foN_val (v : Nat) : ∀ r, foN v r % pP = v % pP
  | 0 => rfl
  | r + 1 => by rw [foN, show fo (foN v r) % pP = foN v r % pP from fo_val _, foN_val v r]
theorem foN_four (v : Nat) (hv : v < 2 ^ 256 * 2 ^ 256) : foN v 4 < 2 ^ 256 := by
  have h0 : v / 2 ^ 256 < 2 ^ 256 := Nat.div_lt_of_lt_mul hv
  have h1 : fo v < 39 * 2 ^ 256 := by unfold fo; omega
  have h2 : fo (fo v) < 2 ^ 256 + 1500 := by
    generalize fo v = a at *
    unfold fo; omega
  have h3 : fo (fo (fo v)) < 2 ^ 256 := by
    generalize fo (fo v) = a at *
    unfold fo; omega
  have h4 : fo (fo (fo (fo v))) < 2 ^ 256 := by
    generalize fo (fo (fo v)) = a at *
    unfold fo; omega
  exact h4
theorem d_split (A k : Nat) : A / 2 ^ (16 * k) = 65536 * (A / 2 ^ (16 * (k + 1))) + dg A k := by
  rw [d_succ, ← Nat.div_div_eq_div_mul]; unfold dg; omega
theorem mod_split (A k : Nat) : A % 2 ^ (16 * (k + 1)) = A % 2 ^ (16 * k) + 2 ^ (16 * k) * dg A k := by
  rw [d_succ, Nat.mod_mul]; rfl
theorem lex_lt (M x y x0 y0 : Nat) (hx : x0 < M) (hy : y0 < M) : (x0 + M * x < y0 + M * y) ↔ (x < y ∨ (x = y ∧ x0 < y0)) := by
  constructor
  · intro h
    by_cases h1 : x < y
    · exact .inl h1
    · right
      by_cases h2 : x = y
      · subst h2; exact ⟨rfl, by omega⟩
      · exfalso
        have : M * (y + 1) ≤ M * x := Nat.mul_le_mul_left M (by omega)
        rw [Nat.mul_add] at this
        omega
  · rintro (h | ⟨rfl, h⟩)
    · have : M * (x + 1) ≤ M * y := Nat.mul_le_mul_left M (by omega)
      rw [Nat.mul_add] at this
      omega
    · omega
/-- The borrow into place k. -/
def bw (A B k : Nat) : Nat := if A % 2 ^ (16 * k) < B % 2 ^ (16 * k) then 1 else 0
theorem bw_le (A B k : Nat) : bw A B k ≤ 1 := by unfold bw; split <;> omega
theorem bw_zero (A B : Nat) : bw A B 0 = 0 := by unfold bw; simp [Nat.mod_one]
theorem bw_succ (A B k : Nat) : bw A B (k + 1) = 1 - (dg A k + 65536 - dg B k - bw A B k) / 65536 := by
  have ha := dg_lt A k
  have hb := dg_lt B k
  have hA := Nat.mod_lt A (d_pos k)
  have hB := Nat.mod_lt B (d_pos k)
  have key := lex_lt (2 ^ (16 * k)) (dg A k) (dg B k) _ _ hA hB
  unfold bw
  rw [mod_split, mod_split]
  by_cases h0 : A % 2 ^ (16 * k) < B % 2 ^ (16 * k)
  · rw [if_pos h0]
    by_cases h1 : A % 2 ^ (16 * k) + 2 ^ (16 * k) * dg A k < B % 2 ^ (16 * k) + 2 ^ (16 * k) * dg B k
    · rw [if_pos h1]
      have := key.1 h1
      omega
    · rw [if_neg h1]
      have : ¬ (dg A k < dg B k ∨ (dg A k = dg B k ∧ A % 2 ^ (16 * k) < B % 2 ^ (16 * k))) := fun h => h1 (key.2 h)
      omega
  · rw [if_neg h0]
    by_cases h1 : A % 2 ^ (16 * k) + 2 ^ (16 * k) * dg A k < B % 2 ^ (16 * k) + 2 ^ (16 * k) * dg B k
    · rw [if_pos h1]
      have := key.1 h1
      omega
    · rw [if_neg h1]
      have : ¬ (dg A k < dg B k ∨ (dg A k = dg B k ∧ A % 2 ^ (16 * k) < B % 2 ^ (16 * k))) := fun h => h1 (key.2 h)
      omega
theorem sub_div (M a1 b1 a0 b0 : Nat) (ha : a0 < M) (hb : b0 < M) (h : M * b1 + b0 ≤ M * a1 + a0) : (M * a1 + a0 - (M * b1 + b0)) / M = a1 - b1 - (if a0 < b0 then 1 else 0) ∧ b1 + (if a0 < b0 then 1 else 0) ≤ a1 := by
  by_cases h0 : a0 < b0
  · rw [if_pos h0]
    have h1 : b1 + 1 ≤ a1 := by
      apply Classical.byContradiction
      intro hc
      have : M * a1 ≤ M * b1 := Nat.mul_le_mul_left M (by omega)
      omega
    refine ⟨?_, h1⟩
    obtain ⟨c, rfl⟩ : ∃ c, a1 = b1 + 1 + c := ⟨a1 - b1 - 1, by omega⟩
    rw [show M * (b1 + 1 + c) + a0 - (M * b1 + b0) = (M + a0 - b0) + M * c by rw [Nat.mul_add, Nat.mul_add]; omega, Nat.add_mul_div_left _ _ (by omega), Nat.div_eq_of_lt (by omega)]
    omega
  · rw [if_neg h0]
    have h1 : b1 ≤ a1 := by
      apply Classical.byContradiction
      intro hc
      have : M * (a1 + 1) ≤ M * b1 := Nat.mul_le_mul_left M (by omega)
      rw [Nat.mul_add] at this
      omega
    refine ⟨?_, by omega⟩
    obtain ⟨c, rfl⟩ : ∃ c, a1 = b1 + c := ⟨a1 - b1, by omega⟩
    rw [show M * (b1 + c) + a0 - (M * b1 + b0) = (a0 - b0) + M * c by rw [Nat.mul_add]; omega, Nat.add_mul_div_left _ _ (by omega), Nat.div_eq_of_lt (by omega)]
    omega
theorem dg_sub (A B k : Nat) (h : B ≤ A) : dg (A - B) k = (dg A k + 65536 - dg B k - bw A B k) % 65536 := by
  have hA := Nat.mod_lt A (d_pos k)
  have hB := Nat.mod_lt B (d_pos k)
  have eA := Nat.div_add_mod A (2 ^ (16 * k))
  have eB := Nat.div_add_mod B (2 ^ (16 * k))
  have hs := sub_div (2 ^ (16 * k)) (A / 2 ^ (16 * k)) (B / 2 ^ (16 * k)) _ _ hA hB (by rw [eA, eB]; exact h)
  rw [eA, eB] at hs
  have hb := bw_le A B k
  unfold dg
  rw [hs.1]
  have h2 := hs.2
  unfold bw at hb ⊢
  generalize (if A % 2 ^ (16 * k) < B % 2 ^ (16 * k) then 1 else 0) = b at *
  generalize A / 2 ^ (16 * k) = a1 at *
  generalize B / 2 ^ (16 * k) = b1 at *
  omega
theorem same_up (A B k : Nat) (h : A / 2 ^ (16 * (k + 1)) = B / 2 ^ (16 * (k + 1))) (hd : dg A k = dg B k) : A / 2 ^ (16 * k) = B / 2 ^ (16 * k) := by
  rw [d_split A k, d_split B k, h, hd]
theorem lt_up (A B k : Nat) (h : A / 2 ^ (16 * (k + 1)) = B / 2 ^ (16 * (k + 1))) (hd : dg A k ≠ dg B k) : decide (A < B) = decide (dg A k < dg B k) := by
  have e1 := d_split A k
  have e2 := d_split B k
  rw [h] at e1
  rw [Bool.eq_iff_iff, decide_eq_true_eq, decide_eq_true_eq]
  constructor
  · intro hl
    have : A / 2 ^ (16 * k) ≤ B / 2 ^ (16 * k) := Nat.div_le_div_right (Nat.le_of_lt hl)
    omega
  · intro hl
    apply Classical.byContradiction
    intro hc
    have : B / 2 ^ (16 * k) ≤ A / 2 ^ (16 * k) := Nat.div_le_div_right (by omega)
    omega
theorem dgP : ∀ j, j < 16 → dg pP j = if j = 15 then 32767 else if j = 0 then 65517 else 65535 := by
  have h : ∀ j : Fin 16, dg pP j.val = if j.val = 15 then 32767 else if j.val = 0 then 65517 else 65535 := by decide +kernel
  intro j hj
  exact h ⟨j, hj⟩

end Go.Proofs.YtbpmakegimgbpaaGreatDoor.F

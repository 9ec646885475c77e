/- How a word is found by counts: the first word of so many bits, how many words have fewer. No program. -/
import Derived.Test.YtkljpidlfddgbaaSj
import Derived.Test.YtkljpidlfddgbaaRd
namespace Go.Proofs.Ytkljpidlfddgbaa
open Go.RowKit Rg B
namespace Q
open H
/-- The first word of k bits, c telling how many have so many. -/
def fs (c : Nat → Nat) : Nat → Nat
  | 0 => 0
  | k + 1 => 2 * (fs c k + c k)
/-- How many have fewer. -/
def sh (c : Nat → Nat) : Nat → Nat
  | 0 => 0
  | k + 1 => sh c k + c k
section
variable {c e : Nat → Nat} {L : Nat}
theorem fs_congr : ∀ {L : Nat}, (∀ i, i < L → c i = e i) → fs c L = fs e L
  | 0, _ => rfl
  | k + 1, h => by rw [fs, fs, fs_congr (fun i hi => h i (by omega)), h k (by omega)]
theorem sh_congr : ∀ {L : Nat}, (∀ i, i < L → c i = e i) → sh c L = sh e L
  | 0, _ => rfl
  | k + 1, h => by rw [sh, sh, sh_congr (fun i hi => h i (by omega)), h k (by omega)]
theorem fs_gap : ∀ d, (∀ i, L < i → i < L + d + 1 → c i = 0) → fs c (L + d + 1) = 2 ^ (d + 1) * (fs c L + c L)
  | 0, _ => rfl
  | d + 1, h => by
    have ih := fs_gap d fun i h1 h2 => h i h1 (by omega)
    have h0 := h (L + d + 1) (by omega) (by omega)
    show 2 * (fs c (L + d + 1) + c (L + d + 1)) = _
    rw [ih, h0, Nat.add_zero, Nat.pow_succ 2 (d + 1), Nat.mul_comm (2 ^ (d + 1)) 2, Nat.mul_assoc]
theorem sh_gap : ∀ d, (∀ i, L < i → i < L + d + 1 → c i = 0) → sh c (L + d + 1) = sh c L + c L
  | 0, _ => rfl
  | d + 1, h => by
    have ih := sh_gap d fun i h1 h2 => h i h1 (by omega)
    have h0 := h (L + d + 1) (by omega) (by omega)
    show sh c (L + d + 1) + c (L + d + 1) = _
    rw [ih, h0, Nat.add_zero]
theorem fs_zero : ∀ {L : Nat}, (∀ i, c i = 0) → fs c L = 0
  | 0, _ => rfl
  | k + 1, h => by rw [fs, fs_zero h, h k]
theorem sh_zero : ∀ {L : Nat}, (∀ i, c i = 0) → sh c L = 0
  | 0, _ => rfl
  | k + 1, h => by rw [sh, sh_zero h, h k]
theorem sh_le {b : Nat} (h : ∀ i, c i ≤ b) : ∀ L, sh c L ≤ b * L
  | 0 => Nat.zero_le _
  | k + 1 => by
    have := sh_le h k
    have := h k
    rw [sh, Nat.mul_succ]
    omega
end
section
variable {l : Nat → Nat} {n i j k : Nat}
theorem cw_keep : ∀ {k' : Nat}, k ≤ k' → (∀ j, k ≤ j → j < k' → l (og l n j) ≠ i) → cw l n k' i = cw l n k i
  | 0, h, _ => by rw [show k = 0 by omega]
  | k' + 1, h, hne => by
    by_cases hk : k = k' + 1
    · rw [hk]
    · rw [cw, cw_keep (k' := k') (by omega) (fun j h1 h2 => hne j h1 (by omega)), if_neg (hne k' (by omega) (by omega)), Nat.add_zero]
theorem cw_none (h : ∀ j, j < k → l (og l n j) ≠ i) : cw l n k i = 0 := cw_keep (Nat.zero_le k) (fun j _ hj => h j hj)
theorem cw_mono : ∀ {k' : Nat}, k ≤ k' → cw l n k i ≤ cw l n k' i
  | 0, h => by rw [show k = 0 by omega]; exact Nat.le_refl _
  | k' + 1, h => by
    by_cases hk : k = k' + 1
    · rw [hk]; exact Nat.le_refl _
    · have := cw_mono (k' := k') (by omega)
      rw [cw]
      omega
theorem cw_here : cw l n (k + 1) (l (og l n k)) = cw l n k (l (og l n k)) + 1 := by rw [cw, if_pos rfl]
theorem cw_hit {a : Nat} : ∀ k, a < cw l n k i → ∃ j, j < k ∧ l (og l n j) = i ∧ cw l n j i = a
  | 0, h => absurd h (Nat.not_lt_zero _)
  | k + 1, h => by
    by_cases h1 : a < cw l n k i
    · obtain ⟨j, hj, e⟩ := cw_hit k h1
      exact ⟨j, by omega, e⟩
    · rw [cw] at h
      by_cases h2 : l (og l n k) = i
      · rw [if_pos h2] at h
        exact ⟨k, by omega, h2, by omega⟩
      · rw [if_neg h2] at h
        omega
theorem at_word (h15 : ∀ i, l i ≤ 15) : ∀ j, j < many l n → word l n (og l n j) = fs (cw l n j) (l (og l n j)) + cw l n j (l (og l n j)) ∧ j = sh (cw l n j) (l (og l n j)) + cw l n j (l (og l n j))
  | 0, h => by
    rw [og_first h, fs_zero (c := cw l n 0) (fun _ => rfl), sh_zero (c := cw l n 0) (fun _ => rfl)]
    exact ⟨rfl, rfl⟩
  | j + 1, h => by
    have ih := at_word h15 j (by omega)
    have hnx := og_next h15 h
    have hle := og_le (show j ≤ j + 1 by omega) h
    obtain ⟨L, hL⟩ : ∃ L, l (og l n j) = L := ⟨_, rfl⟩
    have hh := cw_here (l := l) (n := n) (k := j)
    have hlow : ∀ i, i < L → cw l n (j + 1) i = cw l n j i := fun i hi => cw_keep (by omega) (fun j' h1 h2 => by rw [show j' = j by omega, hL]; omega)
    have hhi : ∀ i, L < i → cw l n (j + 1) i = 0 := fun i hi => cw_none fun j' hj' => by
      have := og_le (l := l) (n := n) (show j' ≤ j by omega) (by omega)
      omega
    rw [hL] at ih hnx hle hh
    have e1 := fs_congr hlow
    have e2 := sh_congr hlow
    obtain ⟨d, hd⟩ : ∃ d, l (og l n (j + 1)) = L + d := ⟨l (og l n (j + 1)) - L, by omega⟩
    rw [hd] at hnx ⊢
    rw [Nat.add_sub_cancel_left] at hnx
    rw [← hnx]
    cases d with
    | zero =>
      rw [show L + 0 = L from rfl, e1, e2, hh, Nat.pow_zero, Nat.mul_one]
      omega
    | succ d =>
      rw [← Nat.add_assoc, fs_gap d (fun i h1 _ => hhi i h1), sh_gap d (fun i h1 _ => hhi i h1), hhi (L + d + 1) (by omega), e1, e2, hh, Nat.add_zero, Nat.add_zero]
      refine ⟨?_, by omega⟩
      rw [ih.1, Nat.mul_comm]
      congr 1
/-- How many words have i bits. -/
def nw9 (l : Nat → Nat) (n i : Nat) : Nat := cw l n (many l n) i
theorem at_full (h15 : ∀ i, l i ≤ 15) (h : j < many l n) : word l n (og l n j) = fs (nw9 l n) (l (og l n j)) + cw l n j (l (og l n j)) ∧ j = sh (nw9 l n) (l (og l n j)) + cw l n j (l (og l n j)) ∧ cw l n j (l (og l n j)) < nw9 l n (l (og l n j)) := by
  have hw := at_word h15 j h
  have hlow : ∀ i, i < l (og l n j) → cw l n j i = nw9 l n i := fun i hi => (cw_keep (by omega) fun j' h1 h2 => by
    have := og_le h1 h2
    omega).symm
  rw [fs_congr hlow, sh_congr hlow] at hw
  refine ⟨hw.1, hw.2, ?_⟩
  have h1 := cw_here (l := l) (n := n) (k := j)
  have h2 := cw_mono (l := l) (n := n) (i := l (og l n j)) (show j + 1 ≤ many l n by omega)
  unfold nw9
  omega
theorem tk_found (h15 : ∀ i, l i ≤ 15) {L a : Nat} (h : a < nw9 l n L) : ∃ j, j < many l n ∧ j = sh (nw9 l n) L + a ∧ l (og l n j) = L ∧ word l n (og l n j) = fs (nw9 l n) L + a := by
  obtain ⟨j, hj, hl, ha⟩ := cw_hit _ h
  have := at_full h15 hj
  rw [hl, ha] at this
  exact ⟨j, hj, this.2.1, hl, this.1⟩
theorem tk_none (h15 : ∀ i, l i ≤ 15) {v : Nat} (hi : i < n) (h1 : 1 ≤ l i) (h : fs (nw9 l n) (l i) + nw9 l n (l i) ≤ v) : word l n i ≠ v := by
  obtain ⟨j, hj, rfl⟩ := og_all hi h1
  have := at_full h15 hj
  omega
theorem nw9_zero : nw9 l n 0 = 0 := cw_none fun j hj => by
  have := (og_mem hj).2
  omega
theorem nw9_le : nw9 l n i ≤ n := Nat.le_trans (cw_le l n i _) many_le
theorem fd_at (h15 : ∀ i, l i ≤ 15) (hr : j < many l n) {L : Nat} (hL : l (og l n j) = L) : fd (pW l n L (word l n (og l n j))) n = some (og l n j) := by
  have hm := og_mem hr
  have hwd : wd l n (og l n j) = word l n (og l n j) := if_pos hm.2
  refine fd_some hm.1 ?_ fun i hi => ?_
  · unfold pW; rw [decide_eq_true hL, decide_eq_true hwd]; rfl
  · unfold pW
    by_cases h1 : l i = L
    · by_cases h2 : wd l n i = word l n (og l n j)
      · have h3 : 1 ≤ l i := by omega
        have h4 : wd l n i = word l n i := if_pos h3
        have := word_same (l := l) (N := n) (i := i) (j := og l n j) (by omega) hm.1 h3 (h15 _) (by omega) (by omega)
        omega
      · rw [decide_eq_false h2, Bool.and_false]
    · rw [decide_eq_false h1, Bool.false_and]
theorem fd_no (h15 : ∀ i, l i ≤ 15) {L v : Nat} (hL : 1 ≤ L) (h : fs (nw9 l n) L + nw9 l n L ≤ v) : fd (pW l n L v) n = none := fd_none fun i hi => by
  unfold pW
  by_cases h1 : l i = L
  · subst h1
    have := tk_none h15 hi hL h
    have h4 : wd l n i = word l n i := if_pos hL
    rw [decide_eq_false (show ¬ wd l n i = v by omega), Bool.and_false]
  · rw [decide_eq_false h1, Bool.false_and]
end
theorem hv_div (Y t : Nat) (k : Nat) : ∀ d, hv Y t (k + d) / 2 ^ d = hv Y t k
  | 0 => by rw [Nat.pow_zero, Nat.div_one]; rfl
  | d + 1 => by
    have ih := hv_div Y t k d
    rw [Nat.pow_succ, Nat.mul_comm, ← Nat.div_div_eq_div_mul, ← Nat.add_assoc, hv, ← ih]
    congr 1
    omega
/-- Where the room is full fifteen bits are enough. -/
theorem tk_full {l : Nat → Nat} {n Y t : Nat} (h15 : ∀ i, l i ≤ 15) (hr : room l n = 32768) (h : ∀ i, i < n → 1 ≤ l i → l i ≤ 15 → word l n i ≠ hv Y t (l i)) : False := by
  obtain ⟨i, hi, h1, e⟩ := word_find (l := l) (N := n) (fun k _ => h15 k) (v := hv Y t 15) (by rw [hr]; exact hv_lt Y t 15)
  refine h i hi h1 (h15 i) ?_
  have := hv_div Y t (l i) (15 - l i)
  rw [show l i + (15 - l i) = 15 by have := h15 i; omega] at this
  rw [← e, this]
/-- One word alone has the room of a half. -/
theorem one_half {z : Nat → Int} {n : Nat} (h : okW z n) : (many (ln z) n = 1 ↔ room (ln z) n = 16384) ∧ (many (ln z) n ≠ 1 → room (ln z) n = 32768) := by
  have h4 := h.2.2.2
  refine ⟨⟨fun h1 => ?_, fun h1 => by omega⟩, fun h1 => by omega⟩
  rcases h4 with h5 | h5
  · exfalso
    obtain ⟨i, hi, h2, e⟩ := word_find (l := ln z) (N := n) (fun k _ => ln_le z k) (v := 32767) (by rw [h5]; decide)
    obtain ⟨i', hi', h2', e'⟩ := word_find (l := ln z) (N := n) (fun k _ => ln_le z k) (v := 0) (by rw [h5]; decide)
    obtain ⟨j, hj, rfl⟩ := og_all hi h2
    obtain ⟨j', hj', rfl⟩ := og_all hi' h2'
    obtain rfl : j = 0 := by omega
    obtain rfl : j' = 0 := by omega
    rw [Nat.zero_div] at e'
    rw [← e'] at e
    have h6 := (Nat.div_eq_zero_iff.1 e)
    have h7 : 2 ^ (15 - ln z (og (ln z) n 0)) ≤ 2 ^ 14 := Nat.pow_le_pow_right (by decide) (by omega)
    rcases h6 with h6 | h6
    · exact absurd h6 (Nat.ne_of_gt (Nat.two_pow_pos _))
    · omega
  · exact h5.2
theorem one_cnt {z : Nat → Int} {n : Nat} (h : okW z n) (h1 : many (ln z) n = 1) : 0 < nw9 (ln z) n 1 := by
  have hr := (one_half h).1.1 h1
  have hf := at_full (l := ln z) (n := n) (j := 0) (ln_le z) (by omega)
  obtain ⟨i, hi, h2, e⟩ := word_find (l := ln z) (N := n) (fun k _ => ln_le z k) (v := 16383) (by rw [hr]; decide)
  obtain ⟨j, hj, rfl⟩ := og_all hi h2
  obtain rfl : j = 0 := by omega
  have hl : ln z (og (ln z) n 0) = 1 := by
    by_cases h3 : ln z (og (ln z) n 0) = 1
    · exact h3
    · have h7 : 2 ^ (15 - ln z (og (ln z) n 0)) ≤ 2 ^ 13 := Nat.pow_le_pow_right (by decide) (by omega)
      rw [og_first (by omega)] at e
      rcases Nat.div_eq_zero_iff.1 e with h6 | h6
      · exact absurd h6 (Nat.ne_of_gt (Nat.two_pow_pos _))
      · omega
  rw [hl] at hf
  omega
end Q
end Go.Proofs.Ytkljpidlfddgbaa

/- X25519 in numbers: what two share, points of little order. No program. -/
import Derived.Test.YtidhffaphbiapaaEk
namespace Go.Proofs.Ytidhffaphbiapaa
open F

theorem IsP_mul {l : Nat} (hp : Num.IsP l) (a b : Nat) (h : l ∣ a * b) : l ∣ a ∨ l ∣ b := by
  rcases hp.2 _ (Nat.gcd_dvd_right a l) with h1 | h1
  · right
    exact Nat.Coprime.dvd_of_dvd_mul_left (Nat.Coprime.symm h1) h
  · left
    have h2 := Nat.gcd_dvd_left a l
    rw [h1] at h2
    exact h2
/-- What two share is not 0. -/
theorem x25_use (m n : List Bool) (hm : ¬ lP ∣ bnum 0 (m ++ [false])) (hn : ¬ lP ∣ bnum 0 (n ++ [false])) : x25 (x25 (cn pP 9) (m ++ [false])) (n ++ [false]) ≠ 0 := by
  have h : x25 (x25 (cn pP 9) (m ++ [false])) (n ++ [false]) = C1.U 1 (C1.mul bP (bnum 0 (m ++ [false]) * bnum 0 (n ++ [false]))) := bP_good.chain nine_ne (fin_inv0 p_two) m n
  intro e
  rw [h] at e
  refine C1.U_ne C1_a bP_on bP_order lP_prime lP_odd bP_zero 1 (fin_mul_one 1) _ (fun h => ?_) e
  rcases IsP_mul lP_prime _ _ h with h | h
  · exact hm h
  · exact hn h
theorem clamped_of {l L s : Nat} (e : l = 8 * L + 5) (h4 : 2 ^ 255 < l * 8) (h8 : s % 8 = 0) (h1 : 2 ^ 254 ≤ s) (h2 : s < 2 ^ 255) : ¬ l ∣ s := by
  rintro ⟨q, hq⟩
  have h3 : q % 8 = 0 := by
    rw [hq, e, Nat.add_mul, Nat.mul_assoc] at h8
    omega
  by_cases hq0 : q = 0
  · rw [hq0, Nat.mul_zero] at hq
    omega
  · have h5 : l * 8 ≤ l * q := Nat.mul_le_mul_left _ (by omega)
    omega
theorem lP_five : lP = 8 * 904625697166532776746648320380374280107139544922488450750243867285681781373 + 5 := by decide +kernel
theorem lP_big : 2 ^ 255 < lP * 8 := by decide +kernel
theorem clamped (s : Nat) (h8 : s % 8 = 0) (h1 : 2 ^ 254 ≤ s) (h2 : s < 2 ^ 255) : ¬ lP ∣ s := clamped_of lP_five lP_big h8 h1 h2
/-- A point of little order: eight times it is the neutral one. -/
theorem x25_little (u : Nat) (hu : u < pP) (hu0 : u ≠ 0) (h : nl pP 121665 u [true, false, false, false] 1 0 u 1 (fun _ b _ _ => b) = 0) (bits : List Bool) : x25 (cn pP u) (bits ++ [false, false, false]) = 0 := by
  have hd := done_cn 121665 u hu _ h
  have hn := cn_ne hu hu0
  have e : bnum 0 (bits ++ [false, false, false]) = 8 * bnum 0 bits := by
    unfold bnum
    rw [List.foldl_append]
    show 2 * (2 * (2 * _ + 0) + 0) + 0 = _
    omega
  have hz : ∀ {C : Crv pP} {σ c : Fin pP} {P : Fin pP × Fin pP} (_ : C.iv = finv) (_ : Good C σ c k25 (cn pP u) P), x25 (cn pP u) (bits ++ [false, false, false]) = 0 := by
    intro C σ c P hiv hG
    have h0 : C.iv 0 = 0 := by rw [hiv]; exact fin_inv0 p_two
    have h1 := hG.lad_ok hn h0 (bits ++ [false, false, false])
    rw [hiv] at h1
    have h8 : C.mul P 8 = C.zero := hG.done hn [true, false, false, false] hd
    show lad finv k25 (cn pP u) (bits ++ [false, false, false]) = 0
    rw [h1, e, C.mul_mul hG.on, h8, C.mul_zero, C.U_zero h0]
  rcases C1.found C1_a k_ok k_ne k1_ne C1_d0 sq_or hn with ⟨P, hG⟩ | ⟨P, hG⟩
  · exact hz rfl hG
  · exact hz rfl hG
end Go.Proofs.Ytidhffaphbiapaa

/- Symbols counted; what is put by a code is taken again. No conditions but those that each names. -/
import Derived.Test.YtkljpidlfddgbaaRd
import Derived.Test.YtkljpidlfddgbaaRl
import Derived.Test.YtkljpidlfddgbaaSm
namespace Go.Proofs.Ytkljpidlfddgbaa
set_option maxRecDepth 100000
open Go.RowKit Rg B

namespace B
theorem agg_u16 (w : World) : (isAgg 66).run Try.prog w = .ok false w := by kernel_rfl
theorem sz_u16 (w : World) : (sizeOf 66).run Try.prog w = .ok 1 w := by kernel_rfl
/-- A place told by a number of sixteen bits. -/
theorem b_isu {ty e : TypeId} {ρ : Operand → Value} {o : Oper} {x y : Operand} {q k n c : Nat} (hk : k < n) (hu : Try.prog.underlying ty = some (.slice e)) (hc : ∀ w, (sizeOf e).run Try.prog w = .ok 1 w) (w : World) (ho : o.op = .indexAddr ty x y := by rfl) (hx : ρ x = .slice (some ⟨q, 0, none⟩) n c := by kernel_rfl) (hy : ρ y = Nv .u16 k := by kernel_rfl) : (execOp ρ o).run Try.prog w = .ok (.value (E q k)) w := by
  have h1 : (0 : Int) ≤ (k : Int) := by omega
  have h2 : (k : Int) < (n : Int) := by omega
  have h3 : (⟨q, 0, none⟩ : Addr).add k = ⟨q, k, none⟩ := by rw [Addr.add_mid, Nat.zero_add]
  rw [show E q k = .pointer (some ((⟨q, 0, none⟩ : Addr).add k)) by rw [h3]]
  unfold execOp
  simp only [ho, hx, hy]
  go_simp
end B
namespace H
def ns (f : Nat → Nat) (i : Nat) : Value := .int .u16 ((f i : Nat) : Int)
/-- How often each symbol is among the first k. -/
def hist (f : Nat → Nat) : Nat → Nat → Nat
  | 0, _ => 0
  | k + 1, j => hist f k j + if j = f k % 300 then 1 else 0
theorem hist_le (f : Nat → Nat) : ∀ k j, hist f k j ≤ k
  | 0, _ => Nat.le_refl _
  | k + 1, j => by
    have := hist_le f k j
    rw [hist]
    split <;> omega
theorem hist_next {f : Nat → Nat} {k r : Nat} (hr : f k % 300 = r) : (vals .u32 300 (hist f k)).setIfInBounds r (.int .u32 ((hist f k r + 1 : Nat) : Int)) = vals .u32 300 (hist f (k + 1)) := by
  rw [vals_set]
  refine vals_congr _ _ _ _ fun j _ => ?_
  rw [hist, hr]
  by_cases h : j = r
  · subst h; rw [if_pos rfl, if_pos rfl]
  · rw [if_neg h, if_neg h, Nat.add_zero]
theorem hist_one {f : Nat → Nat} : ∀ {n k : Nat}, k < n → 1 ≤ hist f n (f k % 300)
  | 0, _, h => absurd h (Nat.not_lt_zero _)
  | n + 1, k, h => by
    rw [hist]
    by_cases hk : k = n
    · subst hk; rw [if_pos rfl]; omega
    · have := hist_one (f := f) (n := n) (k := k) (by omega); omega
theorem many_hist (f : Nat → Nat) : ∀ n, many (hist f n) 300 ≤ n
  | 0 => by
    have e : many (hist f 0) 300 = 0 := by
      unfold many
      rw [sg_congr (h := fun _ => 0) (fun i _ => by show (if 1 ≤ (0 : Nat) then 1 else 0) = 0; rfl), sg_const]
    omega
  | n + 1 => by
    have h1 := many_hist f n
    have hr : f n % 300 < 300 := Nat.mod_lt _ (by decide)
    have h2 : H.sg 300 (fun j => if j = f n % 300 then 1 else 0) = 1 := by
      rw [sg_step (h := fun _ => 0) (d := 1) (i := f n % 300) hr (fun k _ hk => if_neg hk) (by show (if f n % 300 = f n % 300 then 1 else 0) = 0 + 1; rw [if_pos rfl]), sg_const]
    have h3 : many (hist f (n + 1)) 300 ≤ H.sg 300 (fun j => (if 1 ≤ hist f n j then 1 else 0) + if j = f n % 300 then 1 else 0) := sg_le fun j _ => by
      show (if 1 ≤ hist f n j + (if j = f n % 300 then 1 else 0) then 1 else 0) ≤ _
      by_cases ha : 1 ≤ hist f n j
      · rw [if_pos (show 1 ≤ hist f n j + _ by omega)]
        simp only [if_pos ha]; omega
      · by_cases hb : j = f n % 300
        · simp only [if_pos hb]; split <;> first | omega | (split <;> omega)
        · simp only [if_neg hb, Nat.add_zero]; omega
    rw [sg_add, h2] at h3
    unfold many at h1 h3 ⊢
    omega
/-- What is put, symbol by symbol: its bits, how many they are. -/
def cP (l : Nat → Nat) (s : Nat → Nat) : Nat → Nat
  | 0 => 0
  | k + 1 => cP l s k + l (s k)
def xP (l : Nat → Nat) (n : Nat) (s : Nat → Nat) : Nat → Nat
  | 0 => 0
  | k + 1 => xP l n s k + hb (word l n (s k)) (l (s k)) (l (s k)) * 2 ^ cP l s k
section
variable {l s : Nat → Nat} {n : Nat}
theorem cP_le (h : ∀ i, l i ≤ 15) : ∀ k, cP l s k ≤ 15 * k
  | 0 => Nat.le_refl _
  | k + 1 => by
    have := cP_le h k
    have := h (s k)
    rw [cP]; omega
theorem cP_mono {a : Nat} : ∀ d, cP l s a ≤ cP l s (a + d)
  | 0 => Nat.le_refl _
  | d + 1 => Nat.le_trans (cP_mono d) (by rw [← Nat.add_assoc, cP]; omega)
theorem xP_lt : ∀ k, xP l n s k < 2 ^ cP l s k
  | 0 => Nat.zero_lt_one
  | k + 1 => by
    have h1 := xP_lt k
    have h2 := hb_lt (word l n (s k)) (l (s k)) (l (s k))
    rw [xP, cP, Nat.pow_add]
    have h3 : hb (word l n (s k)) (l (s k)) (l (s k)) + 1 ≤ 2 ^ l (s k) := h2
    have h4 := Nat.mul_le_mul_right (2 ^ cP l s k) h3
    rw [Nat.add_mul, Nat.one_mul, Nat.mul_comm (2 ^ l (s k))] at h4
    omega
theorem xP_more {k : Nat} : ∀ d, ∃ r, xP l n s (k + d) = xP l n s k + 2 ^ cP l s k * r
  | 0 => ⟨0, by rw [Nat.mul_zero, Nat.add_zero]; rfl⟩
  | d + 1 => by
    obtain ⟨r, h⟩ := xP_more (k := k) d
    obtain ⟨e, he⟩ : ∃ e, cP l s (k + d) = cP l s k + e := ⟨cP l s (k + d) - cP l s k, by have := cP_mono (l := l) (s := s) (a := k) d; omega⟩
    refine ⟨r + hb (word l n (s (k + d))) (l (s (k + d))) (l (s (k + d))) * 2 ^ e, ?_⟩
    rw [← Nat.add_assoc, xP, h, he, Nat.pow_add, Nat.mul_add, Nat.add_assoc]
    congr 2
    rw [Nat.mul_left_comm]
theorem hb_bit (wv m : Nat) : ∀ k b, b < k → hb wv m k / 2 ^ b % 2 = wv / 2 ^ (m - 1 - b) % 2
  | 0, b, h => absurd h (Nat.not_lt_zero b)
  | k + 1, b, h => by
    rw [hb]
    by_cases hbk : b = k
    · subst hbk
      rw [Nat.mul_comm, Nat.add_mul_div_left _ _ (Nat.two_pow_pos b), Nat.div_eq_of_lt (hb_lt wv m b), Nat.zero_add, Nat.mod_mod]
    · obtain ⟨d, rfl⟩ : ∃ d, k = b + d + 1 := ⟨k - b - 1, by omega⟩
      rw [show wv / 2 ^ (m - 1 - (b + d + 1)) % 2 * 2 ^ (b + d + 1) = 2 ^ b * (2 * (2 ^ d * (wv / 2 ^ (m - 1 - (b + d + 1)) % 2))) by
        rw [Nat.pow_succ, Nat.pow_add]
        simp only [Nat.mul_assoc, Nat.mul_comm, Nat.mul_left_comm], Nat.add_mul_div_left _ _ (Nat.two_pow_pos b), Nat.add_mul_mod_self_left]
      exact hb_bit wv m (b + d + 1) b (by omega)
/-- The bits from a symbol's place on are its word's. -/
theorem xP_bit {N k b : Nat} (hk : k < N) (hb1 : b < l (s k)) : xP l n s N / 2 ^ (cP l s k + b) % 2 = word l n (s k) / 2 ^ (l (s k) - 1 - b) % 2 := by
  obtain ⟨d, rfl⟩ : ∃ d, N = k + 1 + d := ⟨N - (k + 1), by omega⟩
  obtain ⟨r, hr⟩ := xP_more (l := l) (s := s) (n := n) (k := k + 1) d
  obtain ⟨e, he⟩ : ∃ e, l (s k) = b + e + 1 := ⟨l (s k) - b - 1, by omega⟩
  rw [hr, xP, cP, Nat.pow_add 2 (cP l s k) b, ← Nat.div_div_eq_div_mul]
  have e1 : xP l n s k + hb (word l n (s k)) (l (s k)) (l (s k)) * 2 ^ cP l s k + 2 ^ (cP l s k + l (s k)) * r = xP l n s k + 2 ^ cP l s k * (hb (word l n (s k)) (l (s k)) (l (s k)) + 2 ^ l (s k) * r) := by
    rw [Nat.pow_add, Nat.mul_add, Nat.mul_comm (hb _ _ _), Nat.add_assoc, Nat.mul_assoc]
  rw [e1, Nat.add_mul_div_left _ _ (Nat.two_pow_pos _), Nat.div_eq_of_lt (xP_lt k), Nat.zero_add, ← hb_bit (word l n (s k)) (l (s k)) (l (s k)) b hb1]
  rw [show 2 ^ l (s k) * r = 2 ^ b * (2 * (2 ^ e * r)) by rw [he, Nat.pow_succ, Nat.pow_add]; simp only [Nat.mul_comm, Nat.mul_left_comm], Nat.add_mul_div_left _ _ (Nat.two_pow_pos b), Nat.add_mul_mod_self_left]
theorem hv_word {N k : Nat} (hk : k < N) : ∀ b, b ≤ l (s k) → hv (xP l n s N) (cP l s k) b = word l n (s k) / 2 ^ (l (s k) - b) % 2 ^ b
  | 0, _ => by rw [hv, Nat.pow_zero, Nat.mod_one]
  | b + 1, h => by
    obtain ⟨e, he⟩ : ∃ e, l (s k) = b + 1 + e := ⟨l (s k) - b - 1, by omega⟩
    rw [hv, hv_word hk b (by omega), xP_bit hk (by omega)]
    rw [show l (s k) - b = e + 1 by omega, show l (s k) - 1 - b = e by omega, show l (s k) - (b + 1) = e by omega]
    generalize word l n (s k) = W
    rw [Nat.pow_succ 2 e, ← Nat.div_div_eq_div_mul, Nat.pow_succ 2 b, Nat.mul_comm (2 ^ b) 2, Nat.mod_mul]
    omega
/-- A symbol's word, and only it, is found where it was put. -/
theorem tko_word {N k m : Nat} (h15 : ∀ i, l i ≤ 15) (hr : room l n ≤ 32768) (h1r : room l n = 16384 → l (s k) = 1) (hs : s k < n) (h1 : 1 ≤ l (s k)) (hk : k < N) (hm : cP l s (k + 1) ≤ m) : ∀ d q f, q + d + 1 = l (s k) → d < f → tko l n m (xP l n s N) (cP l s k) f q = (s k, 0, l (s k)) := by
  have hw := word_lt hs h1 (h15 _) hr
  have hv9 : ∀ b, b ≤ l (s k) → hv (xP l n s N) (cP l s k) b = word l n (s k) / 2 ^ (l (s k) - b) := fun b hb1 => by
    rw [hv_word hk b hb1]
    refine Nat.mod_eq_of_lt ((Nat.div_lt_iff_lt_mul (Nat.two_pow_pos _)).2 ?_)
    rw [← Nat.pow_add, show b + (l (s k) - b) = l (s k) by omega]
    exact hw
  rw [cP] at hm
  intro d
  induction d with
  | zero =>
    intro q f hq hf
    obtain ⟨f, rfl⟩ : ∃ g, f = g + 1 := ⟨f - 1, by omega⟩
    have hL : q + 1 = l (s k) := by omega
    have hfd : fd (pW l n (q + 1) (hv (xP l n s N) (cP l s k) (q + 1))) n = some (s k) := by
      rw [hL, hv9 _ (Nat.le_refl _), Nat.sub_self, Nat.pow_zero, Nat.div_one]
      refine fd_some hs ?_ fun j hj => ?_
      · unfold pW wd
        rw [if_pos h1]
        simp
      · unfold pW
        by_cases hl : l j = l (s k)
        · have hne : wd l n j ≠ word l n (s k) := fun e => by
            unfold wd at e
            rw [if_pos (by omega)] at e
            have := word_same (l := l) (N := n) (show j < n by omega) hs (by omega) (h15 _) hl e
            omega
          simp [hne]
        · simp [hl]
    rw [tko_found (by omega) hfd, hL]
  | succ d ih =>
    intro q f hq hf
    obtain ⟨f, rfl⟩ : ∃ g, f = g + 1 := ⟨f - 1, by omega⟩
    have hfd : fd (pW l n (q + 1) (hv (xP l n s N) (cP l s k) (q + 1))) n = none := fd_none fun j hj => by
      unfold pW
      by_cases hl : l j = q + 1
      · have hne : wd l n j ≠ hv (xP l n s N) (cP l s k) (q + 1) := fun e => by
          unfold wd at e
          rw [if_pos (by omega), hv9 _ (by omega), ← hl] at e
          exact word_free (l := l) (N := n) hj hs (by omega) (fun e => by subst e; omega) (by omega) (h15 _) e.symm
        simp [hne]
      · simp [hl]
    rw [tko, if_neg (by omega), hfd]
    show (if q = 0 ∧ room l n = 16384 then _ else _) = _
    rw [if_neg (fun h => by have := h1r h.2; omega)]
    exact ih (q + 1) f (by omega) (by omega)
end
end H
end Go.Proofs.Ytkljpidlfddgbaa

/- Lengths out of piles: their room, what they weigh, that none weigh less. No program. Two single ones or more, at most 2^L. -/
import Derived.Test.YtkljpidlfddgbaaHf
namespace Go.Proofs.Ytkljpidlfddgbaa
namespace H
/-- The sum of the first n. -/
def sg : Nat → (Nat → Nat) → Nat
  | 0, _ => 0
  | n + 1, g => sg n g + g n
theorem sg_congr {n : Nat} {g h : Nat → Nat} (e : ∀ i, i < n → g i = h i) : sg n g = sg n h := by
  induction n with
  | zero => rfl
  | succ n ih => rw [sg, sg, ih fun i hi => e i (by omega), e n (by omega)]
theorem sg_le {n : Nat} {g h : Nat → Nat} (e : ∀ i, i < n → g i ≤ h i) : sg n g ≤ sg n h := by
  induction n with
  | zero => exact Nat.le_refl _
  | succ n ih =>
    have h1 := ih fun i hi => e i (by omega)
    have h2 := e n (by omega)
    rw [sg, sg]; omega
theorem sg_add (n : Nat) (g h : Nat → Nat) : sg n (fun i => g i + h i) = sg n g + sg n h := by
  induction n with
  | zero => rfl
  | succ n ih => rw [sg, sg, sg, ih]; omega
theorem sg_const (n c : Nat) : sg n (fun _ => c) = n * c := by
  induction n with
  | zero => rw [Nat.zero_mul]; rfl
  | succ n ih => rw [sg, ih, Nat.succ_mul]
theorem sg_mul (n c : Nat) (g : Nat → Nat) : sg n (fun i => c * g i) = c * sg n g := by
  induction n with
  | zero => rfl
  | succ n ih => rw [sg, sg, ih, Nat.mul_add]
theorem sg_at {n i : Nat} (g : Nat → Nat) (h : i < n) : g i ≤ sg n g := by
  induction n with
  | zero => omega
  | succ n ih =>
    rw [sg]
    by_cases hi : i = n
    · subst hi; omega
    · have := ih (by omega); omega
/-- One and at least 1 of each other one. -/
theorem sg_one {n i : Nat} {g : Nat → Nat} (h : i < n) (h1 : ∀ j, j < n → 1 ≤ g j) (hn : 2 ≤ n) : g i + 1 ≤ sg n g := by
  cases n with
  | zero => omega
  | succ n =>
    rw [sg]
    by_cases hi : i = n
    · subst hi
      have := sg_at g (show 0 < i by omega)
      have := h1 0 (by omega)
      omega
    · have := sg_at g (show i < n by omega)
      have := h1 n (by omega)
      omega
theorem sg_lt (n c : Nat) (h : c ≤ n) (g : Nat → Nat) : sg n (fun i => if i < c then g i else 0) = sg c g := by
  induction n with
  | zero => obtain rfl : c = 0 := by omega
            rfl
  | succ n ih =>
    by_cases hc : c = n + 1
    · subst hc
      exact sg_congr fun i hi => if_pos hi
    · rw [sg, ih (by omega), if_neg (by omega), Nat.add_zero]
/-- Of what rises, the first so many are no more than any so many. -/
theorem sg_least {g : Nat → Nat} {N : Nat} (hg : ∀ i j, i ≤ j → j < N → g i ≤ g j) (p : Nat → Bool) : ∀ n, n ≤ N → sg n (fun i => if p i = true then 1 else 0) ≤ n ∧ sg (sg n fun i => if p i = true then 1 else 0) g ≤ sg n fun i => if p i = true then g i else 0
  | 0, _ => ⟨Nat.le_refl _, Nat.le_refl _⟩
  | n + 1, hn => by
    obtain ⟨h1, h2⟩ := sg_least hg p n (by omega)
    rw [sg, sg]
    by_cases h : p n = true
    · rw [if_pos h, if_pos h]
      refine ⟨by omega, ?_⟩
      rw [sg]
      have := hg _ n h1 (by omega)
      omega
    · rw [if_neg h, if_neg h]
      exact ⟨by omega, by rw [Nat.add_zero, Nat.add_zero]; exact h2⟩
theorem tot_congr {W V : Nat → Nat} {k : Nat} (e : ∀ r, 1 ≤ r → r ≤ k → W r = V r) : tot W k = tot V k := by
  induction k with
  | zero => rfl
  | succ k ih => rw [tot, tot, ih fun r h1 h2 => e r h1 (by omega), e (k + 1) (by omega) (Nat.le_refl _)]
theorem tot_sg (g : Nat → Nat → Nat) (n : Nat) : ∀ k, tot (fun r => sg n fun i => g i r) k = sg n fun i => tot (g i) k
  | 0 => by
    show 0 = sg n fun _ => 0
    rw [sg_const, Nat.mul_zero]
  | k + 1 => by
    show tot _ k + sg n (fun i => g i (k + 1)) = sg n fun i => tot (g i) k + g i (k + 1)
    rw [tot_sg g n k, sg_add]
theorem rm_tot (a : Nat → Nat) : ∀ k, rm a k = tot (fun r => a r * 2 ^ r) k
  | 0 => rfl
  | k + 1 => by rw [rm, tot, rm_tot a k]
theorem tot_mul (c : Nat) (W : Nat → Nat) : ∀ k, tot (fun r => c * W r) k = c * tot W k
  | 0 => rfl
  | k + 1 => by rw [tot, tot, tot_mul c W k, Nat.mul_add]
/-- How many heights a length has. -/
theorem tot_len {L l : Nat} (hl : l ≤ L) : ∀ k, k ≤ L → tot (fun r => if L + 1 - r ≤ l then 1 else 0) k = k - (L - l)
  | 0, _ => by rw [Nat.zero_sub]; rfl
  | k + 1, hk => by
    rw [tot, tot_len hl k (by omega)]
    by_cases h : L + 1 - (k + 1) ≤ l
    · rw [if_pos h]; omega
    · rw [if_neg h]; omega
theorem tot_room {L l : Nat} (hl : l ≤ L) : ∀ k, k ≤ L → tot (fun r => (if L + 1 - r ≤ l then 1 else 0) * 2 ^ r) k = if k ≤ L - l then 0 else 2 ^ (k + 1) - 2 ^ (L - l + 1)
  | 0, _ => by rw [if_pos (Nat.zero_le _)]; rfl
  | k + 1, hk => by
    rw [tot, tot_room hl k (by omega)]
    by_cases h : L + 1 - (k + 1) ≤ l
    · rw [if_pos h, if_neg (show ¬ k + 1 ≤ L - l by omega), Nat.one_mul]
      by_cases h2 : k ≤ L - l
      · obtain rfl : k = L - l := by omega
        rw [if_pos (Nat.le_refl _), Nat.pow_succ 2 (L - l + 1)]
        omega
      · rw [if_neg h2]
        have h3 : 2 ^ (L - l + 1) ≤ 2 ^ (k + 1) := Nat.pow_le_pow_right (by decide) (by omega)
        rw [Nat.pow_succ 2 (k + 1)]
        omega
    · rw [if_neg h, if_pos (show k ≤ L - l by omega), if_pos (show k + 1 ≤ L - l by omega), Nat.zero_mul]
/-- The highest ones of what only comes up. -/
theorem tot_up {p : Nat → Bool} {L : Nat} (hp : ∀ r, 1 ≤ r → r < L → p r = true → p (r + 1) = true) : ∀ k, k ≤ L → (∀ r, 1 ≤ r → r ≤ k → (p r = true ↔ k + 1 - r ≤ tot (fun r => if p r = true then 1 else 0) k)) ∧ tot (fun r => if p r = true then 1 else 0) k ≤ k
  | 0, _ => ⟨fun r h1 h2 => by omega, Nat.le_refl _⟩
  | k + 1, hk => by
    obtain ⟨h1, h2⟩ := tot_up hp k (by omega)
    rw [tot]
    by_cases h : p (k + 1) = true
    · rw [if_pos h]
      refine ⟨fun r hr1 hr2 => ?_, by omega⟩
      by_cases hr : r = k + 1
      · subst hr
        exact ⟨fun _ => by omega, fun _ => h⟩
      · rw [h1 r hr1 (by omega)]
        omega
    · rw [if_neg h]
      have h0 : tot (fun r => if p r = true then 1 else 0) k = 0 := by
        cases k with
        | zero => rfl
        | succ k =>
          have h3 := h1 (k + 1) (by omega) (Nat.le_refl _)
          have h4 : ¬ p (k + 1) = true := fun hh => h (hp (k + 1) (by omega) (by omega) hh)
          rw [h3] at h4
          omega
      refine ⟨fun r hr1 hr2 => ?_, by omega⟩
      rw [h0]
      by_cases hr : r = k + 1
      · subst hr
        exact ⟨fun hh => absurd hh h, fun hh => by omega⟩
      · have := h1 r hr1 (by omega)
        rw [h0] at this
        rw [this]
        omega
section
variable {α : Type} {key : α → Nat} {jn : α → α → α} {S : List α} {L : Nat}
/-- What the single one in place i weighs by f. -/
def ky (f : α → Nat) (S : List α) (i : Nat) : Nat := (S.map f).getD i 0
theorem ky_at (f : α → Nat) {i : Nat} (h : i < S.length) : ky f S i = f S[i] := by
  unfold ky
  rw [List.getD_eq_getElem?_getD, List.getElem?_map, List.getElem?_eq_getElem h]
  rfl
theorem sm_ky (f : α → Nat) : ∀ c, c ≤ S.length → sm f (S.take c) = sg c (ky f S)
  | 0, _ => by rw [List.take_zero]; rfl
  | c + 1, h => by rw [sm_take_succ f (show c < S.length by omega), sm_ky f c (by omega), sg, ky_at f (by omega)]
theorem ky_up (hS : Up key S) (i j : Nat) (hij : i ≤ j) (hj : j < S.length) : ky key S i ≤ ky key S j := by
  rw [ky_at key (by omega), ky_at key hj]
  exact up_get hS hij hj
/-- No lengths with no more room weigh less. -/
theorem best_least (hk : ∀ x y, key (jn x y) = key x + key y) (hS : Up key S) {l : Nat → Nat} (h1 : ∀ i, i < S.length → 1 ≤ l i ∧ l i ≤ L) (hr : sg S.length (fun i => 2 ^ (L - l i)) ≤ 2 ^ L) :
    2 * S.length - 2 ≤ (ls key jn S L).length ∧ sm key ((ls key jn S L).take (2 * S.length - 2)) ≤ sg S.length fun i => ky key S i * l i := by
  have hp : ∀ r, sg S.length (fun i => if decide (L + 1 - r ≤ l i) = true then 1 else 0) ≤ S.length ∧ sg (sg S.length fun i => if decide (L + 1 - r ≤ l i) = true then 1 else 0) (ky key S) ≤ sg S.length fun i => if decide (L + 1 - r ≤ l i) = true then ky key S i else 0 := fun r => sg_least (fun i j => ky_up hS i j) (fun i => decide (L + 1 - r ≤ l i)) S.length (Nat.le_refl _)
  have hl := ls_least (a := fun r => sg S.length fun i => if decide (L + 1 - r ≤ l i) = true then 1 else 0) (W := fun r => sg S.length fun i => if decide (L + 1 - r ≤ l i) = true then ky key S i else 0) (jn := jn) hk hS (fun r => (hp r).1) (fun r => by
    rw [sm_ky key _ (hp r).1]; exact (hp r).2) L (2 * S.length - 2) ?_
  · refine ⟨hl.1, Nat.le_trans hl.2 (Nat.le_of_eq ?_)⟩
    rw [tot_sg]
    refine sg_congr fun i hi => ?_
    have e : tot (fun r => if decide (L + 1 - r ≤ l i) = true then ky key S i else 0) L = tot (fun r => ky key S i * if L + 1 - r ≤ l i then 1 else 0) L := tot_congr fun r _ _ => by
      by_cases h : L + 1 - r ≤ l i
      · rw [if_pos h, if_pos (decide_eq_true h), Nat.mul_one]
      · rw [if_neg h, if_neg (by simpa using h), Nat.mul_zero]
    rw [e, tot_mul, tot_len (h1 i hi).2 L (Nat.le_refl _), show L - (L - l i) = l i by have := (h1 i hi).2; omega]
  · rw [rm_tot]
    have e : tot (fun r => (sg S.length fun i => if decide (L + 1 - r ≤ l i) = true then 1 else 0) * 2 ^ r) L = sg S.length fun i => 2 ^ (L + 1) - 2 * 2 ^ (L - l i) := by
      have e1 : (fun r => (sg S.length fun i => if decide (L + 1 - r ≤ l i) = true then 1 else 0) * 2 ^ r) = fun r => sg S.length fun i => (if L + 1 - r ≤ l i then 1 else 0) * 2 ^ r := funext fun r => by
        rw [Nat.mul_comm, ← sg_mul]
        refine sg_congr fun i _ => ?_
        rw [Nat.mul_comm]
        by_cases h : L + 1 - r ≤ l i
        · rw [if_pos h, if_pos (decide_eq_true h)]
        · rw [if_neg h, if_neg (by simpa using h)]
      rw [e1, tot_sg]
      refine sg_congr fun i hi => ?_
      obtain ⟨h2, h3⟩ := h1 i hi
      rw [tot_room h3 L (Nat.le_refl _), if_neg (by omega), Nat.pow_succ 2 (L - l i), Nat.mul_comm _ 2]
    rw [e]
    have h2 : sg S.length (fun i => (2 ^ (L + 1) - 2 * 2 ^ (L - l i)) + 2 * 2 ^ (L - l i)) = S.length * 2 ^ (L + 1) := by
      rw [← sg_const]
      refine sg_congr fun i hi => ?_
      have : 2 ^ (L - l i) ≤ 2 ^ L := Nat.pow_le_pow_right (by decide) (by omega)
      rw [Nat.pow_succ]
      omega
    rw [sg_add, sg_mul, Nat.pow_succ, ← Nat.mul_assoc] at h2
    rw [Nat.sub_mul, Nat.mul_assoc, Nat.mul_comm 2 (S.length * 2 ^ L)]
    rw [Nat.pow_succ]
    omega
/-- The lengths that the first 2 n - 2 tell: how often each single one is among them. -/
theorem best_len (hk : ∀ x y, key (jn x y) = key x + key y) (hS : Up key S) (h2 : 2 ≤ S.length) (hL : S.length ≤ 2 ^ L) {cnt : α → Nat → Nat} (hc : ∀ i x y, cnt (jn x y) i = cnt x i + cnt y i) (h1 : ∀ i j, i < S.length → j < S.length → ky (fun x => cnt x i) S j = if i = j then 1 else 0) :
    2 * S.length - 2 ≤ (ls key jn S L).length ∧ (∀ i, i < S.length → 1 ≤ sm (fun x => cnt x i) ((ls key jn S L).take (2 * S.length - 2)) ∧ sm (fun x => cnt x i) ((ls key jn S L).take (2 * S.length - 2)) ≤ L) ∧
      sg S.length (fun i => 2 ^ (L - sm (fun x => cnt x i) ((ls key jn S L).take (2 * S.length - 2)))) = 2 ^ L ∧
      sg S.length (fun i => ky key S i * sm (fun x => cnt x i) ((ls key jn S L).take (2 * S.length - 2))) = sm key ((ls key jn S L).take (2 * S.length - 2)) := by
  have hL1 : 1 ≤ L := by
    cases L with
    | zero => simp at hL; omega
    | succ L => omega
  have hlen := (best_least (L := L) (l := fun _ => L) hk hS (fun _ _ => ⟨hL1, Nat.le_refl _⟩) (by rw [Nat.sub_self, sg_const, Nat.pow_zero, Nat.mul_one]; exact hL)).1
  obtain ⟨a, ha, hrm, hmo, _, hf⟩ := ls_split (jn := jn) hk hS L (2 * S.length - 2) hlen
  have hlt : ∀ i, i < S.length → sm (fun x => cnt x i) ((ls key jn S L).take (2 * S.length - 2)) = tot (fun r => if decide (i < a r) = true then 1 else 0) L := by
    intro i hi
    rw [hf (fun x => cnt x i) (hc i)]
    refine tot_congr fun r _ _ => ?_
    rw [sm_ky _ _ (ha r)]
    have e : sg (a r) (ky (fun x => cnt x i) S) = sg (a r) fun j => if i = j then 1 else 0 := sg_congr fun j hj => h1 i j hi (by have := ha r; omega)
    rw [e]
    have e2 : ∀ c, sg c (fun j => if i = j then 1 else 0) = if i < c then 1 else 0 := by
      intro c
      induction c with
      | zero => rfl
      | succ c ih =>
        rw [sg, ih]
        by_cases h : i < c
        · rw [if_pos h, if_neg (by omega), if_pos (by omega)]
        · rw [if_neg h]
          by_cases h3 : i = c
          · rw [if_pos h3, if_pos (by omega)]
          · rw [if_neg h3, if_neg (by omega)]
    rw [e2]
    by_cases h : i < a r
    · rw [if_pos h, if_pos (decide_eq_true h)]
    · rw [if_neg h, if_neg (by simpa using h)]
  have hup := fun i => tot_up (p := fun r => decide (i < a r)) (L := L) (fun r hr1 hr2 h => by
    have := hmo r hr1 hr2
    simp only [decide_eq_true_eq] at h ⊢
    omega) L (Nat.le_refl _)
  generalize (ls key jn S L).take (2 * S.length - 2) = X at *
  have hle : ∀ i, i < S.length → sm (fun x => cnt x i) X ≤ L := fun i hi => by rw [hlt i hi]; exact (hup i).2
  have hiff : ∀ i, i < S.length → ∀ r, 1 ≤ r → r ≤ L → (i < a r ↔ L + 1 - r ≤ sm (fun x => cnt x i) X) := fun i hi r hr1 hr2 => by
    rw [hlt i hi, ← (hup i).1 r hr1 hr2]
    simp
  have hroom : sg S.length (fun i => 2 ^ (L - sm (fun x => cnt x i) X)) = 2 ^ L := by
    rw [rm_tot] at hrm
    have e : tot (fun r => a r * 2 ^ r) L = sg S.length fun i => 2 ^ (L + 1) - 2 * 2 ^ (L - sm (fun x => cnt x i) X) := by
      have e1 : tot (fun r => a r * 2 ^ r) L = tot (fun r => sg S.length fun i => (if L + 1 - r ≤ sm (fun x => cnt x i) X then 1 else 0) * 2 ^ r) L := tot_congr fun r hr1 hr2 => by
        have e3 : sg S.length (fun i => (if L + 1 - r ≤ sm (fun x => cnt x i) X then 1 else 0) * 2 ^ r) = sg S.length fun i => if i < a r then 2 ^ r else 0 := sg_congr fun i hi => by
          by_cases h : i < a r
          · rw [if_pos h, if_pos ((hiff i hi r hr1 hr2).1 h), Nat.one_mul]
          · rw [if_neg h, if_neg (fun hh => h ((hiff i hi r hr1 hr2).2 hh)), Nat.zero_mul]
        rw [e3, sg_lt S.length (a r) (ha r) (fun _ => 2 ^ r), sg_const]
      rw [e1, tot_sg]
      refine sg_congr fun i hi => ?_
      rw [tot_room (hle i hi) L (Nat.le_refl _)]
      by_cases h0 : sm (fun x => cnt x i) X = 0
      · rw [h0, if_pos (by omega), Nat.sub_zero, Nat.pow_succ]
        omega
      · rw [if_neg (by have := hle i hi; omega), Nat.pow_succ 2 (L - sm (fun x => cnt x i) X), Nat.mul_comm _ 2]
    rw [e] at hrm
    have h3 : sg S.length (fun i => (2 ^ (L + 1) - 2 * 2 ^ (L - sm (fun x => cnt x i) X)) + 2 * 2 ^ (L - sm (fun x => cnt x i) X)) = S.length * 2 ^ (L + 1) := by
      rw [← sg_const]
      refine sg_congr fun i hi => ?_
      have : 2 ^ (L - sm (fun x => cnt x i) X) ≤ 2 ^ L := Nat.pow_le_pow_right (by decide) (by omega)
      rw [Nat.pow_succ]
      omega
    rw [sg_add, sg_mul, hrm, Nat.pow_succ, Nat.sub_mul, ← Nat.mul_assoc, Nat.mul_assoc 2, Nat.mul_comm 2 (S.length * 2 ^ L)] at h3
    have h4 : 2 * 2 ^ L ≤ S.length * 2 ^ L * 2 := by
      have := Nat.mul_le_mul_right (2 ^ L) h2
      omega
    omega
  refine ⟨hlen, fun i hi => ⟨?_, hle i hi⟩, hroom, ?_⟩
  · apply Nat.pos_of_ne_zero
    intro h0
    have h3 := sg_one (g := fun i => 2 ^ (L - sm (fun x => cnt x i) X)) hi (fun j _ => Nat.two_pow_pos _) h2
    rw [hroom] at h3
    have h4 : 2 ^ (L - sm (fun x => cnt x i) X) = 2 ^ L := by rw [h0, Nat.sub_zero]
    simp only [h4] at h3
    omega
  · rw [hf key hk]
    have e : tot (fun r => sm key (S.take (a r))) L = tot (fun r => sg S.length fun i => ky key S i * if decide (i < a r) = true then 1 else 0) L := tot_congr fun r _ _ => by
      rw [sm_ky _ _ (ha r), ← sg_lt S.length (a r) (ha r)]
      refine sg_congr fun i _ => ?_
      by_cases h : i < a r
      · rw [if_pos h, if_pos (decide_eq_true h), Nat.mul_one]
      · rw [if_neg h, if_neg (by simpa using h), Nat.mul_zero]
    rw [e, tot_sg]
    exact sg_congr fun i hi => by rw [tot_mul, hlt i hi]
end
end H
end Go.Proofs.Ytkljpidlfddgbaa

/- Sorting by a key, stably, as places of a list: exchanges, turns, what stays; merging by turning the middle (symmetric merge); blocks. No program. -/
import Derived.Test.YtkljpidlfddgbaaHx
namespace Go.Proofs.Ytkljpidlfddgbaa
namespace Q
def sw (f : Nat → Nat) (i j : Nat) : Nat → Nat := fun x => if x = i then f j else if x = j then f i else f x
def rot (f : Nat → Nat) (a m b : Nat) : Nat → Nat := fun i => if i < a then f i else if i < a + (b - m) then f (i + (m - a)) else if i < b then f (i - (b - m)) else f i
/-- The one is the other, within a part in another order. -/
def Bj (a b : Nat) (f g : Nat → Nat) : Prop := ∃ s t : Nat → Nat, (∀ i, t (s i) = i) ∧ (∀ i, s (t i) = i) ∧ (∀ i, a ≤ i → i < b → a ≤ s i ∧ s i < b) ∧ (∀ i, ¬ (a ≤ i ∧ i < b) → s i = i) ∧ ∀ i, g i = f (s i)
/-- A part rises by its keys. -/
def So (k : Nat → Nat) (f : Nat → Nat) (a b : Nat) : Prop := ∀ i j, a ≤ i → i < j → j < b → k (f i) ≤ k (f j)
/-- Of the same key the smaller is ahead. -/
def Sb (k : Nat → Nat) (f : Nat → Nat) (a b : Nat) : Prop := ∀ i j, a ≤ i → i < j → j < b → k (f i) = k (f j) → f i < f j
theorem Bj.refl (a b : Nat) (f : Nat → Nat) : Bj a b f f := ⟨id, id, fun _ => rfl, fun _ => rfl, fun _ h h' => ⟨h, h'⟩, fun _ _ => rfl, fun _ => rfl⟩
theorem Bj.trans {a b : Nat} {f g h : Nat → Nat} (h1 : Bj a b f g) (h2 : Bj a b g h) : Bj a b f h := by
  obtain ⟨s, t, e1, e2, e3, e4, e5⟩ := h1
  obtain ⟨s', t', e1', e2', e3', e4', e5'⟩ := h2
  refine ⟨fun i => s (s' i), fun i => t' (t i), fun i => ?_, fun i => ?_, fun i hi hj => ?_, fun i hi => ?_, fun i => ?_⟩
  · show t' (t (s (s' i))) = i
    rw [e1, e1']
  · show s (s' (t' (t i))) = i
    rw [e2', e2]
  · have h := e3' i hi hj
    exact e3 _ h.1 h.2
  · show s (s' i) = i
    rw [e4' i hi, e4 i hi]
  · rw [e5', e5]
theorem Bj.mono {a b a' b' : Nat} {f g : Nat → Nat} (h : Bj a b f g) (ha : a' ≤ a) (hb : b ≤ b') : Bj a' b' f g := by
  obtain ⟨s, t, e1, e2, e3, e4, e5⟩ := h
  refine ⟨s, t, e1, e2, fun i hi hj => ?_, fun i hi => e4 i (by omega), e5⟩
  by_cases h : a ≤ i ∧ i < b
  · have := e3 i h.1 h.2
    omega
  · rw [e4 i h]
    exact ⟨hi, hj⟩
theorem Bj.out {a b : Nat} {f g : Nat → Nat} (h : Bj a b f g) {i : Nat} (hi : ¬ (a ≤ i ∧ i < b)) : g i = f i := by
  obtain ⟨s, t, e1, e2, e3, e4, e5⟩ := h
  rw [e5, e4 i hi]
theorem Bj.img {a b : Nat} {f g : Nat → Nat} (h : Bj a b f g) {i : Nat} (hi : a ≤ i) (hj : i < b) : ∃ j, a ≤ j ∧ j < b ∧ g i = f j := by
  obtain ⟨s, t, e1, e2, e3, e4, e5⟩ := h
  exact ⟨s i, (e3 i hi hj).1, (e3 i hi hj).2, e5 i⟩
theorem bj_sw {a b i j : Nat} (f : Nat → Nat) (hi : a ≤ i) (hi' : i < b) (hj : a ≤ j) (hj' : j < b) : Bj a b f (sw f i j) := by
  have hs : ∀ x, (fun x => if x = i then j else if x = j then i else x) ((fun x => if x = i then j else if x = j then i else x) x) = x := fun x => by
    show (if (if x = i then j else if x = j then i else x) = i then j else if (if x = i then j else if x = j then i else x) = j then i else (if x = i then j else if x = j then i else x)) = x
    by_cases h1 : x = i
    · rw [if_pos h1]
      by_cases h2 : j = i
      · rw [if_pos h2]; omega
      · rw [if_neg h2, if_pos rfl]; exact h1.symm
    · rw [if_neg h1]
      by_cases h2 : x = j
      · rw [if_pos h2, if_pos rfl]; exact h2.symm
      · rw [if_neg h2, if_neg h1, if_neg h2]
  refine ⟨fun x => if x = i then j else if x = j then i else x, fun x => if x = i then j else if x = j then i else x, hs, hs, fun x h h' => ?_, fun x h => ?_, fun x => ?_⟩
  · dsimp only
    split
    · exact ⟨hj, hj'⟩
    · split
      · exact ⟨hi, hi'⟩
      · exact ⟨h, h'⟩
  · dsimp only
    rw [if_neg (by omega), if_neg (by omega)]
  · dsimp only [sw]
    split
    · rfl
    · split <;> rfl
theorem rot_1 {f : Nat → Nat} {a m b i : Nat} (h : i < a) : rot f a m b i = f i := if_pos h
theorem rot_2 {f : Nat → Nat} {a m b i : Nat} (h : a ≤ i) (h' : i < a + (b - m)) : rot f a m b i = f (i + (m - a)) := by
  unfold rot
  rw [if_neg (by omega), if_pos h']
theorem rot_3 {f : Nat → Nat} {a m b i : Nat} (h : a + (b - m) ≤ i) (h' : i < b) : rot f a m b i = f (i - (b - m)) := by
  unfold rot
  rw [if_neg (by omega), if_neg (by omega), if_pos h']
theorem rot_4 {f : Nat → Nat} {a m b i : Nat} (hm : a ≤ m) (hb : m ≤ b) (h : b ≤ i) : rot f a m b i = f i := by
  unfold rot
  rw [if_neg (by omega), if_neg (by omega), if_neg (by omega)]
theorem rot_l (f : Nat → Nat) (m b : Nat) : rot f m m b = f := by
  funext i
  unfold rot
  split
  · rfl
  · split
    · congr 1
      omega
    · split
      · omega
      · rfl
theorem rot_r (f : Nat → Nat) (a m : Nat) : rot f a m m = f := by
  funext i
  unfold rot
  split
  · rfl
  · split
    · omega
    · split
      · congr 1
        omega
      · rfl
theorem bj_rot {a m b : Nat} (f : Nat → Nat) (hm : a ≤ m) (hb : m ≤ b) : Bj a b f (rot f a m b) := by
  refine ⟨fun i => if i < a then i else if i < a + (b - m) then i + (m - a) else if i < b then i - (b - m) else i, fun i => if i < a then i else if i < m then i + (b - m) else if i < b then i - (m - a) else i, fun i => ?_, fun i => ?_, fun i h h' => ?_, fun i h => ?_, fun i => ?_⟩
  · dsimp only
    by_cases h1 : i < a
    · rw [if_pos h1, if_pos h1]
    · rw [if_neg h1]
      by_cases h2 : i < a + (b - m)
      · rw [if_pos h2, if_neg (by omega), if_neg (by omega), if_pos (by omega)]
        omega
      · rw [if_neg h2]
        by_cases h3 : i < b
        · rw [if_pos h3, if_neg (by omega), if_pos (by omega)]
          omega
        · rw [if_neg h3, if_neg h1, if_neg (by omega), if_neg h3]
  · dsimp only
    by_cases h1 : i < a
    · rw [if_pos h1, if_pos h1]
    · rw [if_neg h1]
      by_cases h2 : i < m
      · rw [if_pos h2, if_neg (by omega), if_neg (by omega), if_pos (by omega)]
        omega
      · rw [if_neg h2]
        by_cases h3 : i < b
        · rw [if_pos h3, if_neg (by omega), if_pos (by omega)]
          omega
        · rw [if_neg h3, if_neg h1, if_neg (by omega), if_neg h3]
  · dsimp only
    rw [if_neg (by omega)]
    split
    · omega
    · constructor <;> omega
  · dsimp only
    by_cases h1 : i < a
    · rw [if_pos h1]
    · rw [if_neg h1, if_neg (by omega), if_neg (by omega)]
  · dsimp only [rot]
    split
    · rfl
    · split
      · rfl
      · split <;> rfl
theorem sw_rot (f : Nat → Nat) {j : Nat} (hj : 0 < j) : sw f (j - 1) j = rot f (j - 1) j (j + 1) := by
  funext i
  unfold sw
  by_cases h1 : i = j - 1
  · rw [if_pos h1, rot_2 (by omega) (by omega)]
    congr 1
    omega
  · rw [if_neg h1]
    by_cases h2 : i = j
    · rw [if_pos h2, rot_3 (by omega) (by omega)]
      congr 1
      omega
    · rw [if_neg h2]
      by_cases h3 : i < j - 1
      · rw [rot_1 h3]
      · rw [rot_4 (by omega) (by omega) (by omega)]
theorem sw_comm (f : Nat → Nat) (i j : Nat) : sw f i j = sw f j i := by
  funext x
  unfold sw
  by_cases h1 : x = i
  · rw [if_pos h1]
    by_cases h2 : x = j
    · rw [if_pos h2, ← h1, ← h2]
    · rw [if_neg h2, if_pos h1]
  · rw [if_neg h1, if_neg h1]
/-- One step of moving one up. -/
theorem rot_up (f : Nat → Nat) {a k : Nat} (h : a ≤ k) : sw (rot f a (a + 1) (k + 1)) k (k + 1) = rot f a (a + 1) (k + 2) := by
  funext i
  unfold sw
  by_cases h1 : i = k
  · subst h1
    rw [if_pos rfl, rot_4 (by omega) (by omega) (Nat.le_refl _), rot_2 h (by omega)]
    congr 1
    omega
  · rw [if_neg h1]
    by_cases h2 : i = k + 1
    · rw [if_pos h2, rot_3 (by omega) (by omega), rot_3 (by omega) (by omega)]
      congr 1
      omega
    · rw [if_neg h2]
      by_cases h3 : i < a
      · rw [rot_1 h3, rot_1 h3]
      · by_cases h4 : i < k
        · rw [rot_2 (by omega) (by omega), rot_2 (by omega) (by omega)]
        · rw [rot_4 (by omega) (by omega) (by omega), rot_4 (by omega) (by omega) (by omega)]
/-- One step of moving one down. -/
theorem rot_down (f : Nat → Nat) {k m : Nat} (h0 : 0 < k) (h : k ≤ m) : sw (rot f k m (m + 1)) k (k - 1) = rot f (k - 1) m (m + 1) := by
  funext i
  unfold sw
  by_cases h1 : i = k
  · subst h1
    rw [if_pos rfl, rot_1 (by omega), rot_3 (by omega) (by omega)]
    congr 1
    omega
  · rw [if_neg h1]
    by_cases h2 : i = k - 1
    · rw [if_pos h2, rot_2 (by omega) (by omega), rot_2 (by omega) (by omega)]
      congr 1
      omega
    · rw [if_neg h2]
      by_cases h3 : i < k - 1
      · rw [rot_1 (by omega), rot_1 h3]
      · by_cases h4 : i < m + 1
        · rw [rot_3 (by omega) (by omega), rot_3 (by omega) (by omega)]
        · rw [rot_4 (by omega) (by omega) (by omega), rot_4 (by omega) (by omega) (by omega)]
/-- So many exchanged, one by one. -/
def swr (f : Nat → Nat) (a b n : Nat) : Nat → Nat := fun i => if a ≤ i ∧ i < a + n then f (i - a + b) else if b ≤ i ∧ i < b + n then f (i - b + a) else f i
theorem swr_zero (f : Nat → Nat) (a b : Nat) : swr f a b 0 = f := by
  funext i
  unfold swr
  rw [if_neg (by omega), if_neg (by omega)]
theorem swr_next (f : Nat → Nat) {a b n N : Nat} (hd : a + N ≤ b) (hn : n < N) : sw (swr f a b n) (a + n) (b + n) = swr f a b (n + 1) := by
  funext i
  unfold sw swr
  by_cases h1 : i = a + n
  · rw [if_pos h1, if_neg (by omega), if_neg (by omega), if_pos (by omega)]
    congr 1
    omega
  · rw [if_neg h1]
    by_cases h2 : i = b + n
    · rw [if_pos h2, if_neg (by omega), if_neg (by omega), if_neg (by omega), if_pos (by omega)]
      congr 1
      omega
    · rw [if_neg h2]
      by_cases h3 : a ≤ i ∧ i < a + n
      · rw [if_pos h3, if_pos (by omega)]
      · rw [if_neg h3, if_neg (show ¬ (a ≤ i ∧ i < a + (n + 1)) by omega)]
        by_cases h4 : b ≤ i ∧ i < b + n
        · rw [if_pos h4, if_pos (by omega)]
        · rw [if_neg h4, if_neg (by omega)]
/-- The parts of a turn, told by what is left to be done. -/
theorem rot_big (f : Nat → Nat) {m i j : Nat} (h : j < i) (hi : i ≤ m) : rot (swr f (m - i) m j) (m - (i - j)) m (m + j) = rot f (m - i) m (m + j) := by
  funext x
  unfold rot swr
  repeat' split
  all_goals first | rfl | (exfalso; omega) | (congr 1; omega)
theorem rot_small (f : Nat → Nat) {m i j : Nat} (h : i < j) (hi : i ≤ m) : rot (swr f (m - i) (m + j - i) i) (m - i) m (m + (j - i)) = rot f (m - i) m (m + j) := by
  funext x
  unfold rot swr
  repeat' split
  all_goals first | rfl | (exfalso; omega) | (congr 1; omega)
theorem rot_even (f : Nat → Nat) {m i : Nat} (hi : i ≤ m) : swr f (m - i) m i = rot f (m - i) m (m + i) := by
  funext x
  unfold rot swr
  repeat' split
  all_goals first | rfl | (exfalso; omega) | (congr 1; omega)
theorem bj_swr {a b n lo hi : Nat} (f : Nat → Nat) (hd : a + n ≤ b) (h1 : lo ≤ a) (h2 : b + n ≤ hi) : Bj lo hi f (swr f a b n) := by
  suffices h : ∀ k, k ≤ n → Bj lo hi f (swr f a b k) from h n (Nat.le_refl _)
  intro k
  induction k with
  | zero => intro _; rw [swr_zero]; exact Bj.refl ..
  | succ k ih =>
    intro hk
    rw [← swr_next f hd (by omega)]
    exact (ih (by omega)).trans (bj_sw _ (by omega) (by omega) (by omega) (by omega))
theorem sb_of {k f g : Nat → Nat} {a b lo hi : Nat} (h : Bj a b f g) (h1 : Sb k f lo hi) (h2 : Sb k g a b) (ha : lo ≤ a) (hb : b ≤ hi) : Sb k g lo hi := by
  intro i j hi' hij hj he
  by_cases hi1 : a ≤ i ∧ i < b
  · by_cases hj1 : a ≤ j ∧ j < b
    · exact h2 i j hi1.1 hij hj1.2 he
    · rw [h.out hj1] at he ⊢
      obtain ⟨p, hp, hp', e⟩ := h.img hi1.1 hi1.2
      rw [e] at he ⊢
      exact h1 p j (by omega) (by omega) hj he
  · rw [h.out hi1] at he ⊢
    by_cases hj1 : a ≤ j ∧ j < b
    · obtain ⟨p, hp, hp', e⟩ := h.img hj1.1 hj1.2
      rw [e] at he ⊢
      exact h1 i p hi' (by omega) (by omega) he
    · rw [h.out hj1] at he ⊢
      exact h1 i j hi' hij hj he
theorem sb_rot {k f : Nat → Nat} {a m b lo hi : Nat} (h1 : Sb k f lo hi) (hm : a ≤ m) (hb : m ≤ b) (ha : lo ≤ a) (hh : b ≤ hi) (hx : ∀ x y, a ≤ x → x < m → m ≤ y → y < b → k (f y) < k (f x)) : Sb k (rot f a m b) lo hi := by
  refine sb_of (bj_rot f hm hb) h1 ?_ ha hh
  intro i j hi' hij hj he
  by_cases hi1 : i < a + (b - m)
  · rw [rot_2 hi' hi1] at he ⊢
    by_cases hj1 : j < a + (b - m)
    · rw [rot_2 (by omega) hj1] at he ⊢
      exact h1 _ _ (by omega) (by omega) (by omega) he
    · rw [rot_3 (by omega) hj] at he
      have := hx (j - (b - m)) (i + (m - a)) (by omega) (by omega) (by omega) (by omega)
      omega
  · rw [rot_3 (by omega) (by omega)] at he ⊢
    rw [rot_3 (by omega) hj] at he ⊢
    exact h1 _ _ (by omega) (by omega) (by omega) he
/-- Insertion: all but one rise. -/
def Ins (k f : Nat → Nat) (a i j : Nat) : Prop := ∀ p q, a ≤ p → p < q → q ≤ i → q ≠ j → k (f p) ≤ k (f q)
theorem ins_start {k f : Nat → Nat} {a i : Nat} (h : So k f a i) : Ins k f a i i := fun p q hp hq hi hne => h p q hp hq (by omega)
theorem ins_step {k f : Nat → Nat} {a i j : Nat} (h : Ins k f a i j) (hj : a < j) (hji : j ≤ i) (hk : k (f j) < k (f (j - 1))) : Ins k (sw f (j - 1) j) a i (j - 1) := by
  intro p q hp hpq hq hne
  have e1 : ∀ x, x ≠ j - 1 → x ≠ j → sw f (j - 1) j x = f x := fun x h1 h2 => by unfold sw; rw [if_neg h1, if_neg h2]
  have e2 : sw f (j - 1) j (j - 1) = f j := by unfold sw; rw [if_pos rfl]
  have e3 : sw f (j - 1) j j = f (j - 1) := by unfold sw; rw [if_neg (by omega), if_pos rfl]
  by_cases hqj : q = j
  · subst hqj
    rw [e3]
    by_cases hpj : p = q - 1
    · subst hpj
      rw [e2]
      omega
    · rw [e1 p hpj (by omega)]
      exact h p (q - 1) hp (by omega) (by omega) (by omega)
  · rw [e1 q hne hqj]
    by_cases hp1 : p = j - 1
    · rw [hp1, e2]
      exact h j q (by omega) (by omega) hq hqj
    · by_cases hp2 : p = j
      · rw [hp2, e3]
        exact h (j - 1) q (by omega) (by omega) hq hqj
      · rw [e1 p hp1 hp2]
        exact h p q hp hpq hq hqj
theorem ins_end {k f : Nat → Nat} {a i j : Nat} (h : Ins k f a i j) (hj : j ≤ a ∨ k (f (j - 1)) ≤ k (f j)) : So k f a (i + 1) := by
  intro p q hp hpq hq
  by_cases hqj : q = j
  · subst hqj
    rcases hj with hj | hj
    · omega
    · by_cases hp1 : p = q - 1
      · rw [hp1]; exact hj
      · exact Nat.le_trans (h p (q - 1) hp (by omega) (by omega) (by omega)) hj
  · exact h p q hp hpq (by omega) hqj
/-- What one call of the merge does. -/
def Mgd (k f g : Nat → Nat) (a b : Nat) : Prop := Bj a b f g ∧ So k g a b ∧ Sb k g a b
theorem one_up {k f : Nat → Nat} {a i b : Nat} (h2 : So k f (a + 1) b) (hs : Sb k f a b) (hi : a + 1 ≤ i) (hb : i ≤ b) (p1 : i = a + 1 ∨ k (f (i - 1)) < k (f a)) (p2 : i = b ∨ k (f a) ≤ k (f i)) : Mgd k f (rot f a (a + 1) i) a b := by
  have hl : ∀ x, a + 1 ≤ x → x < i → k (f x) < k (f a) := fun x hx hx' => by
    rcases p1 with p1 | p1
    · omega
    · by_cases hxi : x = i - 1
      · rw [hxi]; exact p1
      · exact Nat.lt_of_le_of_lt (h2 x (i - 1) hx (by omega) (by omega)) p1
  have hr : ∀ x, i ≤ x → x < b → k (f a) ≤ k (f x) := fun x hx hx' => by
    rcases p2 with p2 | p2
    · omega
    · by_cases hxi : x = i
      · rw [hxi]; exact p2
      · exact Nat.le_trans p2 (h2 i x hi (by omega) hx')
  refine ⟨(bj_rot f (by omega) hi).mono (Nat.le_refl _) hb, fun p q hp hpq hq => ?_, sb_rot hs (by omega) hi (Nat.le_refl _) hb fun x y hx hx' hy hy' => ?_⟩
  · by_cases hp1 : p < a + (i - (a + 1))
    · rw [rot_2 hp hp1]
      by_cases hq1 : q < a + (i - (a + 1))
      · rw [rot_2 (by omega) hq1]
        exact h2 _ _ (by omega) (by omega) (by omega)
      · by_cases hq2 : q < i
        · rw [rot_3 (by omega) hq2, show q - (i - (a + 1)) = a by omega]
          exact Nat.le_of_lt (hl _ (by omega) (by omega))
        · rw [rot_4 (by omega) hi (by omega)]
          exact h2 _ _ (by omega) (by omega) hq
    · by_cases hp2 : p < i
      · rw [rot_3 (by omega) hp2, rot_4 (by omega) hi (by omega), show p - (i - (a + 1)) = a by omega]
        exact hr _ (by omega) hq
      · rw [rot_4 (by omega) hi (by omega), rot_4 (by omega) hi (by omega)]
        exact h2 _ _ (by omega) hpq hq
  · rw [show x = a by omega]
    exact hl y hy hy'
theorem one_down {k f : Nat → Nat} {a i m : Nat} (h1 : So k f a m) (hs : Sb k f a (m + 1)) (hi : a ≤ i) (hb : i ≤ m) (p1 : i = a ∨ k (f (i - 1)) ≤ k (f m)) (p2 : i = m ∨ k (f m) < k (f i)) : Mgd k f (rot f i m (m + 1)) a (m + 1) := by
  have hl : ∀ x, a ≤ x → x < i → k (f x) ≤ k (f m) := fun x hx hx' => by
    rcases p1 with p1 | p1
    · omega
    · by_cases hxi : x = i - 1
      · rw [hxi]; exact p1
      · exact Nat.le_trans (h1 x (i - 1) hx (by omega) (by omega)) p1
  have hr : ∀ x, i ≤ x → x < m → k (f m) < k (f x) := fun x hx hx' => by
    rcases p2 with p2 | p2
    · omega
    · by_cases hxi : x = i
      · rw [hxi]; exact p2
      · exact Nat.lt_of_lt_of_le p2 (h1 i x hi (by omega) hx')
  refine ⟨(bj_rot f hb (by omega)).mono hi (Nat.le_refl _), fun p q hp hpq hq => ?_, sb_rot hs hb (by omega) hi (Nat.le_refl _) fun x y hx hx' hy hy' => ?_⟩
  · by_cases hp1 : p < i
    · rw [rot_1 hp1]
      by_cases hq1 : q < i
      · rw [rot_1 hq1]
        exact h1 _ _ hp hpq (by omega)
      · by_cases hq2 : q < i + (m + 1 - m)
        · rw [rot_2 (by omega) hq2, show q + (m - i) = m by omega]
          exact hl _ hp hp1
        · rw [rot_3 (by omega) hq]
          exact h1 _ _ hp (by omega) (by omega)
    · by_cases hp2 : p < i + (m + 1 - m)
      · rw [rot_2 (by omega) hp2, rot_3 (by omega) hq, show p + (m - i) = m by omega]
        exact Nat.le_of_lt (hr _ (by omega) (by omega))
      · rw [rot_3 (by omega) (by omega), rot_3 (by omega) hq]
        exact h1 _ _ (by omega) (by omega) (by omega)
  · rw [show y = m by omega]
    exact hr x hx hx'
/-- Both halves of what is merged, when its middle was turned. -/
theorem sym_turn {k f : Nat → Nat} {a m b mid s e lo hi : Nat} (hA : So k f a m) (hB : So k f m b) (hs : Sb k f a b) (hm : mid = (a + b) / 2) (ham : a < m) (hmb : m < b)
    (hlo : lo = if mid < m then mid + m - b else a) (hhi : hi = if mid < m then mid else m) (h1 : lo ≤ s) (h2 : s ≤ hi) (he : e = mid + m - s)
    (p1 : s = lo ∨ k (f (s - 1)) ≤ k (f (mid + m - 1 - (s - 1)))) (p2 : s = hi ∨ k (f (mid + m - 1 - s)) < k (f s)) :
    a ≤ s ∧ s ≤ m ∧ s ≤ mid ∧ m ≤ e ∧ mid ≤ e ∧ e ≤ b ∧ Bj a b f (rot f s m e) ∧ Sb k (rot f s m e) a b ∧ So k (rot f s m e) a s ∧ So k (rot f s m e) s mid ∧ So k (rot f s m e) mid e ∧ So k (rot f s m e) e b ∧ ∀ i j, a ≤ i → i < mid → mid ≤ j → j < b → k (rot f s m e i) ≤ k (rot f s m e j) := by
  have q : a ≤ s ∧ s ≤ m ∧ s ≤ mid ∧ m ≤ e ∧ mid ≤ e ∧ e ≤ b := by
    split at hlo <;> rename_i hc
    · rw [if_pos hc] at hhi
      omega
    · rw [if_neg hc] at hhi
      omega
  obtain ⟨q1, q2, q3, q4, q5, q6⟩ := q
  have hmid : mid = s + (e - m) := by omega
  have hl : ∀ x y, a ≤ x → x < s → e ≤ y → y < b → k (f x) ≤ k (f y) := fun x y hx hx' hy hy' => by
    rcases p1 with p1 | p1
    · split at hlo
      · omega
      · omega
    · have c1 : k (f x) ≤ k (f (s - 1)) := by
        by_cases hxi : x = s - 1
        · rw [hxi]; exact Nat.le_refl _
        · exact hA _ _ hx (by omega) (by omega)
      have c2 : k (f e) ≤ k (f y) := by
        by_cases hxi : y = e
        · rw [hxi]; exact Nat.le_refl _
        · exact hB _ _ q4 (by omega) (by omega)
      rw [show mid + m - 1 - (s - 1) = e by omega] at p1
      omega
  have hr : ∀ x y, s ≤ x → x < m → m ≤ y → y < e → k (f y) < k (f x) := fun x y hx hx' hy hy' => by
    rcases p2 with p2 | p2
    · split at hhi
      · omega
      · omega
    · have c1 : k (f s) ≤ k (f x) := by
        by_cases hxi : x = s
        · rw [hxi]; exact Nat.le_refl _
        · exact hA _ _ (by omega) (by omega) (by omega)
      have c2 : k (f y) ≤ k (f (e - 1)) := by
        by_cases hxi : y = e - 1
        · rw [hxi]; exact Nat.le_refl _
        · exact hB _ _ (by omega) (by omega) (by omega)
      rw [show mid + m - 1 - s = e - 1 by omega] at p2
      omega
  refine ⟨q1, q2, q3, q4, q5, q6, (bj_rot f q2 q4).mono q1 q6, sb_rot hs q2 q4 q1 q6 hr, ?_, ?_, ?_, ?_, ?_⟩
  · intro p q hp hpq hq
    rw [rot_1 (by omega), rot_1 hq]
    exact hA _ _ hp hpq (by omega)
  · intro p q hp hpq hq
    rw [rot_2 (by omega) (by omega), rot_2 (by omega) (by omega)]
    exact hB _ _ (by omega) (by omega) (by omega)
  · intro p q hp hpq hq
    rw [rot_3 (by omega) (by omega), rot_3 (by omega) hq]
    exact hA _ _ (by omega) (by omega) (by omega)
  · intro p q hp hpq hq
    rw [rot_4 q2 q4 (by omega), rot_4 q2 q4 (by omega)]
    exact hB _ _ (by omega) (by omega) (by omega)
  · intro i j hi1 hi2 hj1 hj2
    by_cases hi3 : i < s
    · rw [rot_1 hi3]
      by_cases hj3 : j < e
      · rw [rot_3 (by omega) hj3]
        exact hA _ _ hi1 (by omega) (by omega)
      · rw [rot_4 q2 q4 (by omega)]
        exact hl _ _ hi1 hi3 (by omega) hj2
    · rw [rot_2 (by omega) (by omega)]
      by_cases hj3 : j < e
      · rw [rot_3 (by omega) hj3]
        exact Nat.le_of_lt (hr _ _ (by omega) (by omega) (by omega) (by omega))
      · rw [rot_4 q2 q4 (by omega)]
        exact hB _ _ (by omega) (by omega) hj2
theorem So.of_eq {k f g : Nat → Nat} {a b : Nat} (h : So k f a b) (e : ∀ i, a ≤ i → i < b → g i = f i) : So k g a b := fun i j hi hij hj => by
  rw [e i hi (by omega), e j (by omega) hj]
  exact h i j hi hij hj
theorem Sb.mono {k f : Nat → Nat} {a b lo hi : Nat} (h : Sb k f lo hi) (ha : lo ≤ a) (hb : b ≤ hi) : Sb k f a b := fun i j hi hij hj he => h i j (by omega) hij (by omega) he
theorem So.mono {k f : Nat → Nat} {a b lo hi : Nat} (h : So k f lo hi) (ha : lo ≤ a) (hb : b ≤ hi) : So k f a b := fun i j hi hij hj => h i j (by omega) hij (by omega)
theorem mgd_join {k f g h1 h2 : Nat → Nat} {a mid b : Nat} (h0 : Bj a b f g) (hs : Sb k g a b) (hx : ∀ i j, a ≤ i → i < mid → mid ≤ j → j < b → k (g i) ≤ k (g j)) (hl : Mgd k g h1 a mid) (hr : Mgd k h1 h2 mid b) (h3 : a ≤ mid) (h4 : mid ≤ b) : Mgd k f h2 a b := by
  refine ⟨(h0.trans (hl.1.mono (Nat.le_refl _) h4)).trans (hr.1.mono h3 (Nat.le_refl _)), fun i j hi hij hj => ?_, sb_of hr.1 (sb_of hl.1 hs hl.2.2 (Nat.le_refl _) h4) hr.2.2 h3 (Nat.le_refl _)⟩
  by_cases h5 : j < mid
  · rw [hr.1.out (by omega), hr.1.out (by omega)]
    exact hl.2.1 i j hi hij h5
  · by_cases h6 : i < mid
    · rw [hr.1.out (by omega)]
      obtain ⟨p, hp, hp', e⟩ := hl.1.img hi h6
      obtain ⟨q, hq, hq', e'⟩ := hr.1.img (show mid ≤ j by omega) hj
      rw [e, e', hl.1.out (by omega)]
      exact hx p q hp hp' hq hq'
    · exact hr.2.1 i j (by omega) hij hj
theorem mgd_none {k f : Nat → Nat} {a s b : Nat} (h : So k f a s) (h' : So k f s b) (hn : ¬ (a < s ∧ s < b)) (hs : Sb k f a b) (h1 : a ≤ s) (h2 : s ≤ b) : Mgd k f f a b := by
  refine ⟨Bj.refl .., ?_, hs⟩
  by_cases h3 : a = s
  · subst h3; exact h'
  · rw [show b = s by omega]; exact h
/-- Blocks of a size rise. -/
def Bs (k f : Nat → Nat) (B lo hi : Nat) : Prop := ∀ q i j, q * B ≤ i → i < j → j < q * B + B → lo ≤ i → j < hi → k (f i) ≤ k (f j)
theorem le_of_blk {q q' B : Nat} (h : q * B < q' * B + B) : q ≤ q' := Nat.le_of_not_lt fun hn => by
  have := Nat.mul_le_mul_right B (show q' + 1 ≤ q from hn)
  rw [Nat.add_mul, Nat.one_mul] at this
  omega
theorem bs_none (k f : Nat → Nat) (B hi : Nat) (hB : hi = 0) : Bs k f B 0 hi := fun q i j h1 h2 h3 h4 h5 => by omega
theorem bs_step {k f g : Nat → Nat} {B q lo hi : Nat} (h : Bs k f B 0 lo) (hq : lo = q * B) (hj : Bj lo hi f g) (hs : So k g lo hi) : Bs k g B 0 hi := by
  intro p i j h1 h2 h3 h4 h5
  by_cases h6 : j < lo
  · rw [hj.out (by omega), hj.out (by omega)]
    exact h p i j h1 h2 h3 (Nat.zero_le _) h6
  · have := le_of_blk (q := q) (q' := p) (B := B) (by omega)
    have := Nat.mul_le_mul_right B this
    exact hs i j (by omega) h2 h5
theorem bs_rest {k f g : Nat → Nat} {B lo mid hi n : Nat} (h : Bs k f B lo n) (hj : Bj lo mid f g) (h1 : mid ≤ hi) (h2 : lo ≤ mid) : Bs k g B hi n := fun q i j e1 e2 e3 e4 e5 => by
  rw [hj.out (by omega), hj.out (by omega)]
  exact h q i j e1 e2 e3 (by omega) e5
theorem bs_lo {k f : Nat → Nat} {B q lo n x : Nat} (h : Bs k f B lo n) (hq : lo = q * (2 * B)) (h1 : x ≤ n) (h2 : x ≤ lo + B) : So k f lo x := fun i j hi hij hj => by
  have e : 2 * q * B = lo := by rw [hq, Nat.mul_comm 2 q, Nat.mul_assoc]
  exact h (2 * q) i j (by omega) hij (by omega) hi (by omega)
theorem bs_hi {k f : Nat → Nat} {B q lo n x : Nat} (h : Bs k f B lo n) (hq : lo = q * (2 * B)) (h1 : x ≤ n) (h2 : x ≤ lo + 2 * B) : So k f (lo + B) x := fun i j hi hij hj => by
  have e : (2 * q + 1) * B = lo + B := by rw [Nat.add_mul, Nat.one_mul, hq, Nat.mul_comm 2 q, Nat.mul_assoc]
  exact h (2 * q + 1) i j (by omega) hij (by omega) (by omega) (by omega)
theorem bs_all {k f : Nat → Nat} {B n : Nat} (h : Bs k f B 0 n) (hn : n ≤ B) : So k f 0 n := fun i j hi hij hj => h 0 i j (by omega) hij (by omega) hi hj
end Q
end Go.Proofs.Ytkljpidlfddgbaa

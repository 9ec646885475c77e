/- Words in the order of lengths, and of the same length of symbols: their rooms lie beside one another; no word begins another one; where the room is full every fifteen bits begin with a word. Piles told by their weights alone. No program. -/
import Derived.Test.YtkljpidlfddgbaaHg
namespace Go.Proofs.Ytkljpidlfddgbaa
namespace H
section
variable {α : Type} {key : α → Nat} {jn : α → α → α}
theorem mg_map : ∀ (a b : List α), (mg key a b).map key = mg (fun x => x) (a.map key) (b.map key)
  | [], b => by rw [mg_nil, List.map_nil, mg_nil]
  | a :: as, [] => by rw [mg_nil', List.map_nil, mg_nil']
  | a :: as, b :: bs => by
    by_cases h : key a ≤ key b
    · rw [mg_le h, List.map_cons, mg_map as (b :: bs), List.map_cons, List.map_cons, mg_le (key := fun x => x) h]
    · rw [mg_gt h, List.map_cons, mg_map (a :: as) bs, List.map_cons, List.map_cons, mg_gt (key := fun x => x) h]
termination_by a b => a.length + b.length
theorem pr_map (hk : ∀ x y, key (jn x y) = key x + key y) : ∀ l : List α, (pr jn l).map key = pr (fun x y => x + y) (l.map key)
  | [] => by simp [pr]
  | [_] => by simp [pr]
  | x :: y :: r => by simp only [pr, List.map_cons, hk, pr_map hk r]
/-- What the piles weigh hangs on what the single ones weigh alone. -/
theorem ls_map (hk : ∀ x y, key (jn x y) = key x + key y) (S : List α) : ∀ k, (ls key jn S k).map key = ls (fun x => x) (fun x y => x + y) (S.map key) k
  | 0 => rfl
  | k + 1 => by rw [ls, ls, mg_map, pr_map hk, ls_map hk S k]
theorem sm_map (l : List α) (m : Nat) : sm key (l.take m) = sm (fun x => x) ((l.map key).take m) := by
  unfold sm
  rw [List.map_take, List.map_id']
end
theorem sg_range (g : Nat → Nat) : ∀ n, sm g (List.range n) = sg n g
  | 0 => rfl
  | n + 1 => by rw [List.range_succ, sm_append, sg_range g n, sm_cons, sm_nil, Nat.add_zero, sg]
theorem sm_filter {α : Type} {g : α → Nat} {p : α → Bool} : ∀ {l : List α}, (∀ x ∈ l, p x = false → g x = 0) → sm g (l.filter p) = sm g l
  | [], _ => rfl
  | x :: r, h => by
    have ih := sm_filter (l := r) fun y hy => h y (List.mem_cons_of_mem _ hy)
    cases hp : p x with
    | true => rw [List.filter_cons_of_pos hp, sm_cons, sm_cons, ih]
    | false => rw [List.filter_cons_of_neg (by simp [hp]), sm_cons, h x List.mem_cons_self hp, ih, Nat.zero_add]
theorem sm_at {α : Type} (f : α → Nat) (l : List α) : sm f l = sg l.length (ky f l) := by
  have := sm_ky (S := l) f l.length (Nat.le_refl _)
  rwa [List.take_length] at this
/-- The room of those ahead: of a length below m, or of m and ahead of place j. -/
def ah (l : Nat → Nat) (N m j : Nat) : Nat := sg N fun k => if 1 ≤ l k ∧ (l k < m ∨ (l k = m ∧ k < j)) then 2 ^ (15 - l k) else 0
/-- The room of all. -/
def room (l : Nat → Nat) (N : Nat) : Nat := sg N fun k => if 1 ≤ l k then 2 ^ (15 - l k) else 0
section
variable {l : Nat → Nat} {N : Nat}
theorem sg_step {g h : Nat → Nat} {d i : Nat} : ∀ {n : Nat}, i < n → (∀ k, k < n → k ≠ i → g k = h k) → g i = h i + d → sg n g = sg n h + d
  | 0, hi, _, _ => absurd hi (Nat.not_lt_zero _)
  | n + 1, hi, h1, h2 => by
    rw [sg, sg]
    by_cases e : i = n
    · subst e
      rw [sg_congr (n := i) (g := g) (h := h) fun k hk => h1 k (by omega) (by omega), h2]
      omega
    · have := sg_step (n := n) (by omega) (fun k hk hne => h1 k (by omega) hne) h2
      rw [this, h1 n (by omega) (fun e' => e e'.symm)]
      omega
theorem ah_first : ah l N 1 0 = 0 := by
  have : ah l N 1 0 = sg N fun _ => 0 := sg_congr fun k _ => if_neg (by omega)
  rw [this, sg_const, Nat.mul_zero]
theorem ah_here {m j : Nat} (hj : j < N) (hm : 1 ≤ m) (h : l j = m) : ah l N m (j + 1) = ah l N m j + 2 ^ (15 - m) := by
  refine sg_step (i := j) hj (fun k _ hne => ?_) ?_
  · by_cases hk : 1 ≤ l k ∧ (l k < m ∨ (l k = m ∧ k < j))
    · rw [if_pos hk, if_pos (by omega)]
    · rw [if_neg hk, if_neg (by omega)]
  · rw [if_pos (by omega), if_neg (by omega), h, Nat.zero_add]
theorem ah_not {m j : Nat} (h : l j ≠ m) : ah l N m (j + 1) = ah l N m j := by
  refine sg_congr fun k _ => ?_
  by_cases hk : 1 ≤ l k ∧ (l k < m ∨ (l k = m ∧ k < j))
  · rw [if_pos hk, if_pos (by omega)]
  · rw [if_neg hk, if_neg (by intro h2; apply hk; refine ⟨h2.1, ?_⟩; rcases h2.2 with h3 | ⟨h3, h4⟩; exact .inl h3; by_cases e : k = j; (subst e; exact absurd h3 h); exact .inr ⟨h3, by omega⟩)]
theorem ah_next (m : Nat) : ah l N (m + 1) 0 = ah l N m N := by
  refine sg_congr fun k hk => ?_
  by_cases h : 1 ≤ l k ∧ (l k < m + 1 ∨ (l k = m + 1 ∧ k < 0))
  · rw [if_pos h, if_pos (by omega)]
  · rw [if_neg h, if_neg (by omega)]
theorem ah_last (h : ∀ k, k < N → l k ≤ 15) : ah l N 15 N = room l N := by
  refine sg_congr fun k hk => ?_
  have := h k hk
  by_cases h : 1 ≤ l k
  · rw [if_pos h, if_pos (by omega)]
  · rw [if_neg h, if_neg (by omega)]
/-- A word: the room ahead, in units of its own. -/
def word (l : Nat → Nat) (N i : Nat) : Nat := ah l N (l i) i / 2 ^ (15 - l i)
theorem sg_dvd {d : Nat} {g : Nat → Nat} : ∀ {n : Nat}, (∀ k, k < n → d ∣ g k) → d ∣ sg n g
  | 0, _ => Nat.dvd_zero d
  | n + 1, h => by
    rw [sg]
    exact Nat.dvd_add (sg_dvd fun k hk => h k (by omega)) (h n (by omega))
theorem ah_dvd {m j : Nat} : 2 ^ (15 - m) ∣ ah l N m j := sg_dvd fun k _ => by
  split
  · rename_i h
    exact Nat.pow_dvd_pow 2 (by omega)
  · exact Nat.dvd_zero _
theorem word_mul (i : Nat) : word l N i * 2 ^ (15 - l i) = ah l N (l i) i := Nat.div_mul_cancel ah_dvd
theorem ah_le {m j m' j' : Nat} (h : m < m' ∨ (m = m' ∧ j ≤ j')) : ah l N m j ≤ ah l N m' j' := sg_le fun k _ => by
  by_cases hk : 1 ≤ l k ∧ (l k < m ∨ (l k = m ∧ k < j))
  · rw [if_pos hk, if_pos (by omega)]; exact Nat.le_refl _
  · rw [if_neg hk]; exact Nat.zero_le _
/-- One ahead of another one: its room is ahead of the other's. -/
theorem word_ahead {i j : Nat} (hi : i < N) (h1 : 1 ≤ l i) (h : l i < l j ∨ (l i = l j ∧ i < j)) : word l N i * 2 ^ (15 - l i) + 2 ^ (15 - l i) ≤ word l N j * 2 ^ (15 - l j) := by
  rw [word_mul, word_mul, ← ah_here hi h1 rfl]
  exact ah_le (by omega)
theorem word_room {i : Nat} (hi : i < N) (h1 : 1 ≤ l i) : word l N i * 2 ^ (15 - l i) + 2 ^ (15 - l i) ≤ room l N := by
  rw [word_mul, ← ah_here hi h1 rfl]
  refine sg_le fun k _ => ?_
  by_cases hk : 1 ≤ l k ∧ (l k < l i ∨ (l k = l i ∧ k < i + 1))
  · rw [if_pos hk, if_pos hk.1]; exact Nat.le_refl _
  · rw [if_neg hk]; exact Nat.zero_le _
theorem word_lt {i : Nat} (hi : i < N) (h1 : 1 ≤ l i) (h15 : l i ≤ 15) (hr : room l N ≤ 2 ^ 15) : word l N i < 2 ^ l i := by
  have h := word_room hi h1
  rw [← Nat.succ_mul] at h
  have h2 : (word l N i + 1) * 2 ^ (15 - l i) ≤ 2 ^ l i * 2 ^ (15 - l i) := by
    rw [← Nat.pow_add, show l i + (15 - l i) = 15 by omega]
    exact Nat.le_trans h hr
  exact Nat.le_of_mul_le_mul_right h2 (Nat.two_pow_pos _)
/-- No word begins another one. -/
theorem word_free {i j : Nat} (hi : i < N) (hj : j < N) (h1 : 1 ≤ l i) (hij : i ≠ j) (hle : l i ≤ l j) (h15 : l j ≤ 15) : word l N j / 2 ^ (l j - l i) ≠ word l N i := by
  intro e
  have hp : 2 ^ (15 - l i) = 2 ^ (l j - l i) * 2 ^ (15 - l j) := by rw [← Nat.pow_add]; congr 1; omega
  have h2 : word l N i * 2 ^ (l j - l i) ≤ word l N j := by rw [← e]; exact Nat.div_mul_le_self _ _
  have h3 : word l N j < (word l N i + 1) * 2 ^ (l j - l i) := by
    rw [← e, Nat.add_mul, Nat.one_mul]
    have := Nat.div_add_mod (word l N j) (2 ^ (l j - l i))
    have := Nat.mod_lt (word l N j) (Nat.two_pow_pos (l j - l i))
    rw [Nat.mul_comm]
    omega
  by_cases h : l i < l j ∨ (l i = l j ∧ i < j)
  · have h4 := word_ahead hi h1 h
    rw [← Nat.succ_mul, hp, ← Nat.mul_assoc] at h4
    have h5 := Nat.le_of_mul_le_mul_right h4 (Nat.two_pow_pos _)
    have : (word l N i).succ = word l N i + 1 := rfl
    rw [this] at h5
    omega
  · have hlij : l j = l i := by omega
    have h4 := word_ahead (j := i) hj (by omega) (.inr ⟨hlij, by omega⟩)
    rw [hlij, Nat.sub_self, Nat.pow_zero, Nat.mul_one] at h2
    rw [hlij] at h4
    have := Nat.mul_le_mul_right (2 ^ (15 - l i)) h2
    have := Nat.two_pow_pos (15 - l i)
    omega
theorem word_same {i j : Nat} (hi : i < N) (hj : j < N) (h1 : 1 ≤ l i) (h15 : l j ≤ 15) (hl : l i = l j) (hw : word l N i = word l N j) : i = j := by
  by_cases h : i = j
  · exact h
  · refine absurd ?_ (word_free hi hj h1 h (by omega) h15)
    rw [hl, Nat.sub_self, Nat.pow_zero, Nat.div_one, hw]
/-- Words of the same length rise with their symbols. -/
theorem word_rise {i j : Nat} (hi : i < N) (h1 : 1 ≤ l i) (hl : l i = l j) (hij : i < j) : word l N i < word l N j := by
  have h := word_ahead hi h1 (.inr ⟨hl, hij⟩)
  rw [← hl, ← Nat.succ_mul] at h
  exact Nat.le_of_mul_le_mul_right h (Nat.two_pow_pos _)
/-- Whatever lies in the room lies in one's own. -/
theorem ah_find {v : Nat} : ∀ m j, j ≤ N → v < ah l N (m + 1) j → ∃ i, i < N ∧ 1 ≤ l i ∧ l i ≤ m + 1 ∧ word l N i * 2 ^ (15 - l i) ≤ v ∧ v < word l N i * 2 ^ (15 - l i) + 2 ^ (15 - l i)
  | 0, 0, _, h => by rw [ah_first] at h; omega
  | m + 1, 0, _, h => by
    rw [ah_next] at h
    obtain ⟨i, h1, h2, h3, h4⟩ := ah_find m N (Nat.le_refl _) h
    exact ⟨i, h1, h2, by omega, h4⟩
  | m, j + 1, hj, h => by
    by_cases hl : l j = m + 1
    · rw [ah_here (by omega) (by omega) hl] at h
      by_cases hv : v < ah l N (m + 1) j
      · exact ah_find m j (by omega) hv
      · refine ⟨j, by omega, by omega, by omega, ?_⟩
        rw [word_mul, hl]
        exact ⟨by omega, h⟩
    · rw [ah_not hl] at h
      exact ah_find m j (by omega) h
termination_by m j => (m, j)
theorem word_find (h15 : ∀ k, k < N → l k ≤ 15) {v : Nat} (hv : v < room l N) : ∃ i, i < N ∧ 1 ≤ l i ∧ v / 2 ^ (15 - l i) = word l N i := by
  rw [← ah_last h15] at hv
  obtain ⟨i, h1, h2, _, h3, h4⟩ := ah_find 14 N (Nat.le_refl _) hv
  refine ⟨i, h1, h2, ?_⟩
  rw [← Nat.succ_mul] at h4
  exact Nat.div_eq_of_lt_le h3 h4
end
end H
end Go.Proofs.Ytkljpidlfddgbaa

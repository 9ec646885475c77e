/- Piles of two, again and again: what the first of them weigh, and how often each single one is among them. No program; the lists rise by their keys. -/
import Derived.Test.YtkljpidlfddgbaaAa
namespace Go.Proofs.Ytkljpidlfddgbaa
namespace H
/-- What a list weighs by f. -/
def sm {α : Type} (f : α → Nat) (l : List α) : Nat := (l.map f).sum
section
variable {α : Type} (f : α → Nat)
theorem sm_nil : sm f [] = 0 := rfl
theorem sm_cons (x : α) (l : List α) : sm f (x :: l) = f x + sm f l := by simp [sm]
theorem sm_append (l m : List α) : sm f (l ++ m) = sm f l + sm f m := by simp [sm]
theorem sm_perm {l m : List α} (h : l.Perm m) : sm f l = sm f m := by
  induction h with
  | nil => rfl
  | cons x _ ih => rw [sm_cons, sm_cons, ih]
  | swap x y l => rw [sm_cons, sm_cons, sm_cons, sm_cons]; omega
  | trans _ _ ih1 ih2 => rw [ih1, ih2]
theorem sm_take_succ {l : List α} {k : Nat} (h : k < l.length) : sm f (l.take (k + 1)) = sm f (l.take k) + f l[k] := by
  rw [List.take_succ_eq_append_getElem h, sm_append, sm_cons, sm_nil, Nat.add_zero]
theorem sm_take_le (l : List α) {a b : Nat} (h : a ≤ b) : sm f (l.take a) ≤ sm f (l.take b) := by
  have : (l.take b).take a = l.take a := by rw [List.take_take, Nat.min_eq_left h]
  rw [← this]
  conv => rhs; rw [← List.take_append_drop a (l.take b)]
  rw [sm_append]
  omega
end
section
variable {α : Type} (key : α → Nat) (jn : α → α → α)
/-- Two lists, one; of the same weight those of the first one come first. -/
def mg : List α → List α → List α
  | [], b => b
  | a :: as, [] => a :: as
  | a :: as, b :: bs => if key a ≤ key b then a :: mg as (b :: bs) else b :: mg (a :: as) bs
termination_by a b => a.length + b.length
def pr : List α → List α
  | x :: y :: r => jn x y :: pr r
  | _ => []
/-- The list of k levels. -/
def ls (S : List α) : Nat → List α
  | 0 => []
  | k + 1 => mg key S (pr jn (ls S k))
/-- It rises. -/
def Up (l : List α) : Prop := l.Pairwise fun x y => key x ≤ key y
variable {key jn}
theorem mg_nil (b : List α) : mg key [] b = b := by rw [mg]
theorem mg_nil' (a : List α) : mg key a [] = a := by cases a <;> rw [mg]
theorem mg_le {a b : α} {as bs : List α} (h : key a ≤ key b) : mg key (a :: as) (b :: bs) = a :: mg key as (b :: bs) := by rw [mg, if_pos h]
theorem mg_gt {a b : α} {as bs : List α} (h : ¬ key a ≤ key b) : mg key (a :: as) (b :: bs) = b :: mg key (a :: as) bs := by rw [mg, if_neg h]
theorem mg_perm : ∀ (a b : List α), (mg key a b).Perm (a ++ b)
  | [], b => by rw [mg_nil]; exact List.Perm.refl _
  | a :: as, [] => by rw [mg_nil', List.append_nil]
  | a :: as, b :: bs => by
    by_cases h : key a ≤ key b
    · rw [mg_le h]; exact (mg_perm as (b :: bs)).cons a
    · rw [mg_gt h]
      exact ((mg_perm (a :: as) bs).cons b).trans List.perm_middle.symm
termination_by a b => a.length + b.length
theorem mg_length (a b : List α) : (mg key a b).length = a.length + b.length := by rw [(mg_perm a b).length_eq, List.length_append]
theorem mg_up : ∀ (a b : List α), Up key a → Up key b → Up key (mg key a b)
  | [], b, _, hb => by rw [mg_nil]; exact hb
  | a :: as, [], ha, _ => by rw [mg_nil']; exact ha
  | a :: as, b :: bs, ha, hb => by
    have ha' := List.pairwise_cons.1 ha
    have hb' := List.pairwise_cons.1 hb
    by_cases h : key a ≤ key b
    · rw [mg_le h]
      refine List.pairwise_cons.2 ⟨fun x hx => ?_, mg_up as (b :: bs) ha'.2 hb⟩
      rcases List.mem_append.1 ((mg_perm as (b :: bs)).mem_iff.1 hx) with hx | hx
      · exact ha'.1 x hx
      · rcases List.mem_cons.1 hx with rfl | hx
        · exact h
        · exact Nat.le_trans h (hb'.1 x hx)
    · rw [mg_gt h]
      refine List.pairwise_cons.2 ⟨fun x hx => ?_, mg_up (a :: as) bs ha hb'.2⟩
      rcases List.mem_append.1 ((mg_perm (a :: as) bs).mem_iff.1 hx) with hx | hx
      · rcases List.mem_cons.1 hx with rfl | hx
        · omega
        · have := ha'.1 x hx; omega
      · exact hb'.1 x hx
termination_by a b => a.length + b.length
theorem up_get {l : List α} (h : Up key l) {i j : Nat} (hij : i ≤ j) (hj : j < l.length) : key (l[i]'(by omega)) ≤ key l[j] := by
  rcases Nat.lt_or_eq_of_le hij with h1 | h1
  · exact List.pairwise_iff_getElem.1 h i j (by omega) hj h1
  · subst h1; exact Nat.le_refl _
/-- The first of the two lists together weigh no more than any so many of both. -/
theorem mg_take : ∀ (A B : List α), Up key A → Up key B → ∀ i j, i ≤ A.length → j ≤ B.length → sm key ((mg key A B).take (i + j)) ≤ sm key (A.take i) + sm key (B.take j)
  | [], B, _, _, i, j, hi, _ => by
    have : i = 0 := by simpa using hi
    subst this
    rw [mg_nil, Nat.zero_add]; omega
  | a :: as, [], _, _, i, j, _, hj => by
    have : j = 0 := by simpa using hj
    subst this
    rw [mg_nil', Nat.add_zero]; omega
  | a :: as, b :: bs, ha, hb, i, j, hi, hj => by
    have ha' := List.pairwise_cons.1 ha
    have hb' := List.pairwise_cons.1 hb
    simp only [List.length_cons] at hi hj
    by_cases h : key a ≤ key b
    · rw [mg_le h]
      cases i with
      | succ i =>
        rw [show i + 1 + j = (i + j) + 1 by omega, List.take_succ_cons, List.take_succ_cons, sm_cons, sm_cons]
        have := mg_take as (b :: bs) ha'.2 hb i j (by omega) (by simpa using hj)
        omega
      | zero =>
        cases j with
        | zero => simp [sm]
        | succ j =>
          rw [show 0 + (j + 1) = (0 + j) + 1 by omega, List.take_succ_cons, sm_cons, sm_take_succ key (l := b :: bs) (by simp; omega)]
          have h1 := mg_take as (b :: bs) ha'.2 hb 0 j (by omega) (by simp; omega)
          have h2 := up_get hb (Nat.zero_le j) (by simp; omega)
          have h3 : key ((b :: bs)[0]'(by simp)) = key b := rfl
          simp only [List.take_zero, sm_nil] at h1 ⊢
          omega
    · rw [mg_gt h]
      cases j with
      | succ j =>
        rw [show i + (j + 1) = (i + j) + 1 by omega, List.take_succ_cons, List.take_succ_cons, sm_cons, sm_cons]
        have := mg_take (a :: as) bs ha hb'.2 i j (by simpa using hi) (by omega)
        omega
      | zero =>
        cases i with
        | zero => simp [sm]
        | succ i =>
          rw [show i + 1 + 0 = (i + 0) + 1 by omega, List.take_succ_cons, sm_cons, sm_take_succ key (l := a :: as) (by simp; omega)]
          have h1 := mg_take (a :: as) bs ha hb'.2 i 0 (by simp; omega) (by omega)
          have h2 := up_get ha (Nat.zero_le i) (by simp; omega)
          have h3 : key ((a :: as)[0]'(by simp)) = key a := rfl
          simp only [List.take_zero, sm_nil, Nat.add_zero] at h1 ⊢
          omega
termination_by A B => A.length + B.length
/-- The first of the two lists together: so many of the one and of the other; of the first one all that weigh no more than the last of the other. -/
theorem mg_split : ∀ (A B : List α), Up key A → Up key B → ∀ m, m ≤ A.length + B.length → ∃ a b, a + b = m ∧ a ≤ A.length ∧ b ≤ B.length ∧ ((mg key A B).take m).Perm (A.take a ++ B.take b) ∧ ∀ j, (hj : j < B.length) → j < b → ∀ i, (hi : i < A.length) → key A[i] ≤ key B[j] → i < a
  | [], B, _, _, m, hm => ⟨0, m, by omega, Nat.zero_le _, by simpa using hm, by rw [mg_nil]; exact List.Perm.refl _, fun _ _ _ i hi => absurd hi (Nat.not_lt_zero i)⟩
  | a :: as, [], _, _, m, hm => ⟨m, 0, by omega, by simpa using hm, Nat.zero_le _, by rw [mg_nil']; simp, fun j hj => absurd hj (Nat.not_lt_zero j)⟩
  | a :: as, b :: bs, ha, hb, 0, hm => ⟨0, 0, rfl, Nat.zero_le _, Nat.zero_le _, by simp, fun _ _ h => absurd h (Nat.not_lt_zero _)⟩
  | a :: as, b :: bs, ha, hb, m + 1, hm => by
    have ha' := List.pairwise_cons.1 ha
    have hb' := List.pairwise_cons.1 hb
    simp only [List.length_cons] at hm
    by_cases h : key a ≤ key b
    · obtain ⟨x, y, h1, h2, h3, h4, h5⟩ := mg_split as (b :: bs) ha'.2 hb m (by simp; omega)
      refine ⟨x + 1, y, by omega, by simp; omega, h3, ?_, fun j hj hjb i hi hk => ?_⟩
      · rw [mg_le h, List.take_succ_cons, List.take_succ_cons]
        exact h4.cons a
      · cases i with
        | zero => omega
        | succ i =>
          have := h5 j hj hjb i (by simpa using hi) (by simpa using hk)
          omega
    · obtain ⟨x, y, h1, h2, h3, h4, h5⟩ := mg_split (a :: as) bs ha hb'.2 m (by simp; omega)
      refine ⟨x, y + 1, by omega, h2, by simp; omega, ?_, fun j hj hjb i hi hk => ?_⟩
      · rw [mg_gt h, List.take_succ_cons, List.take_succ_cons]
        exact (h4.cons b).trans List.perm_middle.symm
      · cases j with
        | zero =>
          have h6 := up_get ha (Nat.zero_le i) hi
          have h7 : key ((a :: as)[0]'(by simp)) = key a := rfl
          have h8 : key ((b :: bs)[0]'(by simp)) = key b := rfl
          omega
        | succ j => exact h5 j (by simpa using hj) (by omega) i hi (by simpa using hk)
termination_by A B => A.length + B.length
theorem pr_length : ∀ l : List α, (pr jn l).length = l.length / 2
  | [] => by simp [pr]
  | [_] => by simp [pr]
  | x :: y :: r => by
    simp only [pr, List.length_cons, pr_length r]
    omega
theorem pr_get : ∀ (l : List α) (i : Nat) (h : i < (pr jn l).length), (pr jn l)[i] = jn (l[2 * i]'(by rw [pr_length] at h; omega)) (l[2 * i + 1]'(by rw [pr_length] at h; omega))
  | [], i, h => absurd h (Nat.not_lt_zero i)
  | [_], i, h => absurd h (Nat.not_lt_zero i)
  | x :: y :: r, 0, h => rfl
  | x :: y :: r, i + 1, h => by
    have := pr_get r i (by simpa [pr] using h)
    simp only [pr, List.getElem_cons_succ, this, Nat.mul_add]
/-- What the first q pairs weigh, by what joined things weigh together. -/
theorem pr_take {f : α → Nat} (hf : ∀ x y, f (jn x y) = f x + f y) : ∀ (l : List α) (q : Nat), 2 * q ≤ l.length → sm f ((pr jn l).take q) = sm f (l.take (2 * q))
  | l, 0, _ => by simp [sm]
  | [], q + 1, h => by simp at h
  | [_], q + 1, h => by simp at h; omega
  | x :: y :: r, q + 1, h => by
    rw [show 2 * (q + 1) = (2 * q + 1) + 1 by omega, pr, List.take_succ_cons, List.take_succ_cons, List.take_succ_cons, sm_cons, sm_cons, sm_cons, hf, pr_take hf r q (by simp at h; omega)]
    omega
theorem pr_up (hk : ∀ x y, key (jn x y) = key x + key y) {l : List α} (h : Up key l) : Up key (pr jn l) := by
  refine List.pairwise_iff_getElem.2 fun i j hi hj hij => ?_
  rw [pr_get l i hi, pr_get l j hj, hk, hk]
  rw [pr_length] at hi hj
  have h1 := up_get h (show 2 * i ≤ 2 * j by omega) (by omega)
  have h2 := up_get h (show 2 * i + 1 ≤ 2 * j + 1 by omega) (by omega)
  omega
theorem ls_up (hk : ∀ x y, key (jn x y) = key x + key y) {S : List α} (hS : Up key S) : ∀ k, Up key (ls key jn S k)
  | 0 => List.Pairwise.nil
  | k + 1 => mg_up _ _ hS (pr_up hk (ls_up hk hS k))
theorem ls_length (S : List α) (k : Nat) : (ls key jn S (k + 1)).length = S.length + (ls key jn S k).length / 2 := by rw [ls, mg_length, pr_length]
/-- a r of height r, from 1 on: their room, in units of the lowest height. -/
def rm (a : Nat → Nat) : Nat → Nat
  | 0 => 0
  | k + 1 => rm a k + a (k + 1) * 2 ^ (k + 1)
def tot (W : Nat → Nat) : Nat → Nat
  | 0 => 0
  | k + 1 => tot W k + W (k + 1)
/-- Whatever is taken of each height, with room for m of the highest: it weighs no less than the first m. -/
theorem ls_least (hk : ∀ x y, key (jn x y) = key x + key y) {S : List α} (hS : Up key S) {a W : Nat → Nat} (ha : ∀ r, a r ≤ S.length) (hW : ∀ r, sm key (S.take (a r)) ≤ W r) : ∀ k m, m * 2 ^ k ≤ rm a k → m ≤ (ls key jn S k).length ∧ sm key ((ls key jn S k).take m) ≤ tot W k
  | 0, m, h => by
    have : m = 0 := by simpa [rm] using h
    subst this
    exact ⟨Nat.zero_le _, Nat.zero_le _⟩
  | k + 1, m, h => by
    have hp := pr_up hk (ls_up hk hS k)
    rw [ls_length]
    by_cases hm : m ≤ a (k + 1)
    · refine ⟨by have := ha (k + 1); omega, ?_⟩
      have h1 := mg_take S _ hS hp m 0 (Nat.le_trans hm (ha _)) (Nat.zero_le _)
      have h2 := sm_take_le key S hm
      have h3 := hW (k + 1)
      simp only [List.take_zero, sm_nil, Nat.add_zero] at h1
      show sm key ((mg key S (pr jn (ls key jn S k))).take m) ≤ tot W k + W (k + 1)
      omega
    · have h9 : (2 * (m - a (k + 1))) * 2 ^ k ≤ rm a k := by
        have e : (2 * (m - a (k + 1))) * 2 ^ k = m * 2 ^ (k + 1) - a (k + 1) * 2 ^ (k + 1) := by
          rw [← Nat.sub_mul, Nat.pow_succ, Nat.mul_comm 2 (m - a (k + 1)), Nat.mul_assoc, Nat.mul_comm 2 (2 ^ k)]
        rw [e]
        have : rm a (k + 1) = rm a k + a (k + 1) * 2 ^ (k + 1) := rfl
        omega
      obtain ⟨h1, h2⟩ := ls_least hk hS ha hW k _ h9
      refine ⟨by have := ha (k + 1); omega, ?_⟩
      have h3 := mg_take S _ hS hp (a (k + 1)) (m - a (k + 1)) (ha _) (by rw [pr_length]; omega)
      rw [show a (k + 1) + (m - a (k + 1)) = m by omega, pr_take hk _ _ h1] at h3
      have h4 := hW (k + 1)
      show sm key ((mg key S (pr jn (ls key jn S k))).take m) ≤ tot W k + W (k + 1)
      omega
/-- The first m: so many of each height, ever fewer below, with just the room; by whatever joined things weigh together. -/
theorem ls_split (hk : ∀ x y, key (jn x y) = key x + key y) {S : List α} (hS : Up key S) : ∀ k m, m ≤ (ls key jn S k).length → ∃ a : Nat → Nat, (∀ r, a r ≤ S.length) ∧ rm a k = m * 2 ^ k ∧ (∀ r, 1 ≤ r → r < k → a r ≤ a (r + 1)) ∧ (0 < k → ∀ i, (hi : i < S.length) → i < a k → ∃ j, ∃ hj : j < (ls key jn S k).length, j < m ∧ key S[i] ≤ key (ls key jn S k)[j]) ∧
      ∀ f : α → Nat, (∀ x y, f (jn x y) = f x + f y) → sm f ((ls key jn S k).take m) = tot (fun r => sm f (S.take (a r))) k
  | 0, m, h => by
    have : m = 0 := by simpa [ls] using h
    subst this
    exact ⟨fun _ => 0, fun _ => Nat.zero_le _, rfl, fun _ _ _ => Nat.le_refl _, fun h => absurd h (Nat.lt_irrefl 0), fun _ _ => rfl⟩
  | k + 1, m, h => by
    have hp := pr_up hk (ls_up hk hS k)
    rw [ls_length] at h
    obtain ⟨x, y, h1, h2, h3, h4, h5⟩ := mg_split S (pr jn (ls key jn S k)) hS hp m (by rw [pr_length]; exact h)
    rw [pr_length] at h3
    obtain ⟨a, ha, hr, hmo, hlast, hf⟩ := ls_split hk hS k (2 * y) (by omega)
    have htot : ∀ (W : Nat → Nat) (z q : Nat), q ≤ k → tot (fun r => if r = k + 1 then z else W r) q = tot W q := by
      intro W z q
      induction q with
      | zero => intro _; rfl
      | succ q ih =>
        intro hq
        show tot _ q + (if q + 1 = k + 1 then z else W (q + 1)) = tot W q + W (q + 1)
        rw [ih (by omega), if_neg (by omega)]
    have hrm : ∀ (z q : Nat), q ≤ k → rm (fun r => if r = k + 1 then z else a r) q = rm a q := by
      intro z q
      induction q with
      | zero => intro _; rfl
      | succ q ih =>
        intro hq
        show rm _ q + (if q + 1 = k + 1 then z else a (q + 1)) * _ = rm a q + a (q + 1) * _
        rw [ih (by omega), if_neg (by omega)]
    refine ⟨fun r => if r = k + 1 then x else a r, fun r => ?_, ?_, fun r h0 hr' => ?_, fun _ i hi hix => ?_, fun f hj => ?_⟩
    · show (if r = k + 1 then x else a r) ≤ _
      split
      · exact h2
      · exact ha r
    · show rm _ k + (if k + 1 = k + 1 then x else a (k + 1)) * 2 ^ (k + 1) = m * 2 ^ (k + 1)
      rw [hrm x k (Nat.le_refl _), if_pos rfl, hr, ← h1, Nat.add_mul, Nat.pow_succ, Nat.mul_comm 2 y, Nat.mul_assoc y 2, Nat.mul_comm 2 (2 ^ k)]
      omega
    · show (if r = k + 1 then x else a r) ≤ (if r + 1 = k + 1 then x else a (r + 1))
      rw [if_neg (by omega)]
      by_cases hrk : r = k
      · subst hrk
        rw [if_pos rfl]
        by_cases ha0 : a r = 0
        · omega
        · have har := ha r
          obtain ⟨j, hj, hjm, hkey⟩ := hlast (by omega) (a r - 1) (by omega) (by omega)
          have hy : 0 < y := by omega
          have hyl : y - 1 < (pr jn (ls key jn S r)).length := by rw [pr_length]; omega
          have h8 := h5 (y - 1) hyl (by omega) (a r - 1) (by omega) (by
            rw [pr_get _ _ hyl, hk]
            have h6 := up_get (ls_up hk hS r) (show j ≤ 2 * (y - 1) + 1 by omega) (by omega)
            omega)
          omega
      · rw [if_neg (by omega)]
        exact hmo r h0 (by omega)
    · have hix : i < x := by
        have h9 : i < (if k + 1 = k + 1 then x else a (k + 1)) := hix
        rwa [if_pos rfl] at h9
      have hmem : S[i] ∈ (ls key jn S (k + 1)).take m := by
        show S[i] ∈ (mg key S (pr jn (ls key jn S k))).take m
        refine h4.mem_iff.2 (List.mem_append_left _ ?_)
        rw [List.mem_take_iff_getElem]
        exact ⟨i, by omega, rfl⟩
      rw [List.mem_take_iff_getElem] at hmem
      obtain ⟨j, hj, e⟩ := hmem
      exact ⟨j, by omega, by omega, by rw [e]; exact Nat.le_refl _⟩
    · show sm f ((mg key S (pr jn (ls key jn S k))).take m) = tot _ k + sm f (S.take (if k + 1 = k + 1 then x else a (k + 1)))
      rw [sm_perm f h4, sm_append, pr_take hj _ _ (by omega), if_pos rfl, hf f hj]
      have e := htot (fun r => sm f (S.take (a r))) (sm f (S.take x)) k (Nat.le_refl _)
      have e2 : tot (fun r => sm f (S.take (if r = k + 1 then x else a r))) k = tot (fun r => if r = k + 1 then sm f (S.take x) else sm f (S.take (a r))) k := by
        congr 1
        funext r
        split <;> rfl
      rw [e2, e]
      omega
end
end H
end Go.Proofs.Ytkljpidlfddgbaa

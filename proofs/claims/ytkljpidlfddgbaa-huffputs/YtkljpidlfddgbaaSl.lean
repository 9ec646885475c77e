/- A list sorted by a key, stably: one list alone; what was sorted by places is it. No program. -/
import Derived.Test.YtkljpidlfddgbaaSa
namespace Go.Proofs.Ytkljpidlfddgbaa
namespace Q
open H
def lst (f : Nat → Nat) (n : Nat) : List Nat := (List.range n).map f
theorem lst_len (f : Nat → Nat) (n : Nat) : (lst f n).length = n := by simp [lst]
theorem lst_at (f : Nat → Nat) {n i : Nat} (h : i < n) : (lst f n)[i]'(by rw [lst_len]; exact h) = f i := by simp [lst]
theorem lst_ky (f : Nat → Nat) {n i : Nat} (h : i < n) : ky (fun x => x) (lst f n) i = f i := by
  rw [ky_at _ (by rw [lst_len]; exact h), lst_at f h]
theorem ky_lst (L : List Nat) : lst (ky (fun x => x) L) L.length = L := by
  refine List.ext_getElem (by rw [lst_len]) fun i h h' => ?_
  rw [lst_at _ h', ky_at _ h']
def ins (k : Nat → Nat) (x : Nat) : List Nat → List Nat
  | [] => [x]
  | y :: t => if k x ≤ k y then x :: y :: t else y :: ins k x t
def srt (k : Nat → Nat) : List Nat → List Nat
  | [] => []
  | x :: t => ins k x (srt k t)
theorem ins_perm (k : Nat → Nat) (x : Nat) : ∀ l, (ins k x l).Perm (x :: l)
  | [] => List.Perm.refl _
  | y :: t => by
    rw [ins]
    split
    · exact List.Perm.refl _
    · exact ((ins_perm k x t).cons y).trans (List.Perm.swap x y t)
theorem srt_perm (k : Nat → Nat) : ∀ l, (srt k l).Perm l
  | [] => List.Perm.refl _
  | x :: t => (ins_perm k x _).trans ((srt_perm k t).cons x)
theorem srt_len (k : Nat → Nat) (l : List Nat) : (srt k l).length = l.length := (srt_perm k l).length_eq
def Lx (k : Nat → Nat) (a b : Nat) : Prop := k a < k b ∨ (k a = k b ∧ a < b)
theorem ins_lex {k : Nat → Nat} {x : Nat} : ∀ {l : List Nat}, (∀ y ∈ l, x < y) → l.Pairwise (Lx k) → (ins k x l).Pairwise (Lx k)
  | [], _, _ => List.pairwise_singleton ..
  | y :: t, hx, hl => by
    rw [ins]
    have hl' := List.pairwise_cons.1 hl
    split
    · rename_i h
      refine List.pairwise_cons.2 ⟨fun z hz => ?_, hl⟩
      have hxy := hx z hz
      have hkz : k y ≤ k z := by
        rcases List.mem_cons.1 hz with e | e
        · rw [e]; exact Nat.le_refl _
        · rcases hl'.1 z e with e' | e'
          · exact Nat.le_of_lt e'
          · exact Nat.le_of_eq e'.1
      unfold Lx
      omega
    · rename_i h
      refine List.pairwise_cons.2 ⟨fun z hz => ?_, ins_lex (fun z hz => hx z (List.mem_cons_of_mem _ hz)) hl'.2⟩
      rcases List.mem_cons.1 ((ins_perm k x t).mem_iff.1 hz) with e | e
      · rw [e]
        exact .inl (by omega)
      · exact hl'.1 z e
theorem srt_lex {k : Nat → Nat} : ∀ {l : List Nat}, l.Pairwise (· < ·) → (srt k l).Pairwise (Lx k)
  | [], _ => List.Pairwise.nil
  | x :: t, h => by
    have h' := List.pairwise_cons.1 h
    exact ins_lex (fun y hy => h'.1 y ((srt_perm k t).mem_iff.1 hy)) (srt_lex h'.2)
theorem lex_up {k : Nat → Nat} {l : List Nat} (h : l.Pairwise (Lx k)) : Up k l := h.imp fun h => by unfold Lx at h; omega
theorem lex_one {k : Nat → Nat} {a b : List Nat} (ha : a.Pairwise (Lx k)) (hb : b.Pairwise (Lx k)) (h : a.Perm b) : a = b :=
  List.Perm.eq_of_pairwise (le := Lx k) (fun a b _ _ h1 h2 => by unfold Lx at h1 h2; omega) ha hb h
theorem bj_perm {f g : Nat → Nat} {n : Nat} (h : Bj 0 n f g) : (lst g n).Perm (lst f n) := by
  obtain ⟨s, t, e1, e2, e3, e4, e5⟩ := h
  have hs : ((List.range n).map s).Perm (List.range n) := by
    refine (List.perm_ext_iff_of_nodup ?_ List.nodup_range).2 fun a => ?_
    · refine List.pairwise_map.2 ((List.nodup_range (n := n)).imp fun {a b} hne he => hne ?_)
      rw [← e1 a, he, e1]
    · constructor
      · intro ha
        obtain ⟨i, hi, rfl⟩ := List.mem_map.1 ha
        exact List.mem_range.2 (e3 i (Nat.zero_le _) (List.mem_range.1 hi)).2
      · intro ha
        refine List.mem_map.2 ⟨t a, ?_, e2 a⟩
        by_cases hta : t a < n
        · exact List.mem_range.2 hta
        · have := e4 (t a) (by omega)
          rw [e2] at this
          rw [← this]
          exact ha
  have := hs.map f
  rw [List.map_map] at this
  unfold lst
  rw [show (List.range n).map g = (List.range n).map (f ∘ s) from List.map_congr_left fun i _ => e5 i]
  exact this
theorem lst_srt {k f g : Nat → Nat} {n : Nat} (h : Bj 0 n f g) (h1 : So k g 0 n) (h2 : Sb k g 0 n) (hf : (lst f n).Pairwise (· < ·)) : lst g n = srt k (lst f n) := by
  refine lex_one ?_ (srt_lex hf) ((bj_perm h).trans (srt_perm _ _).symm)
  refine List.pairwise_map.2 ?_
  have hr : (List.range n).Pairwise fun i j => i < j ∧ j < n := by
    refine List.pairwise_iff_getElem.2 fun i j hi hj hij => ?_
    simp only [List.getElem_range]
    rw [List.length_range] at hj
    exact ⟨hij, hj⟩
  refine hr.imp fun {i j} hij => ?_
  have e1 := h1 i j (Nat.zero_le _) hij.1 hij.2
  have e2 := h2 i j (Nat.zero_le _) hij.1 hij.2
  unfold Lx
  by_cases he : k (g i) = k (g j)
  · exact .inr ⟨he, e2 he⟩
  · exact .inl (by omega)
/-- Of the same key the smaller is ahead, as they rise anyway. -/
theorem sb_up {k f : Nat → Nat} {n : Nat} (hf : (lst f n).Pairwise (· < ·)) : Sb k f 0 n := fun i j _ hij hj _ => by
  have := List.pairwise_iff_getElem.1 hf i j (by rw [lst_len]; omega) (by rw [lst_len]; exact hj) hij
  rwa [lst_at f (by omega), lst_at f hj] at this
/-- The places whose number is not 0, in order. -/
def upl (c : Nat → Nat) : Nat → List Nat
  | 0 => []
  | n + 1 => if c n = 0 then upl c n else upl c n ++ [n]
theorem upl_lt (c : Nat → Nat) : ∀ n, ∀ x ∈ upl c n, x < n
  | 0, _, h => by cases h
  | n + 1, x, h => by
    rw [upl] at h
    split at h
    · have := upl_lt c n x h; omega
    · rcases List.mem_append.1 h with h | h
      · have := upl_lt c n x h; omega
      · rw [List.mem_singleton.1 h]; omega
theorem upl_up (c : Nat → Nat) : ∀ n, (upl c n).Pairwise (· < ·)
  | 0 => List.Pairwise.nil
  | n + 1 => by
    rw [upl]
    split
    · exact upl_up c n
    · refine List.pairwise_append.2 ⟨upl_up c n, List.pairwise_singleton .., fun a ha b hb => ?_⟩
      rw [List.mem_singleton.1 hb]
      exact upl_lt c n a ha
theorem upl_pz (c : Nat → Nat) : ∀ n, (upl c n).Perm (pz c n)
  | 0 => List.Perm.refl _
  | n + 1 => by
    rw [upl, pz]
    split
    · exact upl_pz c n
    · exact List.perm_append_singleton _ _ |>.trans ((upl_pz c n).cons n)
theorem upl_len (c : Nat → Nat) : ∀ n, (upl c n).length ≤ n
  | 0 => Nat.le_refl _
  | n + 1 => by
    have := upl_len c n
    rw [upl]
    split
    · omega
    · rw [List.length_append, List.length_singleton]; omega
/-- The symbols of counts that are not 0, in the order of their counts. -/
def rsg (c : Nat → Nat) (n : Nat) : List Nat := srt c (upl c n)
theorem rsg_perm (c : Nat → Nat) (n : Nat) : (rsg c n).Perm (pz c n) := (srt_perm _ _).trans (upl_pz c n)
theorem rsg_up (c : Nat → Nat) (n : Nat) : Up c (rsg c n) := lex_up (srt_lex (upl_up c n))
end Q
end Go.Proofs.Ytkljpidlfddgbaa

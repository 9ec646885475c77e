/- Lengths out of chains: what the first items of each chain tell of the one ahead. No program. -/
import Derived.Test.YtkljpidlfddgbaaHx
import Derived.Test.YtkljpidlfddgbaaSl
namespace Go.Proofs.Ytkljpidlfddgbaa
namespace Q
open H
/-- An item: its weight, whether it is a symbol, how often each symbol is in it. -/
abbrev Pl := Nat × Bool × (Nat → Nat)
def pj (x y : Pl) : Pl := (x.1 + y.1, false, fun i => x.2.2 i + y.2.2 i)
def p1 (c : Nat → Nat) (x : Nat) : Pl := (c x, true, fun i => if i = x then 1 else 0)
def pS (c : Nat → Nat) (p : List Nat) : List Pl := p.map (p1 c)
/-- How many are symbols. -/
def fl (l : List Pl) : Nat := sm (fun x => if x.2.1 = true then 1 else 0) l
abbrev cl2 (c : Nat → Nat) (p : List Nat) (k : Nat) : List Pl := ls (fun x => x.1) pj (pS c p) k
theorem cl2_step (c : Nat → Nat) (p : List Nat) (k : Nat) : (cl2 c p (k + 1)).length = p.length + (cl2 c p k).length / 2 := by
  have := ls_length (key := fun x : Pl => x.1) (jn := pj) (pS c p) k
  rwa [show (pS c p).length = p.length by simp [pS]] at this
theorem pj_key (x y : Pl) : (pj x y).1 = x.1 + y.1 := rfl
theorem pS_len (c : Nat → Nat) (p : List Nat) : (pS c p).length = p.length := by simp [pS]
theorem pS_map (c : Nat → Nat) (p : List Nat) : (pS c p).map (fun x => x.1) = p.map c := by
  unfold pS
  rw [List.map_map]
  rfl
theorem pS_up {c : Nat → Nat} {p : List Nat} (h : Up c p) : Up (fun x : Pl => x.1) (pS c p) := by
  unfold Up pS at *
  rw [List.pairwise_map]
  exact h
theorem sm_none {α : Type} {f : α → Nat} {l : List α} (h : ∀ x ∈ l, f x = 0) : sm f l = 0 := by
  induction l with
  | nil => rfl
  | cons x l ih => rw [sm_cons, h x List.mem_cons_self, ih fun y hy => h y (List.mem_cons_of_mem _ hy)]
theorem sm_each {α : Type} {f : α → Nat} {l : List α} (h : ∀ x ∈ l, f x = 1) : sm f l = l.length := by
  induction l with
  | nil => rfl
  | cons x l ih => rw [sm_cons, h x List.mem_cons_self, ih fun y hy => h y (List.mem_cons_of_mem _ hy), List.length_cons]; omega
theorem pr_flag : ∀ l : List Pl, ∀ x ∈ pr pj l, x.2.1 = false
  | [], x, h => by simp [pr] at h
  | [_], x, h => by simp [pr] at h
  | a :: b :: r, x, h => by
    rw [pr] at h
    rcases List.mem_cons.1 h with rfl | h
    · rfl
    · exact pr_flag r x h
theorem pS_flag {c : Nat → Nat} {p : List Nat} : ∀ x ∈ pS c p, x.2.1 = true := fun x hx => by
  obtain ⟨y, _, rfl⟩ := List.mem_map.1 hx
  rfl
/-- The symbols among the first t of a chain are the first ones; the others are the first pairs. -/
theorem fl_split {c : Nat → Nat} {p : List Nat} (hp : Up c p) (k t : Nat) (ht : t ≤ (cl2 c p (k + 1)).length) : fl ((cl2 c p (k + 1)).take t) ≤ p.length ∧ fl ((cl2 c p (k + 1)).take t) ≤ t ∧ 2 * (t - fl ((cl2 c p (k + 1)).take t)) ≤ (cl2 c p k).length ∧
    ∀ f : Pl → Nat, (∀ x y, f (pj x y) = f x + f y) → sm f ((cl2 c p (k + 1)).take t) = sm f ((pS c p).take (fl ((cl2 c p (k + 1)).take t))) + sm f ((cl2 c p k).take (2 * (t - fl ((cl2 c p (k + 1)).take t)))) := by
  have hS := pS_up hp
  have hB := pr_up (jn := pj) pj_key (ls_up (jn := pj) pj_key hS k)
  have ht' : t ≤ (pS c p).length + (pr pj (cl2 c p k)).length := by
    rw [pr_length, pS_len]
    have := cl2_step c p k
    omega
  obtain ⟨a, b, hab, ha, hb, hq, _⟩ := mg_split (pS c p) (pr pj (cl2 c p k)) hS hB t ht'
  have hq' : ((cl2 c p (k + 1)).take t).Perm ((pS c p).take a ++ (pr pj (cl2 c p k)).take b) := hq
  have hf : fl ((cl2 c p (k + 1)).take t) = a := by
    unfold fl
    rw [sm_perm _ hq', sm_append, sm_each fun x hx => if_pos (pS_flag x (List.mem_of_mem_take hx)), sm_none fun x hx => if_neg (by rw [pr_flag _ x (List.mem_of_mem_take hx)]; exact Bool.false_ne_true), List.length_take]
    omega
  rw [hf]
  rw [pr_length] at hb
  rw [pS_len] at ha
  refine ⟨ha, by omega, by omega, fun f hj => ?_⟩
  rw [sm_perm _ hq', sm_append, pr_take hj _ _ (by omega : 2 * b ≤ _), show t - a = b by omega]
theorem fl_next {l : List Pl} {i : Nat} (h : i < l.length) : fl (l.take (i + 1)) = fl (l.take i) + if l[i].2.1 = true then 1 else 0 := sm_take_succ _ h
theorem fl_mono (l : List Pl) {a b : Nat} (h : a ≤ b) : fl (l.take a) ≤ fl (l.take b) := sm_take_le _ l h
/-- How often i is among the first m of p. -/
def oc (p : List Nat) (m i : Nat) : Nat := sm (fun x => if i = x then 1 else 0) (p.take m)
theorem oc_next {p : List Nat} {m i : Nat} (h : m < p.length) : oc p (m + 1) i = oc p m i + if i = p[m] then 1 else 0 := sm_take_succ _ h
theorem oc_le (p : List Nat) {a b : Nat} (h : a ≤ b) (i : Nat) : oc p a i ≤ oc p b i := sm_take_le _ p h
theorem oc_pS (c : Nat → Nat) (p : List Nat) (m i : Nat) : sm (fun x : Pl => x.2.2 i) ((pS c p).take m) = oc p m i := by
  unfold oc pS sm
  rw [← List.map_take, List.map_map]
  rfl
/-- What is told so far, with what is still to come of the chains ahead, is what is told in the end. -/
def Sum (c : Nat → Nat) (p : List Nat) (T l : Nat → Nat) (k t : Nat) : Prop := ∀ i, l i + sm (fun x : Pl => x.2.2 i) ((cl2 c p k).take t) = T i
theorem sum_next {c T l l' : Nat → Nat} {p : List Nat} {k t : Nat} (hp : Up c p) (ht : t ≤ (cl2 c p (k + 1)).length) (h : Sum c p T l (k + 1) t) (hl : ∀ i, l' i = l i + oc p (fl ((cl2 c p (k + 1)).take t)) i) : Sum c p T l' k (2 * (t - fl ((cl2 c p (k + 1)).take t))) := fun i => by
  have h1 := (fl_split hp k t ht).2.2.2 (fun x => x.2.2 i) (fun _ _ => rfl)
  have h2 := h i
  rw [oc_pS] at h1
  rw [hl]
  omega
theorem sum_le {c T l : Nat → Nat} {p : List Nat} {k t m : Nat} (hp : Up c p) (ht : t ≤ (cl2 c p (k + 1)).length) (h : Sum c p T l (k + 1) t) (hm : m ≤ fl ((cl2 c p (k + 1)).take t)) (i : Nat) : l i + oc p m i ≤ T i := by
  have h1 := (fl_split hp k t ht).2.2.2 (fun x => x.2.2 i) (fun _ _ => rfl)
  have h2 := h i
  have h3 := oc_le p hm i
  rw [oc_pS] at h1
  omega
theorem sum_end {c T l : Nat → Nat} {p : List Nat} {t : Nat} (h : Sum c p T l 0 t) (i : Nat) : l i = T i := by
  have := h i
  rw [show cl2 c p 0 = [] from rfl, List.take_nil, sm_nil] at this
  omega
/-- How long the chains are, how much they weigh. -/
theorem cl2_len (c : Nat → Nat) (p : List Nat) : ∀ k, (cl2 c p k).length ≤ 2 * p.length
  | 0 => Nat.zero_le _
  | k + 1 => by
    have h1 := cl2_step c p k
    have h2 := cl2_len c p k
    omega
theorem pr_key {B : Nat} : ∀ l : List Pl, (∀ x ∈ l, x.1 < B) → ∀ x ∈ pr pj l, x.1 < 2 * B
  | [], _, x, h => by simp [pr] at h
  | [_], _, x, h => by simp [pr] at h
  | a :: b :: r, hl, x, h => by
    rw [pr] at h
    rcases List.mem_cons.1 h with rfl | h
    · have h1 := hl a List.mem_cons_self
      have h2 := hl b (List.mem_cons_of_mem _ List.mem_cons_self)
      show a.1 + b.1 < _
      omega
    · exact pr_key r (fun y hy => hl y (List.mem_cons_of_mem _ (List.mem_cons_of_mem _ hy))) x h
theorem cl2_key {c : Nat → Nat} {p : List Nat} (hc : ∀ i, c i < 2 ^ 32) : ∀ k, ∀ x ∈ cl2 c p k, x.1 < 2 ^ 32 * 2 ^ k
  | 0, x, h => by cases h
  | k + 1, x, h => by
    have h' : x ∈ mg (fun x : Pl => x.1) (pS c p) (pr pj (cl2 c p k)) := h
    rcases List.mem_append.1 ((mg_perm _ _).mem_iff.1 h') with h | h
    · obtain ⟨y, _, rfl⟩ := List.mem_map.1 h
      have := hc y
      have := Nat.two_pow_pos (k + 1)
      exact Nat.lt_of_lt_of_le ‹_› (Nat.le_mul_of_pos_right _ this)
    · have := pr_key _ (cl2_key hc k) x h
      rw [Nat.pow_succ]
      omega
theorem cl2_not {c : Nat → Nat} {p : List Nat} {i : Nat} (hi : ∀ x ∈ p, x ≠ i) : ∀ k, ∀ x ∈ cl2 c p k, x.2.2 i = 0
  | 0, x, h => by cases h
  | k + 1, x, h => by
    have h' : x ∈ mg (fun x : Pl => x.1) (pS c p) (pr pj (cl2 c p k)) := h
    rcases List.mem_append.1 ((mg_perm _ _).mem_iff.1 h') with h | h
    · obtain ⟨y, hy, rfl⟩ := List.mem_map.1 h
      show (if i = y then 1 else 0) = 0
      exact if_neg fun e => hi y hy e.symm
    · have hpr : ∀ l : List Pl, (∀ x ∈ l, x.2.2 i = 0) → ∀ x ∈ pr pj l, x.2.2 i = 0 := by
        intro l
        induction l using pr.induct with
        | case1 a b r ih =>
          intro hl x h
          rw [pr] at h
          rcases List.mem_cons.1 h with rfl | h
          · show a.2.2 i + b.2.2 i = 0
            rw [hl a List.mem_cons_self, hl b (List.mem_cons_of_mem _ List.mem_cons_self)]
          · exact ih (fun y hy => hl y (List.mem_cons_of_mem _ (List.mem_cons_of_mem _ hy))) x h
        | case2 l hl =>
          intro _ x h
          rw [pr] at h
          · cases h
          · exact hl
      exact hpr _ (cl2_not hi k) x h
/-- The lengths that the first items of the last chain tell. -/
def tL (c : Nat → Nat) (n L i : Nat) : Nat := sm (fun x : Pl => x.2.2 i) ((cl2 c (rsg c n) L).take (2 * (rsg c n).length - 2))
theorem tL_start (c : Nat → Nat) (n L : Nat) : Sum c (rsg c n) (tL c n L) (fun _ => 0) L (2 * (rsg c n).length - 2) := fun i => by rw [Nat.zero_add]; rfl
theorem rsg_in {c : Nat → Nat} {n x : Nat} : x ∈ rsg c n ↔ x < n ∧ c x ≠ 0 := ⟨fun h => pz_mem ((rsg_perm c n).mem_iff.1 h), fun h => (rsg_perm c n).mem_iff.2 (pz_all h.1 h.2)⟩
/-- Two or more: the lengths may be, have just the room there is, and weigh what the first piles weigh. -/
theorem tL_ok {c : Nat → Nat} {n L : Nat} (h2 : 2 ≤ (rsg c n).length) (hL : L ≤ 15) (hm : (rsg c n).length ≤ 2 ^ L) : (∀ i, i < n → (tL c n L i = 0 ↔ c i = 0) ∧ tL c n L i ≤ L) ∧ room (tL c n L) n = 2 ^ 15 ∧ sg n (fun i => c i * tL c n L i) = sm (fun x => x) ((ls (fun x => x) (fun x y => x + y) ((rsg c n).map c) L).take (2 * (rsg c n).length - 2)) :=
  least_len' (key := fun x : Pl => x.1) (jn := pj) (cnt := fun x i => x.2.2 i) pj_key (pS_up (rsg_up c n)) (rsg_perm c n) (pS_map c _) h2 hL hm (fun _ _ _ => rfl) (fun j hj i _ => by
    have hj' : j < (rsg c n).length := by rw [pS_len] at hj; exact hj
    rw [ky_at _ hj']
    simp [pS, p1]) (fun i _ => rfl) (fun i hi h0 => sm_none fun x hx => cl2_not (fun y hy e => (rsg_in.1 hy).2 (by rw [e]; exact h0)) L x (List.mem_of_mem_take hx))
theorem tL_len {c : Nat → Nat} {n L : Nat} (h1 : (rsg c n).length ≠ 1) (hm : (rsg c n).length ≤ 2 ^ L) : 2 * (rsg c n).length - 2 ≤ (cl2 c (rsg c n) L).length := by
  by_cases h0 : (rsg c n).length = 0
  · rw [h0]; exact Nat.zero_le _
  · have := (best_len (key := fun x : Pl => x.1) (jn := pj) (L := L) (cnt := fun x i => x.2.2 (ky (fun x => x) (rsg c n) i)) pj_key (pS_up (rsg_up c n)) (by rw [pS_len]; omega) (by rw [pS_len]; exact hm) (fun _ _ _ => rfl) (fun i j hi hj => by
      rw [pS_len] at hi hj
      have hnd : (rsg c n).Nodup := (rsg_perm c n).nodup_iff.2 pz_nodup
      rw [ky_at _ (show j < (pS c (rsg c n)).length by rw [pS_len]; exact hj), ky_at _ hi]
      simp only [pS, List.getElem_map, p1]
      by_cases h : i = j
      · subst h; rw [if_pos rfl, if_pos rfl]
      · rw [if_neg h, if_neg fun e => by
          rcases Nat.lt_or_gt_of_ne h with g | g
          · exact List.pairwise_iff_getElem.1 hnd i j (by omega) (by omega) g e
          · exact List.pairwise_iff_getElem.1 hnd j i (by omega) (by omega) g e.symm])).1
    rwa [pS_len] at this
theorem tL_le {c : Nat → Nat} {n L : Nat} (h1 : (rsg c n).length ≠ 1) (hL : L ≤ 15) (hm : (rsg c n).length ≤ 2 ^ L) (i : Nat) (hi : i < n) : tL c n L i ≤ 15 := by
  by_cases h0 : (rsg c n).length = 0
  · unfold tL
    rw [h0]
    exact Nat.zero_le _
  · exact Nat.le_trans ((tL_ok (by omega) hL hm).1 i hi).2 hL
/-- The lengths: of one symbol 1. -/
def tl (c : Nat → Nat) (n L i : Nat) : Nat := if (rsg c n).length = 1 then (if i ∈ rsg c n then 1 else 0) else tL c n L i
theorem tl_ok {c : Nat → Nat} {n L : Nat} (hL1 : 1 ≤ L) (hL : L ≤ 15) (hm : (rsg c n).length ≤ 2 ^ L) : (∀ i, i < n → (tl c n L i = 0 ↔ c i = 0) ∧ tl c n L i ≤ L) ∧ ((rsg c n).length = 1 → room (tl c n L) n = 2 ^ 14) ∧ (2 ≤ (rsg c n).length → room (tl c n L) n = 2 ^ 15 ∧ sg n (fun i => c i * tl c n L i) = sm (fun x => x) ((ls (fun x => x) (fun x y => x + y) ((rsg c n).map c) L).take (2 * (rsg c n).length - 2))) := by
  by_cases h1 : (rsg c n).length = 1
  · have e : ∀ i, tl c n L i = if i ∈ rsg c n then 1 else 0 := fun i => if_pos h1
    refine ⟨fun i hi => ?_, fun _ => ?_, fun h => by omega⟩
    · rw [e]
      by_cases hc : c i = 0
      · rw [if_neg fun h => (rsg_in.1 h).2 hc]
        exact ⟨⟨fun _ => hc, fun _ => rfl⟩, Nat.zero_le _⟩
      · rw [if_pos (rsg_in.2 ⟨hi, hc⟩)]
        exact ⟨⟨fun h => by omega, fun h => absurd h hc⟩, hL1⟩
    · unfold room
      rw [← pz_sm (c := c) (g := fun k => if 1 ≤ tl c n L k then 2 ^ (15 - tl c n L k) else 0) (fun k _ h0 => if_neg (by
        rw [e, if_neg fun h => (rsg_in.1 h).2 h0]; omega)), ← sm_perm _ (rsg_perm c n)]
      obtain ⟨x, hx⟩ := List.length_eq_one_iff.1 h1
      have hx' : tl c n L x = 1 := by rw [e, hx, if_pos (List.mem_singleton.2 rfl)]
      rw [hx]
      show (if 1 ≤ tl c n L x then 2 ^ (15 - tl c n L x) else 0) + 0 = _
      rw [hx']
      rfl
  · have e : tl c n L = tL c n L := funext fun i => if_neg h1
    rw [e]
    by_cases h0 : (rsg c n).length = 0
    · refine ⟨fun i hi => ?_, fun h => by omega, fun h => by omega⟩
      have ht : tL c n L i = 0 := by unfold tL; rw [h0]; rfl
      have hc : c i = 0 := by
        by_cases h : c i = 0
        · exact h
        · have := rsg_in.2 ⟨hi, h⟩
          rw [List.length_eq_zero_iff.1 h0] at this
          cases this
      rw [ht]
      exact ⟨⟨fun _ => hc, fun _ => rfl⟩, Nat.zero_le _⟩
    · obtain ⟨a, b, d⟩ := tL_ok (c := c) (n := n) (by omega) hL hm
      exact ⟨a, fun h => absurd h h1, fun _ => ⟨b, d⟩⟩
end Q
end Go.Proofs.Ytkljpidlfddgbaa

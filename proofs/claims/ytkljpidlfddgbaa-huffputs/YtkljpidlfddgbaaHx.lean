/- Lengths told by the places of the counts, and by the counts in their order: what they weigh, their room; no lengths that may be weigh less. No program. -/
import Derived.Test.YtkljpidlfddgbaaHw
namespace Go.Proofs.Ytkljpidlfddgbaa
namespace H
/-- The counts that are not 0. -/
def nz (c : Nat → Nat) : Nat → List Nat
  | 0 => []
  | k + 1 => if c k = 0 then nz c k else c k :: nz c k
theorem nz_len (c : Nat → Nat) : ∀ k, (nz c k).length ≤ k
  | 0 => Nat.le_refl _
  | k + 1 => by
    have := nz_len c k
    rw [nz]
    split
    · omega
    · rw [List.length_cons]; omega
/-- Their places. -/
def pz (c : Nat → Nat) : Nat → List Nat
  | 0 => []
  | k + 1 => if c k = 0 then pz c k else k :: pz c k
theorem pz_map (c : Nat → Nat) : ∀ n, (pz c n).map c = nz c n
  | 0 => rfl
  | n + 1 => by
    rw [pz, nz]
    split
    · exact pz_map c n
    · rw [List.map_cons, pz_map c n]
theorem pz_mem {c : Nat → Nat} : ∀ {n i : Nat}, i ∈ pz c n → i < n ∧ c i ≠ 0
  | 0, _, h => by cases h
  | n + 1, i, h => by
    rw [pz] at h
    split at h
    · have := pz_mem h; exact ⟨by omega, this.2⟩
    · rename_i hc
      rcases List.mem_cons.1 h with rfl | h
      · exact ⟨by omega, hc⟩
      · have := pz_mem h; exact ⟨by omega, this.2⟩
theorem pz_all {c : Nat → Nat} : ∀ {n i : Nat}, i < n → c i ≠ 0 → i ∈ pz c n
  | 0, _, h, _ => by omega
  | n + 1, i, h, hc => by
    rw [pz]
    by_cases hi : i = n
    · subst hi; rw [if_neg hc]; exact List.mem_cons_self
    · split
      · exact pz_all (by omega) hc
      · exact List.mem_cons_of_mem _ (pz_all (by omega) hc)
theorem pz_sm {c g : Nat → Nat} : ∀ {n : Nat}, (∀ k, k < n → c k = 0 → g k = 0) → sm g (pz c n) = sg n g
  | 0, _ => rfl
  | n + 1, h => by
    have ih := pz_sm (n := n) fun k hk => h k (by omega)
    rw [pz, sg]
    split
    · rename_i hc; rw [h n (by omega) hc, ih]; omega
    · rw [sm_cons, ih]; omega
theorem pz_nodup {c : Nat → Nat} : ∀ {n : Nat}, (pz c n).Nodup
  | 0 => List.nodup_nil
  | n + 1 => by
    rw [pz]
    split
    · exact pz_nodup
    · exact List.nodup_cons.2 ⟨fun h => absurd (pz_mem h).1 (by omega), pz_nodup⟩
theorem perm_map {α β : Type} {f : α → β} {a s : List β} (h : a.Perm s) : ∀ l : List α, l.map f = a → ∃ p, l.Perm p ∧ p.map f = s := by
  induction h with
  | nil => exact fun l hl => ⟨l, List.Perm.refl _, hl⟩
  | cons x _ ih =>
    intro l hl
    obtain ⟨y, l', rfl, rfl, hl'⟩ := List.map_eq_cons_iff.1 hl
    obtain ⟨p, hp, he⟩ := ih l' hl'
    exact ⟨y :: p, hp.cons y, by rw [List.map_cons, he]⟩
  | swap x y r =>
    intro l hl
    obtain ⟨a, l', rfl, rfl, hl'⟩ := List.map_eq_cons_iff.1 hl
    obtain ⟨b, l'', rfl, rfl, hl''⟩ := List.map_eq_cons_iff.1 hl'
    exact ⟨b :: a :: l'', List.Perm.swap _ _ _, by rw [List.map_cons, List.map_cons, hl'']⟩
  | trans _ _ ih1 ih2 =>
    intro l hl
    obtain ⟨p, hp, he⟩ := ih1 l hl
    obtain ⟨q, hq, he'⟩ := ih2 p he
    exact ⟨q, hp.trans hq, he'⟩
/-- Only one list of these counts rises. -/
theorem up_one : ∀ {a b : List Nat}, Up (fun x => x) a → Up (fun x => x) b → a.Perm b → a = b
  | [], b, _, _, h => (List.nil_perm.1 h).symm ▸ rfl
  | x :: a, [], _, _, h => absurd h.length_eq (by simp)
  | x :: a, y :: b, ha, hb, h => by
    have ha' := List.pairwise_cons.1 ha
    have hb' := List.pairwise_cons.1 hb
    have h1 : y ≤ x := by
      rcases List.mem_cons.1 (h.mem_iff.1 (List.mem_cons_self (a := x) (l := a))) with e | e
      · omega
      · exact hb'.1 x e
    have h2 : x ≤ y := by
      rcases List.mem_cons.1 (h.mem_iff.2 (List.mem_cons_self (a := y) (l := b))) with e | e
      · omega
      · exact ha'.1 y e
    obtain rfl : x = y := Nat.le_antisymm h2 h1
    rw [up_one ha'.2 hb'.2 h.cons_inv]
section
variable {c l : Nat → Nat} {n L : Nat} {p : List Nat}
/-- What lengths weigh, by the places in any order. -/
theorem place_cost (hp : p.Perm (pz c n)) : sg n (fun i => c i * l i) = sg p.length (fun i => ky c p i * ky l p i) := by
  rw [← pz_sm (c := c) (g := fun i => c i * l i) (fun k _ h => by rw [h, Nat.zero_mul]), ← sm_perm _ hp, sm_at]
  exact sg_congr fun i hi => by rw [ky_at _ hi, ky_at _ hi, ky_at _ hi]
/-- And their room. -/
theorem place_room (hp : p.Perm (pz c n)) (hL : L ≤ 15) (h : ∀ i, i < n → (l i = 0 ↔ c i = 0) ∧ l i ≤ L) : room l n = 2 ^ (15 - L) * sg p.length (fun i => 2 ^ (L - ky l p i)) := by
  unfold room
  rw [← pz_sm (c := c) (g := fun k => if 1 ≤ l k then 2 ^ (15 - l k) else 0) (fun k hk h0 => if_neg (by have := (h k hk).1.2 h0; omega)), ← sm_perm _ hp, sm_at, ← sg_mul]
  refine sg_congr fun i hi => ?_
  rw [ky_at _ hi, ky_at _ hi]
  have hm := pz_mem (hp.mem_iff.1 (List.getElem_mem hi))
  have h1 := h _ hm.1
  have h2 : l p[i] ≠ 0 := fun e => hm.2 (h1.1.1 e)
  rw [if_pos (by omega), ← Nat.pow_add]
  congr 1
  omega
/-- No lengths that may be weigh less. -/
theorem least_lower {s : List Nat} (hL : L ≤ 15) (hs : Up (fun x => x) s) (hp : s.Perm (nz c n)) (h : ∀ i, i < n → (l i = 0 ↔ c i = 0) ∧ l i ≤ L) (hr : room l n ≤ 2 ^ 15) :
    2 * s.length - 2 ≤ (ls (fun x => x) (fun x y => x + y) s L).length ∧ sm (fun x => x) ((ls (fun x => x) (fun x y => x + y) s L).take (2 * s.length - 2)) ≤ sg n fun i => c i * l i := by
  obtain ⟨p, hpp, hps⟩ := perm_map (hp.symm) (pz c n) (pz_map c n)
  have hlen : s.length = p.length := by rw [← hps, List.length_map]
  have hbl := best_least (key := fun x : Nat => x) (jn := fun x y => x + y) (L := L) (l := fun i => ky l p i) (fun _ _ => rfl) hs (fun i hi => by
    have hi' : i < p.length := by omega
    have hm := pz_mem (hpp.mem_iff.2 (List.getElem_mem hi'))
    have h1 := h _ hm.1
    have h2 : l p[i] ≠ 0 := fun e => hm.2 (h1.1.1 e)
    show 1 ≤ ky l p i ∧ ky l p i ≤ L
    rw [ky_at _ hi']
    omega) (by
    rw [place_room hpp.symm hL h] at hr
    have e : (2 : Nat) ^ 15 = 2 ^ (15 - L) * 2 ^ L := by rw [← Nat.pow_add]; congr 1; omega
    rw [e] at hr
    rw [hlen]
    exact Nat.le_of_mul_le_mul_left hr (Nat.two_pow_pos _))
  refine ⟨hbl.1, Nat.le_trans hbl.2 (Nat.le_of_eq ?_)⟩
  rw [place_cost hpp.symm, hlen]
  refine sg_congr fun i hi => ?_
  show ky (fun x => x) s i * ky l p i = _
  rw [ky_at _ (show i < s.length by omega), ky_at _ hi, ky_at _ hi]
  congr 1
  subst hps
  rw [List.getElem_map]
/-- Lengths that the first piles tell: they may be, have just the room there is, and weigh what these piles weigh. -/
theorem least_len {α : Type} {key : α → Nat} {jn : α → α → α} {cnt : α → Nat → Nat} {S : List α} (hk : ∀ x y, key (jn x y) = key x + key y) (hS : Up key S) (hp : p.Perm (pz c n)) (he : S.map key = p.map c) (h2 : 2 ≤ p.length) (hL : L ≤ 15) (hm : p.length ≤ 2 ^ L) (hc : ∀ i x y, cnt (jn x y) i = cnt x i + cnt y i) (h1 : ∀ i j, i < S.length → j < S.length → ky (fun x => cnt x i) S j = if i = j then 1 else 0) (hl : ∀ i, (hi : i < p.length) → l p[i] = sm (fun x => cnt x i) ((ls key jn S L).take (2 * p.length - 2))) (h0 : ∀ i, i < n → c i = 0 → l i = 0) :
    (∀ i, i < n → (l i = 0 ↔ c i = 0) ∧ l i ≤ L) ∧ room l n = 2 ^ 15 ∧ sg n (fun i => c i * l i) = sm (fun x => x) ((ls (fun x => x) (fun x y => x + y) (p.map c) L).take (2 * p.length - 2)) := by
  have hlen : S.length = p.length := by have := congrArg List.length he; simpa using this
  obtain ⟨_, hb, hr, hw⟩ := best_len (L := L) hk hS (by omega) (by omega) hc h1
  rw [hlen] at hb hr hw
  have hv : ∀ i, i < n → (l i = 0 ↔ c i = 0) ∧ l i ≤ L := fun i hi => by
    by_cases h : c i = 0
    · have := h0 i hi h; exact ⟨⟨fun _ => h, fun _ => this⟩, by omega⟩
    · obtain ⟨j, hj, rfl⟩ := List.getElem_of_mem (hp.mem_iff.2 (pz_all hi h))
      have := hb j hj
      rw [hl j hj]
      exact ⟨⟨fun e => by omega, fun e => absurd e h⟩, this.2⟩
  refine ⟨hv, ?_, ?_⟩
  · rw [place_room hp hL hv, sg_congr (h := fun i => 2 ^ (L - sm (fun x => cnt x i) ((ls key jn S L).take (2 * p.length - 2)))) (fun i hi => by rw [ky_at _ hi, hl i hi]), hr, ← Nat.pow_add]
    congr 1
    omega
  · rw [place_cost hp, sg_congr (h := fun i => ky key S i * sm (fun x => cnt x i) ((ls key jn S L).take (2 * p.length - 2))) (fun i hi => by
      rw [show ky key S i = ky c p i by unfold ky; rw [he], ky_at l hi, hl i hi]), hw, sm_map, ls_map hk, he]
/-- The same where a pile tells by places how often each is in it. -/
theorem least_len' {α : Type} {key : α → Nat} {jn : α → α → α} {cnt : α → Nat → Nat} {S : List α} (hk : ∀ x y, key (jn x y) = key x + key y) (hS : Up key S) (hp : p.Perm (pz c n)) (he : S.map key = p.map c) (h2 : 2 ≤ p.length) (hL : L ≤ 15) (hm : p.length ≤ 2 ^ L) (hc : ∀ i x y, cnt (jn x y) i = cnt x i + cnt y i) (h1 : ∀ j, (hj : j < S.length) → ∀ i, i < n → cnt S[j] i = if i = ky (fun x => x) p j then 1 else 0) (hl : ∀ i, i < n → l i = sm (fun x => cnt x i) ((ls key jn S L).take (2 * p.length - 2))) (h0 : ∀ i, i < n → c i = 0 → l i = 0) :
    (∀ i, i < n → (l i = 0 ↔ c i = 0) ∧ l i ≤ L) ∧ room l n = 2 ^ 15 ∧ sg n (fun i => c i * l i) = sm (fun x => x) ((ls (fun x => x) (fun x y => x + y) (p.map c) L).take (2 * p.length - 2)) := by
  have hlen : S.length = p.length := by have := congrArg List.length he; simpa using this
  have hnd : p.Nodup := hp.nodup_iff.2 pz_nodup
  have hin : ∀ i, (hi : i < p.length) → p[i] < n := fun i hi => (pz_mem (hp.mem_iff.1 (List.getElem_mem hi))).1
  refine least_len (cnt := fun x i => cnt x (ky (fun x => x) p i)) hk hS hp he h2 hL hm (fun i x y => hc _ x y) (fun i j hi hj => ?_) (fun i hi => ?_) h0
  · rw [ky_at _ hj, ky_at _ (show i < p.length by omega), h1 j hj _ (hin i (by omega)), ky_at _ (show j < p.length by omega)]
    by_cases h : i = j
    · subst h; rw [if_pos rfl, if_pos rfl]
    · rw [if_neg h, if_neg fun e => by
        rcases Nat.lt_or_gt_of_ne h with g | g
        · exact List.pairwise_iff_getElem.1 hnd i j (by omega) (by omega) g e
        · exact List.pairwise_iff_getElem.1 hnd j i (by omega) (by omega) g e.symm]
  · rw [hl _ (hin i hi), ky_at _ hi]
end
end H
end Go.Proofs.Ytkljpidlfddgbaa

/- Plain arithmetic modulo p: the ring's laws, and what Ratio's numbers are: a root where there is one. No program; no conditions but those that each names. -/
import Derived.Test.YtbpmakegimgbpaaGreatDoorWr
import Derived.Test.YtbpmakegimgbpaaGreatDoorWo
namespace Go.Proofs.YtbpmakegimgbpaaGreatDoor.F

theorem genP : Num.Gen pP 2 := by
  rw [show pP = 57896044618658097711785492504343953926634992332820282019728792003956564819949 by decide +kernel]
  exact Num.gpP
theorem fermat (x : Nat) (h : x % pP ≠ 0) : x ^ (pP - 1) % pP = 1 := genP.fermat x h
theorem nozero (a b : Nat) (h : a * b % pP = 0) : a % pP = 0 ∨ b % pP = 0 := genP.nozero (by unfold pP; omega) a b h
theorem two_half : pm 2 ((pP - 1) / 2) = pP - 1 := pm_pw 2 _ _ (by decide +kernel) (by decide +kernel)
def am (a b : Nat) : Nat := (a + b) % pP
def sm (a b : Nat) : Nat := (a + pP - b) % pP
theorem am_lt (a b : Nat) : am a b < pP := Nat.mod_lt _ pP_pos
theorem sm_lt (a b : Nat) : sm a b < pP := Nat.mod_lt _ pP_pos
instance : NeZero pP := ⟨by unfold pP; omega⟩
/-- The numbers modulo p, as a ring. -/
abbrev Fp := Fin pP
def ph (a : Nat) : Fp := Fin.ofNat pP a
theorem ph_mm (a b : Nat) : ph (mm a b) = ph a * ph b := by
  apply Fin.ext; simp [ph, mm, Fin.val_mul]
theorem ph_am (a b : Nat) : ph (am a b) = ph a + ph b := by
  apply Fin.ext; simp [ph, am, Fin.val_add]
theorem ph_inj {a b : Nat} (ha : a < pP) (hb : b < pP) (h : ph a = ph b) : a = b := by
  have := congrArg Fin.val h
  simpa [ph, Nat.mod_eq_of_lt ha, Nat.mod_eq_of_lt hb] using this
theorem ph_ng0 (a : Nat) (ha : a < pP) : ph (ng a) + ph a = 0 := by
  apply Fin.ext
  simp [ph, ng, Fin.val_add]
  rw [Nat.sub_add_cancel (Nat.le_of_lt ha), Nat.mod_self]
theorem ph_ng (a : Nat) (ha : a < pP) : ph (ng a) = - ph a := by
  have := ph_ng0 a ha; grind
theorem ph_sm (a b : Nat) (hb : b < pP) : ph (sm a b) = ph a - ph b := by
  have : ph (sm a b) + ph b = ph a := by
    apply Fin.ext
    simp [ph, sm, Fin.val_add]
    rw [Nat.sub_add_cancel (by omega), Nat.add_mod_right]
  grind
theorem ph_zero : ph 0 = 0 := rfl
theorem ph_eq_zero {a : Nat} (ha : a < pP) : ph a = 0 ↔ a = 0 :=
  ⟨fun h => ph_inj ha pP_pos h, fun h => by rw [h]; rfl⟩
theorem ph_one : ph 1 = 1 := rfl
theorem Fp_nz (x y : Fp) (h : x * y = 0) : x = 0 ∨ y = 0 := by
  have h1 := congrArg Fin.val h
  rw [Fin.val_mul] at h1
  rcases nozero x.val y.val h1 with h2 | h2
  · left; apply Fin.ext; rw [Nat.mod_eq_of_lt x.isLt] at h2; exact h2
  · right; apply Fin.ext; rw [Nat.mod_eq_of_lt y.isLt] at h2; exact h2
theorem rootN_sq : ph rootN * ph rootN = -1 := by
  have h : ph (am (mm rootN rootN) 1) = 0 := by
    rw [show am (mm rootN rootN) 1 = 0 by decide +kernel]; rfl
  rw [ph_am, ph_mm, ph_one] at h
  grind
theorem pm_fermat (x : Nat) (hx : x < pP) (h0 : x ≠ 0) : pm x (pP - 1) = 1 := fermat x (by rw [Nat.mod_eq_of_lt hx]; exact h0)

/-- What the root's power is. -/
def rT (u v : Nat) : Nat := pm (rBase u v) (2 ^ 253 - 5)
theorem found_eq (u v : Nat) : ph (rFound u v) = ph u * ph (rT u v) := by
  have hM : mm (pm (ones (rBase u v) 250) 4) (rBase u v) = pm (rBase u v) (2 ^ 252 - 3) := by
    unfold ones mm
    rw [pm_pm]
    conv => lhs; lhs; rhs; rw [← pm_one (rBase u v) (mm_lt _ _)]
    exact pm_mul' _ _ _ _ (by decide +kernel)
  have hT : rT u v = mm (rBase u v) (mm (pm (rBase u v) (2 ^ 252 - 3)) (pm (rBase u v) (2 ^ 252 - 3))) := by
    have e1 : mm (pm (rBase u v) (2 ^ 252 - 3)) (pm (rBase u v) (2 ^ 252 - 3)) = pm (rBase u v) (2 ^ 253 - 6) := pm_mul' _ _ _ _ (by decide +kernel)
    rw [e1]
    unfold rT mm
    conv => rhs; lhs; lhs; rw [← pm_one (rBase u v) (mm_lt _ _)]
    exact (pm_mul' _ _ _ _ (by decide +kernel)).symm
  unfold rFound rRoot
  rw [hM, hT]
  generalize pm (rBase u v) (2 ^ 252 - 3) = M
  have hN : ph (rBase u v) = ph u * (ph (rCube v) * ph (rCube v) * ph v) := by unfold rBase; rw [ph_mm, ph_mm, ph_mm]
  simp only [ph_mm, hN]
  generalize ph u = U
  generalize ph v = V
  generalize ph (rCube v) = C
  generalize ph M = m
  grind
theorem mm_ne_zero {a b : Nat} (ha : a < pP) (hb : b < pP) (h1 : a ≠ 0) (h2 : b ≠ 0) : mm a b ≠ 0 := by
  intro h
  have := congrArg ph h
  rw [ph_mm, ph_zero] at this
  rcases Fp_nz _ _ this with h3 | h3
  · exact h1 ((ph_eq_zero ha).1 h3)
  · exact h2 ((ph_eq_zero hb).1 h3)
theorem rFound_lt (u v : Nat) : rFound u v < pP := mm_lt _ _
theorem flip_iff (u v : Nat) (hu : u < pP) : rFlip u v = true ↔ ph u * ph (rT u v) = - ph u := by
  unfold rFlip
  rw [decide_eq_true_eq]
  constructor
  · intro h
    have := congrArg ph h
    rw [found_eq, ph_ng u hu] at this
    exact this
  · intro h
    apply ph_inj (rFound_lt u v) (ng_lt u)
    rw [found_eq, ph_ng u hu, h]
theorem found1_eq (u v : Nat) : ph (rFound1 u v) = if rFlip u v then - (ph u * ph (rT u v)) else ph u * ph (rT u v) := by
  unfold rFound1
  split
  · rw [ph_ng _ (rFound_lt u v), found_eq]
  · rw [found_eq]
theorem rFound1_lt' (u v : Nat) : rFound1 u v < pP := by unfold rFound1; split; exact ng_lt _; exact mm_lt _ _
theorem ok_iff (u v : Nat) (hu : u < pP) : rOk u v = true ↔ (ph u * ph (rT u v) = ph u ∨ ph u * ph (rT u v) = - ph u) := by
  unfold rOk
  rw [decide_eq_true_eq]
  have key : rFound1 u v = u ↔ ph (rFound1 u v) = ph u := ⟨fun h => by rw [h], fun h => ph_inj (rFound1_lt' u v) hu h⟩
  rw [key, found1_eq]
  have hf := flip_iff u v hu
  by_cases h : rFlip u v = true
  · rw [if_pos h]
    have := hf.1 h
    constructor
    · intro _; exact .inr this
    · intro _; rw [this]; grind
  · rw [if_neg h]
    constructor
    · intro h2; exact .inl h2
    · rintro (h2 | h2)
      · exact h2
      · exact absurd (hf.2 h2) h
theorem root_sq (u v : Nat) : ph v * (ph (rRoot u v) * ph (rRoot u v)) = ph u * ph (rT u v) := by
  rw [← found_eq]; unfold rFound; rw [ph_mm, ph_mm]
theorem rRoot1_lt' (u v : Nat) : rRoot1 u v < pP := by unfold rRoot1; split <;> exact mm_lt _ _
theorem root1_sq (u v : Nat) (hok : rOk u v = true) : ph v * (ph (rRoot1 u v) * ph (rRoot1 u v)) = ph u := by
  have h1 := root_sq u v
  have h2 := found1_eq u v
  have h3 : ph (rFound1 u v) = ph u := by unfold rOk at hok; rw [of_decide_eq_true hok]
  rw [h3] at h2
  have hi := rootN_sq
  unfold rRoot1
  by_cases h : rFlip u v = true
  · rw [if_pos h] at h2 ⊢
    rw [ph_mm]
    generalize ph (rRoot u v) = R at *
    generalize ph rootN = I at *
    grind
  · rw [if_neg h] at h2 ⊢
    rw [h1, ← h2]
theorem pick_sq (u v : Nat) : ph (rPick u v) * ph (rPick u v) = ph (rRoot1 u v) * ph (rRoot1 u v) := by
  unfold rPick
  split
  · rw [ph_ng _ (rRoot1_lt' u v)]; grind
  · rfl
theorem pick_even (u v : Nat) : rPick u v % 2 = 0 := by
  have hl := rRoot1_lt' u v
  unfold rPick rOdd0
  by_cases h : rRoot1 u v % 2 = 1
  · rw [if_pos (by simpa using h)]
    unfold ng
    rw [Nat.mod_eq_of_lt (show pP - rRoot1 u v < pP by omega)]
    unfold pP at *
    omega
  · rw [if_neg (by simpa using h)]; omega
theorem pick_lt (u v : Nat) : rPick u v < pP := by
  unfold rPick; split; exact ng_lt _; exact rRoot1_lt' u v
theorem val_lt (u v : Nat) : rVal u v < pP := by
  unfold rVal; split; exact pick_lt u v; exact pP_pos
theorem val_none (u v : Nat) (h : rOk u v = false) : rVal u v = 0 := by unfold rVal; rw [h]; rfl
theorem val_even (u v : Nat) (h : rOk u v = true) : rVal u v % 2 = 0 := by unfold rVal; rw [if_pos h]; exact pick_even u v
theorem val_sq (u v : Nat) (h : rOk u v = true) : ph v * (ph (rVal u v) * ph (rVal u v)) = ph u := by
  unfold rVal; rw [if_pos h, pick_sq]; exact root1_sq u v h
/-- 0 has a root, whatever divides it. -/
theorem ok_zero (v : Nat) : rOk 0 v = true := (ok_iff 0 v pP_pos).2 (.inl (by rw [ph_zero]; grind))
theorem pm_zero (e : Nat) (h : 0 < e) : pm 0 e = 0 := by unfold pm; rw [Nat.zero_pow h, Nat.zero_mod]
theorem ok_div0 (u : Nat) (hu : u < pP) (h0 : u ≠ 0) : rOk u 0 = false := by
  have hf : ph (rT u 0) = 0 := by
    have hb : rBase u 0 = 0 := by unfold rBase mm; simp
    unfold rT
    rw [hb, pm_zero _ (by omega), ph_zero]
  rw [Bool.eq_false_iff]
  intro h
  have := (ok_iff u 0 hu).1 h
  rw [hf] at this
  have hu0 : ph u ≠ 0 := fun e => h0 ((ph_eq_zero hu).1 e)
  apply hu0
  rcases this with h1 | h1 <;> grind
theorem ok_iff_sq (u v : Nat) (hu : u < pP) (h1 : u ≠ 0) : rOk u v = true ↔ ph (rT u v) * ph (rT u v) = 1 := by
  have hu0 : ph u ≠ 0 := fun e => h1 ((ph_eq_zero hu).1 e)
  rw [ok_iff u v hu]
  generalize ph u = U at *
  generalize ph (rT u v) = t at *
  constructor
  · rintro (h | h)
    · rcases Fp_nz U (t - 1) (by grind) with h3 | h3
      · exact absurd h3 hu0
      · grind
    · rcases Fp_nz U (t + 1) (by grind) with h3 | h3
      · exact absurd h3 hu0
      · grind
  · intro h
    rcases Fp_nz (t - 1) (t + 1) (by grind) with h3 | h3
    · left; grind
    · right; grind
theorem T_sq (u v : Nat) : mm (rT u v) (rT u v) = pm (rBase u v) ((pP - 1) / 2) := by
  unfold rT
  exact pm_mul' _ _ _ _ (by decide +kernel)
theorem pm_mm (a b e : Nat) : pm (mm a b) e = mm (pm a e) (pm b e) := by
  unfold pm mm; rw [← Nat.pow_mod, Nat.mul_pow, Nat.mul_mod]
/-- A square times the divisor has a root. -/
theorem ok_square (x y : Nat) (hx : x < pP) (hy : y < pP) : rOk (mm (mm x x) y) y = true := by
  by_cases h1 : x = 0
  · subst h1; rw [show mm (mm 0 0) y = 0 by unfold mm; simp]; exact ok_zero y
  by_cases h2 : y = 0
  · subst h2; rw [show mm (mm x x) 0 = 0 by unfold mm; simp]; exact ok_zero 0
  have hz : mm (mm x x) y ≠ 0 := mm_ne_zero (mm_lt _ _) hy (mm_ne_zero hx hx h1 h1) h2
  rw [ok_iff_sq _ y (mm_lt _ _) hz, ← ph_mm, T_sq]
  have hb : rBase (mm (mm x x) y) y = mm (mm x (mm (rCube y) y)) (mm x (mm (rCube y) y)) := by
    apply ph_inj (mm_lt _ _) (mm_lt _ _)
    simp only [ph_mm]
    grind
  rw [hb]
  have hne : mm x (mm (rCube y) y) ≠ 0 := mm_ne_zero hx (mm_lt _ _) h1 (mm_ne_zero (mm_lt _ _) hy (mm_ne_zero (mm_lt _ _) hy (mm_ne_zero hy hy h2 h2) h2) h2)
  have hq : mm x (mm (rCube y) y) < pP := mm_lt _ _
  generalize mm x (mm (rCube y) y) = q at hne hq ⊢
  rw [pm_mm, show mm (pm q ((pP - 1) / 2)) (pm q ((pP - 1) / 2)) = pm q (pP - 1) from pm_mul' _ _ _ _ (by decide +kernel)]
  rw [pm_fermat q hq hne]; rfl
/-- The root that is told of a square is the number or its opposite. -/
theorem val_square (x y : Nat) (hx : x < pP) (hy : y < pP) : rVal (mm (mm x x) y) y = x ∨ rVal (mm (mm x x) y) y = ng x ∨ y = 0 := by
  by_cases h2 : y = 0
  · exact .inr (.inr h2)
  have h := val_sq (mm (mm x x) y) y (ok_square x y hx hy)
  have hl := val_lt (mm (mm x x) y) y
  generalize rVal (mm (mm x x) y) y = r at *
  rw [ph_mm, ph_mm] at h
  have hy0 : ph y ≠ 0 := fun e => h2 ((ph_eq_zero hy).1 e)
  rcases Fp_nz (ph y) ((ph r - ph x) * (ph r + ph x)) (by grind) with h3 | h3
  · exact absurd h3 hy0
  rcases Fp_nz _ _ h3 with h4 | h4
  · exact .inl (ph_inj hl hx (by grind))
  · exact .inr (.inl (ph_inj hl (ng_lt x) (by rw [ph_ng x hx]; grind)))
theorem inv_mm (x y : Nat) (hx : x < pP) (h0 : x ≠ 0) (hy : y = pm x (pP - 2)) : mm x y = 1 := by
  subst hy
  unfold mm
  conv => lhs; lhs; lhs; rw [← pm_one x hx]
  rw [pm_mul' x 1 (pP - 2) (pP - 1) (by decide +kernel)]
  exact pm_fermat x hx h0
end Go.Proofs.YtbpmakegimgbpaaGreatDoor.F

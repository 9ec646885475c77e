/- What the reference's Ratio tells is what the program's tells. -/
import Derived.Test.YtbpmakegimgbpaaGreatDoorRm
namespace Go.Proofs.YtbpmakegimgbpaaGreatDoor.F
open Go.RowKit

def sQ (u v : Nat) : Nat := mm u (pm v (pP - 2))
theorem sQ_lt (u v : Nat) : sQ u v < pP := mm_lt _ _
def sR0 (q : Nat) : Nat := pm q ((pP + 3) / 2 ^ 3)
def sI (b : Nat) : Nat := pm b ((pP - 1) / 2 / 2)
/-- The second try; b is 2. -/
def sR1 (b q : Nat) : Nat := if mm (sR0 q) (sR0 q) = q then sR0 q else mm (sR0 q) (sI b)
theorem two_half' (b : Nat) (hb : b = 2) : pm b ((pP - 1) / 2) = pP - 1 := by subst hb; exact two_half
def sRes (r : Nat) : Nat := if r % 2 = 1 then (0 + (pP - r)) % pP else r
theorem sR0_lt (q : Nat) : sR0 q < pP := pm_lt _ _
theorem sR1_lt (b q : Nat) : sR1 b q < pP := by unfold sR1; split; exact pm_lt _ _; exact mm_lt _ _
theorem sI_sq (b : Nat) (hb : b = 2) : ph (sI b) * ph (sI b) = -1 := by
  have h : mm (sI b) (sI b) = pP - 1 := by
    unfold sI mm
    rw [pm_mul' b _ _ ((pP - 1) / 2) (by decide +kernel)]
    exact two_half' b hb
  have h2 : ph (am (mm (sI b) (sI b)) 1) = 0 := by
    rw [h]
    rw [show am (pP - 1) 1 = 0 by decide +kernel]; rfl
  rw [ph_am, ph_mm, ph_one] at h2
  grind
theorem pm_half (x : Nat) (hx : x < pP) (h0 : x ≠ 0) : ph (pm x ((pP - 1) / 2)) = 1 ∨ ph (pm x ((pP - 1) / 2)) = -1 := by
  have h : mm (pm x ((pP - 1) / 2)) (pm x ((pP - 1) / 2)) = 1 := by
    unfold mm
    rw [pm_mul' x _ _ (pP - 1) (by decide +kernel)]
    exact pm_fermat x hx h0
  have h2 := ph_mm (pm x ((pP - 1) / 2)) (pm x ((pP - 1) / 2))
  rw [h, ph_one] at h2
  generalize ph (pm x ((pP - 1) / 2)) = t at h2
  rcases Fp_nz (t - 1) (t + 1) (by grind) with h3 | h3
  · left; grind
  · right; grind
/-- The first try, squared. -/
theorem r0_sq (x : Nat) : mm (sR0 (mm x x)) (sR0 (mm x x)) = mm (mm x x) (pm x ((pP - 1) / 2)) := by
  unfold sR0
  rw [pm_mm, show mm (mm (pm x ((pP + 3) / 2 ^ 3)) (pm x ((pP + 3) / 2 ^ 3))) (mm (pm x ((pP + 3) / 2 ^ 3)) (pm x ((pP + 3) / 2 ^ 3))) = mm (pm x ((pP + 3) / 2 ^ 3 + (pP + 3) / 2 ^ 3)) (pm x ((pP + 3) / 2 ^ 3 + (pP + 3) / 2 ^ 3)) by
    rw [show mm (pm x ((pP + 3) / 2 ^ 3)) (pm x ((pP + 3) / 2 ^ 3)) = pm x ((pP + 3) / 2 ^ 3 + (pP + 3) / 2 ^ 3) from pm_mul x _ _]]
  rw [show mm (pm x ((pP + 3) / 2 ^ 3 + (pP + 3) / 2 ^ 3)) (pm x ((pP + 3) / 2 ^ 3 + (pP + 3) / 2 ^ 3)) = pm x (2 + (pP - 1) / 2) from pm_mul' x _ _ _ (by decide +kernel)]
  rw [← show mm (pm x 2) (pm x ((pP - 1) / 2)) = pm x (2 + (pP - 1) / 2) from pm_mul x _ _]
  rw [show pm x 2 = mm x x by unfold pm mm; rw [Nat.pow_two]]
theorem r1_sq (b x : Nat) (hb : b = 2) (hx : x < pP) : mm (sR1 b (mm x x)) (sR1 b (mm x x)) = mm x x := by
  by_cases hq : mm (sR0 (mm x x)) (sR0 (mm x x)) = mm x x
  · rw [sR1, if_pos hq]; exact hq
  · rw [sR1, if_neg hq]
    have h0 : x ≠ 0 := by
      intro h
      apply hq
      have hz : mm x x = 0 := by rw [h]; rfl
      rw [r0_sq, hz]
      unfold mm
      rw [Nat.zero_mul, Nat.zero_mod]
    have e := congrArg ph (r0_sq x)
    rw [ph_mm, ph_mm, ph_mm] at e
    have hs := sI_sq b hb
    rcases pm_half x hx h0 with h1 | h1
    · exfalso
      apply hq
      apply ph_inj (mm_lt _ _) (mm_lt _ _)
      rw [ph_mm, ph_mm, e, h1]; grind
    · apply ph_inj (mm_lt _ _) (mm_lt _ _)
      rw [h1] at e
      simp only [ph_mm]
      grind
theorem q_mul (u v : Nat) (hv : v < pP) (h0 : v ≠ 0) : ph (sQ u v) * ph v = ph u := by
  have h := congrArg ph (inv_mm v (pm v (pP - 2)) hv h0 rfl)
  rw [ph_mm, ph_one] at h
  rw [sQ, ph_mm]
  grind
theorem res_lt (r : Nat) (hr : r < pP) : sRes r < pP := by unfold sRes; split; exact Nat.mod_lt _ pP_pos; exact hr
theorem res_ng (r : Nat) : (0 + (pP - r)) % pP = ng r := by rw [Nat.zero_add]; rfl
theorem res_even (r : Nat) (hr : r < pP) : sRes r % 2 = 0 := by
  unfold sRes
  by_cases h : r % 2 = 1
  · rw [if_pos h, Nat.zero_add, Nat.mod_eq_of_lt (show pP - r < pP by omega)]
    unfold pP at *
    omega
  · rw [if_neg h]; omega
theorem res_sq (r : Nat) (hr : r < pP) : ph (sRes r) * ph (sRes r) = ph r * ph r := by
  unfold sRes
  split
  · rw [res_ng, ph_ng r hr]; grind
  · rfl
theorem even_root (x y : Nat) (hx : x < pP) (hy : y < pP) (ex : x % 2 = 0) (ey : y % 2 = 0) (h : ph x * ph x = ph y * ph y) : x = y := by
  rcases Fp_nz (ph x - ph y) (ph x + ph y) (by grind) with h1 | h1
  · exact ph_inj hx hy (by grind)
  · have e : x = ng y := ph_inj hx (ng_lt y) (by rw [ph_ng y hy]; grind)
    by_cases hy0 : y = 0
    · subst hy0; rw [e]; unfold ng; rw [Nat.sub_zero, Nat.mod_self]
    · exfalso
      unfold ng at e
      rw [Nat.mod_eq_of_lt (show pP - y < pP by omega)] at e
      unfold pP at *
      omega
/-- Where the reference finds a root, the program does, and the other way round. -/
theorem ok_same (b u v : Nat) (hb : b = 2) (hu : u < pP) (hv : v < pP) (h0 : v ≠ 0) : decide (mm (sR1 b (sQ u v)) (sR1 b (sQ u v)) = sQ u v) = rOk u v := by
  have hq := q_mul u v hv h0
  have hv0 : ph v ≠ 0 := fun e => h0 ((ph_eq_zero hv).1 e)
  rw [Bool.eq_iff_iff, decide_eq_true_eq]
  constructor
  · intro h
    have e := congrArg ph h
    rw [ph_mm] at e
    have hu2 : u = mm (mm (sR1 b (sQ u v)) (sR1 b (sQ u v))) v := by
      apply ph_inj hu (mm_lt _ _)
      rw [ph_mm, ph_mm, e]; exact hq.symm
    rw [hu2]
    exact ok_square _ v (sR1_lt _ _) hv
  · intro h
    have hs := val_sq u v h
    have hx : sQ u v = mm (rVal u v) (rVal u v) := by
      apply ph_inj (sQ_lt u v) (mm_lt _ _)
      rw [ph_mm (rVal u v)]
      rcases Fp_nz (ph v) (ph (sQ u v) - ph (rVal u v) * ph (rVal u v)) (by grind) with h3 | h3
      · exact absurd h3 hv0
      · grind
    rw [hx]
    exact r1_sq b _ hb (val_lt u v)
theorem val_same (b u v : Nat) (hv : v < pP) (h0 : v ≠ 0) (h : mm (sR1 b (sQ u v)) (sR1 b (sQ u v)) = sQ u v) (hok : rOk u v = true) : sRes (sR1 b (sQ u v)) = rVal u v := by
  have hq := q_mul u v hv h0
  have hv0 : ph v ≠ 0 := fun e => h0 ((ph_eq_zero hv).1 e)
  have e := congrArg ph h
  rw [ph_mm] at e
  have hs := val_sq u v hok
  apply even_root _ _ (res_lt _ (sR1_lt _ _)) (val_lt u v) (res_even _ (sR1_lt _ _)) (val_even u v hok)
  rw [res_sq _ (sR1_lt _ _)]
  rcases Fp_nz (ph v) (ph (sR1 b (sQ u v)) * ph (sR1 b (sQ u v)) - ph (rVal u v) * ph (rVal u v)) (by grind) with h3 | h3
  · exact absurd h3 hv0
  · grind
end Go.Proofs.YtbpmakegimgbpaaGreatDoor.F

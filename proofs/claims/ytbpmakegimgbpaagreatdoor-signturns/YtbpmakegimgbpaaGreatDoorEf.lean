/- The curve, its group, points by their numbers (5 texts in one). No program but the field's numbers. -/
import Derived.Test.YtbpmakegimgbpaaGreatDoorEe
/- X25519 on bytes: the scalar, the coordinate, and what the laws of chapter 6 say of it. No program. -/
namespace Go.Proofs.YtbpmakegimgbpaaGreatDoor
open F

theorem nb_cong (f g : Nat → Nat) : ∀ k, (∀ j, j < k → f j = g j) → nb f k = nb g k
  | 0, _ => rfl
  | k + 1, h => by rw [nb, nb, nb_cong f g k (fun j hj => h j (by omega)), h k (by omega)]
theorem nb_less (f : Nat → Nat) (hf : ∀ i, f i < 256) : ∀ k, nb f k < 2 ^ (8 * k)
  | 0 => by simp [nb]
  | k + 1 => by
    have ih := nb_less f hf k
    have h1 : f k * 2 ^ (8 * k) ≤ 255 * 2 ^ (8 * k) := Nat.mul_le_mul_right _ (by have := hf k; omega)
    rw [nb, show 8 * (k + 1) = 8 * k + 8 by omega, Nat.pow_add]
    omega
/-- A bit of bytes' number. -/
theorem nb_bit (g : Nat → Nat) (hg : ∀ i, g i < 256) : ∀ (k i : Nat), i < 8 * k → (nb g k).testBit i = (g (i / 8)).testBit (i % 8)
  | 0, i, h => by omega
  | k + 1, i, h => by
    have hl := nb_less g hg k
    rw [nb, Nat.mul_comm (g k), Nat.add_comm, Nat.testBit_two_pow_mul_add _ hl]
    by_cases hi : i < 8 * k
    · rw [if_pos hi, nb_bit g hg k i hi]
    · rw [if_neg hi, show i / 8 = k by omega, show i - 8 * k = i % 8 by omega]
theorem bit_num (x r : Nat) : x.testBit r = (x / 2 ^ r % 2 == 1) := by
  rw [Nat.testBit_eq_decide_div_mod_eq]
  by_cases h : x / 2 ^ r % 2 = 1 <;> simp [h]
/-- The scalar's bytes. -/
def clb (f : Nat → Nat) (i : Nat) : Nat := if i = 0 then f 0 / 8 * 8 else if i = 31 then f 31 % 64 + 64 else f i
/-- The coordinate's bytes. -/
def cob (f : Nat → Nat) (i : Nat) : Nat := if i = 31 then f 31 % 128 else f i
theorem clb_lt (f : Nat → Nat) (hf : ∀ i, f i < 256) (i : Nat) : clb f i < 256 := by
  unfold clb
  have := hf 0
  have := hf i
  split
  · omega
  · split <;> omega
theorem cob_lt (f : Nat → Nat) (hf : ∀ i, f i < 256) (i : Nat) : cob f i < 256 := by
  unfold cob
  have := hf i
  split <;> omega
theorem pP_pos' : 0 < pP := by unfold pP; omega
/-- A number's inverse. -/
def iN (b : Nat) : Nat := b ^ (pP - 2) % pP
theorem iN_lt (b : Nat) : iN b < pP := Nat.mod_lt _ pP_pos'
theorem iN_ok (b : Nat) (h : b < pP) : finv (cn pP b) = cn pP (iN b) := by
  apply Fin.ext
  show (cn pP b).val ^ (pP - 2) % pP = b ^ (pP - 2) % pP % pP
  rw [cn_val h, Nat.mod_mod]
theorem cn_inj {x y : Nat} (hx : x < pP) (hy : y < pP) (h : cn pP x = cn pP y) : x = y := by
  rw [← cn_val hx, ← cn_val hy, h]
/-- It can be reckoned. -/
theorem iN_run (b : Nat) : iN b = Num.pw pP 255 b (pP - 2) 1 % pP := by
  unfold iN
  rw [Num.pw_eq pP 255 b (pP - 2) 1 (by unfold pP; omega), Nat.mul_one]
end Go.Proofs.YtbpmakegimgbpaaGreatDoor
/- X25519 on bytes: RFC 7748's first example, and a step of the ladder. No program. -/
namespace Go.Proofs.YtbpmakegimgbpaaGreatDoor
open F

end Go.Proofs.YtbpmakegimgbpaaGreatDoor
/- The ladder's numbers in the field's own words: sums, differences, products and the inverse of chapter 1. -/
namespace Go.Proofs.YtbpmakegimgbpaaGreatDoor
open F

theorem iN_inv (b : Nat) (h : b < pP) : invV b = iN b := inv_pow b h
end Go.Proofs.YtbpmakegimgbpaaGreatDoor
/- The points of chapter 7 in numbers: sums, multiples, bytes and back. No program. -/
namespace Go.Proofs.YtbpmakegimgbpaaGreatDoor
open F

theorem ph_cn (a : Nat) : ph a = cn pP a := rfl
/-- A point's numbers, modulo p. -/
def cp (P : Nat × Nat) : Fin pP × Fin pP := (cn pP P.1, cn pP P.2)
def nv (Q : Fin pP × Fin pP) : Nat × Nat := (Q.1.val, Q.2.val)
theorem cn_of (x : Fin pP) : cn pP x.val = x := Fin.ext (Nat.mod_eq_of_lt x.isLt)
theorem cp_nv (Q : Fin pP × Fin pP) : cp (nv Q) = Q := Prod.ext (cn_of _) (cn_of _)
/-- A point of the curve. -/
structure Ok7 (P : Nat × Nat) : Prop where
  x : P.1 < pP
  y : P.2 < pP
  on : C7.On (cp P)
theorem nv_cp {P : Nat × Nat} (h : Ok7 P) : nv (cp P) = P := Prod.ext (cn_val h.x) (cn_val h.y)
theorem ok_nv {Q : Fin pP × Fin pP} (h : C7.On Q) : Ok7 (nv Q) := ⟨Q.1.isLt, Q.2.isLt, by rw [cp_nv]; exact h⟩
theorem cp_inj {P Q : Nat × Nat} (hP : Ok7 P) (hQ : Ok7 Q) (h : cp P = cp Q) : P = Q := by rw [← nv_cp hP, ← nv_cp hQ, h]
def zero7 : Nat × Nat := (0, 1)
theorem cp_zero : cp zero7 = C7.zero := rfl
theorem ok_zero7 : Ok7 zero7 := ⟨pP_pos', by decide +kernel, by rw [cp_zero]; exact C7.on_zero⟩
def add7 (P Q : Nat × Nat) : Nat × Nat := nv (C7.add (cp P) (cp Q))
def neg7 (P : Nat × Nat) : Nat × Nat := (ng P.1, P.2)
def mul7 (P : Nat × Nat) (n : Nat) : Nat × Nat := nv (C7.mul (cp P) n)
theorem cp_add (P Q : Nat × Nat) : cp (add7 P Q) = C7.add (cp P) (cp Q) := cp_nv _
theorem cp_mul (P : Nat × Nat) (n : Nat) : cp (mul7 P n) = C7.mul (cp P) n := cp_nv _
theorem ok_add {P Q : Nat × Nat} (hP : Ok7 P) (hQ : Ok7 Q) : Ok7 (add7 P Q) := ok_nv (C7.on_add hP.on hQ.on)
theorem ok_mul {P : Nat × Nat} (hP : Ok7 P) (n : Nat) : Ok7 (mul7 P n) := ok_nv (C7.on_mul hP.on n)
theorem cp_neg {P : Nat × Nat} (hP : Ok7 P) : cp (neg7 P) = C7.neg (cp P) := by
  apply Prod.ext
  · show cn pP (ng P.1) = - cn pP P.1
    rw [← ph_cn, ← ph_cn, ph_ng _ hP.x]
  · rfl
theorem ok_neg {P : Nat × Nat} (hP : Ok7 P) : Ok7 (neg7 P) := ⟨ng_lt _, hP.y, by rw [cp_neg hP]; exact C7.on_neg hP.on⟩
/- The group. -/
theorem add7_comm {P Q : Nat × Nat} (hP : Ok7 P) (hQ : Ok7 Q) : add7 P Q = add7 Q P := by unfold add7; rw [C7.add_comm hP.on hQ.on]
theorem add7_assoc {P Q R : Nat × Nat} (hP : Ok7 P) (hQ : Ok7 Q) (hR : Ok7 R) : add7 (add7 P Q) R = add7 P (add7 Q R) := by
  show nv (C7.add (cp (add7 P Q)) (cp R)) = nv (C7.add (cp P) (cp (add7 Q R)))
  rw [cp_add, cp_add, C7.add_assoc hP.on hQ.on hR.on]
theorem add7_zero {P : Nat × Nat} (hP : Ok7 P) : add7 P zero7 = P := by
  unfold add7
  rw [cp_zero, C7.add_zero hP.on, nv_cp hP]
theorem add7_neg {P : Nat × Nat} (hP : Ok7 P) : add7 P (neg7 P) = zero7 := by
  refine cp_inj (ok_add hP (ok_neg hP)) ok_zero7 ?_
  rw [cp_add, cp_neg hP, C7.add_neg hP.on, cp_zero]
/- Multiples. -/
theorem mul7_zero (P : Nat × Nat) : mul7 P 0 = zero7 := by
  show nv C7.zero = zero7
  rw [← cp_zero, nv_cp ok_zero7]
theorem mul7_one {P : Nat × Nat} (hP : Ok7 P) : mul7 P 1 = P := by unfold mul7; rw [C7.mul_one hP.on, nv_cp hP]
theorem mul7_succ (P : Nat × Nat) (n : Nat) : mul7 P (n + 1) = add7 (mul7 P n) P := by
  show nv (C7.add (C7.mul (cp P) n) (cp P)) = nv (C7.add (cp (mul7 P n)) (cp P))
  rw [cp_mul]
theorem mul7_add {P : Nat × Nat} (hP : Ok7 P) (m n : Nat) : mul7 P (m + n) = add7 (mul7 P m) (mul7 P n) := by
  show nv (C7.mul (cp P) (m + n)) = nv (C7.add (cp (mul7 P m)) (cp (mul7 P n)))
  rw [C7.mul_add hP.on, cp_mul, cp_mul]
theorem mul7_mul {P : Nat × Nat} (hP : Ok7 P) (m n : Nat) : mul7 P (m * n) = mul7 (mul7 P m) n := by
  show nv (C7.mul (cp P) (m * n)) = nv (C7.mul (cp (mul7 P m)) n)
  rw [C7.mul_mul hP.on, cp_mul]
theorem mul7_plus {P Q : Nat × Nat} (hP : Ok7 P) (hQ : Ok7 Q) (n : Nat) : mul7 (add7 P Q) n = add7 (mul7 P n) (mul7 Q n) := by
  show nv (C7.mul (cp (add7 P Q)) n) = nv (C7.add (cp (mul7 P n)) (cp (mul7 Q n)))
  rw [cp_add, C7.mul_plus hP.on hQ.on, cp_mul, cp_mul]
theorem mul7_none (n : Nat) : mul7 zero7 n = zero7 := by
  unfold mul7
  rw [cp_zero, C7.mul_zero, ← cp_zero, nv_cp ok_zero7]
/-- The base point. -/
def base7 : Nat × Nat := (x7N, yN)
theorem cp_base : cp base7 = b7 := rfl
theorem ok_base : Ok7 base7 := ⟨by decide +kernel, by decide +kernel, b7_on⟩
theorem base_mod (n : Nat) : mul7 base7 (n % lP) = mul7 base7 n := by
  unfold mul7
  rw [cp_base, C7.mul_mod b7_on b7_order]
/-- As the document says it: by quotients. -/
def m7 (P Q : Nat × Nat) : Nat := mm d7N (mm (mm P.1 Q.2) (mm P.2 Q.1))
theorem cn_iN (b : Nat) (h : b < pP) : cn pP (iN b) = C7.iv (cn pP b) := (iN_ok b h).symm
theorem cn_m7 (P Q : Nat × Nat) : cn pP (m7 P Q) = C7.D (cp P) (cp Q) := by
  unfold m7 Crv.D
  rw [C7_d, ← ph_cn, ph_mm, ph_mm, ph_mm, ph_mm, ph_cn, ph_cn, ph_cn, ph_cn, ph_cn]
  show _ = cn pP d7N * (cn pP P.1 * cn pP Q.1 * cn pP P.2 * cn pP Q.2)
  grind
theorem add7_eq {P Q : Nat × Nat} : add7 P Q = (mm (am (mm P.1 Q.2) (mm P.2 Q.1)) (iN (am 1 (m7 P Q))), mm (am (mm P.2 Q.2) (mm P.1 Q.1)) (iN (sm 1 (m7 P Q)))) := by
  have hm : m7 P Q < pP := mm_lt _ _
  apply Prod.ext
  · refine cn_inj (Fin.isLt _) (mm_lt _ _) ?_
    show cn pP ((C7.add (cp P) (cp Q)).1).val = _
    rw [cn_of, ← ph_cn (mm _ _), ph_mm, ph_am, ph_mm, ph_mm, ph_cn (iN _), cn_iN _ (am_lt _ _), ← ph_cn (am _ _), ph_am, ph_cn (m7 P Q), cn_m7, ph_one]
    show (cn pP P.1 * cn pP Q.2 + cn pP P.2 * cn pP Q.1) * _ = _
    rfl
  · refine cn_inj (Fin.isLt _) (mm_lt _ _) ?_
    show cn pP ((C7.add (cp P) (cp Q)).2).val = _
    rw [cn_of, ← ph_cn (mm _ _), ph_mm, ph_am, ph_mm, ph_mm, ph_cn (iN _), cn_iN _ (sm_lt _ _), ← ph_cn (sm _ _), ph_sm _ _ hm, ph_cn (m7 P Q), cn_m7, ph_one]
    show (cn pP P.2 * cn pP Q.2 - C7.a * (cn pP P.1 * cn pP Q.1)) * _ = _
    rw [C7_a]
    have e : cn pP P.2 * cn pP Q.2 - -1 * (cn pP P.1 * cn pP Q.1) = cn pP P.2 * cn pP Q.2 + cn pP P.1 * cn pP Q.1 := by grind
    rw [e]
    rfl
/- Bytes, and back. -/
def num7 (P : Nat × Nat) : Nat := P.2 + 2 ^ 255 * (P.1 % 2)
def u7 (y : Nat) : Nat := sm (mm y y) 1
def v7 (y : Nat) : Nat := am (mm d7N (mm y y)) 1
def dec7 (n : Nat) : Option (Nat × Nat) :=
  if pP ≤ n % 2 ^ 255 then none
  else if rOk (u7 (n % 2 ^ 255)) (v7 (n % 2 ^ 255)) = false ∨ rVal (u7 (n % 2 ^ 255)) (v7 (n % 2 ^ 255)) = 0 ∧ n / 2 ^ 255 % 2 = 1 then none
  else some (if n / 2 ^ 255 % 2 = 1 then ng (rVal (u7 (n % 2 ^ 255)) (v7 (n % 2 ^ 255))) else rVal (u7 (n % 2 ^ 255)) (v7 (n % 2 ^ 255)), n % 2 ^ 255)
theorem u7_ph (y : Nat) : ph (u7 y) = ph y * ph y - 1 := by
  unfold u7
  rw [ph_sm _ _ (by decide +kernel), ph_mm, ph_one]
theorem v7_ph (y : Nat) : ph (v7 y) = C7.d * (ph y * ph y) + 1 := by
  unfold v7
  rw [ph_am, ph_mm, ph_mm, ph_one]; rfl
theorem on_iff (x y : Nat) : C7.On (cp (x, y)) ↔ ph (v7 y) * (ph x * ph x) = ph (u7 y) := by
  rw [u7_ph, v7_ph]
  show C7.a * (ph x * ph x) + ph y * ph y = 1 + C7.d * (ph x * ph x) * (ph y * ph y) ↔ _
  rw [C7_a]
  generalize C7.d = d
  generalize ph x = X
  generalize ph y = Y
  constructor <;> intro h <;> grind
theorem z_one {N : Nat} [NeZero N] (d : Fin N) : d * (0 * 0) + 1 = 1 := by grind
theorem v7_ne (y : Nat) : v7 y ≠ 0 := fun h => by
  have h1 := v7_ph y
  rw [h, ph_zero] at h1
  have h2 : cn pP s7N * cn pP s7N = C7.d * (ph y * ph y) := by
    rw [← s7_sq]
    generalize C7.d = d at *
    grind
  have h3 := C7.nsq _ _ h2
  rw [h3] at h1
  rw [z_one] at h1
  exact C7.one h1.symm
theorem v7_lt (y : Nat) : v7 y < pP := am_lt _ _
theorem u7_lt (y : Nat) : u7 y < pP := sm_lt _ _
theorem ng_parity {x : Nat} (hx : x < pP) (h0 : x ≠ 0) : ng x % 2 = 1 - x % 2 := by
  have e : ng x = pP - x := by unfold ng; exact Nat.mod_eq_of_lt (by omega)
  rw [e]
  have := p_odd
  omega
theorem ng_ng {x : Nat} (hx : x < pP) : ng (ng x) = x := by
  by_cases h0 : x = 0
  · subst h0; unfold ng; rw [Nat.sub_zero, Nat.mod_self, Nat.sub_zero, Nat.mod_self]
  · have e : ng x = pP - x := by unfold ng; exact Nat.mod_eq_of_lt (by omega)
    rw [e]; unfold ng
    rw [show pP - (pP - x) = x by omega, Nat.mod_eq_of_lt hx]
theorem ng_zero : ng 0 = 0 := by unfold ng; rw [Nat.sub_zero, Nat.mod_self]
theorem ng_ne {x : Nat} (hx : x < pP) (h0 : x ≠ 0) : ng x ≠ 0 := by
  unfold ng
  rw [Nat.mod_eq_of_lt (by omega)]
  omega
/-- What is decoded is a point of the curve, and its number is what was decoded. -/
theorem dec7_ok (n : Nat) (hn : n < 2 ^ 256) (P : Nat × Nat) (h : dec7 n = some P) : Ok7 P ∧ num7 P = n := by
  unfold dec7 at h
  generalize hy : n % 2 ^ 255 = y at h
  have hq : n / 2 ^ 255 % 2 = n / 2 ^ 255 := Nat.mod_eq_of_lt (Nat.div_lt_of_lt_mul (by rw [show 2 ^ 255 * 2 = 2 ^ 256 by decide +kernel]; exact hn))
  have hdm := Nat.div_add_mod n (2 ^ 255)
  rw [hy] at hdm
  rw [hq] at h
  by_cases h1 : pP ≤ y
  · rw [if_pos h1] at h; cases h
  rw [if_neg h1] at h
  by_cases h2 : rOk (u7 y) (v7 y) = false ∨ rVal (u7 y) (v7 y) = 0 ∧ n / 2 ^ 255 = 1
  · rw [if_pos h2] at h; cases h
  rw [if_neg h2] at h
  obtain rfl := Option.some.inj h
  have hok : rOk (u7 y) (v7 y) = true := by
    cases hb : rOk (u7 y) (v7 y) with
    | true => rfl
    | false => exact absurd (Or.inl hb) h2
  have hsq := val_sq _ _ hok
  have hev := val_even _ _ hok
  have hlt := val_lt (u7 y) (v7 y)
  generalize rVal (u7 y) (v7 y) = r at *
  have hon := (on_iff r y).2 hsq
  by_cases h3 : n / 2 ^ 255 = 1
  · rw [if_pos h3]
    have hr0 : r ≠ 0 := fun e => h2 (Or.inr ⟨e, h3⟩)
    have hokr : Ok7 (r, y) := ⟨hlt, by show y < pP; omega, hon⟩
    refine ⟨ok_neg hokr, ?_⟩
    show y + 2 ^ 255 * (ng r % 2) = n
    rw [ng_parity hlt hr0, hev]
    rw [h3] at hdm
    omega
  · rw [if_neg h3]
    refine ⟨⟨hlt, by show y < pP; omega, hon⟩, ?_⟩
    show y + 2 ^ 255 * (r % 2) = n
    rw [hev]
    have h4 : n / 2 ^ 255 = 0 := by omega
    rw [h4] at hdm
    omega
/-- A point's number is decoded as the point. -/
theorem dec7_num {P : Nat × Nat} (hP : Ok7 P) : dec7 (num7 P) = some P := by
  obtain ⟨x, y⟩ := P
  have hx : x < pP := hP.x
  have hy : y < pP := hP.y
  have h255 : y < 2 ^ 255 := Nat.lt_of_lt_of_le hy (by unfold pP; omega)
  have e1 : num7 (x, y) % 2 ^ 255 = y := by
    show (y + 2 ^ 255 * (x % 2)) % 2 ^ 255 = y
    rw [Nat.add_mul_mod_self_left, Nat.mod_eq_of_lt h255]
  have e2 : num7 (x, y) / 2 ^ 255 % 2 = x % 2 := by
    show (y + 2 ^ 255 * (x % 2)) / 2 ^ 255 % 2 = x % 2
    rw [Nat.add_mul_div_left _ _ (Nat.two_pow_pos 255), Nat.div_eq_of_lt h255, Nat.zero_add, Nat.mod_mod]
  have hon := (on_iff x y).1 hP.on
  have hu : u7 y = mm (mm x x) (v7 y) := ph_inj (u7_lt y) (mm_lt _ _) (by
    rw [ph_mm, ph_mm, ← hon]; grind)
  have hok : rOk (u7 y) (v7 y) = true := by rw [hu]; exact ok_square x (v7 y) hx (v7_lt y)
  have hev := val_even _ _ hok
  have hv : rVal (u7 y) (v7 y) = x ∨ rVal (u7 y) (v7 y) = ng x := by
    rcases val_square x (v7 y) hx (v7_lt y) with h | h | h
    · left; rw [hu]; exact h
    · right; rw [hu]; exact h
    · exact absurd h (v7_ne y)
  unfold dec7
  rw [e1, e2, if_neg (by omega)]
  generalize rVal (u7 y) (v7 y) = r at *
  by_cases h0 : x = 0
  · have hr : r = 0 := by
      rcases hv with h | h
      · rw [h, h0]
      · rw [h, h0, ng_zero]
    rw [if_neg (by rw [hok, h0]; simp), h0, if_neg (by omega), hr]
  · have hp := ng_parity hx h0
    by_cases h1 : x % 2 = 1
    · have hr : r = ng x := by
        rcases hv with h | h
        · rw [h] at hev; omega
        · exact h
      have hr0 := ng_ne hx h0
      rw [if_neg (by rw [hok, hr]; simp [hr0]), if_pos h1, hr, ng_ng hx]
    · have hr : r = x := by
        rcases hv with h | h
        · exact h
        · rw [h] at hev; omega
      rw [if_neg (by rw [hok]; simp; omega), if_neg h1, hr]
theorem num7_lt {P : Nat × Nat} (hP : Ok7 P) : num7 P < 2 ^ 256 := by
  have h1 : P.2 < 2 ^ 255 := Nat.lt_of_lt_of_le hP.y (by unfold pP; omega)
  have h2 : 2 ^ 255 * (P.1 % 2) ≤ 2 ^ 255 * 1 := Nat.mul_le_mul_left _ (by omega)
  unfold num7
  have h3 : (2 : Nat) ^ 256 = 2 ^ 255 + 2 ^ 255 := by decide +kernel
  omega
end Go.Proofs.YtbpmakegimgbpaaGreatDoor
/- The points of chapter 7 by four numbers; points of little order; what awake asks. No program. -/
namespace Go.Proofs.YtbpmakegimgbpaaGreatDoor
open F

abbrev Q4 := Nat × Nat × Nat × Nat
def cq (p : Q4) : W4 pP := (cn pP p.1, cn pP p.2.1, cn pP p.2.2.1, cn pP p.2.2.2)
/-- Four numbers of a point. -/
structure Rp (P : Nat × Nat) (q : Q4) : Prop where
  x : q.1 < pP
  y : q.2.1 < pP
  z : q.2.2.1 < pP
  t : q.2.2.2 < pP
  wd : Wd (cp P) (cq q)
def dd7 : Nat := am d7N d7N
theorem dd7_cn : cn pP dd7 = C7.d + C7.d := ph_am d7N d7N
/-- The sum of two of these (RFC 8032, section 5.1.4). -/
def sum4 (p q : Q4) : Q4 :=
  let a := mm (sm p.2.1 p.1) (sm q.2.1 q.1)
  let b := mm (am p.2.1 p.1) (am q.2.1 q.1)
  let c := mm (mm p.2.2.2 dd7) q.2.2.2
  let d := am (mm p.2.2.1 q.2.2.1) (mm p.2.2.1 q.2.2.1)
  (mm (sm b a) (sm d c), mm (am d c) (am b a), mm (sm d c) (am d c), mm (sm b a) (am b a))
theorem cn_mm (a b : Nat) : cn pP (mm a b) = cn pP a * cn pP b := ph_mm a b
theorem cn_am (a b : Nat) : cn pP (am a b) = cn pP a + cn pP b := ph_am a b
theorem cn_sm (a b : Nat) (h : b < pP) : cn pP (sm a b) = cn pP a - cn pP b := ph_sm a b h
theorem cq_sum (p q : Q4) (h1 : p.1 < pP) (h2 : q.1 < pP) : cq (sum4 p q) = wsum (C7.d + C7.d) (cq p) (cq q) := by
  unfold cq sum4 wsum wE wF wG wH
  dsimp only
  simp only [cn_mm, cn_am, cn_sm _ _ h1, cn_sm _ _ h2, cn_sm _ _ (mm_lt _ _), dd7_cn]
theorem rp_sum {P Q : Nat × Nat} {p q : Q4} (hP : Ok7 P) (hQ : Ok7 Q) (h1 : Rp P p) (h2 : Rp Q q) : Rp (add7 P Q) (sum4 p q) := by
  refine ⟨mm_lt _ _, mm_lt _ _, mm_lt _ _, mm_lt _ _, ?_⟩
  rw [cq_sum p q h1.x h2.x, cp_add]
  exact C7.wsum_ok C7_a hP.on hQ.on h1.wd h2.wd
theorem rp_of {P : Nat × Nat} (hP : Ok7 P) : Rp P (P.1, P.2, 1, mm P.1 P.2) := by
  refine ⟨hP.x, hP.y, by show 1 < pP; decide +kernel, mm_lt _ _, ?_⟩
  have h := wd_of (cp P) C7.one
  unfold cq
  dsimp only
  rw [cn_mm]
  exact h
theorem rp_zero : Rp zero7 (0, 1, 1, 0) := by
  have h := rp_of ok_zero7
  have e : mm zero7.1 zero7.2 = 0 := by unfold mm zero7; dsimp only; rw [Nat.zero_mul, Nat.zero_mod]
  rw [e] at h
  exact h
/-- What four numbers are of. -/
theorem rp_out {P : Nat × Nat} {q : Q4} (hP : Ok7 P) (h : Rp P q) : (mm q.1 (iN q.2.2.1), mm q.2.1 (iN q.2.2.1)) = P := by
  have h1 := C7.wd_out h.wd
  have hz := cn_iN q.2.2.1 h.z
  apply Prod.ext
  · refine cn_inj (mm_lt _ _) hP.x ?_
    rw [cn_mm, hz]; exact congrArg Prod.fst h1
  · refine cn_inj (mm_lt _ _) hP.y ?_
    rw [cn_mm, hz]; exact congrArg Prod.snd h1
/-- Whether two are of the same point. -/
theorem rp_same {P Q : Nat × Nat} {p q : Q4} (hP : Ok7 P) (hQ : Ok7 Q) (h1 : Rp P p) (h2 : Rp Q q) : P = Q ↔ mm p.1 q.2.2.1 = mm q.1 p.2.2.1 ∧ mm p.2.1 q.2.2.1 = mm q.2.1 p.2.2.1 := by
  obtain ⟨hz1, e1, e2, _⟩ := h1.wd
  obtain ⟨hz2, f1, f2, _⟩ := h2.wd
  have hzz := C7.ne_mul hz1 hz2
  constructor
  · rintro rfl
    constructor
    · refine cn_inj (mm_lt _ _) (mm_lt _ _) ?_
      rw [cn_mm, cn_mm]
      show (cq p).1 * (cq q).2.2.1 = (cq q).1 * (cq p).2.2.1
      rw [e1, f1]
      generalize (cq p).2.2.1 = a
      generalize (cq q).2.2.1 = b
      generalize (cp P).1 = c
      grind
    · refine cn_inj (mm_lt _ _) (mm_lt _ _) ?_
      rw [cn_mm, cn_mm]
      show (cq p).2.1 * (cq q).2.2.1 = (cq q).2.1 * (cq p).2.2.1
      rw [e2, f2]
      generalize (cq p).2.2.1 = a
      generalize (cq q).2.2.1 = b
      generalize (cp P).2 = c
      grind
  · rintro ⟨g1, g2⟩
    have k1 : (cq p).1 * (cq q).2.2.1 = (cq q).1 * (cq p).2.2.1 := by
      show cn pP p.1 * cn pP q.2.2.1 = cn pP q.1 * cn pP p.2.2.1
      rw [← cn_mm, ← cn_mm, g1]
    have k2 : (cq p).2.1 * (cq q).2.2.1 = (cq q).2.1 * (cq p).2.2.1 := by
      show cn pP p.2.1 * cn pP q.2.2.1 = cn pP q.2.1 * cn pP p.2.2.1
      rw [← cn_mm, ← cn_mm, g2]
    rw [e1, f1] at k1
    rw [e2, f2] at k2
    refine cp_inj hP hQ (Prod.ext (C7.cancel hzz ?_) (C7.cancel hzz ?_))
    · generalize (cq p).2.2.1 = a at *
      generalize (cq q).2.2.1 = b at *
      generalize (cp P).1 = c at *
      generalize (cp Q).1 = d at *
      clear e1 e2 f1 f2 k2 hzz hz1 hz2
      grind
    · generalize (cq p).2.2.1 = a at *
      generalize (cq q).2.2.1 = b at *
      generalize (cp P).2 = c at *
      generalize (cp Q).2 = d at *
      clear e1 e2 f1 f2 k1 hzz hz1 hz2
      grind
/-- Bit by bit, the highest first. -/
def bit4 (q r : Q4) (b : Bool) : Q4 := cond b (sum4 (sum4 r r) q) (sum4 r r)
theorem rp_bit {P : Nat × Nat} {q r : Q4} (hP : Ok7 P) (h : Rp P q) (n : Nat) (hr : Rp (mul7 P n) r) (b : Bool) : Rp (mul7 P (2 * n + b.toNat)) (bit4 q r b) := by
  have h2 := rp_sum (ok_mul hP n) (ok_mul hP n) hr hr
  rw [← mul7_add hP, show n + n = 2 * n by omega] at h2
  cases b with
  | false => exact h2
  | true =>
    have h3 := rp_sum (ok_mul hP _) hP h2 h
    rw [← mul7_succ] at h3
    exact h3
theorem rp_bits {P : Nat × Nat} {q : Q4} (hP : Ok7 P) (h : Rp P q) : ∀ (bits : List Bool) (n : Nat) (r : Q4), Rp (mul7 P n) r → Rp (mul7 P (bnum n bits)) (bits.foldl (bit4 q) r)
  | [], _, _, hr => hr
  | b :: bits, n, _, hr => rp_bits hP h bits _ _ (rp_bit hP h n hr b)
/-- A point as often as a number of 256 bits says. -/
theorem rp_mul {P : Nat × Nat} {q : Q4} (hP : Ok7 P) (h : Rp P q) (n : Nat) (hn : n < 2 ^ 256) : Rp (mul7 P n) ((nbits n 256).foldl (bit4 q) (0, 1, 1, 0)) := by
  have h1 := rp_bits hP h (nbits n 256) 0 (0, 1, 1, 0) (by rw [mul7_zero]; exact rp_zero)
  rw [bnum_nbits, Nat.zero_mul, Nat.zero_add, Nat.mod_eq_of_lt hn] at h1
  exact h1
/- The base point; what awake asks. -/
theorem num_base : num7 base7 = yN := by decide +kernel
theorem dec_base : dec7 yN = some base7 := by rw [← num_base]; exact dec7_num ok_base
theorem base_y : mm 4 (iN 5) = yN := by rw [iN_run]; decide +kernel
/- d, as the document says it. -/
theorem d7_eq : sm 0 (mm 121665 (iN 121666)) = d7N := by rw [iN_run]; decide +kernel
/- Points of little order. -/
end Go.Proofs.YtbpmakegimgbpaaGreatDoor

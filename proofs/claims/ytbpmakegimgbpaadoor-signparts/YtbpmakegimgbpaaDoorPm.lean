/- What twice and plus tell of points; several multiples together. No program. -/
import Derived.Test.YtbpmakegimgbpaaDoorPe
namespace Go.Proofs.YtbpmakegimgbpaaDoor
open F

theorem mm_one {z : Nat} (hz : z < pP) : mm z 1 = z := by unfold mm; rw [Nat.mul_one, Nat.mod_eq_of_lt hz]
theorem mm_assoc' (a b c : Nat) : mm a (mm b c) = mm (mm a b) c := by
  apply ph_inj (mm_lt _ _) (mm_lt _ _)
  rw [ph_mm, ph_mm, ph_mm, ph_mm]
  generalize ph a = a
  generalize ph b = b
  generalize ph c = c
  grind
/-- A point as it is reckoned with, and as it is added. -/
abbrev q4 (Q : Nat × Nat) : Q4 := (Q.1, Q.2, 1, mm Q.1 Q.2)
abbrev pt (P : Nat × Nat) : Array Value := ps [P.1, sm P.2 1]
abbrev ad (Q : Nat × Nat) : Array Value := ps [am Q.2 Q.1, sm Q.2 Q.1, mm dd7 (mm Q.1 Q.2)]
abbrev mq (f : Nat → Nat) (Q : Nat × Nat) : Array Value := mu f [am Q.2 Q.1, sm Q.2 Q.1, mm dd7 (mm Q.1 Q.2)]
theorem pl4_sum (x y z t : Nat) (Q : Nat × Nat) (hz : z < pP) : pl4 x y z t (am Q.2 Q.1) (sm Q.2 Q.1) (mm dd7 (mm Q.1 Q.2)) = sum4 (x, y, z, t) (q4 Q) := by
  unfold pl4 sum4
  dsimp only
  rw [mm_one hz, mm_assoc']
section
variable {N : Nat} [NeZero N]
theorem z_e (x y Z : Fin N) : (x * Z + y * Z) * (x * Z + y * Z) - x * Z * (x * Z) - y * Z * (y * Z) = Z * Z * (x * y + y * x) := by grind
theorem z_g (x y Z d : Fin N) (h : -1 * (x * x) + y * y = 1 + d * (x * x) * (y * y)) : y * Z * (y * Z) - x * Z * (x * Z) = Z * Z * (1 + d * (x * x * y * y)) := by grind
theorem z_f (a Z D : Fin N) (h : a = Z * Z * (1 + D)) : a - (Z * Z + Z * Z) = -(Z * Z * (1 - D)) := by grind
theorem z_h (x y Z : Fin N) : -(x * Z * (x * Z) + y * Z * (y * Z)) = -(Z * Z * (y * y - -1 * (x * x))) := by grind
theorem Crv.twice_ok (C : Crv N) (ha : C.a = -1) {P : Fin N × Fin N} {p : W4 N} (hP : C.On P) (h1 : Wd P p) (e f g h : Fin N)
    (he : e = (p.1 + p.2.1) * (p.1 + p.2.1) - p.1 * p.1 - p.2.1 * p.2.1) (hg : g = p.2.1 * p.2.1 - p.1 * p.1) (hf : f = g - (p.2.2.1 * p.2.2.1 + p.2.2.1 * p.2.2.1)) (hh : h = -(p.1 * p.1 + p.2.1 * p.2.1)) : Wd (C.add P P) (e * f, g * h, f * g, e * h) := by
  have hx := C.add_x hP hP
  have hy := C.add_y hP hP
  have hp := C.plus hP hP
  have hl := C.less hP hP
  have hon : C.a * (P.1 * P.1) + P.2 * P.2 = 1 + C.d * (P.1 * P.1) * (P.2 * P.2) := hP
  rw [ha] at hy hon
  generalize C.add P P = R at *
  unfold Crv.D at *
  obtain ⟨x, y⟩ := P
  obtain ⟨x3, y3⟩ := R
  obtain ⟨X, Y, Z, T⟩ := p
  obtain ⟨hz, e1, e2, e3⟩ := h1
  dsimp only at *
  subst e1 e2 e3
  have hzz := C.ne_mul hz hz
  rw [z_e] at he
  rw [z_g _ _ _ _ hon] at hg
  have hf' := z_f g Z _ hg
  rw [← hf] at hf'
  rw [z_h] at hh
  rw [← hx] at he
  rw [← hy] at hh
  have hfn : f ≠ 0 := by
    intro h0
    refine C.ne_mul hzz hl ?_
    rw [h0] at hf'
    clear hf hg he hh hx hy hon
    grind
  have hgn : g ≠ 0 := by rw [hg]; exact C.ne_mul hzz hp
  generalize C.d * (x * x * y * y) = D at *
  clear hf hx hy hon hp hl hP ha
  refine ⟨C.ne_mul hfn hgn, ?_, ?_, ?_⟩
  · dsimp only; rw [he, hg]; generalize Z * Z = s; clear hf' hh hfn hgn; grind
  · dsimp only; rw [hh, hf']; generalize Z * Z = s; clear hfn hgn; grind
  · dsimp only; rw [he, hh, hg, hf']; generalize Z * Z = s; clear hfn hgn; grind
end
theorem cn_ng {a : Nat} (h : a < pP) : cn pP (ng a) = - cn pP a := ph_ng a h
/-- A point and itself. -/
theorem rp_dbl {P : Nat × Nat} {r : Q4} (hP : Ok7 P) (h : Rp P r) : Rp (add7 P P) (dbl4 r.1 r.2.1 r.2.2.1) := by
  refine ⟨mm_lt _ _, mm_lt _ _, mm_lt _ _, mm_lt _ _, ?_⟩
  rw [cp_add]
  have h1 := C7.twice_ok C7_a hP.on h.wd (cn pP (dE r.1 r.2.1)) (cn pP (dF r.1 r.2.1 r.2.2.1)) (cn pP (dG r.1 r.2.1)) (cn pP (dH r.1 r.2.1))
    (by unfold dE cq; dsimp only; rw [cn_sm _ _ (mm_lt _ _), cn_sm _ _ (mm_lt _ _), cn_mm, cn_mm, cn_mm, cn_am])
    (by unfold dG cq; dsimp only; rw [cn_sm _ _ (mm_lt _ _), cn_mm, cn_mm])
    (by unfold dF cq; dsimp only; rw [cn_sm _ _ (am_lt _ _), cn_am, cn_mm])
    (by unfold dH cq; dsimp only; rw [cn_ng (am_lt _ _), cn_am, cn_mm, cn_mm])
  unfold cq dbl4
  dsimp only
  simp only [cn_mm]
  exact h1
/-! ### Several multiples together, bit by bit, the highest first -/
abbrev Mult := (Nat → Nat) × (Nat × Nat)
def bitP (k : Nat) (m : Mult) : Nat × Nat := cond ((nb m.1 32).testBit k) m.2 zero7
def addM (k : Nat) (S : Nat × Nat) (m : Mult) : Nat × Nat := add7 S (bitP k m)
def totP (l : List Mult) : Nat → Nat × Nat
  | 0 => zero7
  | i + 1 => l.foldl (addM (255 - i)) (add7 (totP l i) (totP l i))
theorem ok_bit {k : Nat} {m : Mult} (h : Ok7 m.2) : Ok7 (bitP k m) := by
  unfold bitP
  cases (nb m.1 32).testBit k
  · exact ok_zero7
  · exact h
theorem ok_fold {k : Nat} : ∀ (l : List Mult) (S : Nat × Nat), (∀ m ∈ l, Ok7 m.2) → Ok7 S → Ok7 (l.foldl (addM k) S)
  | [], _, _, h => h
  | m :: l, _, hl, h => ok_fold l _ (fun x hx => hl x (List.mem_cons_of_mem _ hx)) (ok_add h (ok_bit (hl m (List.mem_cons_self))))
theorem ok_tot (l : List Mult) (hl : ∀ m ∈ l, Ok7 m.2) : ∀ i, Ok7 (totP l i)
  | 0 => ok_zero7
  | i + 1 => ok_fold l _ hl (ok_add (ok_tot l hl i) (ok_tot l hl i))
theorem bit_mul {k : Nat} {f : Nat → Nat} {P : Nat × Nat} (hP : Ok7 P) : bitP k (f, P) = mul7 P ((nb f 32).testBit k).toNat := by
  unfold bitP
  dsimp only
  cases (nb f 32).testBit k
  · exact (mul7_zero P).symm
  · exact (mul7_one hP).symm
theorem bit_div (n i : Nat) (hi : i < 256) : n / 2 ^ (256 - i) + n / 2 ^ (256 - i) + (n.testBit (255 - i)).toNat = n / 2 ^ (256 - (i + 1)) := by
  rw [Nat.toNat_testBit, show 256 - (i + 1) = 255 - i by omega, show 256 - i = (255 - i) + 1 by omega, Nat.pow_succ, ← Nat.div_div_eq_div_mul]
  omega
theorem tot_one {f : Nat → Nat} {P : Nat × Nat} (hP : Ok7 P) (hn : nb f 32 < 2 ^ 256) : ∀ i, i ≤ 256 → totP [(f, P)] i = mul7 P (nb f 32 / 2 ^ (256 - i))
  | 0, _ => by rw [Nat.sub_zero, Nat.div_eq_of_lt hn, mul7_zero]; rfl
  | i + 1, hi => by
    show addM (255 - i) (add7 (totP [(f, P)] i) (totP [(f, P)] i)) (f, P) = _
    unfold addM
    rw [tot_one hP hn i (by omega), bit_mul hP, ← mul7_add hP, ← mul7_add hP, bit_div _ _ (by omega)]
theorem add_four {a b c d : Nat × Nat} (ha : Ok7 a) (hb : Ok7 b) (hc : Ok7 c) (hd : Ok7 d) : add7 (add7 a b) (add7 c d) = add7 (add7 a c) (add7 b d) := by
  rw [add7_assoc ha hb (ok_add hc hd), ← add7_assoc hb hc hd, add7_comm hb hc, add7_assoc hc hb hd, ← add7_assoc ha hc (ok_add hb hd)]
theorem tot_two {f g : Nat → Nat} {P Q : Nat × Nat} (hP : Ok7 P) (hQ : Ok7 Q) (hn : nb f 32 < 2 ^ 256) (hm : nb g 32 < 2 ^ 256) : ∀ i, i ≤ 256 → totP [(f, P), (g, Q)] i = add7 (mul7 P (nb f 32 / 2 ^ (256 - i))) (mul7 Q (nb g 32 / 2 ^ (256 - i)))
  | 0, _ => by rw [Nat.sub_zero, Nat.div_eq_of_lt hn, Nat.div_eq_of_lt hm, mul7_zero, mul7_zero, add7_zero ok_zero7]; rfl
  | i + 1, hi => by
    show addM (255 - i) (addM (255 - i) (add7 (totP [(f, P), (g, Q)] i) (totP [(f, P), (g, Q)] i)) (f, P)) (g, Q) = _
    unfold addM
    rw [tot_two hP hQ hn hm i (by omega), bit_mul hP, bit_mul hQ]
    generalize nb f 32 = n
    generalize nb g 32 = m
    rw [add_four (ok_mul hP _) (ok_mul hQ _) (ok_mul hP _) (ok_mul hQ _), ← mul7_add hP, ← mul7_add hQ, add7_assoc (ok_add (ok_mul hP _) (ok_mul hQ _)) (ok_mul hP _) (ok_mul hQ _), add_four (ok_mul hP _) (ok_mul hQ _) (ok_mul hP _) (ok_mul hQ _), ← mul7_add hP, ← mul7_add hQ, bit_div _ _ (by omega), bit_div _ _ (by omega)]
/-- The cells of multiples, one behind the other. -/
def sl : List Mult → Array Value
  | [] => #[]
  | m :: l => mq m.1 m.2 ++ sl l
theorem mq_size (f : Nat → Nat) (Q : Nat × Nat) : (mq f Q).size = 44 := by
  show (vals .u8 32 f ++ ps [_, _, _]).size = 44
  rw [Array.size_append, vals_size]
  unfold ps
  rw [vals_size]
  rfl
theorem sl_get : ∀ (l : List Mult) (j : Nat) (m : Mult), l[j]? = some m → ∀ i, i < 44 → (sl l)[44 * j + i]? = (mq m.1 m.2)[i]?
  | [], _, _, h, _, _ => by simp at h
  | x :: l, 0, m, h, i, hi => by
    simp at h
    subst h
    rw [Nat.mul_zero, Nat.zero_add]
    show (mq x.1 x.2 ++ sl l)[i]? = _
    rw [Array.getElem?_append_left (by rw [mq_size]; exact hi)]
  | x :: l, j + 1, m, h, i, hi => by
    simp at h
    show (mq x.1 x.2 ++ sl l)[44 * (j + 1) + i]? = _
    rw [Array.getElem?_append_right (by rw [mq_size]; omega), mq_size, show 44 * (j + 1) + i - 44 = 44 * j + i by omega]
    exact sl_get l j m h i hi
theorem sl_range {w : World} {b : Nat} {t : TypeId} {l : List Mult} (h : Blk w b (sl l) t) (j : Nat) (m : Mult) (hj : l[j]? = some m) : w.rangeAt b (44 * j) (mq m.1 m.2).toList := fun i v hv => by
  have hi : i < 44 := by
    have := (List.getElem?_eq_some_iff.1 hv).1
    rw [Array.length_toList, mq_size] at this
    exact this
  rw [h.cell, sl_get l j m hj i hi]
  rw [Array.getElem?_toList] at hv
  exact hv
end Go.Proofs.YtbpmakegimgbpaaDoor

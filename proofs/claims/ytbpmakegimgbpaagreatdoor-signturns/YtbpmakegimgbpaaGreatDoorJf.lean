/- Texts in one: Pm Pf Pg. -/
import Derived.Test.YtbpmakegimgbpaaGreatDoorGe
namespace Go.Proofs.YtbpmakegimgbpaaGreatDoor
open F

theorem mm_one {z : Nat} (hz : z < pP) : mm z 1 = z := by unfold mm; rw [Nat.mul_one, Nat.mod_eq_of_lt hz]
theorem mm_assoc' (a b c : Nat) : mm a (mm b c) = mm (mm a b) c := by
  apply ph_inj (mm_lt _ _) (mm_lt _ _)
  rw [ph_mm, ph_mm, ph_mm, ph_mm]
  generalize ph a = a
  generalize ph b = b
  generalize ph c = c
  grind
/-- A point as it is reckoned with, and as it is added. -/
abbrev q4 (Q : Nat × Nat) : Q4 := (Q.1, Q.2, 1, mm Q.1 Q.2)
abbrev pt (P : Nat × Nat) : Array Value := ps [P.1, sm P.2 1]
abbrev ad (Q : Nat × Nat) : Array Value := ps [am Q.2 Q.1, sm Q.2 Q.1, mm dd7 (mm Q.1 Q.2)]
abbrev mq (f : Nat → Nat) (Q : Nat × Nat) : Array Value := mu f [am Q.2 Q.1, sm Q.2 Q.1, mm dd7 (mm Q.1 Q.2)]
theorem pl4_sum (x y z t : Nat) (Q : Nat × Nat) (hz : z < pP) : pl4 x y z t (am Q.2 Q.1) (sm Q.2 Q.1) (mm dd7 (mm Q.1 Q.2)) = sum4 (x, y, z, t) (q4 Q) := by
  unfold pl4 sum4
  dsimp only
  rw [mm_one hz, mm_assoc']
section
variable {N : Nat} [NeZero N]
theorem z_e (x y Z : Fin N) : (x * Z + y * Z) * (x * Z + y * Z) - x * Z * (x * Z) - y * Z * (y * Z) = Z * Z * (x * y + y * x) := by grind
theorem z_g (x y Z d : Fin N) (h : -1 * (x * x) + y * y = 1 + d * (x * x) * (y * y)) : y * Z * (y * Z) - x * Z * (x * Z) = Z * Z * (1 + d * (x * x * y * y)) := by grind
theorem z_f (a Z D : Fin N) (h : a = Z * Z * (1 + D)) : a - (Z * Z + Z * Z) = -(Z * Z * (1 - D)) := by grind
theorem z_h (x y Z : Fin N) : -(x * Z * (x * Z) + y * Z * (y * Z)) = -(Z * Z * (y * y - -1 * (x * x))) := by grind
theorem Crv.twice_ok (C : Crv N) (ha : C.a = -1) {P : Fin N × Fin N} {p : W4 N} (hP : C.On P) (h1 : Wd P p) (e f g h : Fin N)
    (he : e = (p.1 + p.2.1) * (p.1 + p.2.1) - p.1 * p.1 - p.2.1 * p.2.1) (hg : g = p.2.1 * p.2.1 - p.1 * p.1) (hf : f = g - (p.2.2.1 * p.2.2.1 + p.2.2.1 * p.2.2.1)) (hh : h = -(p.1 * p.1 + p.2.1 * p.2.1)) : Wd (C.add P P) (e * f, g * h, f * g, e * h) := by
  have hx := C.add_x hP hP
  have hy := C.add_y hP hP
  have hp := C.plus hP hP
  have hl := C.less hP hP
  have hon : C.a * (P.1 * P.1) + P.2 * P.2 = 1 + C.d * (P.1 * P.1) * (P.2 * P.2) := hP
  rw [ha] at hy hon
  generalize C.add P P = R at *
  unfold Crv.D at *
  obtain ⟨x, y⟩ := P
  obtain ⟨x3, y3⟩ := R
  obtain ⟨X, Y, Z, T⟩ := p
  obtain ⟨hz, e1, e2, e3⟩ := h1
  dsimp only at *
  subst e1 e2 e3
  have hzz := C.ne_mul hz hz
  rw [z_e] at he
  rw [z_g _ _ _ _ hon] at hg
  have hf' := z_f g Z _ hg
  rw [← hf] at hf'
  rw [z_h] at hh
  rw [← hx] at he
  rw [← hy] at hh
  have hfn : f ≠ 0 := by
    intro h0
    refine C.ne_mul hzz hl ?_
    rw [h0] at hf'
    clear hf hg he hh hx hy hon
    grind
  have hgn : g ≠ 0 := by rw [hg]; exact C.ne_mul hzz hp
  generalize C.d * (x * x * y * y) = D at *
  clear hf hx hy hon hp hl hP ha
  refine ⟨C.ne_mul hfn hgn, ?_, ?_, ?_⟩
  · dsimp only; rw [he, hg]; generalize Z * Z = s; clear hf' hh hfn hgn; grind
  · dsimp only; rw [hh, hf']; generalize Z * Z = s; clear hfn hgn; grind
  · dsimp only; rw [he, hh, hg, hf']; generalize Z * Z = s; clear hfn hgn; grind
end
theorem cn_ng {a : Nat} (h : a < pP) : cn pP (ng a) = - cn pP a := ph_ng a h
/-- A point and itself. -/
theorem rp_dbl {P : Nat × Nat} {r : Q4} (hP : Ok7 P) (h : Rp P r) : Rp (add7 P P) (dbl4 r.1 r.2.1 r.2.2.1) := by
  refine ⟨mm_lt _ _, mm_lt _ _, mm_lt _ _, mm_lt _ _, ?_⟩
  rw [cp_add]
  have h1 := C7.twice_ok C7_a hP.on h.wd (cn pP (dE r.1 r.2.1)) (cn pP (dF r.1 r.2.1 r.2.2.1)) (cn pP (dG r.1 r.2.1)) (cn pP (dH r.1 r.2.1))
    (by unfold dE cq; dsimp only; rw [cn_sm _ _ (mm_lt _ _), cn_sm _ _ (mm_lt _ _), cn_mm, cn_mm, cn_mm, cn_am])
    (by unfold dG cq; dsimp only; rw [cn_sm _ _ (mm_lt _ _), cn_mm, cn_mm])
    (by unfold dF cq; dsimp only; rw [cn_sm _ _ (am_lt _ _), cn_am, cn_mm])
    (by unfold dH cq; dsimp only; rw [cn_ng (am_lt _ _), cn_am, cn_mm, cn_mm])
  unfold cq dbl4
  dsimp only
  simp only [cn_mm]
  exact h1
/-! ### Several multiples together, bit by bit, the highest first -/
abbrev Mult := (Nat → Nat) × (Nat × Nat)
def bitP (k : Nat) (m : Mult) : Nat × Nat := cond ((nb m.1 32).testBit k) m.2 zero7
def addM (k : Nat) (S : Nat × Nat) (m : Mult) : Nat × Nat := add7 S (bitP k m)
def totP (l : List Mult) : Nat → Nat × Nat
  | 0 => zero7
  | i + 1 => l.foldl (addM (255 - i)) (add7 (totP l i) (totP l i))
theorem ok_bit {k : Nat} {m : Mult} (h : Ok7 m.2) : Ok7 (bitP k m) := by
  unfold bitP
  cases (nb m.1 32).testBit k
  · exact ok_zero7
  · exact h
theorem ok_fold {k : Nat} : ∀ (l : List Mult) (S : Nat × Nat), (∀ m ∈ l, Ok7 m.2) → Ok7 S → Ok7 (l.foldl (addM k) S)
  | [], _, _, h => h
  | m :: l, _, hl, h => ok_fold l _ (fun x hx => hl x (List.mem_cons_of_mem _ hx)) (ok_add h (ok_bit (hl m (List.mem_cons_self))))
theorem ok_tot (l : List Mult) (hl : ∀ m ∈ l, Ok7 m.2) : ∀ i, Ok7 (totP l i)
  | 0 => ok_zero7
  | i + 1 => ok_fold l _ hl (ok_add (ok_tot l hl i) (ok_tot l hl i))
theorem bit_mul {k : Nat} {f : Nat → Nat} {P : Nat × Nat} (hP : Ok7 P) : bitP k (f, P) = mul7 P ((nb f 32).testBit k).toNat := by
  unfold bitP
  dsimp only
  cases (nb f 32).testBit k
  · exact (mul7_zero P).symm
  · exact (mul7_one hP).symm
theorem bit_div (n i : Nat) (hi : i < 256) : n / 2 ^ (256 - i) + n / 2 ^ (256 - i) + (n.testBit (255 - i)).toNat = n / 2 ^ (256 - (i + 1)) := by
  rw [Nat.toNat_testBit, show 256 - (i + 1) = 255 - i by omega, show 256 - i = (255 - i) + 1 by omega, Nat.pow_succ, ← Nat.div_div_eq_div_mul]
  omega
theorem tot_one {f : Nat → Nat} {P : Nat × Nat} (hP : Ok7 P) (hn : nb f 32 < 2 ^ 256) : ∀ i, i ≤ 256 → totP [(f, P)] i = mul7 P (nb f 32 / 2 ^ (256 - i))
  | 0, _ => by rw [Nat.sub_zero, Nat.div_eq_of_lt hn, mul7_zero]; rfl
  | i + 1, hi => by
    show addM (255 - i) (add7 (totP [(f, P)] i) (totP [(f, P)] i)) (f, P) = _
    unfold addM
    rw [tot_one hP hn i (by omega), bit_mul hP, ← mul7_add hP, ← mul7_add hP, bit_div _ _ (by omega)]
theorem add_four {a b c d : Nat × Nat} (ha : Ok7 a) (hb : Ok7 b) (hc : Ok7 c) (hd : Ok7 d) : add7 (add7 a b) (add7 c d) = add7 (add7 a c) (add7 b d) := by
  rw [add7_assoc ha hb (ok_add hc hd), ← add7_assoc hb hc hd, add7_comm hb hc, add7_assoc hc hb hd, ← add7_assoc ha hc (ok_add hb hd)]
theorem tot_two {f g : Nat → Nat} {P Q : Nat × Nat} (hP : Ok7 P) (hQ : Ok7 Q) (hn : nb f 32 < 2 ^ 256) (hm : nb g 32 < 2 ^ 256) : ∀ i, i ≤ 256 → totP [(f, P), (g, Q)] i = add7 (mul7 P (nb f 32 / 2 ^ (256 - i))) (mul7 Q (nb g 32 / 2 ^ (256 - i)))
  | 0, _ => by rw [Nat.sub_zero, Nat.div_eq_of_lt hn, Nat.div_eq_of_lt hm, mul7_zero, mul7_zero, add7_zero ok_zero7]; rfl
  | i + 1, hi => by
    show addM (255 - i) (addM (255 - i) (add7 (totP [(f, P), (g, Q)] i) (totP [(f, P), (g, Q)] i)) (f, P)) (g, Q) = _
    unfold addM
    rw [tot_two hP hQ hn hm i (by omega), bit_mul hP, bit_mul hQ]
    generalize nb f 32 = n
    generalize nb g 32 = m
    rw [add_four (ok_mul hP _) (ok_mul hQ _) (ok_mul hP _) (ok_mul hQ _), ← mul7_add hP, ← mul7_add hQ, add7_assoc (ok_add (ok_mul hP _) (ok_mul hQ _)) (ok_mul hP _) (ok_mul hQ _), add_four (ok_mul hP _) (ok_mul hQ _) (ok_mul hP _) (ok_mul hQ _), ← mul7_add hP, ← mul7_add hQ, bit_div _ _ (by omega), bit_div _ _ (by omega)]
/-- The cells of multiples, one behind the other. -/
def sl : List Mult → Array Value
  | [] => #[]
  | m :: l => mq m.1 m.2 ++ sl l
theorem mq_size (f : Nat → Nat) (Q : Nat × Nat) : (mq f Q).size = 44 := by
  show (vals .u8 32 f ++ ps [_, _, _]).size = 44
  rw [Array.size_append, vals_size]
  unfold ps
  rw [vals_size]
  rfl
theorem sl_get : ∀ (l : List Mult) (j : Nat) (m : Mult), l[j]? = some m → ∀ i, i < 44 → (sl l)[44 * j + i]? = (mq m.1 m.2)[i]?
  | [], _, _, h, _, _ => by simp at h
  | x :: l, 0, m, h, i, hi => by
    simp at h
    subst h
    rw [Nat.mul_zero, Nat.zero_add]
    show (mq x.1 x.2 ++ sl l)[i]? = _
    rw [Array.getElem?_append_left (by rw [mq_size]; exact hi)]
  | x :: l, j + 1, m, h, i, hi => by
    simp at h
    show (mq x.1 x.2 ++ sl l)[44 * (j + 1) + i]? = _
    rw [Array.getElem?_append_right (by rw [mq_size]; omega), mq_size, show 44 * (j + 1) + i - 44 = 44 * j + i by omega]
    exact sl_get l j m h i hi
theorem sl_range {w : World} {b : Nat} {t : TypeId} {l : List Mult} (h : Blk w b (sl l) t) (j : Nat) (m : Mult) (hj : l[j]? = some m) : w.rangeAt b (44 * j) (mq m.1 m.2).toList := fun i v hv => by
  have hi : i < 44 := by
    have := (List.getElem?_eq_some_iff.1 hv).1
    rw [Array.length_toList, mq_size] at this
    exact this
  rw [h.cell, sl_get l j m hj i hi]
  rw [Array.getElem?_toList] at hv
  exact hv
end Go.Proofs.YtbpmakegimgbpaaGreatDoor
namespace Go.Proofs.YtbpmakegimgbpaaGreatDoor
set_option maxRecDepth 100000
open F Go.RowKit

theorem rec_p {P : Nat × Nat} (hP : Ok7 P) (w : World) : Ret 100 #[.agg (pt P)] w (.agg (pq (q4 P))) := by
  have h := reckoned_c P.1 (sm P.2 1) hP.x (sm_lt _ _) w
  rw [sm_am hP.y] at h
  exact h
theorem add_p {P : Nat × Nat} (hP : Ok7 P) (w : World) : Ret 63 #[.agg (pt P)] w (.agg (ad P)) := by
  have h := addendOf_c P.1 (sm P.2 1) hP.x (sm_lt _ _) w
  rw [sm_am hP.y] at h
  exact h
theorem plus_p {P Q : Nat × Nat} {r : Q4} (h : Rp P r) (w : World) : Ret 102 #[.agg (pq r), .agg (ad Q)] w (.agg (pq (sum4 r (q4 Q)))) := by
  have h1 := plus_c r.1 r.2.1 r.2.2.1 r.2.2.2 (am Q.2 Q.1) (sm Q.2 Q.1) (mm dd7 (mm Q.1 Q.2)) h.x h.y h.z h.t (am_lt _ _) (sm_lt _ _) (mm_lt _ _) w
  rw [pl4_sum _ _ _ _ _ h.z] at h1
  exact h1
theorem twice_p {P : Nat × Nat} {r : Q4} (h : Rp P r) (w : World) : Ret 101 #[.agg (ps [r.1, r.2.1, r.2.2.1])] w (.agg (pq (dbl4 r.1 r.2.1 r.2.2.1))) := twice_c _ _ _ h.x h.y h.z w
theorem whole_p {P : Nat × Nat} {r : Q4} (hP : Ok7 P) (h : Rp P r) (w : World) : Ret 104 #[.agg (ps [r.1, r.2.1, r.2.2.1])] w (.agg (pt P)) := by
  have h1 := whole_c _ _ _ h.x h.y h.z w
  have h2 := rp_out hP h
  rw [show mm r.1 (iN r.2.2.1) = P.1 from congrArg Prod.fst h2, show mm r.2.1 (iN r.2.2.1) = P.2 from congrArg Prod.snd h2] at h1
  exact h1
theorem cond_ap (F : Nat × Nat → Nat) (c : Bool) (P Z : Nat × Nat) : cond c (F P) (F Z) = F (cond c P Z) := by cases c <;> rfl
theorem ad_cond (c : Bool) (P Z : Nat × Nat) : ps [cond c (am P.2 P.1) (am Z.2 Z.1), cond c (sm P.2 P.1) (sm Z.2 Z.1), cond c (mm dd7 (mm P.1 P.2)) (mm dd7 (mm Z.1 Z.2))] = ad (cond c P Z) := by
  have e1 := cond_ap (fun Q => am Q.2 Q.1) c P Z
  have e2 := cond_ap (fun Q => sm Q.2 Q.1) c P Z
  have e3 := cond_ap (fun Q => mm dd7 (mm Q.1 Q.2)) c P Z
  rw [e1, e2, e3]
theorem at_z (m : Mult) (k : Nat) (hf : ∀ i, m.1 i < 256) (hk : k < 256) (w : World) (Z : Nat × Nat) (c : Bool) (hc : (nb m.1 32).testBit k = c) : Ret 103 #[.agg (mq m.1 m.2), .int .i64 ((k : Nat) : Int), .agg (ad Z)] w (.agg (ad (cond c m.2 Z))) := by
  have h := at_c m.1 k (am m.2.2 m.2.1) (sm m.2.2 m.2.1) (mm dd7 (mm m.2.1 m.2.2)) (am Z.2 Z.1) (sm Z.2 Z.1) (mm dd7 (mm Z.1 Z.2)) hf hk w
  rw [hc, ad_cond] at h
  exact h
theorem at_p (m : Mult) (k : Nat) (hf : ∀ i, m.1 i < 256) (hk : k < 256) (w : World) : Ret 103 #[.agg (mq m.1 m.2), .int .i64 ((k : Nat) : Int), .agg (ad zero7)] w (.agg (ad (bitP k m))) := at_z m k hf hk w zero7 _ rfl
theorem pt_zero : pt zero7 = ps [0, 0] := by show ps [0, sm 1 1] = _; rw [pt_one]
theorem rec_zero (w : World) : Ret 100 #[.agg (ps [0, 0])] w (.agg (pq (q4 zero7))) := pt_zero ▸ rec_p ok_zero7 w
theorem add_zero (w : World) : Ret 63 #[.agg (ps [0, 0])] w (.agg (ad zero7)) := pt_zero ▸ add_p ok_zero7 w
theorem Own.tail {u w : World} {r : Row} {L : List Row} (h : Own u w (r :: L)) : Own u w L :=
  ⟨h.low, fun x hx => h.blk x (List.mem_cons_of_mem _ hx), fun x hx => h.new x (List.mem_cons_of_mem _ hx), fun x hx => h.fit x (List.mem_cons_of_mem _ hx), (List.nodup_cons.1 h.dist).2⟩
def f61r0Op0 : Oper := ⟨some 2, .alloc 49, 0, "edwards.go:157", #[], none⟩
def f61r0Ops : Array Oper := #[f61r0Op0]
set_option maxHeartbeats 2000000 in
theorem f61r0_r {Q : Exit → Act → World → Prop} {u w : World} {L : List Row} {z0 z1 z2 : Value} {zz : List Value} (hO : Own u w L) (H : ∀ (n2 : Nat) (w' : World), Own u w' ((n2, ps [0, 0], 49) :: L) → Q .normal { tmps := List.toArray (z0 :: z1 :: (.pointer (some ⟨n2, 0, none⟩)) :: zz), defers := [] } w') :
    (Code.region 0 f61r0Ops false).wp Tryz.prog Q { tmps := List.toArray (z0 :: z1 :: z2 :: zz), defers := [] } w := by
  refine wp_region_list (show wpList _ f61r0Ops _ [f61r0Op0] _ _ from ?_)
  refine l_new hO (ps [0, 0]) 49 (al29 rfl) (fit_pt _ _) ?_
  intro n2 w1 hO
  exact l_fr _ (wpList_nil (H n2 _ hO))
def f61r1Op0 : Oper := ⟨some 8, .build 49 #[], 49, "edwards.go:158", #[], none⟩
def f61r1Op1 : Oper := ⟨some 9, .call { callee := .value (.func 100), args := #[.tmp 8], argTypes := #[49] }, 143, "edwards.go:158", #[⟨0, .data⟩], none⟩
def f61r1Op2 : Oper := ⟨some 10, .build 49 #[], 49, "edwards.go:158", #[], none⟩
def f61r1Op3 : Oper := ⟨some 11, .call { callee := .value (.func 63), args := #[.tmp 10], argTypes := #[49] }, 97, "edwards.go:158", #[⟨2, .data⟩, ⟨1, .chain⟩], none⟩
def f61r1Op4 : Oper := ⟨some 3, .alloc 143, 0, "edwards.go:158", #[], none⟩
def f61r1Op5 : Oper := ⟨some 4, .alloc 97, 0, "edwards.go:158", #[], none⟩
def f61r1Op6 : Oper := ⟨none, .store 143 (.tmp 3) (.tmp 9), 0, "edwards.go:158", #[⟨4, .data⟩, ⟨1, .data⟩, ⟨3, .chain⟩, ⟨0, .phase⟩, ⟨1, .phase⟩, ⟨2, .textOnly .lateStores⟩, ⟨3, .textOnly .lateStoresUnsure⟩, ⟨4, .phase⟩, ⟨5, .phase⟩], none⟩
def f61r1Op7 : Oper := ⟨none, .store 97 (.tmp 4) (.tmp 11), 0, "edwards.go:158", #[⟨5, .data⟩, ⟨3, .data⟩, ⟨6, .chain⟩, ⟨0, .phase⟩, ⟨1, .phase⟩, ⟨2, .phase⟩, ⟨3, .phase⟩, ⟨4, .phase⟩, ⟨5, .phase⟩, ⟨6, .phase⟩], none⟩
def f61r1Ops : Array Oper := #[f61r1Op0, f61r1Op1, f61r1Op2, f61r1Op3, f61r1Op4, f61r1Op5, f61r1Op6, f61r1Op7]
set_option maxHeartbeats 2000000 in
theorem f61r1_r {Q : Exit → Act → World → Prop} {u w : World} {L : List Row} {z0 z1 z2 z3 z4 z5 z6 z7 z8 z9 z10 z11 : Value} {zz : List Value} {e8 e9 e10 e11 : Array Value} (hO : Own u w L) (q8 : Tryz.prog.built 49 [] = some e8) (r9 : ∀ w, Ret 100 #[.agg e8] w (.agg e9)) (q10 : Tryz.prog.built 49 [] = some e10) (r11 : ∀ w, Ret 63 #[.agg e10] w (.agg e11)) (fe9_83 : Fit 143 e9) (fe11_87 : Fit 97 e11) (H : ∀ (n3 : Nat) (n4 : Nat) (w' : World), Own u w' ((n4, e11, 97) :: (n3, e9, 143) :: L) → Q .normal { tmps := List.toArray (z0 :: z1 :: z2 :: (.pointer (some ⟨n3, 0, none⟩)) :: (.pointer (some ⟨n4, 0, none⟩)) :: z5 :: z6 :: z7 :: (.agg e8) :: (.agg e9) :: (.agg e10) :: (.agg e11) :: zz), defers := [] } w') :
    (Code.region 1 f61r1Ops false).wp Tryz.prog Q { tmps := List.toArray (z0 :: z1 :: z2 :: z3 :: z4 :: z5 :: z6 :: z7 :: z8 :: z9 :: z10 :: z11 :: zz), defers := [] } w := by
  refine wp_region_list (show wpList _ f61r1Ops _ [f61r1Op0, f61r1Op1, f61r1Op2, f61r1Op3, f61r1Op4, f61r1Op5, f61r1Op6, f61r1Op7] _ _ from ?_)
  refine l_val (.agg e8) (run_bd 49 _ rfl [] (by kernel_rfl) e8 q8 _) ?_
  refine l_call hO 100 #[.agg e8] (.agg e9) r9 ?_
  intro w1 hO
  refine l_val (.agg e10) (run_bd 49 _ rfl [] (by kernel_rfl) e10 q10 _) ?_
  refine l_fr (Fr [z0, z1, z2, z3, z4, z5, z6, z7, A e8, A e9, A e10, z11] zz) ?_
  refine l_call hO 63 #[.agg e10] (.agg e11) r11 ?_
  intro w2 hO
  refine l_new hO (ps [0, 0, 0, 0]) 143 (al83 rfl) (fit_ru _ _ _ _) ?_
  intro n3 w3 hO
  refine l_new hO (ps [0, 0, 0]) 97 (al87 rfl) (fit_ad _ _ _) ?_
  intro n4 w4 hO
  refine l_fr (Fr [z0, z1, z2, D n3, D n4, z5, z6, z7, A e8, A e9, A e10, A e11] zz) ?_
  refine l_st hO 143 1 rfl e9 fe9_83 ?_
  intro w5 hO
  replace hO : Own u w5 ((n4, ps [0, 0, 0], 97) :: (n3, e9, 143) :: L) := hO
  refine l_st hO 97 0 rfl e11 fe11_87 ?_
  intro w6 hO
  exact l_fr _ (wpList_nil (H n3 n4 _ hO))
def f61r5Op0 : Oper := ⟨some 15, .fieldAddr 143 (.tmp 3) 0, 0, "edwards.go:160", #[], none⟩
def f61r5Op1 : Oper := ⟨some 16, .load 141 (.tmp 15), 141, "edwards.go:160", #[⟨0, .data⟩], none⟩
def f61r5Op2 : Oper := ⟨some 17, .call { callee := .value (.func 101), args := #[.tmp 16], argTypes := #[141] }, 143, "edwards.go:160", #[⟨1, .data⟩], none⟩
def f61r5Op3 : Oper := ⟨none, .store 143 (.tmp 3) (.tmp 17), 0, "edwards.go:160", #[⟨2, .data⟩, ⟨2, .chain⟩, ⟨0, .phase⟩, ⟨1, .phase⟩, ⟨2, .phase⟩], none⟩
def f61r5Ops : Array Oper := #[f61r5Op0, f61r5Op1, f61r5Op2, f61r5Op3]
set_option maxHeartbeats 2000000 in
theorem f61r5_r {Q : Exit → Act → World → Prop} {u w : World} {L : List Row} {z0 z1 z2 z4 z5 z6 z7 z8 z9 z10 z11 z12 z13 z14 z15 z16 z17 : Value} {zz : List Value} {b3 : Nat} {c3 : Array Value} {e16 e17 : Array Value} (hO : Own u w L) (i3 : Nat) (h3 : L[i3]? = some (b3, c3, 143)) (q16 : Part c3 0 141 e16) (r17 : ∀ w, Ret 101 #[.agg e16] w (.agg e17)) (fe17_83 : Fit 143 e17) (H : ∀ (w' : World), Own u w' ((L.set i3 (b3, e17, 143))) → Q .normal { tmps := List.toArray (z0 :: z1 :: z2 :: (.pointer (some ⟨b3, 0, none⟩)) :: z4 :: z5 :: z6 :: z7 :: z8 :: z9 :: z10 :: z11 :: z12 :: z13 :: z14 :: (.pointer (some ⟨b3, 0, none⟩)) :: (.agg e16) :: (.agg e17) :: zz), defers := [] } w') :
    (Code.region 5 f61r5Ops false).wp Tryz.prog Q { tmps := List.toArray (z0 :: z1 :: z2 :: (.pointer (some ⟨b3, 0, none⟩)) :: z4 :: z5 :: z6 :: z7 :: z8 :: z9 :: z10 :: z11 :: z12 :: z13 :: z14 :: z15 :: z16 :: z17 :: zz), defers := [] } w := by
  refine wp_region_list (show wpList _ f61r5Ops _ [f61r5Op0, f61r5Op1, f61r5Op2, f61r5Op3] _ _ from ?_)
  refine l_val (.pointer (some ⟨b3, 0, none⟩)) (by kernel_rfl) ?_
  refine l_part hO 141 i3 h3 q16 Tryz.underlying141 ?_
  refine l_call hO 101 #[.agg e16] (.agg e17) r17 ?_
  intro w1 hO
  refine l_fr (Fr [z0, z1, z2, D b3, z4, z5, z6, z7, z8, z9, z10, z11, z12, z13, z14, .pointer (some ⟨b3, 0, none⟩), A e16, A e17] zz) ?_
  refine l_st hO 143 i3 h3 e17 fe17_83 ?_
  intro w2 hO
  exact l_fr _ (wpList_nil (H  _ hO))
def f61r9Op0 : Oper := ⟨some 24, .load 143 (.tmp 3), 143, "edwards.go:162", #[], none⟩
def f61r9Op1 : Oper := ⟨some 25, .load 100 (.tmp 7), 100, "edwards.go:162", #[], none⟩
def f61r9Op2 : Oper := ⟨some 26, .move (.tmp 5), 3, "edwards.go:162", #[], none⟩
def f61r9Op3 : Oper := ⟨some 27, .binOp .sub 3 (.const (.int .i64 255)) (.tmp 26) 3, 3, "edwards.go:162", #[⟨2, .data⟩], none⟩
def f61r9Op4 : Oper := ⟨some 28, .load 97 (.tmp 4), 97, "edwards.go:162", #[], none⟩
def f61r9Op5 : Oper := ⟨some 29, .call { callee := .value (.func 103), args := #[.tmp 25, .tmp 27, .tmp 28], argTypes := #[100, 3, 97] }, 97, "edwards.go:162", #[⟨1, .data⟩, ⟨3, .data⟩, ⟨4, .data⟩], none⟩
def f61r9Op6 : Oper := ⟨some 30, .call { callee := .value (.func 102), args := #[.tmp 24, .tmp 29], argTypes := #[143, 97] }, 143, "edwards.go:162", #[⟨0, .data⟩, ⟨5, .data⟩, ⟨5, .chain⟩], none⟩
def f61r9Op7 : Oper := ⟨none, .store 143 (.tmp 3) (.tmp 30), 0, "edwards.go:162", #[⟨6, .data⟩, ⟨6, .chain⟩, ⟨0, .phase⟩, ⟨1, .phase⟩, ⟨2, .phase⟩, ⟨3, .phase⟩, ⟨4, .phase⟩, ⟨5, .phase⟩, ⟨6, .phase⟩], none⟩
def f61r9Ops : Array Oper := #[f61r9Op0, f61r9Op1, f61r9Op2, f61r9Op3, f61r9Op4, f61r9Op5, f61r9Op6, f61r9Op7]
set_option maxHeartbeats 2000000 in
theorem f61r9_r {Q : Exit → Act → World → Prop} {u w : World} {L : List Row} {z0 z1 z2 z6 z8 z9 z10 z11 z12 z13 z14 z15 z16 z17 z18 z19 z20 z21 z22 z23 z24 z25 z26 z27 z28 z29 z30 : Value} {x5 x27 : Value} {zz : List Value} {b3 b4 b7 : Nat} {c3 c4 c7 : Array Value} {e29 e30 : Array Value} (hQ : ∀ c a w n v, Q (.panic c) (a.put (some n) v) w → Q (.panic c) a w) (hO : Own u w L) (i3 : Nat) (h3 : L[i3]? = some (b3, c3, 143)) (i4 : Nat) (h4 : L[i4]? = some (b4, c4, 97)) (i7 : Nat) (h7 : L[i7]? = some (b7, c7, 100)) (e3_4 : i3 ≠ i4) (e3_7 : i3 ≠ i7) (k27 : ∀ (a : Act) (w : World), a.eval (.tmp 26) = x5 → (execOp a.eval f61r9Op3).run Tryz.prog w = .ok (.value x27) w) (r29 : ∀ w, Ret 103 #[.agg c7, x27, .agg c4] w (.agg e29)) (r30 : ∀ w, Ret 102 #[.agg c3, .agg e29] w (.agg e30)) (fe30_83 : Fit 143 e30) (H : ∀ (w' : World), Own u w' ((L.set i3 (b3, e30, 143))) → Q .normal { tmps := List.toArray (z0 :: z1 :: z2 :: (.pointer (some ⟨b3, 0, none⟩)) :: (.pointer (some ⟨b4, 0, none⟩)) :: x5 :: z6 :: (.pointer (some ⟨b7, 0, none⟩)) :: z8 :: z9 :: z10 :: z11 :: z12 :: z13 :: z14 :: z15 :: z16 :: z17 :: z18 :: z19 :: z20 :: z21 :: z22 :: z23 :: (.agg c3) :: (.agg c7) :: x5 :: x27 :: (.agg c4) :: (.agg e29) :: (.agg e30) :: zz), defers := [] } w') :
    (Code.region 9 f61r9Ops true).wp Tryz.prog Q { tmps := List.toArray (z0 :: z1 :: z2 :: (.pointer (some ⟨b3, 0, none⟩)) :: (.pointer (some ⟨b4, 0, none⟩)) :: x5 :: z6 :: (.pointer (some ⟨b7, 0, none⟩)) :: z8 :: z9 :: z10 :: z11 :: z12 :: z13 :: z14 :: z15 :: z16 :: z17 :: z18 :: z19 :: z20 :: z21 :: z22 :: z23 :: z24 :: z25 :: z26 :: z27 :: z28 :: z29 :: z30 :: zz), defers := [] } w := by
  have fc4_87 := hO.fits i4 h4
  have fc7_95 := hO.fits i7 h7
  have s0 : ∀ (w : World), Own u w (L) → wpAnyH Tryz.prog .any f61r9Ops Q (Has [(b4, c4, 97), (b7, c7, 100)]) 2 (ls 8 63) (Fr [z0, z1, z2, D b3, D b4, x5, z6, D b7, z8, z9, z10, z11, z12, z13, z14, z15, z16, z17, z18, z19, z20, z21, z22, z23, A c3, A c7, x5, x27, A c4, A e29, z30] zz) w := by
    intro w hO
    refine d_one 6 f61r9Op6 (ls 8 127) (fun K hK => ?_)
    refine k_call hK hO (fun _ hO => ⟨hO.row _ h4, hO.row _ h7, trivial⟩) 102 #[.agg c3, .agg e29] (.agg e30) r30 ?_
    intro w1 hO
    refine d_one 7 f61r9Op7 (ls 8 255) (fun K hK => ?_)
    refine k_st hK hO 143 i3 h3 e30 fe30_83 (fun _ hO => ⟨hO.row _ (get_set h4 e3_4), hO.row _ (get_set h7 e3_7), trivial⟩) ?_
    intro w2 hO
    exact d_fr (ls 8 255) _ (wpAnyH_done (by kernel_rfl) (H  _ hO) _)
  refine wp_region_held_drew (S := Has [(b4, c4, 97), (b7, c7, 100)]) (by kernel_rfl) ⟨hO.drew.row _ h4, hO.drew.row _ h7, trivial⟩ (fun hS => ?_)
  replace hO := hO.drew
  refine d_tk 1 f61r9Op1 (.agg c7) hQ (y_l 100 (fun _ h => h.2.1) fc7_95 Tryz.underlying100) hS ?_
  refine d_tk 2 f61r9Op2 (x5) hQ (y_val (fun _ => by kernel_rfl)) hS ?_
  refine d_tk 3 f61r9Op3 (x27) hQ (y_val (fun _ => k27 _ _ (by kernel_rfl))) hS ?_
  refine d_fr (ls 8 14) (Fr [z0, z1, z2, D b3, D b4, x5, z6, D b7, z8, z9, z10, z11, z12, z13, z14, z15, z16, z17, z18, z19, z20, z21, z22, z23, z24, A c7, x5, x27, z28, z29, z30] zz) ?_
  refine d_tk 4 f61r9Op4 (.agg c4) hQ (y_l 97 (fun _ h => h.1) fc4_87 Tryz.underlying97) hS ?_
  refine d_fr (ls 8 30) (Fr [z0, z1, z2, D b3, D b4, x5, z6, D b7, z8, z9, z10, z11, z12, z13, z14, z15, z16, z17, z18, z19, z20, z21, z22, z23, z24, A c7, x5, x27, A c4, z29, z30] zz) ?_
  refine wpAnyH_ready (rs := [0, 5]) (by kernel_rfl) (by simp) ?_
  refine d_cons 0 f61r9Op0 (ls 8 31) (fun K hK => ?_) ?_
  · skip
    refine k_ld hK hO hS 143 i3 h3 Tryz.underlying143 ?_
    refine d_one 5 f61r9Op5 (ls 8 63) (fun K hK => ?_)
    refine k_call hK hO (fun _ hO => ⟨hO.row _ h4, hO.row _ h7, trivial⟩) 103 #[.agg c7, x27, .agg c4] (.agg e29) r29 ?_
    intro w4 hO
    exact d_fr _ _ (s0 _ hO)
  refine d_cons 5 f61r9Op5 (ls 8 62) (fun K hK => ?_) ?_
  · skip
    refine k_call hK hO (fun _ hO => ⟨hO.row _ h4, hO.row _ h7, trivial⟩) 103 #[.agg c7, x27, .agg c4] (.agg e29) r29 ?_
    intro w5 hO
    have hS : Has [(b4, c4, 97), (b7, c7, 100)] _ := ⟨hO.row _ h4, hO.row _ h7, trivial⟩
    refine d_one 0 f61r9Op0 (ls 8 63) (fun K hK => ?_)
    refine k_ld hK hO hS 143 i3 h3 Tryz.underlying143 ?_
    exact d_fr _ _ (s0 _ hO)
  exact AllReadyH.nil
def f61r12Op0 : Oper := ⟨some 33, .fieldAddr 143 (.tmp 3) 0, 0, "edwards.go:165", #[], none⟩
def f61r12Op1 : Oper := ⟨some 34, .load 141 (.tmp 33), 141, "edwards.go:165", #[⟨0, .data⟩], none⟩
def f61r12Op2 : Oper := ⟨some 35, .call { callee := .value (.func 104), args := #[.tmp 34], argTypes := #[141] }, 49, "edwards.go:165", #[⟨1, .data⟩], none⟩
def f61r12Op3 : Oper := ⟨none, .store 49 (.tmp 2) (.tmp 35), 0, "edwards.go:165", #[⟨2, .data⟩, ⟨2, .chain⟩, ⟨0, .phase⟩, ⟨1, .phase⟩, ⟨2, .phase⟩], none⟩
def f61r12Ops : Array Oper := #[f61r12Op0, f61r12Op1, f61r12Op2, f61r12Op3]
set_option maxHeartbeats 2000000 in
theorem f61r12_r {Q : Exit → Act → World → Prop} {u w : World} {L : List Row} {z0 z1 z4 z5 z6 z7 z8 z9 z10 z11 z12 z13 z14 z15 z16 z17 z18 z19 z20 z21 z22 z23 z24 z25 z26 z27 z28 z29 z30 z31 z32 z33 z34 z35 : Value} {b2 b3 : Nat} {c2 c3 : Array Value} {e34 e35 : Array Value} (hO : Own u w L) (i2 : Nat) (h2 : L[i2]? = some (b2, c2, 49)) (i3 : Nat) (h3 : L[i3]? = some (b3, c3, 143)) (q34 : Part c3 0 141 e34) (r35 : ∀ w, Ret 104 #[.agg e34] w (.agg e35)) (fe35_29 : Fit 49 e35) (H : ∀ (w' : World), Own u w' ((L.set i2 (b2, e35, 49))) → Q .normal { tmps := List.toArray (z0 :: z1 :: (.pointer (some ⟨b2, 0, none⟩)) :: (.pointer (some ⟨b3, 0, none⟩)) :: z4 :: z5 :: z6 :: z7 :: z8 :: z9 :: z10 :: z11 :: z12 :: z13 :: z14 :: z15 :: z16 :: z17 :: z18 :: z19 :: z20 :: z21 :: z22 :: z23 :: z24 :: z25 :: z26 :: z27 :: z28 :: z29 :: z30 :: z31 :: z32 :: (.pointer (some ⟨b3, 0, none⟩)) :: (.agg e34) :: (.agg e35) :: []), defers := [] } w') :
    (Code.region 12 f61r12Ops false).wp Tryz.prog Q { tmps := List.toArray (z0 :: z1 :: (.pointer (some ⟨b2, 0, none⟩)) :: (.pointer (some ⟨b3, 0, none⟩)) :: z4 :: z5 :: z6 :: z7 :: z8 :: z9 :: z10 :: z11 :: z12 :: z13 :: z14 :: z15 :: z16 :: z17 :: z18 :: z19 :: z20 :: z21 :: z22 :: z23 :: z24 :: z25 :: z26 :: z27 :: z28 :: z29 :: z30 :: z31 :: z32 :: z33 :: z34 :: z35 :: []), defers := [] } w := by
  refine wp_region_list (show wpList _ f61r12Ops _ [f61r12Op0, f61r12Op1, f61r12Op2, f61r12Op3] _ _ from ?_)
  refine l_val (.pointer (some ⟨b3, 0, none⟩)) (by kernel_rfl) ?_
  refine l_part hO 141 i3 h3 q34 Tryz.underlying141 ?_
  refine l_call hO 104 #[.agg e34] (.agg e35) r35 ?_
  intro w1 hO
  refine l_fr (Fr [z0, z1, D b2, D b3, z4, z5, z6, z7, z8, z9, z10, z11, z12, z13, z14, z15, z16, z17, z18, z19, z20, z21, z22, z23, z24, z25, z26, z27, z28, z29, z30, z31, z32, .pointer (some ⟨b3, 0, none⟩), A e34, A e35] []) ?_
  refine l_st hO 49 i2 h2 e35 fe35_29 ?_
  intro w2 hO
  exact l_fr _ (wpList_nil (H  _ hO))
def f61r8Op0 : Oper := ⟨some 22, .indexAddr 139 (.tmp 18) (.tmp 20), 0, "edwards.go:161", #[], none⟩
def f61r8Op1 : Oper := ⟨some 23, .load 100 (.tmp 22), 100, "edwards.go:161", #[⟨0, .data⟩], none⟩
def f61r8Op2 : Oper := ⟨some 7, .alloc 100, 0, "edwards.go:161", #[], none⟩
def f61r8Op3 : Oper := ⟨none, .store 100 (.tmp 7) (.tmp 23), 0, "edwards.go:161", #[⟨2, .data⟩, ⟨1, .data⟩, ⟨0, .phase⟩, ⟨1, .phase⟩, ⟨2, .phase⟩], none⟩
def f61r8Ops : Array Oper := #[f61r8Op0, f61r8Op1, f61r8Op2, f61r8Op3]
theorem idx_run (ρ : Operand → Value) (b j n : Nat) (hj : j < n) (w : World) (h1 : ρ (.tmp 18) = .slice (some ⟨b, 0, none⟩) n n) (h2 : ρ (.tmp 20) = .int .i64 ((j : Nat) : Int)) : (execOp ρ f61r8Op0).run Tryz.prog w = .ok (.value (.pointer (some ⟨b, 44 * j, none⟩))) w := by
  unfold execOp f61r8Op0
  simp only [h1, h2]
  have hj0 : (0 : Int) ≤ (j : Int) := by omega
  have hu := Tryz.underlying139
  have hs : (Tryz.prog.info? 100).map (·.size) = some 44 := by kernel_rfl
  cases hq : Tryz.prog.info? 100 with
  | none => simp [hq] at hs
  | some i =>
    have hsz : i.size = 44 := by simpa [hq] using hs
    simp [Instr.indexAt, run_underlying hu, asIntOf, sizeOf, typeInfo, hq, hsz, hj0]
    rw [if_pos hj, Addr.add_mid, Nat.zero_add, Nat.mul_comm]
set_option maxHeartbeats 2000000 in
theorem f61r8_r {Q : Exit → Act → World → Prop} {u w : World} {L : List Row} {z0 z1 z2 z3 z4 z5 z6 z7 z8 z9 z10 z11 z12 z13 z14 z15 z16 z17 z19 z21 z22 z23 : Value} {zz : List Value} {b n : Nat} {l : List Mult} {m : Mult} (hO : Own u w L) (j : Nat) (hj : j < n) (hm : l[j]? = some m) (hB : Blk w b (sl l) 100) (H : ∀ (n7 : Nat) (w' : World), Own u w' ((n7, mq m.1 m.2, 100) :: L) → Q .normal { tmps := List.toArray (z0 :: z1 :: z2 :: z3 :: z4 :: z5 :: z6 :: (.pointer (some ⟨n7, 0, none⟩)) :: z8 :: z9 :: z10 :: z11 :: z12 :: z13 :: z14 :: z15 :: z16 :: z17 :: (.slice (some ⟨b, 0, none⟩) n n) :: z19 :: (.int .i64 ((j : Nat) : Int)) :: z21 :: (.pointer (some ⟨b, 44 * j, none⟩)) :: (.agg (mq m.1 m.2)) :: zz), defers := [] } w') :
    (Code.region 8 f61r8Ops false).wp Tryz.prog Q { tmps := List.toArray (z0 :: z1 :: z2 :: z3 :: z4 :: z5 :: z6 :: z7 :: z8 :: z9 :: z10 :: z11 :: z12 :: z13 :: z14 :: z15 :: z16 :: z17 :: (.slice (some ⟨b, 0, none⟩) n n) :: z19 :: (.int .i64 ((j : Nat) : Int)) :: z21 :: z22 :: z23 :: zz), defers := [] } w := by
  refine wp_region_list (show wpList _ f61r8Ops _ [f61r8Op0, f61r8Op1, f61r8Op2, f61r8Op3] _ _ from ?_)
  refine l_val (.pointer (some ⟨b, 44 * j, none⟩)) (idx_run _ b j n hj _ (by kernel_rfl) (by kernel_rfl)) ?_
  refine l_fr (Fr [z0, z1, z2, z3, z4, z5, z6, z7, z8, z9, z10, z11, z12, z13, z14, z15, z16, z17, .slice (some ⟨b, 0, none⟩) n n, z19, .int .i64 ((j : Nat) : Int), z21, .pointer (some ⟨b, 44 * j, none⟩), z23] zz) ?_
  refine l_any (by kernel_rfl) fun K hK => ?_
  refine wp_load_mid 100 _ rfl b (44 * j) (by kernel_rfl) _ _ (sl_range hB j m hm) Tryz.underlying100 rfl (by rw [Array.length_toList, mq_size]; kernel_rfl) (hK _ _ ?_)
  rw [Array.toArray_toList]
  clear hK K
  refine o_fr (a' := (Fr [z0, z1, z2, z3, z4, z5, z6, z7, z8, z9, z10, z11, z12, z13, z14, z15, z16, z17, .slice (some ⟨b, 0, none⟩) n n, z19, .int .i64 ((j : Nat) : Int), z21, .pointer (some ⟨b, 44 * j, none⟩), .agg (mq m.1 m.2)] zz)) (by kernel_rfl) ?_
  refine l_new hO (mu (fun _ => 0) [0, 0, 0]) 100 (al95 rfl) (fit_mu _ _ _ _) ?_
  intro n7 w1 hO
  refine l_fr (Fr [z0, z1, z2, z3, z4, z5, z6, .pointer (some ⟨n7, 0, none⟩), z8, z9, z10, z11, z12, z13, z14, z15, z16, z17, .slice (some ⟨b, 0, none⟩) n n, z19, .int .i64 ((j : Nat) : Int), z21, .pointer (some ⟨b, 44 * j, none⟩), .agg (mq m.1 m.2)] zz) ?_
  refine l_st hO 100 0 rfl (mq m.1 m.2) (fit_mu _ _ _ _) ?_
  intro w2 hO
  exact wpList_nil (H n7 _ hO)
theorem sub_run (a : Act) (w : World) (k : Nat) (hk : k < 256) (h : a.eval (.tmp 26) = .int .i64 ((k : Nat) : Int)) : (execOp a.eval f61r9Op3).run Tryz.prog w = .ok (.value (.int .i64 ((255 - k : Nat) : Int))) w := by
  unfold execOp f61r9Op3
  simp only [h]
  have e0 : a.eval (.const (.int .i64 255)) = .int .i64 255 := rfl
  have e : IntKind.i64.wrap (255 - (k : Int)) = ((255 - k : Nat) : Int) := by rw [wrap_i64_small' _ (by omega) (by omega)]; omega
  go_simp
set_option maxHeartbeats 4000000 in
theorem total_c (l : List Mult) (b : Nat) (hl : ∀ m ∈ l, Ok7 m.2 ∧ ∀ i, m.1 i < 256) (hlen : l.length ≤ 2) (w : World) (hB : Blk w b (sl l) 100) : Ret 62 #[.slice (some ⟨b, 0, none⟩) l.length l.length] w (.agg (pt (totP l 256))) := by
  go_enter Tryz.func62, Tryz.ntmps62
  have Hl := hide hl
  clear hl
  have hO := Own.start w
  go_upto_region 0 with (fail)
  refine f61r0_r hO ?_
  intro n2 w1 hO
  replace hO : Own w w1 [(n2, ps [0, 0], 49)] := hO
  go_upto_region 1 with (fail)
  refine f61r1_r hO bd_pt0 rec_zero bd_pt0 add_zero (fit_ru _ _ _ _) (fit_ad _ _ _) ?_
  intro n3 n4 w2 hO
  replace hO : Own w w2 [(n4, ad zero7, 97), (n3, pq (q4 zero7), 143), (n2, ps [0, 0], 49)] := hO
  have HB := hide hB
  clear hB
  go_wp2_with fail
  go_loopw [12] (fun i wr => ∃ (k : Nat) (r : Q4), k ≤ 256 ∧ i = .int .i64 k ∧ Rp (totP l k) r ∧ Own w wr [(n4, ad zero7, 97), (n3, pq r, 143), (n2, ps [0, 0], 49)]) (fun i _ => (256 - intOf i).toNat)
  case atStart => exact ⟨0, q4 zero7, by omega, rfl, rp_of ok_zero7, hO⟩
  case round =>
    clear hO
    obtain ⟨k, r, hk, rfl, hR, hO⟩ := hrel
    by_cases hlt : k < 256
    · have hlt' : (k : Int) < 256 := by omega
      have hok := ok_tot l (fun m hm => (Hl.out m hm).1) k
      go_upto_region 5 with (fail)
      refine f61r5_r hO 1 rfl (part_ruc _ _ _ _) (twice_p hR) (fit_ru _ _ _ _) ?_
      intro w3 hO
      replace hO : Own w w3 [(n4, ad zero7, 97), (n3, pq (dbl4 r.1 r.2.1 r.2.2.1), 143), (n2, ps [0, 0], 49)] := hO
      have hR2 := rp_dbl hok hR
      generalize dbl4 r.1 r.2.1 r.2.2.1 = r2 at hR2 hO
      clear hR
      go_wp2_with fail
      go_loopw [20] (fun i wr => ∃ (j : Nat) (r : Q4), j ≤ l.length ∧ i = .int .i64 j ∧ Rp ((l.take j).foldl (addM (255 - k)) (add7 (totP l k) (totP l k))) r ∧ Own w wr [(n4, ad zero7, 97), (n3, pq r, 143), (n2, ps [0, 0], 49)]) (fun i _ => ((l.length : Int) - intOf i).toNat)
      case atStart => exact ⟨0, r2, by omega, rfl, hR2, hO⟩
      case round =>
        clear hO hR2
        obtain ⟨j, r, hj, rfl, hR, hO⟩ := hrel
        by_cases hjl : j < l.length
        · have hjl' : (j : Int) < (l.length : Int) := by omega
          obtain ⟨m, hm⟩ : ∃ m, l[j]? = some m := ⟨_, List.getElem?_eq_getElem hjl⟩
          have Hm := hide hm
          clear hm
          go_upto_region 8 with (fail)
          refine f61r8_r hO j hjl Hm.out (HB.out.call hO.low) ?_
          intro n7 w9 hO
          go_upto_region 9 with (fail)
          refine f61r9_r (fun _ _ _ _ _ h => h) hO 2 rfl 1 rfl 0 rfl (by decide) (by decide) (fun a w h => sub_run a w k hlt h) (at_p m (255 - k) (Hl.out m (List.mem_of_getElem? Hm.out)).2 (by omega)) (plus_p hR) (fit_ru _ _ _ _) ?_
          intro w10 hO
          replace hO : Own w w10 [(n7, mq m.1 m.2, 100), (n4, ad zero7, 97), (n3, pq (sum4 r (q4 (bitP (255 - k) m))), 143), (n2, ps [0, 0], 49)] := hO
          have hok2 := ok_fold (k := 255 - k) (l.take j) _ (fun m hm => (Hl.out m (List.mem_of_mem_take hm)).1) (ok_add hok hok)
          have hokm := ok_bit (k := 255 - k) (Hl.out m (List.mem_of_getElem? Hm.out)).1
          have hR2 := rp_sum hok2 hokm hR (rp_of hokm)
          have ht : (l.take (j + 1)).foldl (addM (255 - k)) (add7 (totP l k) (totP l k)) = add7 ((l.take j).foldl (addM (255 - k)) (add7 (totP l k) (totP l k))) (bitP (255 - k) m) := by rw [List.take_add_one, Hm.out, Option.toList_some, List.foldl_append]; rfl
          have Ht := hide ht
          clear ht
          replace hO := hO.tail
          go_wp2_with fail
          go_roundw
          case rel => exact ⟨j + 1, _, by omega, by go_num, Ht.out ▸ hR2, hO⟩
          case measure => simp [intOf]; omega
        · have hje : j = l.length := by omega
          have Hj := hide hje
          clear hje
          have hR2 : Rp (totP l (k + 1)) r := by have := hR; rw [Hj.out, List.take_length] at this; exact this
          have hjl' : ¬ (j : Int) < (l.length : Int) := by omega
          go_wp2_with fail
          go_roundw
          case rel => exact ⟨k + 1, r, by omega, by go_num, hR2, hO⟩
          case measure => simp [intOf]; omega
    · have hk6 : k = 256 := by omega
      subst hk6
      go_upto_region 12 with (fail)
      refine f61r12_r hO 2 rfl 1 rfl (part_ruc _ _ _ _) (whole_p (ok_tot l (fun m hm => (Hl.out m hm).1) 256) hR) (fit_pt _ _) ?_
      intro w11 hO
      replace hO : Own w w11 [(n4, ad zero7, 97), (n3, pq r, 143), (n2, pt (totP l 256), 49)] := hO
      go_wp2_with fail
      refine bodyPost_ret (v := .agg (pt (totP l 256))) (results_cell_row Tryz.results62 _ _ n2 49 _ (0, 0) _ rfl (hO.row 2 rfl) Tryz.underlying49 rfl (fit_pt _ _).size) rfl ⟨rfl, hO.low⟩
end Go.Proofs.YtbpmakegimgbpaaGreatDoor
namespace Go.Proofs.YtbpmakegimgbpaaGreatDoor
set_option maxRecDepth 100000
open F Go.RowKit

section
variable {o : Oper} {a : Act} {u w : World} {L : List Row} {Q : Exit → Act → World → Prop} {ops : Array Oper} {rest : List Oper} {K : Act → World → Prop}
theorem ld8 {x : Operand} (ho : o.op = .load 5 x) {b i : Nat} (hx : a.eval x = .pointer (some ⟨b, i, none⟩)) {c : Array Value} {t : TypeId} (hB : Blk w b c t) {g : Nat} (hg : c[i]? = some (.int .u8 ((g : Nat) : Int))) : (execOp a.eval o).run Tryz.prog w = .ok (.value (.int .u8 ((g : Nat) : Int))) w := by
  have hc := (hB.cell i).trans hg
  unfold execOp
  simp only [ho, hx]
  go_simp
theorem l_c8 (hO : Own u w L) {x : Operand} (i : Nat) {b off : Nat} {c : Array Value} {t : TypeId} (hi : L[i]? = some (b, c, t)) {g : Nat} (hv : c[off]? = some (.int .u8 ((g : Nat) : Int))) (h : wpList Tryz.prog ops Q rest (a.put o.dst (.int .u8 ((g : Nat) : Int))) w)
    (ho : o.op = .load 5 x := by rfl) (hx : a.eval x = .pointer (some ⟨b, off, none⟩) := by kernel_rfl) (hg : Region.wanted o (yielded ops a.tmps) = true := by kernel_rfl) : wpList Tryz.prog ops Q (o :: rest) a w :=
  l_val _ (ld8 ho hx (hO.row i hi) hv) h hg
theorem o_stc (hO : Own u w L) {x y : Operand} (ho : o.op = .store 5 x y) (i : Nat) {b off : Nat} {c : Array Value} {t : TypeId} (hi : L[i]? = some (b, c, t)) (g : Nat) {g0 : Nat} (h0 : c[off]? = some (.int .u8 ((g0 : Nat) : Int))) (hx : a.eval x = .pointer (some ⟨b, off, none⟩)) (hy : a.eval y = .int .u8 ((g : Nat) : Int)) {e : Array Value} (he : c.setIfInBounds off (.int .u8 ((g : Nat) : Int)) = e) (hf : Fit t e)
    (h : ∀ w', Own u w' (L.set i (b, e, t)) → K (a.put o.dst undef) w') : o.wp Tryz.prog a w K Q := by
  have hB := hO.row i hi
  have hc := (hB.cell off).trans h0
  have hfr := hB.frozen off
  have h' := h _ (hO.put i hi ((hB.set off (.int .u8 ((g : Nat) : Int))).cast he) (st1_cell w b off _) hf)
  clear h hB hO
  unfold Oper.wp execOp
  simp only [ho, hx, hy]
  go_simp
  exact h'
theorem l_stc (hO : Own u w L) {x y : Operand} (i : Nat) {b off : Nat} {c : Array Value} {t : TypeId} (hi : L[i]? = some (b, c, t)) (g : Nat) {g0 : Nat} (h0 : c[off]? = some (.int .u8 ((g0 : Nat) : Int))) {e : Array Value} (he : c.setIfInBounds off (.int .u8 ((g : Nat) : Int)) = e) (hf : Fit t e)
    (h : ∀ w', Own u w' (L.set i (b, e, t)) → wpList Tryz.prog ops Q rest a w') (ho : o.op = .store 5 x y := by rfl) (hx : a.eval x = .pointer (some ⟨b, off, none⟩) := by kernel_rfl) (hy : a.eval y = .int .u8 ((g : Nat) : Int) := by kernel_rfl) (hd : o.dst = none := by rfl) (hg : Region.wanted o (yielded ops a.tmps) = true := by kernel_rfl) : wpList Tryz.prog ops Q (o :: rest) a w :=
  l_any hg fun _ hK => o_stc hO ho i hi g h0 hx hy he hf fun w' h' => hK _ _ (by rw [hd]; exact h w' h')
variable {S : World → Prop} {M : Act → World → Prop}
theorem run_bsl {P : Program} (t e : TypeId) (n : Nat) (parts : Array (Nat × Operand)) (ho : o.op = .buildSlice t n parts) (l : Array (Nat × Value)) (hl : (parts.map fun (i, x) => (i, a.eval x)) = l) {c : Array Value} (h : (Instr.buildSlice t n l).run P w = .ok (.slice (some ⟨w.heap.size, 0, none⟩) n n) (w.alloc (.cells c e))) : (execOp a.eval o).run P w = .ok (.value (.slice (some ⟨w.heap.size, 0, none⟩) n n)) (w.alloc (.cells c e)) := by
  subst hl
  unfold execOp
  simp only [ho, Sem.run_bind, h, Result.andThen_ok, Sem.run_pure]
theorem bs1 {x : Operand} (ho : o.op = .buildSlice 139 1 #[(0, x)]) (f : Nat → Nat) (P : Nat × Nat) (hx : a.eval x = .agg (mq f P)) (w : World) : (execOp a.eval o).run Tryz.prog w = .ok (.value (.slice (some ⟨w.heap.size, 0, none⟩) 1 1)) (w.alloc (.cells (sl [(f, P)]) 100)) :=
  run_bsl 139 100 1 _ ho #[(0, .agg (mq f P))] (by simp [hx]) (by kernel_rfl)
theorem bs2 {x y : Operand} (ho : o.op = .buildSlice 139 2 #[(0, x), (1, y)]) (f : Nat → Nat) (P : Nat × Nat) (g : Nat → Nat) (Q : Nat × Nat) (hx : a.eval x = .agg (mq f P)) (hy : a.eval y = .agg (mq g Q)) (w : World) : (execOp a.eval o).run Tryz.prog w = .ok (.value (.slice (some ⟨w.heap.size, 0, none⟩) 2 2)) (w.alloc (.cells (sl [(f, P), (g, Q)]) 100)) :=
  run_bsl 139 100 2 _ ho #[(0, .agg (mq f P)), (1, .agg (mq g Q))] (by simp [hx, hy]) (by kernel_rfl)
end
theorem set_by (f : Nat → Nat) (i v : Nat) : (vals .u8 32 f).setIfInBounds i (.int .u8 ((v : Nat) : Int)) = vals .u8 32 (fun j => if j = i then v else f j) := vals_set .u8 32 f i v
theorem get_by (f : Nat → Nat) (i : Nat) (hi : i < 32) : (vals .u8 32 f)[i]? = some (.int .u8 ((f i : Nat) : Int)) := vals_get _ _ _ _ hi
theorem or8_128 (n : Nat) (h : n < 256) : bits .or .u8 (n : Int) 128 = ((n % 128 + 128 : Nat) : Int) := by
  have := (by decide +kernel : ∀ i : Fin 256, bits .or .u8 ((i.val : Nat) : Int) 128 = ((i.val % 128 + 128 : Nat) : Int)) ⟨n, h⟩
  exact this
theorem and8_127 (n : Nat) (h : n < 256) : bits .and .u8 (n : Int) 127 = ((n % 128 : Nat) : Int) := by
  have := (by decide +kernel : ∀ i : Fin 256, bits .and .u8 ((i.val : Nat) : Int) 127 = ((i.val % 128 : Nat) : Int)) ⟨n, h⟩
  exact this
theorem clr128 (n : Nat) (h : n < 256) : bits .andNot .u8 (n : Int) 128 = ((n % 128 : Nat) : Int) := by
  have := (by decide +kernel : ∀ i : Fin 256, bits .andNot .u8 ((i.val : Nat) : Int) 128 = ((i.val % 128 : Nat) : Int)) ⟨n, h⟩
  exact this
end Go.Proofs.YtbpmakegimgbpaaGreatDoor

/- X25519 on bytes: the scalar, the coordinate, and what the laws of chapter 6 say of it. No program. -/
import Derived.Test.YtidhffaphbiapaaEl
namespace Go.Proofs.Ytidhffaphbiapaa
open F

theorem yb_lt (n i : Nat) : byt n i < 256 := Nat.mod_lt _ (by omega)
theorem nb_yb (n : Nat) : ∀ k, nb (byt n) k = n % 2 ^ (8 * k)
  | 0 => by simp [nb, Nat.mod_one]
  | k + 1 => by
    rw [nb, nb_yb n k, show 8 * (k + 1) = 8 * k + 8 by omega, Nat.pow_add, Nat.mod_mul, Nat.mul_comm (byt n k)]
    rfl
theorem nb_cong (f g : Nat → Nat) : ∀ k, (∀ j, j < k → f j = g j) → nb f k = nb g k
  | 0, _ => rfl
  | k + 1, h => by rw [nb, nb, nb_cong f g k (fun j hj => h j (by omega)), h k (by omega)]
theorem nb_less (f : Nat → Nat) (hf : ∀ i, f i < 256) : ∀ k, nb f k < 2 ^ (8 * k)
  | 0 => by simp [nb]
  | k + 1 => by
    have ih := nb_less f hf k
    have h1 : f k * 2 ^ (8 * k) ≤ 255 * 2 ^ (8 * k) := Nat.mul_le_mul_right _ (by have := hf k; omega)
    rw [nb, show 8 * (k + 1) = 8 * k + 8 by omega, Nat.pow_add]
    omega
/-- A bit of bytes' number. -/
theorem nb_bit (g : Nat → Nat) (hg : ∀ i, g i < 256) : ∀ (k i : Nat), i < 8 * k → (nb g k).testBit i = (g (i / 8)).testBit (i % 8)
  | 0, i, h => by omega
  | k + 1, i, h => by
    have hl := nb_less g hg k
    rw [nb, Nat.mul_comm (g k), Nat.add_comm, Nat.testBit_two_pow_mul_add _ hl]
    by_cases hi : i < 8 * k
    · rw [if_pos hi, nb_bit g hg k i hi]
    · rw [if_neg hi, show i / 8 = k by omega, show i - 8 * k = i % 8 by omega]
theorem bit_num (x r : Nat) : x.testBit r = (x / 2 ^ r % 2 == 1) := by
  rw [Nat.testBit_eq_decide_div_mod_eq]
  by_cases h : x / 2 ^ r % 2 = 1 <;> simp [h]
/-- The scalar's bytes. -/
def clb (f : Nat → Nat) (i : Nat) : Nat := if i = 0 then f 0 / 8 * 8 else if i = 31 then f 31 % 64 + 64 else f i
/-- The coordinate's bytes. -/
def cob (f : Nat → Nat) (i : Nat) : Nat := if i = 31 then f 31 % 128 else f i
def sc (f : Nat → Nat) : Nat := nb (clb f) 32
def co (f : Nat → Nat) : Nat := nb (cob f) 32 % pP
theorem clb_lt (f : Nat → Nat) (hf : ∀ i, f i < 256) (i : Nat) : clb f i < 256 := by
  unfold clb
  have := hf 0
  have := hf i
  split
  · omega
  · split <;> omega
theorem cob_lt (f : Nat → Nat) (hf : ∀ i, f i < 256) (i : Nat) : cob f i < 256 := by
  unfold cob
  have := hf i
  split <;> omega
/-- The scalar's bits, byte by byte. -/
theorem sc_bit (f : Nat → Nat) (hf : ∀ i, f i < 256) (i : Nat) (h : i < 255) : (sc f).testBit i = (clb f (i / 8) / 2 ^ (i % 8) % 2 == 1) := by
  unfold sc
  rw [nb_bit _ (clb_lt f hf) 32 i (by omega), bit_num]
theorem nb_succ' (f : Nat → Nat) : ∀ k, nb f (k + 1) = f 0 + 256 * nb (fun i => f (i + 1)) k
  | 0 => by simp [nb]
  | k + 1 => by
    have e : f (k + 1) * 2 ^ (8 * (k + 1)) = 256 * (f (k + 1) * 2 ^ (8 * k)) := by
      rw [show 8 * (k + 1) = 8 + 8 * k by omega, Nat.pow_add, show (2 : Nat) ^ 8 = 256 from rfl, Nat.mul_left_comm]
    rw [nb, nb_succ' f k, nb, e]
    omega
theorem nb_top (f : Nat → Nat) (k : Nat) : nb f (k + 1) = nb f k + f k * 2 ^ (8 * k) := rfl
theorem sc_eight (f : Nat → Nat) : sc f % 8 = 0 := by
  unfold sc
  rw [nb_succ']
  show (f 0 / 8 * 8 + _) % 8 = 0
  omega
theorem sc_high (f : Nat → Nat) (hf : ∀ i, f i < 256) : 2 ^ 254 ≤ sc f ∧ sc f < 2 ^ 255 := by
  have e : sc f = nb (clb f) 31 + (f 31 % 64 + 64) * 2 ^ (8 * 31) := nb_top (clb f) 31
  have hl := nb_less (clb f) (clb_lt f hf) 31
  have h2 : (2 : Nat) ^ 254 = 64 * 2 ^ (8 * 31) := by decide +kernel
  have h3 : (2 : Nat) ^ 255 = 128 * 2 ^ (8 * 31) := by decide +kernel
  rw [e, h2, h3]
  generalize (2 : Nat) ^ (8 * 31) = M at *
  have h4 : f 31 % 64 < 64 := Nat.mod_lt _ (by omega)
  constructor
  · have : 64 * M ≤ (f 31 % 64 + 64) * M := Nat.mul_le_mul_right _ (by omega)
    omega
  · have : (f 31 % 64 + 64) * M ≤ 127 * M := Nat.mul_le_mul_right _ (by omega)
    omega
theorem pP_pos' : 0 < pP := by unfold pP; omega
theorem co_lt (f : Nat → Nat) : co f < pP := Nat.mod_lt _ pP_pos'
/-- Bytes of a number below p are a coordinate that is this number. -/
theorem co_byt (y : Nat) (hy : y < pP) : co (byt y) = y := by
  have h255 : y < 2 ^ 255 := Nat.lt_of_lt_of_le hy (by unfold pP; omega)
  have e : nb (cob (byt y)) 32 = nb (byt y) 32 := nb_cong _ _ 32 fun j _ => by
    unfold cob
    split
    · subst_vars
      unfold byt
      have h3 : (2 : Nat) ^ 255 = 128 * 2 ^ (8 * 31) := by decide +kernel
      have : y / 2 ^ (8 * 31) < 128 := Nat.div_lt_of_lt_mul (by rw [Nat.mul_comm, ← h3]; exact h255)
      omega
    · rfl
  unfold co
  rw [e, nb_yb, Nat.mod_eq_of_lt (Nat.lt_trans h255 (by decide +kernel)), Nat.mod_eq_of_lt hy]
theorem co_congr (f g : Nat → Nat) (h : ∀ i, i < 31 → f i = g i) (h31 : f 31 % 128 = g 31 % 128) : co f = co g := by
  unfold co
  rw [nb_cong (cob f) (cob g) 32 fun j hj => ?_]
  unfold cob
  by_cases e : j = 31
  · rw [if_pos e, if_pos e, h31]
  · rw [if_neg e, if_neg e, h j (by omega)]
theorem sc_congr (f g : Nat → Nat) (h0 : f 0 / 8 = g 0 / 8) (h : ∀ i, 0 < i → i < 31 → f i = g i) (h31 : f 31 % 64 = g 31 % 64) : sc f = sc g := by
  unfold sc
  rw [nb_cong (clb f) (clb g) 32 fun j hj => ?_]
  unfold clb
  by_cases e0 : j = 0
  · rw [if_pos e0, if_pos e0, h0]
  · rw [if_neg e0, if_neg e0]
    by_cases e : j = 31
    · rw [if_pos e, if_pos e, h31]
    · rw [if_neg e, if_neg e, h j (by omega) (by omega)]
/-- A number's inverse. -/
def iN (b : Nat) : Nat := b ^ (pP - 2) % pP
theorem iN_lt (b : Nat) : iN b < pP := Nat.mod_lt _ pP_pos'
theorem iN_ok (b : Nat) (h : b < pP) : finv (cn pP b) = cn pP (iN b) := by
  apply Fin.ext
  show (cn pP b).val ^ (pP - 2) % pP = b ^ (pP - 2) % pP % pP
  rw [cn_val h, Nat.mod_mod]
/-- X25519 of a scalar's number, and a coordinate. -/
def xr (s u : Nat) : Nat := nl pP 121665 u (nbits s 255) 1 0 u 1 fun a b _ _ => a * iN b % pP
def xm (f g : Nat → Nat) : Nat := xr (sc f) (co g)
theorem lfirst_cn (u : Nat) : lfirst (cn pP u) = ((cn pP 1, cn pP 0), (cn pP u, cn pP 1)) := rfl
theorem xr_ok (s u : Nat) (hu : u < pP) : xr s u < pP ∧ cn pP (xr s u) = x25 (cn pP u) (nbits s 255) := by
  obtain ⟨A, B, C, D, hA, hB, _, _, hK, hl⟩ := nl_ok (N := pP) 121665 u (nbits s 255) 1 0 u 1 (by decide +kernel) (by decide +kernel) hu (by decide +kernel)
  have e : xr s u = A * iN B % pP := hK _
  rw [e]
  refine ⟨Nat.mod_lt _ pP_pos', ?_⟩
  show _ = (lads k25 (cn pP u) (lfirst (cn pP u)) (nbits s 255)).1.1 * finv (lads k25 (cn pP u) (lfirst (cn pP u)) (nbits s 255)).1.2
  rw [cn_mul, lfirst_cn, show k25 = cn pP 121665 from rfl, hl, iN_ok B hB]
theorem xm_lt (f g : Nat → Nat) : xm f g < pP := (xr_ok _ _ (co_lt g)).1
theorem xm_ok (f g : Nat → Nat) : cn pP (xm f g) = x25 (cn pP (co g)) (nbits (sc f) 255) := (xr_ok _ _ (co_lt g)).2
theorem cn_inj {x y : Nat} (hx : x < pP) (hy : y < pP) (h : cn pP x = cn pP y) : x = y := by
  rw [← cn_val hx, ← cn_val hy, h]
theorem nbits_snoc (n : Nat) : ∀ f, nbits n (f + 1) = nbits (n / 2) f ++ [n.testBit 0]
  | 0 => rfl
  | f + 1 => by
    show n.testBit (f + 1) :: nbits n (f + 1) = (n / 2).testBit f :: nbits (n / 2) f ++ [n.testBit 0]
    rw [nbits_snoc n f, Nat.testBit_div_two]; rfl
theorem even_bit (n : Nat) (h : n % 2 = 0) : n.testBit 0 = false := by rw [bit_num]; simp; omega
/-- The scalar's last three bits are 0. -/
theorem sc_bits (f : Nat → Nat) : nbits (sc f) 255 = nbits (sc f / 2 / 2 / 2) 252 ++ [false, false, false] := by
  have h := sc_eight f
  rw [nbits_snoc _ 254, nbits_snoc _ 253, nbits_snoc _ 252, even_bit (sc f) (by omega), even_bit (sc f / 2) (by omega), even_bit (sc f / 2 / 2) (by omega), List.append_assoc, List.append_assoc]; rfl
theorem sc_last (f : Nat → Nat) : ∃ m, nbits (sc f) 255 = m ++ [false] :=
  ⟨nbits (sc f / 2 / 2 / 2) 252 ++ [false, false], by rw [sc_bits, List.append_assoc]; rfl⟩
/-- A point times one secret, and then another one, is the same the other way round. -/
theorem xm_chain (a b g : Nat → Nat) : xm a (byt (xm b g)) = xm b (byt (xm a g)) := by
  refine cn_inj (xm_lt _ _) (xm_lt _ _) ?_
  rw [xm_ok, xm_ok, co_byt _ (xm_lt _ _), co_byt _ (xm_lt _ _), xm_ok, xm_ok]
  obtain ⟨m, hm⟩ := sc_last a
  obtain ⟨n, hn⟩ := sc_last b
  rw [hm, hn]
  exact x25_chain _ n m
/-- The point 9. -/
def nineB (i : Nat) : Nat := if i = 0 then 9 else 0
theorem nb_nine : ∀ k, nb nineB (k + 1) = 9
  | 0 => by simp [nb, nineB]
  | k + 1 => by rw [nb, nb_nine k]; simp [nineB]
theorem co_nine : co nineB = 9 := by
  have e : nb (cob nineB) 32 = nb nineB 32 := nb_cong _ _ 32 fun j _ => by
    unfold cob
    split
    · subst_vars; rfl
    · rfl
  unfold co
  rw [e, nb_nine]
  exact Nat.mod_eq_of_lt (by decide +kernel)
theorem sc_num (f : Nat → Nat) (hf : ∀ i, f i < 256) : bnum 0 (nbits (sc f) 255) = sc f := by
  rw [bnum_nbits, Nat.zero_mul, Nat.zero_add, Nat.mod_eq_of_lt (sc_high f hf).2]
/-- Two share the same, and it is of use. -/
theorem xm_meets (a b : Nat → Nat) (ha : ∀ i, a i < 256) (hb : ∀ i, b i < 256) : xm a (byt (xm b nineB)) = xm b (byt (xm a nineB)) ∧ xm a (byt (xm b nineB)) ≠ 0 := by
  refine ⟨xm_chain a b nineB, fun h => ?_⟩
  have h1 := xm_ok a (byt (xm b nineB))
  rw [h, co_byt _ (xm_lt _ _), xm_ok, co_nine] at h1
  obtain ⟨m, hm⟩ := sc_last b
  obtain ⟨n, hn⟩ := sc_last a
  have hm2 := sc_num b hb
  have hn2 := sc_num a ha
  rw [hm] at h1 hm2
  rw [hn] at h1 hn2
  refine x25_use m n ?_ ?_ h1.symm
  · rw [hm2]; exact clamped _ (sc_eight b) (sc_high b hb).1 (sc_high b hb).2
  · rw [hn2]; exact clamped _ (sc_eight a) (sc_high a ha).1 (sc_high a ha).2
/-- The coordinates of little order. -/
def lit1 : Nat := 1
def lit2 : Nat := pP - 1
def lit3 : Nat := 325606250916557431795983626356110631294008115727848805560023387167927233504
def lit4 : Nat := 39382357235489614581723060781553021112529911719440698176882885853963445705823
theorem xm_zero (f g : Nat → Nat) (h : co g = 0 ∨ co g = lit1 ∨ co g = lit2 ∨ co g = lit3 ∨ co g = lit4) : xm f g = 0 := by
  refine cn_inj (xm_lt _ _) pP_pos' ?_
  rw [xm_ok, cn_zero]
  have hl : ∀ u, u < pP → u ≠ 0 → nl pP 121665 u [true, false, false, false] 1 0 u 1 (fun _ b _ _ => b) = 0 → x25 (cn pP u) (nbits (sc f) 255) = 0 := fun u hu h0 h1 => by
    rw [sc_bits]; exact x25_little u hu h0 h1 _
  rcases h with h | h | h | h | h
  · obtain ⟨m, hm⟩ := sc_last f
    rw [h, hm, cn_zero]
    exact x25_zero m
  · rw [h]; exact hl _ (by decide +kernel) (by decide +kernel) (by decide +kernel)
  · rw [h]; exact hl _ (by decide +kernel) (by decide +kernel) (by decide +kernel)
  · rw [h]; exact hl _ (by decide +kernel) (by decide +kernel) (by decide +kernel)
  · rw [h]; exact hl _ (by decide +kernel) (by decide +kernel) (by decide +kernel)
/-- It can be reckoned. -/
theorem iN_run (b : Nat) : iN b = Num.pw pP 255 b (pP - 2) 1 % pP := by
  unfold iN
  rw [Num.pw_eq pP 255 b (pP - 2) 1 (by unfold pP; omega), Nat.mul_one]
theorem xr_run (s u : Nat) : xr s u = nl pP 121665 u (nbits s 255) 1 0 u 1 fun a b _ _ => a * (Num.pw pP 255 b (pP - 2) 1 % pP) % pP := by
  unfold xr
  congr 1
  funext a b _ _
  rw [iN_run]
end Go.Proofs.Ytidhffaphbiapaa

/- Poly1305 on numbers, and digits that carry. No program; no conditions but those that each law names. -/
import Derived.Test.YtanahjoiilfcbaaDoorAa
namespace Go.Proofs.YtanahjoiilfcbaaDoor
open Go.RowKit

/-- The prime. -/
def pP : Nat := 2 ^ 130 - 5
/-- A product that is folded once. -/
def tm (x r : Nat) : Nat := x * r % 2 ^ 130 + 5 * (x * r / 2 ^ 130)
/-- Modulo the prime, but for what is from 2^128 on. -/
def low (x : Nat) : Nat := x + 5 * ((x + 5) / 2 ^ 130)
theorem tm_zero (x : Nat) : tm x 0 = 0 := by simp [tm]
theorem fold_mod (y : Nat) : (y % 2 ^ 130 + 5 * (y / 2 ^ 130)) % pP = y % pP := by unfold pP; omega
theorem tm_mod (x r : Nat) : tm x r % pP = x * r % pP := fold_mod _
theorem tm_lt (x r : Nat) (hx : x < 2 ^ 131) (hr : r < 2 ^ 124) : tm x r < 2 ^ 130 + 2 ^ 128 := by
  have h : x * r < 2 ^ 131 * 2 ^ 124 := Nat.mul_lt_mul'' hx hr
  unfold tm
  generalize x * r = y at *
  omega
theorem low_mod (x : Nat) (h : x < 2 * pP) : low x % 2 ^ 128 = x % pP % 2 ^ 128 := by
  by_cases hx : x < pP
  · rw [Nat.mod_eq_of_lt hx]
    unfold low
    rw [Nat.div_eq_of_lt (by unfold pP at hx; omega)]
    rfl
  · have e : x % pP = x - pP := by rw [Nat.mod_eq_sub_mod (by omega), Nat.mod_eq_of_lt (by omega)]
    rw [e]
    unfold low
    have e2 : (x + 5) / 2 ^ 130 = 1 := by unfold pP at *; omega
    rw [e2]
    unfold pP at *
    omega
theorem low_lt (x : Nat) (h : x < 2 ^ 131) : low x < 2 ^ 132 := by unfold low; omega
/-- The number of block k of bytes g, with the byte 1 behind it. -/
def bl (g : Nat → Nat) (k : Nat) : Nat := nb (fun j => g (16 * k + j)) 16 + 2 ^ 128
/-- What k whole blocks come to. -/
def fb (r : Nat) (g : Nat → Nat) : Nat → Nat
  | 0 => 0
  | k + 1 => tm (fb r g k + bl g k) r
/-- What stands behind the whole blocks of n bytes. -/
def en (g : Nat → Nat) (n : Nat) : Nat := nb (fun j => g (16 * (n / 16) + j)) (n % 16) + 2 ^ (8 * (n % 16))
/-- What n bytes come to. -/
def pv (r : Nat) (g : Nat → Nat) (n : Nat) : Nat := if n % 16 = 0 then fb r g (n / 16) else tm (fb r g (n / 16) + en g n) r
theorem bl_lt (g : Nat → Nat) (hg : ∀ i, g i < 256) (k : Nat) : bl g k < 2 ^ 129 := by
  have := nb_lt (fun j => g (16 * k + j)) (fun j => hg _) 16
  unfold bl
  omega
theorem en_lt (g : Nat → Nat) (hg : ∀ i, g i < 256) (n : Nat) : en g n < 2 ^ 129 := by
  have h1 := nb_lt (fun j => g (16 * (n / 16) + j)) (fun j => hg _) (n % 16)
  have h2 : 2 ^ (8 * (n % 16)) ≤ 2 ^ 128 := Nat.pow_le_pow_right (by omega) (by omega)
  unfold en
  omega
theorem fb_lt (r : Nat) (g : Nat → Nat) (hg : ∀ i, g i < 256) (hr : r < 2 ^ 124) : ∀ k, fb r g k < 2 ^ 130 + 2 ^ 128
  | 0 => by simp [fb]
  | k + 1 => tm_lt _ _ (by have := fb_lt r g hg hr k; have := bl_lt g hg k; omega) hr
theorem pv_lt (r : Nat) (g : Nat → Nat) (hg : ∀ i, g i < 256) (hr : r < 2 ^ 124) (n : Nat) : pv r g n < 2 ^ 130 + 2 ^ 128 := by
  unfold pv
  split
  · exact fb_lt r g hg hr _
  · exact tm_lt _ _ (by have := fb_lt r g hg hr (n / 16); have := en_lt g hg n; omega) hr
theorem fb_zero (g : Nat → Nat) : ∀ k, fb 0 g k = 0
  | 0 => rfl
  | _ + 1 => tm_zero _
theorem pv_zero (g : Nat → Nat) (n : Nat) : pv 0 g n = 0 := by
  unfold pv
  split
  · exact fb_zero _ _
  · exact tm_zero _
theorem fb_congr (r : Nat) (g h : Nat → Nat) : ∀ k, (∀ i, i < 16 * k → g i = h i) → fb r g k = fb r h k
  | 0, _ => rfl
  | k + 1, e => by
    rw [fb, fb, fb_congr r g h k fun i hi => e i (by omega)]
    unfold bl
    rw [nb_congr _ (fun j => h (16 * k + j)) 16 fun j hj => e _ (by omega)]
theorem pv_congr (r : Nat) (g h : Nat → Nat) (n : Nat) (e : ∀ i, i < n → g i = h i) : pv r g n = pv r h n := by
  unfold pv en
  rw [fb_congr r g h (n / 16) fun i hi => e i (by omega), nb_congr (fun j => g (16 * (n / 16) + j)) (fun j => h (16 * (n / 16) + j)) (n % 16) fun j hj => e _ (by omega)]
/-- The document's: whole numbers, each modulo the prime. -/
def fx (r : Nat) (g : Nat → Nat) : Nat → Nat
  | 0 => 0
  | k + 1 => (fx r g k + bl g k) % pP * r % pP
def px (r : Nat) (g : Nat → Nat) (n : Nat) : Nat := if n % 16 = 0 then fx r g (n / 16) else (fx r g (n / 16) + en g n) % pP * r % pP
theorem step_mod (a b x r : Nat) (h : a % pP = b) : tm (a + x) r % pP = (b + x) % pP * r % pP := by
  rw [tm_mod, ← h, Nat.mod_add_mod, Nat.mod_mul_mod]
theorem fb_fx (r : Nat) (g : Nat → Nat) : ∀ k, fb r g k % pP = fx r g k
  | 0 => rfl
  | k + 1 => step_mod _ _ _ _ (fb_fx r g k)
theorem pv_px (r : Nat) (g : Nat → Nat) (n : Nat) : pv r g n % pP = px r g n := by
  unfold pv px
  split
  · exact fb_fx r g _
  · exact step_mod _ _ _ _ (fb_fx r g _)
/-- The key's first half with its bits cleared. -/
def cl (f : Nat → Nat) (i : Nat) : Nat := if i % 4 = 3 then f i % 16 else if i % 4 = 0 ∧ 0 < i then f i - f i % 4 else f i
theorem cl_lt (f : Nat → Nat) (hf : ∀ i, f i < 256) (i : Nat) : cl f i < 256 := by
  have := hf i
  unfold cl
  split
  · omega
  · split <;> omega
/-- The tag of n bytes g, by a key. -/
def sk16 (key : Nat → Nat) : Nat := nb (fun j => key (16 + j)) 16
def tg (key g : Nat → Nat) (n : Nat) : Nat → Nat := byt (low (pv (nb (cl key) 16) g n) + sk16 key)
theorem tg_lt (key g : Nat → Nat) (n i : Nat) : tg key g n i < 256 := byt_lt _ _
theorem tg_congr (key g h : Nat → Nat) (n : Nat) (e : ∀ i, i < n → g i = h i) : tg key g n = tg key h n := by
  unfold tg
  rw [pv_congr _ g h n e]
theorem byt_mod (a i : Nat) (h : i < 16) : byt (a % 2 ^ 128) i = byt a i := by
  have := nb_byt a 16
  rw [show 2 ^ (8 * 16) = 2 ^ 128 from rfl] at this
  rw [← this, byt_nb _ (fun _ => byt_lt _ _) 16 i h]
theorem byt_cong (a b i : Nat) (h : i < 16) (e : a % 2 ^ 128 = b % 2 ^ 128) : byt a i = byt b i := by
  rw [← byt_mod a i h, ← byt_mod b i h, e]
/-- What is carried into digit i. -/
def cy (d : Nat → Nat) (i : Nat) : Nat := nb d i / 2 ^ (8 * i)
theorem cy_zero (d : Nat → Nat) : cy d 0 = 0 := by simp [cy, nb]
theorem nb_div (d : Nat → Nat) (i : Nat) : nb d (i + 1) / 2 ^ (8 * i) = d i + cy d i := by
  unfold cy
  rw [nb, Nat.add_mul_div_right _ _ (Nat.two_pow_pos _), Nat.add_comm]
theorem cy_step (d : Nat → Nat) (i : Nat) : (d i + cy d i) / 256 = cy d (i + 1) := by
  rw [← nb_div, Nat.div_div_eq_div_mul]
  unfold cy
  rw [show 8 * (i + 1) = 8 * i + 8 by omega, Nat.pow_add]
theorem cy_dig (d : Nat → Nat) (i : Nat) : ∀ m, (d i + cy d i) % 256 = byt (nb d (i + 1 + m)) i
  | 0 => by rw [← nb_div]; rfl
  | m + 1 => by
    rw [cy_dig d i m]
    unfold byt
    show _ = nb d (i + 1 + m + 1) / 2 ^ (8 * i) % 256
    rw [nb, show 8 * (i + 1 + m) = 8 * i + (8 + 8 * m) by omega, Nat.pow_add, Nat.pow_add, Nat.mul_left_comm, Nat.add_mul_div_left _ _ (Nat.two_pow_pos _), show (2 : Nat) ^ 8 = 256 from rfl, Nat.mul_left_comm, Nat.add_mul_mod_self_left]
theorem cy_dig' (d : Nat → Nat) (i m : Nat) (h : i < m) : (d i + cy d i) % 256 = byt (nb d m) i := by
  have := cy_dig d i (m - i - 1)
  rwa [show i + 1 + (m - i - 1) = m by omega] at this
theorem cy_le (d : Nat → Nat) (B : Nat) (hd : ∀ i, d i ≤ 255 * B) : ∀ i, cy d i ≤ B
  | 0 => by rw [cy_zero]; omega
  | i + 1 => by
    rw [← cy_step]
    have := cy_le d B hd i
    have := hd i
    omega
theorem nb_add (f h : Nat → Nat) : ∀ k, nb (fun i => f i + h i) k = nb f k + nb h k
  | 0 => rfl
  | k + 1 => by rw [nb, nb, nb, nb_add f h k, Nat.add_mul]; omega
theorem nb_mul (c : Nat) (f : Nat → Nat) : ∀ k, nb (fun i => c * f i) k = c * nb f k
  | 0 => rfl
  | k + 1 => by rw [nb, nb, nb_mul c f k, Nat.mul_add, Nat.mul_assoc]
theorem nb_zero (f : Nat → Nat) : ∀ k, (∀ i, i < k → f i = 0) → nb f k = 0
  | 0, _ => rfl
  | k + 1, h => by rw [nb, nb_zero f k fun i hi => h i (by omega), h k (by omega), Nat.zero_mul]
/-- Digits 0 from some place on. -/
theorem nb_short (f : Nat → Nat) (n : Nat) : ∀ m, (∀ i, n ≤ i → i < n + m → f i = 0) → nb f (n + m) = nb f n
  | 0, _ => rfl
  | m + 1, h => by
    show nb f (n + m + 1) = _
    rw [nb, nb_short f n m fun i hi hj => h i hi (by omega), h (n + m) (by omega) (by omega), Nat.zero_mul, Nat.add_zero]
/-- Digits in two parts. -/
theorem nb_split (f : Nat → Nat) (n : Nat) : ∀ m, nb f (n + m) = nb f n + 2 ^ (8 * n) * nb (fun i => f (n + i)) m
  | 0 => by simp [nb]
  | m + 1 => by
    show nb f (n + m + 1) = _
    rw [nb, nb_split f n m, nb, Nat.mul_add, Nat.mul_add, Nat.pow_add, Nat.mul_left_comm, Nat.add_assoc]
theorem and_join (a b x y n : Nat) (ha : a < 2 ^ n) (hb : b < 2 ^ n) : (a + x * 2 ^ n) &&& (b + y * 2 ^ n) = (a &&& b) + (x &&& y) * 2 ^ n := by
  have h1 : ((a + x * 2 ^ n) &&& (b + y * 2 ^ n)) % 2 ^ n = a &&& b := by
    rw [Nat.and_mod_two_pow, Nat.add_mul_mod_self_right, Nat.add_mul_mod_self_right, Nat.mod_eq_of_lt ha, Nat.mod_eq_of_lt hb]
  have h2 : ((a + x * 2 ^ n) &&& (b + y * 2 ^ n)) / 2 ^ n = x &&& y := by
    rw [Nat.and_div_two_pow, Nat.add_mul_div_right _ _ (Nat.two_pow_pos _), Nat.add_mul_div_right _ _ (Nat.two_pow_pos _), Nat.div_eq_of_lt ha, Nat.div_eq_of_lt hb, Nat.zero_add, Nat.zero_add]
  have := Nat.mod_add_div ((a + x * 2 ^ n) &&& (b + y * 2 ^ n)) (2 ^ n)
  rw [h1, h2, Nat.mul_comm] at this
  exact this.symm
theorem nb_and (f m : Nat → Nat) (hf : ∀ i, f i < 256) (hm : ∀ i, m i < 256) : ∀ k, nb f k &&& nb m k = nb (fun i => f i &&& m i) k
  | 0 => by simp [nb]
  | k + 1 => by rw [nb, nb, nb, ← nb_and f m hf hm k, and_join _ _ _ _ _ (nb_lt f hf k) (nb_lt m hm k)]
/-- The mask, byte by byte. -/
def mk (i : Nat) : Nat := if i % 4 = 3 then 15 else if i % 4 = 0 ∧ 0 < i then 252 else 255
theorem mk_lt (i : Nat) : mk i < 256 := by
  unfold mk
  split
  · omega
  · split <;> omega
theorem and_bytes : ∀ x : Fin 256, x.1 &&& 15 = x.1 % 16 ∧ x.1 &&& 252 = x.1 - x.1 % 4 ∧ x.1 &&& 255 = x.1 := by decide +kernel
theorem mk_and (f : Nat → Nat) (hf : ∀ i, f i < 256) (i : Nat) : f i &&& mk i = cl f i := by
  obtain ⟨h1, h2, h3⟩ := and_bytes ⟨f i, hf i⟩
  unfold mk cl
  split
  · exact h1
  · split
    · exact h2
    · exact h3
/-- The package's variable. -/
def kp (i : Nat) : Nat := limb (nb mk 16) i
theorem kp_eq : kp 0 = 1152921487695413247 ∧ kp 1 = 1152921487695413244 ∧ kp 2 = 0 := by decide +kernel
theorem limb_and (a b i : Nat) : limb a i &&& limb b i = limb (a &&& b) i := by
  unfold limb
  rw [Nat.and_div_two_pow, Nat.and_mod_two_pow]
theorem limb_kp (f : Nat → Nat) (hf : ∀ i, f i < 256) (i : Nat) : limb (nb f 16) i &&& kp i = limb (nb (cl f) 16) i := by
  unfold kp
  rw [limb_and, nb_and f mk hf mk_lt 16, nb_congr _ (cl f) 16 fun i _ => mk_and f hf i]
theorem cl_top (f : Nat → Nat) (hf : ∀ i, f i < 256) : nb (cl f) 16 < 2 ^ 124 := by
  have h1 := nb_lt (cl f) (cl_lt f hf) 15
  have h2 : cl f 15 < 16 := by unfold cl; rw [if_pos rfl]; omega
  have h3 : cl f 15 * 2 ^ (8 * 15) ≤ 15 * 2 ^ (8 * 15) := Nat.mul_le_mul_right _ (by omega)
  rw [nb]
  omega
/-- The tag by the document. -/
theorem tg_px (key g : Nat → Nat) (n i : Nat) (hk : ∀ i, key i < 256) (hg : ∀ i, g i < 256) (hi : i < 16) : tg key g n i = byt (px (nb (cl key) 16) g n + sk16 key) i := by
  refine byt_cong _ _ i hi ?_
  have h1 := low_mod _ (Nat.lt_of_lt_of_le (pv_lt _ g hg (cl_top key hk) n) (by decide))
  rw [pv_px] at h1
  rw [Nat.add_mod, h1, ← Nat.add_mod]
theorem low_zero : low 0 = 0 := by decide
theorem low_small (x : Nat) (h : x < 2 ^ 129) : low x = x := by unfold low; omega
theorem tg_none (key g : Nat → Nat) (hk : ∀ i, key i < 256) (i : Nat) (hi : i < 16) : tg key g 0 i = key (16 + i) := by
  unfold tg
  rw [show pv (nb (cl key) 16) g 0 = 0 from rfl, low_zero, Nat.zero_add]
  exact byt_nb _ (fun _ => hk _) 16 i hi
theorem tg_null (key g : Nat → Nat) (hk : ∀ i, key i < 256) (n : Nat) (h0 : ∀ i, i < 16 → key i = 0) (i : Nat) (hi : i < 16) : tg key g n i = key (16 + i) := by
  unfold tg
  have e : nb (cl key) 16 = 0 := nb_zero _ 16 fun j hj => by
    unfold cl
    rw [h0 j hj]
    split
    · rfl
    · split <;> rfl
  rw [e, pv_zero, low_zero, Nat.zero_add]
  exact byt_nb _ (fun _ => hk _) 16 i hi
end Go.Proofs.YtanahjoiilfcbaaDoor

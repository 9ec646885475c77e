/- What ChaCha20 is, on whole numbers; no program. -/
import Derived.Test.YtanahjoiilfcbaaDoorAa
namespace Go.Proofs.YtanahjoiilfcbaaDoor.C
open Go.RowKit

def ad (x y : Nat) : Nat := (x + y) % 4294967296
/-- A word turned to the left. -/
def rl (x n : Nat) : Nat := x * 2 ^ n % 4294967296 + x / 2 ^ (32 - n)
theorem ad_lt (x y : Nat) : ad x y < 4294967296 := Nat.mod_lt _ (by omega)
theorem rl_split (x n : Nat) (hx : x < 4294967296) (hn : n < 32) : x * 2 ^ n % 4294967296 = x % 2 ^ (32 - n) * 2 ^ n ∧ x / 2 ^ (32 - n) < 2 ^ n := by
  have e : 4294967296 = 2 ^ (32 - n) * 2 ^ n := by rw [← Nat.pow_add, Nat.sub_add_cancel (by omega)]
  refine ⟨?_, ?_⟩
  · rw [e, Nat.mul_mod_mul_right]
  · rw [Nat.div_lt_iff_lt_mul (Nat.two_pow_pos _), Nat.mul_comm, ← e]; exact hx
theorem rl_lt (x n : Nat) (hx : x < 4294967296) (hn : n < 32) : rl x n < 4294967296 := by
  obtain ⟨h1, h2⟩ := rl_split x n hx hn
  have h3 := Nat.mod_lt x (Nat.two_pow_pos (32 - n))
  have e : 4294967296 = 2 ^ (32 - n) * 2 ^ n := by rw [← Nat.pow_add, Nat.sub_add_cancel (by omega)]
  unfold rl
  rw [h1]
  generalize x % 2 ^ (32 - n) = r at *
  generalize x / 2 ^ (32 - n) = q at *
  generalize 2 ^ n = p at *
  generalize 2 ^ (32 - n) = t at *
  have : (r + 1) * p ≤ t * p := Nat.mul_le_mul_right p h3
  rw [Nat.add_mul, Nat.one_mul] at this
  omega
theorem rl_or (x n : Nat) (hx : x < 4294967296) (hn : n < 32) : x * 2 ^ n % 4294967296 ||| x / 2 ^ (32 - n) = rl x n := by
  obtain ⟨h1, h2⟩ := rl_split x n hx hn
  unfold rl
  rw [h1, Nat.mul_comm, ← Nat.two_pow_add_eq_or_of_lt h2]
theorem xor_lt32 {x y : Nat} (hx : x < 4294967296) (hy : y < 4294967296) : x ^^^ y < 4294967296 := Nat.xor_lt_two_pow (n := 32) hx hy
abbrev W32 (f : Nat → Nat) : Prop := ∀ i, f i < 4294967296
/-- x and y together, and z changed by that and turned. -/
def mix (f : Nat → Nat) (x y z n : Nat) (j : Nat) : Nat := if j = z then rl (f z ^^^ ad (f x) (f y)) n else if j = x then ad (f x) (f y) else f j
theorem mix_lt {f : Nat → Nat} (hf : W32 f) (x y z n : Nat) (hn : n < 32) : W32 (mix f x y z n) := fun j => by
  unfold mix
  split
  · exact rl_lt _ _ (xor_lt32 (hf _) (ad_lt _ _)) hn
  · split
    · exact ad_lt _ _
    · exact hf j
theorem mix_congr {f g : Nat → Nat} {m : Nat} (h : ∀ j, j < m → f j = g j) {x y z : Nat} (n : Nat) (hx : x < m) (hy : y < m) (hz : z < m) : ∀ j, j < m → mix f x y z n j = mix g x y z n j := fun j hj => by
  unfold mix; rw [h x hx, h y hy, h z hz, h j hj]
/-- A quarter. -/
def qr (f : Nat → Nat) (a b c d : Nat) : Nat → Nat := mix (mix (mix (mix f a b d 16) c d b 12) a b d 8) c d b 7
theorem qr_lt {f : Nat → Nat} (hf : W32 f) (a b c d : Nat) : W32 (qr f a b c d) := mix_lt (mix_lt (mix_lt (mix_lt hf _ _ _ _ (by omega)) _ _ _ _ (by omega)) _ _ _ _ (by omega)) _ _ _ _ (by omega)
theorem qr_congr {f g : Nat → Nat} {m : Nat} (h : ∀ j, j < m → f j = g j) {a b c d : Nat} (ha : a < m) (hb : b < m) (hc : c < m) (hd : d < m) : ∀ j, j < m → qr f a b c d j = qr g a b c d j :=
  mix_congr (mix_congr (mix_congr (mix_congr h _ ha hb hd) _ hc hd hb) _ ha hb hd) _ hc hd hb
def plL : List Nat := [0, 4, 8, 12, 1, 5, 9, 13, 2, 6, 10, 14, 3, 7, 11, 15, 0, 5, 10, 15, 1, 6, 11, 12, 2, 7, 8, 13, 3, 4, 9, 14]
/-- The places that a quarter takes. -/
def pl (i : Nat) : Nat := plL.getD i 0
theorem pl_lt (i : Nat) : pl i < 16 := by
  unfold pl
  rw [List.getD_eq_getElem?_getD]
  cases h : plL[i]? with
  | none => simp
  | some v =>
    have : ∀ x ∈ plL, x < 16 := by decide
    exact this v (List.mem_of_getElem? h)
theorem pl_ne (k : Nat) (hk : k < 8) : pl (4 * k) ≠ pl (4 * k + 3) ∧ pl (4 * k + 2) ≠ pl (4 * k + 1) := by
  have : ∀ k : Fin 8, pl (4 * k.val) ≠ pl (4 * k.val + 3) ∧ pl (4 * k.val + 2) ≠ pl (4 * k.val + 1) := by decide
  exact this ⟨k, hk⟩
/-- Behind k quarters. -/
def pq (f : Nat → Nat) : Nat → Nat → Nat
  | 0 => f
  | k + 1 => qr (pq f k) (pl (4 * k)) (pl (4 * k + 1)) (pl (4 * k + 2)) (pl (4 * k + 3))
theorem pq_lt {f : Nat → Nat} (hf : W32 f) : ∀ k, W32 (pq f k)
  | 0 => hf
  | k + 1 => qr_lt (pq_lt hf k) _ _ _ _
theorem pq_congr {f g : Nat → Nat} (h : ∀ j, j < 16 → f j = g j) : ∀ k j, j < 16 → pq f k j = pq g k j
  | 0 => h
  | k + 1 => qr_congr (pq_congr h k) (pl_lt _) (pl_lt _) (pl_lt _) (pl_lt _)
/-- Behind n times all eight. -/
def rn (f : Nat → Nat) : Nat → Nat → Nat
  | 0 => f
  | n + 1 => pq (rn f n) 8
theorem rn_lt {f : Nat → Nat} (hf : W32 f) : ∀ k, W32 (rn f k)
  | 0 => hf
  | k + 1 => pq_lt (rn_lt hf k) 8
theorem rn_congr {f g : Nat → Nat} (h : ∀ j, j < 16 → f j = g j) : ∀ k j, j < 16 → rn f k j = rn g k j
  | 0 => h
  | k + 1 => pq_congr (rn_congr h k) 8
/-- Four bytes, the lowest first. -/
def le4 (f : Nat → Nat) (o : Nat) : Nat := f o + f (o + 1) * 256 + f (o + 2) * 65536 + f (o + 3) * 16777216
theorem le4_lt {f : Nat → Nat} (hf : ∀ i, f i < 256) (o : Nat) : le4 f o < 4294967296 := by
  have := hf o; have := hf (o + 1); have := hf (o + 2); have := hf (o + 3)
  unfold le4; omega
def cL : List Nat := [1634760805, 857760878, 2036477234, 1797285236]
/-- A block's words at first. -/
def iw (key : Nat → Nat) (cnt : Nat) (nonce : Nat → Nat) (i : Nat) : Nat := if i < 4 then cL.getD i 0 else if i < 12 then le4 key (4 * (i - 4)) else if i = 12 then cnt else le4 nonce (4 * (i - 13))
theorem iw_lt {key nonce : Nat → Nat} {cnt : Nat} (hk : ∀ i, key i < 256) (hn : ∀ i, nonce i < 256) (hc : cnt < 4294967296) : W32 (iw key cnt nonce) := fun i => by
  unfold iw
  split
  · have : i = 0 ∨ i = 1 ∨ i = 2 ∨ i = 3 := by omega
    rcases this with rfl | rfl | rfl | rfl <;> decide
  · split
    · exact le4_lt hk _
    · split
      · exact hc
      · exact le4_lt hn _
/-- A block's bytes, of its words at first. -/
def blk (f : Nat → Nat) (i : Nat) : Nat := ad (rn f 10 (i / 4)) (f (i / 4)) / 2 ^ (8 * (i % 4)) % 256
theorem blk_lt (f : Nat → Nat) (i : Nat) : blk f i < 256 := Nat.mod_lt _ (by omega)
theorem blk_congr {f g : Nat → Nat} (h : ∀ j, j < 16 → f j = g j) (i : Nat) (hi : i < 64) : blk f i = blk g i := by
  unfold blk; rw [rn_congr h 10 _ (by omega), h _ (by omega)]
def bk (key : Nat → Nat) (cnt : Nat) (nonce : Nat → Nat) : Nat → Nat := blk (iw key cnt nonce)
/-- Bytes that are turned. -/
def sx (key : Nat → Nat) (cnt : Nat) (nonce b : Nat → Nat) (i : Nat) : Nat := b i ^^^ bk key ((cnt + i / 64) % 4294967296) nonce (i % 64)
theorem sx_lt {key nonce b : Nat → Nat} {cnt : Nat} (hb : ∀ i, b i < 256) (i : Nat) : sx key cnt nonce b i < 256 := Nat.xor_lt_two_pow (n := 8) (hb _) (blk_lt _ _)
theorem sx_twice (key : Nat → Nat) (cnt : Nat) (nonce b : Nat → Nat) (i : Nat) : sx key cnt nonce (sx key cnt nonce b) i = b i := by
  unfold sx; rw [Nat.xor_assoc, Nat.xor_self, Nat.xor_zero]
def kt (i : Nat) : Nat := if i < 32 then i else 0
def nt (i : Nat) : Nat := if i = 3 then 9 else if i = 7 then 74 else 0
theorem bk_told : bk kt 1 nt 0 = 16 ∧ bk kt 1 nt 1 = 241 ∧ bk kt 1 nt 2 = 231 ∧ bk kt 1 nt 3 = 228 := by decide +kernel
end Go.Proofs.YtanahjoiilfcbaaDoor.C

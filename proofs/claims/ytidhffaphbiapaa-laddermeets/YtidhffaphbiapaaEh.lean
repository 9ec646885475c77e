/- The numbers modulo a prime, by a generator: inverses, squares; the curves over them. No program. -/
import Derived.Test.YtidhffaphbiapaaEg
import Derived.Test.YtidhffaphbiapaaNum
namespace Go.Proofs.Ytidhffaphbiapaa

section
variable {N g : Nat} [NeZero N]
def finv (x : Fin N) : Fin N := Fin.ofNat N (x.val ^ (N - 2))
/-- d is no square. -/
def Nsq (d : Fin N) : Prop := d.val ^ ((N - 1) / 2) % N ≠ 1
theorem fin_val_ne {x : Fin N} (h : x ≠ 0) : x.val ≠ 0 := fun e => h (Fin.ext (by rw [e]; rfl))
theorem fin_mod_ne {x : Fin N} (h : x ≠ 0) : x.val % N ≠ 0 := by rw [Nat.mod_eq_of_lt x.isLt]; exact fin_val_ne h
theorem one_val (h2 : 2 < N) : (1 : Fin N).val = 1 := by
  show 1 % N = 1
  exact Nat.mod_eq_of_lt (by omega)
theorem fin_inv (G : Num.Gen N g) (h2 : 2 < N) (x : Fin N) (hx : x ≠ 0) : x * finv x = 1 := by
  apply Fin.ext
  rw [Fin.val_mul, one_val h2]
  show x.val * (x.val ^ (N - 2) % N) % N = 1
  rw [Nat.mul_mod, Nat.mod_mod, ← Nat.mul_mod]
  exact G.inv h2 x.val (fin_mod_ne hx)
theorem fin_inv0 (h2 : 2 < N) : finv (0 : Fin N) = 0 := by
  apply Fin.ext
  show (0 : Fin N).val ^ (N - 2) % N = (0 : Fin N).val
  rw [show (0 : Fin N).val = 0 from Nat.zero_mod N, Nat.zero_pow (by omega), Nat.zero_mod]
theorem fin_nz (G : Num.Gen N g) (h2 : 2 < N) (x y : Fin N) (h : x * y = 0) : x = 0 ∨ y = 0 := by
  have h1 := congrArg Fin.val h
  rw [Fin.val_mul, show (0 : Fin N).val = 0 from Nat.zero_mod N] at h1
  rcases G.nozero h2 x.val y.val h1 with h3 | h3
  · left
    by_cases hx : x = 0
    · exact hx
    · exact absurd h3 (fin_mod_ne hx)
  · right
    by_cases hy : y = 0
    · exact hy
    · exact absurd h3 (fin_mod_ne hy)
theorem fin_one (h2 : 2 < N) : (1 : Fin N) ≠ 0 := fun h => by
  have := congrArg Fin.val h
  rw [one_val h2, show (0 : Fin N).val = 0 from Nat.zero_mod N] at this
  omega
theorem fin_two (h2 : 2 < N) : (1 : Fin N) + 1 ≠ 0 := fun h => by
  have := congrArg Fin.val h
  rw [Fin.val_add, one_val h2, show (0 : Fin N).val = 0 from Nat.zero_mod N, Nat.mod_eq_of_lt (by omega)] at this
  omega
theorem sq_pow (x e : Nat) : (x * x) ^ e = x ^ (2 * e) := by rw [Nat.pow_mul, Nat.pow_two]
theorem fin_nsq (G : Num.Gen N g) (h2 : 2 < N) (ho : N % 2 = 1) {d : Fin N} (hd0 : d ≠ 0) (hd : Nsq d) (x y : Fin N) (h : x * x = d * (y * y)) : y = 0 := by
  unfold Nsq at hd
  by_cases hy : y = 0
  · exact hy
  exfalso
  have hx : x ≠ 0 := fun e => by
    rw [e] at h
    have h1 : d * (y * y) = 0 := by rw [← h]; grind
    rcases fin_nz G h2 _ _ h1 with h3 | h3
    · exact hd0 h3
    · rcases fin_nz G h2 _ _ h3 with h4 | h4 <;> exact hy h4
  have h1 := congrArg Fin.val h
  rw [Fin.val_mul, Fin.val_mul, Fin.val_mul, Nat.mul_mod_mod] at h1
  have hxf := G.fermat x.val (fin_mod_ne hx)
  have hyf := G.fermat y.val (fin_mod_ne hy)
  obtain ⟨e, he⟩ : ∃ e, e = (N - 1) / 2 := ⟨_, rfl⟩
  have he2 : 2 * e = N - 1 := by omega
  rw [← he] at hd
  rw [← he2] at hxf hyf
  apply hd
  have h3 : (x.val * x.val) ^ e % N = (d.val * (y.val * y.val)) ^ e % N := by
    rw [Nat.pow_mod, h1, ← Nat.pow_mod]
  rw [sq_pow, hxf, Nat.mul_pow, sq_pow, Nat.mul_mod, hyf, Nat.mul_one, Nat.mod_mod] at h3
  exact h3.symm
theorem fin_sq (G : Num.Gen N g) (h2 : 2 < N) (ho : N % 2 = 1) {d : Fin N} (hd0 : d ≠ 0) (hd : Nsq d) (w : Fin N) (hw : w ≠ 0) : (∃ r, r * r = w) ∨ (∃ r, r * r = d * w) := by
  have half : ∀ (x : Fin N) (k : Nat), x.val = g ^ k % N → k % 2 = 0 → ∃ r, r * r = x := fun x k hk h => ⟨Fin.ofNat N (g ^ (k / 2)), by
    apply Fin.ext
    rw [Fin.val_mul]
    show (g ^ (k / 2) % N) * (g ^ (k / 2) % N) % N = x.val
    rw [← Nat.mul_mod, ← Nat.pow_add, show k / 2 + k / 2 = k by omega, hk]⟩
  obtain ⟨k, hk⟩ := G.gen w.val (by have := fin_val_ne hw; omega) w.isLt
  obtain ⟨j, hj⟩ := G.gen d.val (by have := fin_val_ne hd0; omega) d.isLt
  by_cases h : k % 2 = 0
  · exact Or.inl (half w k hk h)
  · right
    have hj1 : j % 2 ≠ 0 := fun e => by
      obtain ⟨r, hr⟩ := half d j hj e
      exact fin_one h2 (fin_nsq G h2 ho hd0 hd r 1 (by rw [hr]; grind))
    refine half (d * w) (j + k) ?_ (by omega)
    rw [Fin.val_mul, hj, hk, ← Nat.mul_mod, ← Nat.pow_add]
/-- The curve. -/
def finC (G : Num.Gen N g) (h2 : 2 < N) (ho : N % 2 = 1) (a s d : Fin N) (sq : a = s * s) (hs : s ≠ 0) (hd0 : d ≠ 0) (hd : Nsq d) : Crv N where
  a := a
  s := s
  d := d
  iv := finv
  sq := sq
  snz := hs
  inv := fin_inv G h2
  nz := fin_nz G h2
  one := fin_one h2
  two := fin_two h2
  nsq := fin_nsq G h2 ho hd0 hd
end
end Go.Proofs.Ytidhffaphbiapaa

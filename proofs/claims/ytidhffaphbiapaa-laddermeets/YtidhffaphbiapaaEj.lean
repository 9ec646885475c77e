/- A point's order; a ladder in numbers modulo n; what is not 0. No program. -/
import Derived.Test.YtidhffaphbiapaaEh
import Derived.Test.YtidhffaphbiapaaNl
namespace Go.Proofs.Ytidhffaphbiapaa
open Num (force force_eq)

section
variable {N : Nat} [NeZero N] (C : Crv N)
theorem Crv.mul_mod {P : Fin N × Fin N} (hP : C.On P) {l : Nat} (hl : C.mul P l = C.zero) (m : Nat) : C.mul P (m % l) = C.mul P m := by
  have h := C.mul_add hP (l * (m / l)) (m % l)
  rw [Nat.div_add_mod, C.mul_mul hP, hl, C.mul_zero, C.zero_add (C.on_mul hP _)] at h
  exact h.symm
theorem Crv.mul_gcd {P : Fin N × Fin N} (hP : C.On P) (a b : Nat) (ha : C.mul P a = C.zero) (hb : C.mul P b = C.zero) : C.mul P (Nat.gcd a b) = C.zero := by
  induction a, b using Nat.gcd.induction with
  | H0 b => rw [Nat.gcd_zero_left]; exact hb
  | H1 a b _ ih =>
    rw [Nat.gcd_rec]
    exact ih (by rw [C.mul_mod hP ha]; exact hb) ha
theorem Crv.order {P : Fin N × Fin N} (hP : C.On P) {l : Nat} (hl : C.mul P l = C.zero) (hp : Num.IsP l) (hne : P ≠ C.zero) (m : Nat) (hm : C.mul P m = C.zero) : l ∣ m := by
  have hg := C.mul_gcd hP m l hm hl
  rcases hp.2 _ (Nat.gcd_dvd_right m l) with h | h
  · rw [h, C.mul_one hP] at hg
    exact absurd hg hne
  · rw [← h]; exact Nat.gcd_dvd_left m l
/-- A point of height 1 is the neutral one. -/
theorem Crv.top {P : Fin N × Fin N} (ha : C.a = 1) (hP : C.On P) (hy : 1 - P.2 = 0) : P = C.zero := by
  obtain ⟨x, y⟩ := P
  unfold Crv.On at hP
  dsimp only at hP hy
  rw [ha] at hP
  have hy1 : y = 1 := by grind
  subst hy1
  have hx : x * x * (1 - C.d) = 0 := by grind
  have hx0 : x = 0 := by
    rcases C.nz _ _ hx with h | h
    · exact C.sqz h
    · exact absurd (by grind) C.d_ne_one
  subst hx0
  rfl
/-- What is no multiple of the order has a coordinate that is not 0. -/
theorem Crv.U_ne {P : Fin N × Fin N} (ha : C.a = 1) (hP : C.On P) {l : Nat} (hl : C.mul P l = C.zero) (hp : Num.IsP l) (hl2 : l % 2 = 1) (hne : P ≠ C.zero) (σ : Fin N) (hs : σ * σ = 1) (m : Nat) (hm : ¬ l ∣ m) : C.U σ (C.mul P m) ≠ 0 := by
  intro h
  have hQ := C.on_mul hP m
  have hsn : σ ≠ 0 := fun e => C.one (by rw [← hs, e]; grind)
  have hz : 1 - (C.mul P m).2 ≠ 0 := fun e => hm (C.order hP hl hp hne m (C.top ha hQ e))
  have h1 : C.U σ (C.mul P m) * (σ * (1 - (C.mul P m).2)) = 1 + (C.mul P m).2 := C.quot' (C.ne_mul hsn hz)
  rw [h] at h1
  have h2 : 1 + (C.mul P m).2 = 0 := by rw [← h1]; grind
  have h3 := C.flat_two ha hQ (by rw [h2]; grind)
  have h4 : C.mul P (m * 2) = C.zero := by
    rw [C.mul_mul hP, show C.mul (C.mul P m) 2 = C.add (C.mul (C.mul P m) 1) (C.mul P m) from rfl, C.mul_one hQ, h3]
  have h5 := C.order hP hl hp hne _ h4
  obtain ⟨q, hq⟩ := h5
  have hq2 : q % 2 = 0 := by
    have h6 : (l * q) % 2 = 0 := by rw [← hq]; omega
    rw [Nat.mul_mod, hl2, Nat.one_mul, Nat.mod_mod] at h6
    exact h6
  apply hm
  refine ⟨q / 2, ?_⟩
  have h7 : q = 2 * (q / 2) := by omega
  rw [h7, show l * (2 * (q / 2)) = 2 * (l * (q / 2)) by rw [Nat.mul_left_comm]] at hq
  omega
end

section
variable {N : Nat} [NeZero N]
/-- A number, as one modulo N. -/
def cn (N : Nat) [NeZero N] (x : Nat) : Fin N := Fin.ofNat N x
theorem cn_mul (x y : Nat) : cn N (x * y % N) = cn N x * cn N y := by apply Fin.ext; simp [cn, Fin.val_mul]
theorem cn_add (x y : Nat) : cn N ((x + y) % N) = cn N x + cn N y := by apply Fin.ext; simp [cn, Fin.val_add]
theorem cn_sub (x y : Nat) (h : y ≤ N) : cn N ((x + N - y) % N) = cn N x - cn N y := by
  have h1 : cn N ((x + N - y) % N) + cn N y = cn N x := by
    apply Fin.ext
    simp [cn, Fin.val_add]
    rw [Nat.sub_add_cancel (by omega), Nat.add_mod_right]
  grind
theorem cn_zero : cn N 0 = 0 := rfl
theorem cn_one : cn N 1 = 1 := rfl
theorem cn_eq_zero {x : Nat} (hx : x < N) (h : cn N x = 0) : x = 0 := by
  have := congrArg Fin.val h
  simpa [cn, Nat.mod_eq_of_lt hx] using this
/-- The ladder's step in numbers. -/
def nst {α : Type} (n k u : Nat) (bit : Bool) (a b c d : Nat) (K : Nat → Nat → Nat → Nat → α) : α :=
  force (cond bit c a) fun a1 => force (cond bit d b) fun b1 => force (cond bit a c) fun c1 => force (cond bit b d) fun d1 =>
  force ((a1 + b1) % n) fun p => force ((a1 + n - b1) % n) fun q => force (p * p % n) fun s => force (q * q % n) fun t => force ((s + n - t) % n) fun e =>
  force ((c1 + d1) % n * q % n) fun x => force ((c1 + n - d1) % n * p % n) fun y =>
  force (s * t % n) fun a2 => force (e * ((s + k * e % n) % n) % n) fun b2 =>
  force ((x + y) % n) fun f => force ((x + n - y) % n) fun g => force (f * f % n) fun c2 => force (u * (g * g % n) % n) fun d2 =>
  K (cond bit c2 a2) (cond bit d2 b2) (cond bit a2 c2) (cond bit b2 d2)
def nl {α : Type} (n k u : Nat) : List Bool → Nat → Nat → Nat → Nat → (Nat → Nat → Nat → Nat → α) → α
  | [], a, b, c, d, K => K a b c d
  | bit :: r, a, b, c, d, K => nst n k u bit a b c d fun a b c d => nl n k u r a b c d K
theorem mod_lt' (x : Nat) : x % N < N := Nat.mod_lt _ (Nat.pos_of_ne_zero (NeZero.ne N))
theorem ldbl_cn (k a b : Nat) (hb : b ≤ N) : ldbl (cn N k) (cn N a) (cn N b) =
    (cn N (((a + b) % N) * ((a + b) % N) % N * (((a + N - b) % N) * ((a + N - b) % N) % N) % N),
     cn N (((((a + b) % N) * ((a + b) % N) % N) + N - ((a + N - b) % N) * ((a + N - b) % N) % N) % N * (((((a + b) % N) * ((a + b) % N) % N) + k * ((((a + b) % N) * ((a + b) % N) % N + N - ((a + N - b) % N) * ((a + N - b) % N) % N) % N) % N) % N) % N)) := by
  unfold ldbl
  simp only [cn_mul, cn_add, cn_sub _ _ hb, cn_sub _ _ (Nat.le_of_lt (mod_lt' _))]
theorem ldif_cn (u a b c d : Nat) (hb : b ≤ N) (hd : d ≤ N) : ldif (cn N u) (cn N a) (cn N b) (cn N c) (cn N d) =
    (cn N ((((c + d) % N * ((a + N - b) % N) % N + (c + N - d) % N * ((a + b) % N) % N) % N) * (((c + d) % N * ((a + N - b) % N) % N + (c + N - d) % N * ((a + b) % N) % N) % N) % N),
     cn N (u * ((((c + d) % N * ((a + N - b) % N) % N + N - (c + N - d) % N * ((a + b) % N) % N) % N) * (((c + d) % N * ((a + N - b) % N) % N + N - (c + N - d) % N * ((a + b) % N) % N) % N) % N) % N)) := by
  unfold ldif
  simp only [cn_mul, cn_add, cn_sub _ _ hb, cn_sub _ _ hd, cn_sub _ _ (Nat.le_of_lt (mod_lt' _))]
theorem nst_ok (k u : Nat) (bit : Bool) (a b c d : Nat) (hb : b ≤ N) (hd : d ≤ N) : ∃ A B C D, A < N ∧ B < N ∧ C < N ∧ D < N ∧ (∀ {α : Type} (K : Nat → Nat → Nat → Nat → α), nst N k u bit a b c d K = K A B C D) ∧
    lstep (cn N k) (cn N u) ((cn N a, cn N b), (cn N c, cn N d)) bit = ((cn N A, cn N B), (cn N C, cn N D)) := by
  cases bit with
  | false =>
    refine ⟨_, _, _, _, mod_lt' _, mod_lt' _, mod_lt' _, mod_lt' _, fun K => by simp only [nst, force_eq, cond_false]; rfl, ?_⟩
    show (ldbl (cn N k) (cn N a) (cn N b), ldif (cn N u) (cn N a) (cn N b) (cn N c) (cn N d)) = _
    rw [ldbl_cn k a b hb, ldif_cn u a b c d hb hd]
  | true =>
    refine ⟨_, _, _, _, mod_lt' _, mod_lt' _, mod_lt' _, mod_lt' _, fun K => by simp only [nst, force_eq, cond_true]; rfl, ?_⟩
    show (ldif (cn N u) (cn N c) (cn N d) (cn N a) (cn N b), ldbl (cn N k) (cn N c) (cn N d)) = _
    rw [ldbl_cn k c d hd, ldif_cn u c d a b hd hb]
theorem nl_ok (k u : Nat) : ∀ (bits : List Bool) (a b c d : Nat), a < N → b < N → c < N → d < N → ∃ A B C D, A < N ∧ B < N ∧ C < N ∧ D < N ∧ (∀ {α : Type} (K : Nat → Nat → Nat → Nat → α), nl N k u bits a b c d K = K A B C D) ∧
    lads (cn N k) (cn N u) ((cn N a, cn N b), (cn N c, cn N d)) bits = ((cn N A, cn N B), (cn N C, cn N D))
  | [], a, b, c, d, ha, hb, hc, hd => ⟨a, b, c, d, ha, hb, hc, hd, fun _ => rfl, rfl⟩
  | bit :: r, a, b, c, d, _, hb, _, hd => by
    obtain ⟨A, B, C, D, hA, hB, hC, hD, hK, hl⟩ := nst_ok (N := N) k u bit a b c d (Nat.le_of_lt hb) (Nat.le_of_lt hd)
    obtain ⟨A2, B2, C2, D2, hA2, hB2, hC2, hD2, hK2, hl2⟩ := nl_ok k u r A B C D hA hB hC hD
    refine ⟨A2, B2, C2, D2, hA2, hB2, hC2, hD2, fun K => by show nst N k u bit a b c d _ = _; rw [hK, hK2], ?_⟩
    show lads (cn N k) (cn N u) (lstep (cn N k) (cn N u) ((cn N a, cn N b), (cn N c, cn N d)) bit) r = _
    rw [hl]; exact hl2
/-- The lowest f bits of a number, the highest first. -/
def nbits (n : Nat) : Nat → List Bool
  | 0 => []
  | f + 1 => n.testBit f :: nbits n f
theorem bnum_nbits (n : Nat) : ∀ f m, bnum m (nbits n f) = m * 2 ^ f + n % 2 ^ f
  | 0, m => by show m = _; rw [Nat.pow_zero, Nat.mod_one]; omega
  | f + 1, m => by
    show bnum (2 * m + (n.testBit f).toNat) (nbits n f) = _
    rw [bnum_nbits n f, Nat.toNat_testBit, Nat.pow_succ, Nat.mod_mul, Nat.add_mul, Nat.mul_comm (n / 2 ^ f % 2), show 2 * m * 2 ^ f = m * (2 ^ f * 2) by rw [Nat.mul_comm 2 m, Nat.mul_assoc, Nat.mul_comm 2]]
    omega
end
end Go.Proofs.Ytidhffaphbiapaa

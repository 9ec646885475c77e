/- The curve a x² + y² = 1 + d x² y², a a square and d none: its points are a group. No program. -/
import Derived.Test.YtidhffaphbiapaaAa
namespace Go.Proofs.Ytidhffaphbiapaa

/-- A field, by what is used of it, and the curve's numbers. -/
structure Crv (N : Nat) [NeZero N] where
  a : Fin N
  s : Fin N
  d : Fin N
  iv : Fin N → Fin N
  sq : a = s * s
  snz : s ≠ 0
  inv : ∀ x, x ≠ 0 → x * iv x = 1
  nz : ∀ x y : Fin N, x * y = 0 → x = 0 ∨ y = 0
  one : (1 : Fin N) ≠ 0
  two : (1 : Fin N) + 1 ≠ 0
  nsq : ∀ x y : Fin N, x * x = d * (y * y) → y = 0

section
variable {N : Nat} [NeZero N] (C : Crv N)

include C in
theorem Crv.ne_mul {x y : Fin N} (hx : x ≠ 0) (hy : y ≠ 0) : x * y ≠ 0 := fun h => by
  rcases C.nz x y h with h | h
  · exact hx h
  · exact hy h
include C in
theorem Crv.cancel {x y z : Fin N} (hz : z ≠ 0) (h : x * z = y * z) : x = y := by
  have h1 : (x - y) * z = 0 := by grind
  rcases C.nz _ _ h1 with h2 | h2
  · grind
  · exact absurd h2 hz
include C in
theorem Crv.sqz {x : Fin N} (h : x * x = 0) : x = 0 := by
  rcases C.nz _ _ h with h | h <;> exact h
/-- A quotient: what times z is x. -/
theorem Crv.quot {x z q : Fin N} (hz : z ≠ 0) (h : q * z = x) : x * C.iv z = q := by
  have h1 := C.inv z hz
  grind
theorem Crv.quot' {x z : Fin N} (hz : z ≠ 0) : x * C.iv z * z = x := by
  have h1 := C.inv z hz
  grind

/-- A point of the curve. -/
def Crv.On (P : Fin N × Fin N) : Prop := C.a * (P.1 * P.1) + P.2 * P.2 = 1 + C.d * (P.1 * P.1) * (P.2 * P.2)
/-- The product that the divisors have. -/
def Crv.D (P Q : Fin N × Fin N) : Fin N := C.d * (P.1 * Q.1 * P.2 * Q.2)
def Crv.add (P Q : Fin N × Fin N) : Fin N × Fin N := ((P.1 * Q.2 + P.2 * Q.1) * C.iv (1 + C.D P Q), (P.2 * Q.2 - C.a * (P.1 * Q.1)) * C.iv (1 - C.D P Q))
def Crv.zero (_ : Crv N) : Fin N × Fin N := (0, 1)
def Crv.neg (_ : Crv N) (P : Fin N × Fin N) : Fin N × Fin N := (-P.1, P.2)

theorem Crv.full {P Q : Fin N × Fin N} (hP : C.On P) (hQ : C.On Q) : C.D P Q * C.D P Q ≠ 1 := by
  intro h
  unfold Crv.D at h
  unfold Crv.On at hP hQ
  obtain ⟨x1, y1⟩ := P
  obtain ⟨x2, y2⟩ := Q
  dsimp only at h hP hQ
  have hs := C.sq
  have hn := C.nsq
  have hone := C.one
  generalize C.d = d at *
  generalize C.a = a at *
  have hxy : x1 * y1 ≠ 0 := fun e => hone (by rw [← h]; grind)
  have k1 : ∀ ε : Fin N, ε * ε = 1 → d * (x1 * x2 * y1 * y2) = ε → (C.s * x1 + ε * y1) * (C.s * x1 + ε * y1) = d * ((x1 * y1 * (C.s * x2 + y2)) * (x1 * y1 * (C.s * x2 + y2))) := by
    intro ε he hd
    generalize C.s = s at *
    grind
  have k2 : ∀ ε : Fin N, ε * ε = 1 → d * (x1 * x2 * y1 * y2) = ε → (C.s * x1 - ε * y1) * (C.s * x1 - ε * y1) = d * ((x1 * y1 * (C.s * x2 - y2)) * (x1 * y1 * (C.s * x2 - y2))) := by
    intro ε he hd
    generalize C.s = s at *
    grind
  have h1 := hn _ _ (k1 _ h rfl)
  have h2 := hn _ _ (k2 _ h rfl)
  have h3 : C.s * x2 + y2 = 0 := by
    rcases C.nz _ _ h1 with h | h
    · exact absurd h hxy
    · exact h
  have h4 : C.s * x2 - y2 = 0 := by
    rcases C.nz _ _ h2 with h | h
    · exact absurd h hxy
    · exact h
  have h5 : (1 + 1) * y2 = 0 := by grind
  rcases C.nz _ _ h5 with h6 | h6
  · exact C.two h6
  · exact hone (by rw [← h]; grind)
theorem Crv.plus {P Q : Fin N × Fin N} (hP : C.On P) (hQ : C.On Q) : 1 + C.D P Q ≠ 0 := fun h => C.full hP hQ (by grind)
theorem Crv.less {P Q : Fin N × Fin N} (hP : C.On P) (hQ : C.On Q) : 1 - C.D P Q ≠ 0 := fun h => C.full hP hQ (by grind)

/-- What a sum's coordinates are, with no quotient. -/
theorem Crv.add_x {P Q : Fin N × Fin N} (hP : C.On P) (hQ : C.On Q) : (C.add P Q).1 * (1 + C.D P Q) = P.1 * Q.2 + P.2 * Q.1 := C.quot' (C.plus hP hQ)
theorem Crv.add_y {P Q : Fin N × Fin N} (hP : C.On P) (hQ : C.On Q) : (C.add P Q).2 * (1 - C.D P Q) = P.2 * Q.2 - C.a * (P.1 * Q.1) := C.quot' (C.less hP hQ)
theorem Crv.add_of {P Q R : Fin N × Fin N} (hP : C.On P) (hQ : C.On Q) (hx : R.1 * (1 + C.D P Q) = P.1 * Q.2 + P.2 * Q.1) (hy : R.2 * (1 - C.D P Q) = P.2 * Q.2 - C.a * (P.1 * Q.1)) : C.add P Q = R := by
  apply Prod.ext
  · exact C.cancel (C.plus hP hQ) (by rw [C.add_x hP hQ, hx])
  · exact C.cancel (C.less hP hQ) (by rw [C.add_y hP hQ, hy])
theorem Crv.on_add {P Q : Fin N × Fin N} (hP : C.On P) (hQ : C.On Q) : C.On (C.add P Q) := by
  have hx := C.add_x hP hQ
  have hy := C.add_y hP hQ
  have hp := C.plus hP hQ
  have hl := C.less hP hQ
  generalize C.add P Q = R at *
  obtain ⟨x1, y1⟩ := P
  obtain ⟨x2, y2⟩ := Q
  obtain ⟨x3, y3⟩ := R
  unfold Crv.On Crv.D at *
  dsimp only at *
  have hz := C.ne_mul (C.ne_mul hp hp) (C.ne_mul hl hl)
  apply C.cancel hz
  generalize C.d = d at *
  generalize C.a = a at *
  have e1 : (x3 * (1 + d * (x1 * x2 * y1 * y2))) * (x3 * (1 + d * (x1 * x2 * y1 * y2))) = (x1 * y2 + y1 * x2) * (x1 * y2 + y1 * x2) := by rw [hx]
  have e2 : (y3 * (1 - d * (x1 * x2 * y1 * y2))) * (y3 * (1 - d * (x1 * x2 * y1 * y2))) = (y1 * y2 - a * (x1 * x2)) * (y1 * y2 - a * (x1 * x2)) := by rw [hy]
  have key : a * ((x1 * y2 + y1 * x2) * (x1 * y2 + y1 * x2)) * ((1 - d * (x1 * x2 * y1 * y2)) * (1 - d * (x1 * x2 * y1 * y2))) + ((y1 * y2 - a * (x1 * x2)) * (y1 * y2 - a * (x1 * x2))) * ((1 + d * (x1 * x2 * y1 * y2)) * (1 + d * (x1 * x2 * y1 * y2)))
      = ((1 + d * (x1 * x2 * y1 * y2)) * (1 + d * (x1 * x2 * y1 * y2))) * ((1 - d * (x1 * x2 * y1 * y2)) * (1 - d * (x1 * x2 * y1 * y2))) + d * ((x1 * y2 + y1 * x2) * (x1 * y2 + y1 * x2)) * ((y1 * y2 - a * (x1 * x2)) * (y1 * y2 - a * (x1 * x2))) := by
    clear e1 e2 hx hy hp hl hz
    grind
  rw [← e1, ← e2] at key
  clear e1 e2 hx hy hP hQ hp hl hz
  generalize 1 + d * (x1 * x2 * y1 * y2) = u at *
  generalize 1 - d * (x1 * x2 * y1 * y2) = v at *
  grind
theorem Crv.on_zero : C.On C.zero := by
  unfold Crv.On Crv.zero
  dsimp only
  grind
theorem Crv.on_neg {P : Fin N × Fin N} (hP : C.On P) : C.On (C.neg P) := by
  unfold Crv.On Crv.neg at *
  dsimp only
  grind
theorem Crv.add_comm {P Q : Fin N × Fin N} (hP : C.On P) (hQ : C.On Q) : C.add P Q = C.add Q P := by
  have e : C.D P Q = C.D Q P := by unfold Crv.D; grind
  have hx := C.add_x hQ hP
  have hy := C.add_y hQ hP
  exact C.add_of hP hQ (by rw [e, hx]; grind) (by rw [e, hy]; grind)
theorem Crv.add_zero {P : Fin N × Fin N} (hP : C.On P) : C.add P C.zero = P := by
  refine C.add_of hP C.on_zero ?_ ?_
  · unfold Crv.D Crv.zero; dsimp only; grind
  · unfold Crv.D Crv.zero; dsimp only; grind
theorem Crv.zero_add {P : Fin N × Fin N} (hP : C.On P) : C.add C.zero P = P := by rw [C.add_comm C.on_zero hP, C.add_zero hP]
theorem Crv.add_neg {P : Fin N × Fin N} (hP : C.On P) : C.add P (C.neg P) = C.zero := by
  refine C.add_of hP (C.on_neg hP) ?_ ?_
  · unfold Crv.D Crv.zero Crv.neg; dsimp only; grind
  · unfold Crv.On at hP
    unfold Crv.D Crv.zero Crv.neg; dsimp only; grind
theorem Crv.assoc_x (d a x1 y1 x2 y2 x3 y3 : Fin N) (e1 : a * (x1 * x1) + y1 * y1 = 1 + d * (x1 * x1) * (y1 * y1)) (e2 : a * (x2 * x2) + y2 * y2 = 1 + d * (x2 * x2) * (y2 * y2)) (e3 : a * (x3 * x3) + y3 * y3 = 1 + d * (x3 * x3) * (y3 * y3)) :
  ((x1*y2+y1*x2)*(1 - d*(x1*x2*y1*y2))*y3 + (y1*y2-a*(x1*x2))*(1 + d*(x1*x2*y1*y2))*x3) * ((1 + d*(x2*x3*y2*y3))*(1 - d*(x2*x3*y2*y3)) + d*x1*y1*(x2*y3+y2*x3)*(y2*y3-a*(x2*x3)))
  = (x1*(y2*y3-a*(x2*x3))*(1 + d*(x2*x3*y2*y3)) + y1*(x2*y3+y2*x3)*(1 - d*(x2*x3*y2*y3))) * ((1 + d*(x1*x2*y1*y2))*(1 - d*(x1*x2*y1*y2)) + d*(x1*y2+y1*x2)*(y1*y2-a*(x1*x2))*x3*y3) := by
  grind
theorem Crv.assoc_y (d a x1 y1 x2 y2 x3 y3 : Fin N) (e1 : a * (x1 * x1) + y1 * y1 = 1 + d * (x1 * x1) * (y1 * y1)) (e2 : a * (x2 * x2) + y2 * y2 = 1 + d * (x2 * x2) * (y2 * y2)) (e3 : a * (x3 * x3) + y3 * y3 = 1 + d * (x3 * x3) * (y3 * y3)) :
  ((y1*y2-a*(x1*x2))*(1 + d*(x1*x2*y1*y2))*y3 - a*((x1*y2+y1*x2)*(1 - d*(x1*x2*y1*y2))*x3)) * ((1 + d*(x2*x3*y2*y3))*(1 - d*(x2*x3*y2*y3)) - d*x1*y1*(x2*y3+y2*x3)*(y2*y3-a*(x2*x3)))
  = (y1*(y2*y3-a*(x2*x3))*(1 + d*(x2*x3*y2*y3)) - a*(x1*(x2*y3+y2*x3)*(1 - d*(x2*x3*y2*y3)))) * ((1 + d*(x1*x2*y1*y2))*(1 - d*(x1*x2*y1*y2)) - d*(x1*y2+y1*x2)*(y1*y2-a*(x1*x2))*x3*y3) := by
  grind
theorem Crv.add_assoc {P Q R : Fin N × Fin N} (hP : C.On P) (hQ : C.On Q) (hR : C.On R) : C.add (C.add P Q) R = C.add P (C.add Q R) := by
  have hPQ := C.on_add hP hQ
  have hQR := C.on_add hQ hR
  have ax := C.add_x hP hQ
  have ay := C.add_y hP hQ
  have bx := C.add_x hQ hR
  have byy := C.add_y hQ hR
  have ap := C.plus hP hQ
  have al := C.less hP hQ
  have bp := C.plus hQ hR
  have bl := C.less hQ hR
  have cx := C.add_x hPQ hR
  have cy := C.add_y hPQ hR
  have cp := C.plus hPQ hR
  have cl := C.less hPQ hR
  have dx := C.add_x hP hQR
  have dy := C.add_y hP hQR
  have dp := C.plus hP hQR
  have dl := C.less hP hQR
  generalize C.add (C.add P Q) R = S at *
  generalize C.add P (C.add Q R) = T at *
  generalize C.add P Q = U at *
  generalize C.add Q R = V at *
  obtain ⟨x1, y1⟩ := P
  obtain ⟨x2, y2⟩ := Q
  obtain ⟨x3, y3⟩ := R
  obtain ⟨x4, y4⟩ := S
  obtain ⟨x5, y5⟩ := T
  obtain ⟨x6, y6⟩ := U
  obtain ⟨x7, y7⟩ := V
  unfold Crv.On Crv.D at *
  dsimp only at *
  have kx := Crv.assoc_x C.d C.a x1 y1 x2 y2 x3 y3 hP hQ hR
  have ky := Crv.assoc_y C.d C.a x1 y1 x2 y2 x3 y3 hP hQ hR
  generalize C.d = d at *
  generalize C.a = a at *
  clear hP hQ hR hPQ hQR
  rw [← ax, ← ay, ← bx, ← byy] at kx ky
  clear ax ay bx byy
  generalize 1 + d * (x1 * x2 * y1 * y2) = m1 at *
  generalize 1 - d * (x1 * x2 * y1 * y2) = m2 at *
  generalize 1 + d * (x2 * x3 * y2 * y3) = n1 at *
  generalize 1 - d * (x2 * x3 * y2 * y3) = n2 at *
  have m := C.ne_mul ap al
  have n := C.ne_mul bp bl
  have kx2 : (x6 * y3 + y6 * x3) * (1 + d * (x1 * x7 * y1 * y7)) = (x1 * y7 + y1 * x7) * (1 + d * (x6 * x3 * y6 * y3)) := C.cancel (C.ne_mul m n) (by clear cx dx cy dy cp cl dp dl ky ap al bp bl m n; grind)
  have ky2 : (y6 * y3 - a * (x6 * x3)) * (1 - d * (x1 * x7 * y1 * y7)) = (y1 * y7 - a * (x1 * x7)) * (1 - d * (x6 * x3 * y6 * y3)) := C.cancel (C.ne_mul m n) (by clear cx dx cy dy cp cl dp dl kx kx2 ap al bp bl m n; grind)
  clear kx ky m n ap al bp bl
  rw [← cx, ← dx] at kx2
  rw [← cy, ← dy] at ky2
  clear cx cy dx dy
  generalize 1 + d * (x1 * x7 * y1 * y7) = r1 at *
  generalize 1 - d * (x1 * x7 * y1 * y7) = r2 at *
  generalize 1 + d * (x6 * x3 * y6 * y3) = q1 at *
  generalize 1 - d * (x6 * x3 * y6 * y3) = q2 at *
  apply Prod.ext
  · exact C.cancel (C.ne_mul cp dp) (by dsimp only; clear ky2 cp dp cl dl; grind)
  · exact C.cancel (C.ne_mul cl dl) (by dsimp only; clear kx2 cp dp cl dl; grind)
/-- What is added is found again. -/
theorem Crv.add_sub {P Q : Fin N × Fin N} (hP : C.On P) (hQ : C.On Q) : C.add (C.add P Q) (C.neg Q) = P := by
  rw [C.add_assoc hP hQ (C.on_neg hQ), C.add_neg hQ, C.add_zero hP]
end
/-- A point, so many times. -/
def Crv.mul {N : Nat} [NeZero N] (C : Crv N) (P : Fin N × Fin N) : Nat → Fin N × Fin N
  | 0 => C.zero
  | n + 1 => C.add (C.mul P n) P
theorem Crv.on_mul {N : Nat} [NeZero N] (C : Crv N) {P : Fin N × Fin N} (hP : C.On P) : ∀ n, C.On (C.mul P n)
  | 0 => C.on_zero
  | n + 1 => C.on_add (C.on_mul hP n) hP
theorem Crv.mul_one {N : Nat} [NeZero N] (C : Crv N) {P : Fin N × Fin N} (hP : C.On P) : C.mul P 1 = P := C.zero_add hP
theorem Crv.mul_add {N : Nat} [NeZero N] (C : Crv N) {P : Fin N × Fin N} (hP : C.On P) (m : Nat) : ∀ n, C.mul P (m + n) = C.add (C.mul P m) (C.mul P n)
  | 0 => (C.add_zero (C.on_mul hP m)).symm
  | n + 1 => by
    show C.add (C.mul P (m + n)) P = C.add (C.mul P m) (C.add (C.mul P n) P)
    rw [C.mul_add hP m n, C.add_assoc (C.on_mul hP m) (C.on_mul hP n) hP]
theorem Crv.mul_mul {N : Nat} [NeZero N] (C : Crv N) {P : Fin N × Fin N} (hP : C.On P) (m : Nat) : ∀ n, C.mul P (m * n) = C.mul (C.mul P m) n
  | 0 => rfl
  | n + 1 => by
    rw [Nat.mul_succ, C.mul_add hP, C.mul_mul hP m n]; rfl
theorem Crv.mul_zero {N : Nat} [NeZero N] (C : Crv N) : ∀ n, C.mul C.zero n = C.zero
  | 0 => rfl
  | n + 1 => by show C.add (C.mul C.zero n) C.zero = C.zero; rw [C.mul_zero n, C.add_zero C.on_zero]
theorem Crv.mul_plus {N : Nat} [NeZero N] (C : Crv N) {P Q : Fin N × Fin N} (hP : C.On P) (hQ : C.On Q) : ∀ n, C.mul (C.add P Q) n = C.add (C.mul P n) (C.mul Q n)
  | 0 => (C.add_zero C.on_zero).symm
  | n + 1 => by
    show C.add (C.mul (C.add P Q) n) (C.add P Q) = C.add (C.add (C.mul P n) P) (C.add (C.mul Q n) Q)
    have hp := C.on_mul hP n
    have hq := C.on_mul hQ n
    rw [C.mul_plus hP hQ n, C.add_assoc hp hq (C.on_add hP hQ), ← C.add_assoc hq hP hQ, C.add_comm hq hP, C.add_assoc hP hq hQ, ← C.add_assoc hp hP (C.on_add hq hQ)]
section
variable {N : Nat} [NeZero N] (C : Crv N)

theorem dif_id (d x1 y1 x2 y2 D : Fin N) (e1 : x1*x1 + y1*y1 = 1 + d*(x1*x1)*(y1*y1)) (e2 : x2*x2 + y2*y2 = 1 + d*(x2*x2)*(y2*y2)) (hD : D = d * (x1 * x2 * y1 * y2)) :
    (1 - D + (y1*y2 - x1*x2)) * (1 + D + (y1*y2 + x1*x2)) * ((y1 - y2) * (y1 - y2)) = (1 - D - (y1*y2 - x1*x2)) * (1 + D - (y1*y2 + x1*x2)) * ((y1 + y2) * (y1 + y2)) := by
  subst hD
  grind
theorem dbl_id (d c x y : Fin N) (e : x*x + y*y = 1 + d*(x*x)*(y*y)) (hc : d * (c + 1) = c) : (1 - x*x) * (1 + c * (1 - y*y)) = y*y := by
  grind
/-- The ladder's step: twice a point, and a sum whose difference is known. -/
def ldbl (k a b : Fin N) : Fin N × Fin N := ((a + b) * (a + b) * ((a - b) * (a - b)), ((a + b) * (a + b) - (a - b) * (a - b)) * ((a + b) * (a + b) + k * ((a + b) * (a + b) - (a - b) * (a - b))))
def ldif (u a b c d : Fin N) : Fin N × Fin N := (((c + d) * (a - b) + (c - d) * (a + b)) * ((c + d) * (a - b) + (c - d) * (a + b)), u * (((c + d) * (a - b) - (c - d) * (a + b)) * ((c + d) * (a - b) - (c - d) * (a + b))))
theorem ldif_symm (u a b c d : Fin N) : ldif u c d a b = ldif u a b c d := by
  unfold ldif
  apply Prod.ext
  · dsimp only; grind
  · dsimp only; grind
/-- a through b is the coordinate of a point of height y. -/
def Lev (σ y a b : Fin N) : Prop := ∃ l : Fin N, l ≠ 0 ∧ a = l * (1 + y) ∧ b = l * (σ * (1 - y))
/-- Which of the two curves: its number c, and the ladder's k. -/
def Side (σ c k : Fin N) : Prop := (σ = 1 ∧ k = c) ∨ (σ = -1 ∧ k = -(c + 1))
theorem Side.sq {σ c k : Fin N} (h : Side σ c k) : σ * σ = 1 := by
  rcases h with ⟨rfl, _⟩ | ⟨rfl, _⟩ <;> grind
include C in
theorem Crv.lev_of {σ y a b : Fin N} (hσ : σ * σ = 1) (h : a * (σ * (1 - y)) = b * (1 + y)) (hne : a ≠ 0 ∨ b ≠ 0) : Lev σ y a b := by
  have hi := C.inv _ C.two
  generalize C.iv (1 + 1) = i at *
  have ea : a = (a + σ * b) * i * (1 + y) := by
    have : (1 + 1) * i * a = (a + σ * b) * i * (1 + y) := by grind
    grind
  have eb : b = (a + σ * b) * i * (σ * (1 - y)) := by
    have : (1 + 1) * i * b = (a + σ * b) * i * (σ * (1 - y)) := by grind
    grind
  refine ⟨(a + σ * b) * i, fun h0 => ?_, ea, eb⟩
  rw [h0] at ea eb
  rcases hne with h1 | h1
  · exact h1 (by rw [ea]; grind)
  · exact h1 (by rw [eb]; grind)
theorem Crv.dbl_ok {σ c k a b : Fin N} {P : Fin N × Fin N} (ha : C.a = 1) (hc : C.d * (c + 1) = c) (hc1 : c + 1 ≠ 0) (hS : Side σ c k) (hP : C.On P) (h : Lev σ P.2 a b) : Lev σ (C.add P P).2 (ldbl k a b).1 (ldbl k a b).2 := by
  have hy := C.add_y hP hP
  have hl := C.less hP hP
  generalize (C.add P P).2 = y' at *
  obtain ⟨x, y⟩ := P
  obtain ⟨l, hl0, rfl, rfl⟩ := h
  unfold Crv.On Crv.D at *
  dsimp only at *
  rw [ha] at hP hy
  have key := dbl_id C.d c x y (by grind) hc
  have h1 : (1 - C.d * (x * x * y * y)) * (1 - y') = (1 + 1) * (1 - y * y) := by grind
  have h2 : (1 - C.d * (x * x * y * y)) * (1 + y') = (1 + 1) * (1 - x * x) := by grind
  have hb : ∀ z : Fin N, z = 1 + c * (1 - y * y) → y * y * (1 - y') = (1 - y * y) * z * (1 + y') := by
    intro z hz
    apply C.cancel hl
    have e1 : y * y * (1 - y') * (1 - C.d * (x * x * y * y)) = y * y * ((1 + 1) * (1 - y * y)) := by rw [← h1]; grind
    have e2 : (1 - y * y) * z * (1 + y') * (1 - C.d * (x * x * y * y)) = (1 - y * y) * z * ((1 + 1) * (1 - x * x)) := by rw [← h2]; grind
    rw [e1, e2, hz]
    clear h1 h2 hy hP e1 e2 hl
    grind
  have hb' := hb _ rfl
  have hne : y * y ≠ 0 ∨ (1 - y * y) * (1 + c * (1 - y * y)) ≠ 0 := by
    by_cases h0 : y * y = 0
    · right
      rw [h0]
      intro h3
      apply hc1
      grind
    · exact Or.inl h0
  have h16 : (1 + 1 : Fin N) * (1 + 1) * ((1 + 1) * (1 + 1)) * (l * l * (l * l)) ≠ 0 := C.ne_mul (C.ne_mul (C.ne_mul C.two C.two) (C.ne_mul C.two C.two)) (C.ne_mul (C.ne_mul hl0 hl0) (C.ne_mul hl0 hl0))
  have e1 : (ldbl k (l * (1 + y)) (l * (σ * (1 - y)))).1 = (1 + 1 : Fin N) * (1 + 1) * ((1 + 1) * (1 + 1)) * (l * l * (l * l)) * (y * y) := by
    unfold ldbl
    rcases hS with ⟨rfl, rfl⟩ | ⟨rfl, rfl⟩
    · dsimp only; grind
    · dsimp only; grind
  have e2 : (ldbl k (l * (1 + y)) (l * (σ * (1 - y)))).2 = (1 + 1 : Fin N) * (1 + 1) * ((1 + 1) * (1 + 1)) * (l * l * (l * l)) * (σ * ((1 - y * y) * (1 + c * (1 - y * y)))) := by
    unfold ldbl
    rcases hS with ⟨rfl, rfl⟩ | ⟨rfl, rfl⟩
    · dsimp only; grind
    · dsimp only; grind
  rw [e1, e2]
  have hs := hS.sq
  refine C.lev_of hs ?_ ?_
  · clear e1 e2 key h1 h2 hb hne h16 hP hy hl hc
    grind
  · rcases hne with h | h
    · exact Or.inl (C.ne_mul h16 h)
    · refine Or.inr (C.ne_mul h16 fun h0 => h ?_)
      have : σ * (σ * ((1 - y * y) * (1 + c * (1 - y * y)))) = 0 := by rw [h0]; grind
      grind
theorem Crv.neg_d (P Q : Fin N × Fin N) : C.D Q (C.neg P) = - C.D P Q := by unfold Crv.D Crv.neg; dsimp only; grind
theorem Crv.dif_ok {σ u a b c d : Fin N} {P Q R : Fin N × Fin N} (ha : C.a = 1) (hs : σ * σ = 1) (hP : C.On P) (hR : C.On R) (hQ : Q = C.add P R) (hu : u * (σ * (1 - R.2)) = 1 + R.2) (hu0 : u ≠ 0) (hR1 : 1 - R.2 ≠ 0) (h1 : Lev σ P.2 a b) (h2 : Lev σ Q.2 c d) (hS : σ = 1 ∨ σ = -1) :
    Lev σ (C.add P Q).2 (ldif u a b c d).1 (ldif u a b c d).2 := by
  have hQo : C.On Q := by rw [hQ]; exact C.on_add hP hR
  have hRd : R = C.add Q (C.neg P) := by
    rw [hQ, C.add_comm hP hR, C.add_sub hR hP]
  have hy := C.add_y hP hQo
  have hl := C.less hP hQo
  have hp := C.plus hP hQo
  have hz := C.add_y hQo (C.on_neg hP)
  rw [← hRd, C.neg_d] at hz
  clear hRd hQ hR
  generalize (C.add P Q).2 = yp at *
  generalize hD : C.D P Q = D at *
  obtain ⟨x1, y1⟩ := P
  obtain ⟨x2, y2⟩ := Q
  obtain ⟨x0, y0⟩ := R
  unfold Crv.D at hD
  unfold Crv.On at hP hQo
  unfold Crv.neg at hz
  dsimp only at *
  rw [ha] at hP hQo hy hz
  have hid := dif_id C.d x1 y1 x2 y2 D (by grind) (by grind) hD.symm
  have hK : (1 + yp) * (1 + y0) * ((y1 - y2) * (y1 - y2)) = (1 - yp) * (1 - y0) * ((y1 + y2) * (y1 + y2)) := by
    apply C.cancel (C.ne_mul hl hp)
    have t1 : 1 - D + (y1 * y2 - x1 * x2) = (1 - D) * (1 + yp) := by clear hid hz hP hQo hD hu hs hS h1 h2; grind
    have t2 : 1 + D + (y1 * y2 + x1 * x2) = (1 + D) * (1 + y0) := by clear hid hy hP hQo hD hu hs hS h1 h2 t1; grind
    have t3 : 1 - D - (y1 * y2 - x1 * x2) = (1 - D) * (1 - yp) := by clear hid hz hP hQo hD hu hs hS h1 h2 t1 t2; grind
    have t4 : 1 + D - (y1 * y2 + x1 * x2) = (1 + D) * (1 - y0) := by clear hid hy hP hQo hD hu hs hS h1 h2 t1 t2 t3; grind
    rw [t1, t2, t3, t4] at hid
    clear t1 t2 t3 t4 hy hz hP hQo hD hu hs hS h1 h2
    grind
  obtain ⟨l, hl0, rfl, rfl⟩ := h1
  obtain ⟨m, hm0, rfl, rfl⟩ := h2
  have h16 : (1 + 1 : Fin N) * (1 + 1) * ((1 + 1) * (1 + 1)) * (l * m * (l * m)) ≠ 0 := C.ne_mul (C.ne_mul (C.ne_mul C.two C.two) (C.ne_mul C.two C.two)) (C.ne_mul (C.ne_mul hl0 hm0) (C.ne_mul hl0 hm0))
  have e1 : (ldif u (l * (1 + y1)) (l * (σ * (1 - y1))) (m * (1 + y2)) (m * (σ * (1 - y2)))).1 = (1 + 1 : Fin N) * (1 + 1) * ((1 + 1) * (1 + 1)) * (l * m * (l * m)) * ((y1 + y2) * (y1 + y2)) := by
    unfold ldif
    clear hK hid hy hz hP hQo hD hu hs
    rcases hS with rfl | rfl
    · dsimp only; grind
    · dsimp only; grind
  have e2 : (ldif u (l * (1 + y1)) (l * (σ * (1 - y1))) (m * (1 + y2)) (m * (σ * (1 - y2)))).2 = (1 + 1 : Fin N) * (1 + 1) * ((1 + 1) * (1 + 1)) * (l * m * (l * m)) * (u * ((y1 - y2) * (y1 - y2))) := by
    unfold ldif
    clear hK hid hy hz hP hQo hD hu e1 hs
    rcases hS with rfl | rfl
    · dsimp only; grind
    · dsimp only; grind
  rw [e1, e2]
  have hT : (y1 + y2) * (y1 + y2) * (σ * (1 - yp)) = u * ((y1 - y2) * (y1 - y2)) * (1 + yp) := by
    apply C.cancel hR1
    have t : u * (1 - y0) = σ * (1 + y0) := by rw [← hu]; clear hid hy hz hP hQo hD hu hK hS e1 e2; grind
    have t1 : (y1 + y2) * (y1 + y2) * (σ * (1 - yp)) * (1 - y0) = σ * ((1 - yp) * (1 - y0) * ((y1 + y2) * (y1 + y2))) := by clear hid hy hz hP hQo hD hu hK t hS hs e1 e2; grind
    have t2 : u * ((y1 - y2) * (y1 - y2)) * (1 + yp) * (1 - y0) = u * (1 - y0) * ((1 + yp) * ((y1 - y2) * (y1 - y2))) := by clear hid hy hz hP hQo hD hu hK t t1 hS hs e1 e2; grind
    rw [t1, t2, t, ← hK]
    clear hid hy hz hP hQo hD hu hK t t1 t2 hS hs e1 e2
    grind
  refine C.lev_of hs ?_ ?_
  · clear hK hid hy hz hP hQo hD hu e1 e2 hs hS
    grind
  · by_cases hA : y1 + y2 = 0
    · by_cases hB : y1 - y2 = 0
      · exfalso
        clear hid hK hT e1 e2 hS
        have q1 : (1 + 1) * y1 = 0 := by clear hy hz hP hQo hD hu hs; grind
        have q2 : y1 = 0 := by
          rcases C.nz _ _ q1 with h | h
          · exact absurd h C.two
          · exact h
        have q3 : y2 = 0 := by clear hy hz hP hQo hD hu hs; grind
        subst q2 q3
        have q4 : D = 0 := by rw [← hD]; clear hy hz hP hQo hD hu hs; grind
        rw [q4] at hz
        have q5 : y0 = x1 * x2 := by clear hy hP hQo hD hu hs; grind
        have q6 : (1 - y0) * (1 + y0) = 0 := by rw [q5]; clear hy hz hD hu hs; grind
        rcases C.nz _ _ q6 with h | h
        · exact hR1 h
        · rw [h] at hu
          have hsn : σ ≠ 0 := fun h => C.one (by rw [← hs, h]; grind)
          exact C.ne_mul hu0 (C.ne_mul hsn hR1) hu
      · exact Or.inr (C.ne_mul h16 (C.ne_mul hu0 (C.ne_mul hB hB)))
    · exact Or.inl (C.ne_mul h16 (C.ne_mul hA hA))
end
/-- The ladder. -/
def lstep {N : Nat} [NeZero N] (k u : Fin N) (q : (Fin N × Fin N) × (Fin N × Fin N)) : Bool → (Fin N × Fin N) × (Fin N × Fin N)
  | false => (ldbl k q.1.1 q.1.2, ldif u q.1.1 q.1.2 q.2.1 q.2.2)
  | true => (ldif u q.2.1 q.2.2 q.1.1 q.1.2, ldbl k q.2.1 q.2.2)
def lads {N : Nat} [NeZero N] (k u : Fin N) (q : (Fin N × Fin N) × (Fin N × Fin N)) (bits : List Bool) : (Fin N × Fin N) × (Fin N × Fin N) := bits.foldl (lstep k u) q
def lfirst {N : Nat} [NeZero N] (u : Fin N) : (Fin N × Fin N) × (Fin N × Fin N) := ((1, 0), (u, 1))
def lad {N : Nat} [NeZero N] (iv : Fin N → Fin N) (k u : Fin N) (bits : List Bool) : Fin N := (lads k u (lfirst u) bits).1.1 * iv (lads k u (lfirst u) bits).1.2
/-- The number that bits are, the highest first. -/
def bnum (n : Nat) (bits : List Bool) : Nat := bits.foldl (fun n b => 2 * n + b.toNat) n

section
variable {N : Nat} [NeZero N] (C : Crv N)
/-- The coordinate of a point; 0 for the neutral one. -/
def Crv.U (σ : Fin N) (P : Fin N × Fin N) : Fin N := (1 + P.2) * C.iv (σ * (1 - P.2))
structure Good (σ c k u : Fin N) (P : Fin N × Fin N) : Prop where
  a : C.a = 1
  hc : C.d * (c + 1) = c
  c1 : c + 1 ≠ 0
  side : Side σ c k
  on : C.On P
  ne : 1 - P.2 ≠ 0
  u : u * (σ * (1 - P.2)) = 1 + P.2
theorem Side.pm {σ c k : Fin N} (h : Side σ c k) : σ = 1 ∨ σ = -1 := by
  rcases h with ⟨h, _⟩ | ⟨h, _⟩
  · exact Or.inl h
  · exact Or.inr h
variable {C}
/-- What holds along the ladder. -/
def Rung (C : Crv N) (σ : Fin N) (P : Fin N × Fin N) (n : Nat) (q : (Fin N × Fin N) × (Fin N × Fin N)) : Prop := Lev σ (C.mul P n).2 q.1.1 q.1.2 ∧ Lev σ (C.mul P (n + 1)).2 q.2.1 q.2.2
theorem Good.first {σ c k u : Fin N} {P : Fin N × Fin N} (h : Good C σ c k u P) : Rung C σ P 0 (lfirst u) := by
  refine ⟨?_, ?_⟩
  · refine C.lev_of h.side.sq ?_ (Or.inl C.one)
    show (1 : Fin N) * (σ * (1 - 1)) = 0 * (1 + 1)
    grind
  · rw [C.mul_one h.on]
    refine C.lev_of h.side.sq ?_ (Or.inr C.one)
    show u * (σ * (1 - P.2)) = 1 * (1 + P.2)
    rw [h.u]; grind
theorem Good.step {σ c k u : Fin N} {P : Fin N × Fin N} (h : Good C σ c k u P) (hu : u ≠ 0) (n : Nat) (q : (Fin N × Fin N) × (Fin N × Fin N)) (hq : Rung C σ P n q) (b : Bool) : Rung C σ P (2 * n + b.toNat) (lstep k u q b) := by
  have hn := C.on_mul h.on n
  have hn1 := C.on_mul h.on (n + 1)
  have hd := C.dif_ok h.a h.side.sq hn h.on rfl h.u hu h.ne hq.1 hq.2 h.side.pm
  have e1 : C.add (C.mul P n) (C.add (C.mul P n) P) = C.mul P (2 * n + 1) := by
    rw [show 2 * n + 1 = n + (n + 1) by omega, C.mul_add h.on]; rfl
  rw [e1] at hd
  cases b with
  | false =>
    have h2 := C.dbl_ok h.a h.hc h.c1 h.side hn hq.1
    rw [← C.mul_add h.on, show n + n = 2 * n by omega] at h2
    exact ⟨h2, hd⟩
  | true =>
    have h2 := C.dbl_ok h.a h.hc h.c1 h.side hn1 hq.2
    rw [← C.mul_add h.on, show n + 1 + (n + 1) = 2 * n + 1 + 1 by omega] at h2
    refine ⟨?_, h2⟩
    show Lev σ (C.mul P (2 * n + 1)).2 (ldif u q.2.1 q.2.2 q.1.1 q.1.2).1 (ldif u q.2.1 q.2.2 q.1.1 q.1.2).2
    rw [ldif_symm]; exact hd
theorem Good.steps {σ c k u : Fin N} {P : Fin N × Fin N} (h : Good C σ c k u P) (hu : u ≠ 0) : ∀ (bits : List Bool) (n : Nat) (q : (Fin N × Fin N) × (Fin N × Fin N)), Rung C σ P n q → Rung C σ P (bnum n bits) (lads k u q bits)
  | [], _, _, hq => hq
  | b :: bits, n, q, hq => Good.steps h hu bits _ _ (h.step hu n q hq b)
theorem Crv.lev_U (h0 : C.iv 0 = 0) {σ a b : Fin N} {P : Fin N × Fin N} (hs : σ * σ = 1) (h : Lev σ P.2 a b) : a * C.iv b = C.U σ P := by
  obtain ⟨l, hl, rfl, rfl⟩ := h
  unfold Crv.U
  by_cases hy : 1 - P.2 = 0
  · rw [hy, show σ * (0 : Fin N) = 0 by grind, show l * (0 : Fin N) = 0 by grind, h0]; grind
  · have hsn : σ ≠ 0 := fun e => C.one (by rw [← hs, e]; grind)
    have hz := C.ne_mul hsn hy
    have hi := C.inv _ hz
    exact C.quot (C.ne_mul hl hz) (by grind)
theorem Good.lad_ok {σ c k u : Fin N} {P : Fin N × Fin N} (h : Good C σ c k u P) (hu : u ≠ 0) (h0 : C.iv 0 = 0) (bits : List Bool) : lad C.iv k u bits = C.U σ (C.mul P (bnum 0 bits)) :=
  C.lev_U h0 h.side.sq (h.steps hu bits 0 _ h.first).1
/-- A ladder at 0. -/
def Flat (q : (Fin N × Fin N) × (Fin N × Fin N)) : Prop := q.1.1 * q.1.2 = 0 ∧ q.2.1 * q.2.2 = 0
theorem ldbl_flat {k a b : Fin N} (h : a * b = 0) : (ldbl k a b).2 = 0 := by
  unfold ldbl
  dsimp only
  have : (a + b) * (a + b) - (a - b) * (a - b) = 0 := by grind
  rw [this]; grind
theorem ldif_flat {a b c d : Fin N} : (ldif 0 a b c d).2 = 0 := by unfold ldif; dsimp only; grind
theorem flat_step {k : Fin N} (q : (Fin N × Fin N) × (Fin N × Fin N)) (h : Flat q) (b : Bool) : Flat (lstep k 0 q b) := by
  cases b with
  | false =>
    refine ⟨?_, ?_⟩
    · show (ldbl k q.1.1 q.1.2).1 * (ldbl k q.1.1 q.1.2).2 = 0
      rw [ldbl_flat h.1]; grind
    · show (ldif 0 q.1.1 q.1.2 q.2.1 q.2.2).1 * (ldif 0 q.1.1 q.1.2 q.2.1 q.2.2).2 = 0
      rw [ldif_flat]; grind
  | true =>
    refine ⟨?_, ?_⟩
    · show (ldif 0 q.2.1 q.2.2 q.1.1 q.1.2).1 * (ldif 0 q.2.1 q.2.2 q.1.1 q.1.2).2 = 0
      rw [ldif_flat]; grind
    · show (ldbl k q.2.1 q.2.2).1 * (ldbl k q.2.1 q.2.2).2 = 0
      rw [ldbl_flat h.2]; grind
theorem flat_steps {k : Fin N} : ∀ (bits : List Bool) (q : (Fin N × Fin N) × (Fin N × Fin N)), Flat q → Flat (lads k 0 q bits)
  | [], _, h => h
  | b :: bits, q, h => flat_steps bits _ (flat_step q h b)
theorem lad_zero (iv : Fin N → Fin N) (h0 : iv 0 = 0) (k : Fin N) (bits : List Bool) : lad iv k 0 (bits ++ [false]) = 0 := by
  unfold lad lads
  rw [List.foldl_append]
  have h := flat_steps (k := k) bits (lfirst 0) ⟨by show (1 : Fin N) * 0 = 0; grind, by show (0 : Fin N) * 1 = 0; grind⟩
  show (ldbl k _ _).1 * iv (ldbl k (lads k 0 (lfirst 0) bits).1.1 (lads k 0 (lfirst 0) bits).1.2).2 = 0
  rw [ldbl_flat h.1, h0]; grind
theorem bnum_even (bits : List Bool) : bnum 0 (bits ++ [false]) = 2 * bnum 0 bits := by
  unfold bnum
  rw [List.foldl_append]; rfl
theorem Crv.d_ne_one (C : Crv N) : C.d ≠ 1 := fun h => C.one (C.nsq 1 1 (by rw [h]; grind))
/-- A point whose coordinate is 0: an even number of times it is the neutral one. -/
theorem Crv.flat_two {P : Fin N × Fin N} (ha : C.a = 1) (hP : C.On P) (hy : (1 - P.2) * (1 + P.2) = 0) : C.add P P = C.zero := by
  obtain ⟨x, y⟩ := P
  unfold Crv.On at hP
  dsimp only at hP hy
  rw [ha] at hP
  have hx : x * x * (1 - C.d) = 0 := by grind
  have hx0 : x = 0 := by
    rcases C.nz _ _ hx with h | h
    · exact C.sqz h
    · exact absurd (by grind) C.d_ne_one
  subst hx0
  have hon : C.On (0, y) := by unfold Crv.On; dsimp only; rw [ha]; exact hP
  refine C.add_of hon hon ?_ ?_
  · unfold Crv.D Crv.zero; dsimp only; grind
  · unfold Crv.D Crv.zero; dsimp only; grind
theorem Crv.mul_even (C : Crv N) {P : Fin N × Fin N} (hP : C.On P) (h : C.add P P = C.zero) (n : Nat) : C.mul P (2 * n) = C.zero := by
  rw [C.mul_mul hP, show C.mul P 2 = C.add (C.mul P 1) P from rfl, C.mul_one hP, h, C.mul_zero]
theorem Crv.U_zero (C : Crv N) (h0 : C.iv 0 = 0) (σ : Fin N) : C.U σ C.zero = 0 := by
  unfold Crv.U Crv.zero
  dsimp only
  rw [show σ * (1 - 1 : Fin N) = 0 by grind, h0]; grind
/-- One ladder behind another. -/
theorem Good.chain {σ c k u : Fin N} {P : Fin N × Fin N} (h : Good C σ c k u P) (hu : u ≠ 0) (h0 : C.iv 0 = 0) (m n : List Bool) : lad C.iv k (lad C.iv k u (m ++ [false])) (n ++ [false]) = C.U σ (C.mul P (bnum 0 (m ++ [false]) * bnum 0 (n ++ [false]))) := by
  rw [h.lad_ok hu h0, C.mul_mul h.on]
  have hQ := C.on_mul h.on (bnum 0 (m ++ [false]))
  generalize C.mul P (bnum 0 (m ++ [false])) = Q at *
  have hs := h.side.sq
  have hsn : σ ≠ 0 := fun e => C.one (by rw [← hs, e]; grind)
  by_cases hy : (1 - Q.2) * (1 + Q.2) = 0
  · have hU : C.U σ Q = 0 := by
      unfold Crv.U
      rcases C.nz _ _ hy with e | e
      · rw [e, show σ * (0 : Fin N) = 0 by grind, h0]; grind
      · rw [e]; grind
    rw [hU, lad_zero _ h0, bnum_even, C.mul_even hQ (C.flat_two h.a hQ hy), C.U_zero h0]
  · have h1 : 1 - Q.2 ≠ 0 := fun e => hy (by rw [e]; grind)
    have h2 : 1 + Q.2 ≠ 0 := fun e => hy (by rw [e]; grind)
    have hz := C.ne_mul hsn h1
    have hUq : C.U σ Q * (σ * (1 - Q.2)) = 1 + Q.2 := C.quot' hz
    have hU0 : C.U σ Q ≠ 0 := fun e => h2 (by rw [← hUq, e]; grind)
    exact Good.lad_ok ⟨h.a, h.hc, h.c1, h.side, hQ, h1, hUq⟩ hU0 h0 _
end
section
variable {N : Nat} [NeZero N]
/-- The curve's twin: its points have the other coordinates. -/
def Crv.twin (C : Crv N) (hd : C.d ≠ 0) : Crv N where
  a := C.a
  s := C.s
  d := C.iv C.d
  iv := C.iv
  sq := C.sq
  snz := C.snz
  inv := C.inv
  nz := C.nz
  one := C.one
  two := C.two
  nsq := fun x y h => by
    have hi := C.inv _ hd
    have h1 : y * y = C.d * (x * x) := by rw [h]; grind
    have hx := C.nsq y x h1
    rw [hx] at h1
    exact C.sqz (by rw [h1]; grind)
theorem Crv.found (C : Crv N) (ha : C.a = 1) {k u : Fin N} (hk : C.d * (k + 1) = k) (hk0 : k ≠ 0) (hk1 : k + 1 ≠ 0) (hd : C.d ≠ 0) (sq : ∀ w : Fin N, w ≠ 0 → (∃ r, r * r = w) ∨ (∃ r, r * r = C.d * w)) (hu : u ≠ 0) :
    (∃ P, Good C 1 k k u P) ∨ (∃ P, Good (C.twin hd) (-1) (-(k + 1)) k u P) := by
  have hi := C.inv _ hd
  have htc : (C.twin hd).d * (-(k + 1) + 1) = -(k + 1) := by
    show C.iv C.d * (-(k + 1) + 1) = -(k + 1)
    apply C.cancel hd
    generalize C.iv C.d = e at *
    generalize C.d = d at *
    grind
  have ht1 : -(k + 1) + 1 ≠ 0 := fun h => hk0 (by grind)
  by_cases hm : u + 1 = 0
  · right
    refine ⟨(1, 0), ha, htc, ht1, Or.inr ⟨rfl, by grind⟩, ?_, ?_, ?_⟩
    · show (C.twin hd).a * ((1 : Fin N) * 1) + 0 * 0 = 1 + (C.twin hd).d * (1 * 1) * (0 * 0)
      rw [show (C.twin hd).a = 1 from ha]; grind
    · show (1 : Fin N) - 0 ≠ 0
      intro h; exact C.one (by grind)
    · show u * (-1 * (1 - (0 : Fin N))) = 1 + 0
      grind
  · obtain ⟨y, hy⟩ : ∃ y, y * (u + 1) = u - 1 := ⟨(u - 1) * C.iv (u + 1), C.quot' hm⟩
    have h1 : 1 - y ≠ 0 := fun h => C.two (by
      have : (1 - y) * (u + 1) = 1 + 1 := by clear hi hk htc; grind
      rw [← this, h]; clear hi hk htc hy this; grind)
    have hU : u * (1 - y) = 1 + y := C.cancel hm (by clear hi hk htc; grind)
    have hdy : 1 - C.d * (y * y) ≠ 0 := fun h => by
      have h2 := C.nsq 1 y (by clear hi hk htc hy hU; grind)
      rw [h2] at h
      exact C.one (by clear hi hk htc hy hU; grind)
    have h2 : 1 + y ≠ 0 := fun h => by
      rw [h] at hU
      exact C.ne_mul hu h1 hU
    have hw : (1 - y * y) * (1 - C.d * (y * y)) ≠ 0 := C.ne_mul (fun h => C.ne_mul h1 h2 (by clear hi hk htc hy hU; grind)) hdy
    rcases sq _ hw with ⟨r, hr⟩ | ⟨r, hr⟩
    · left
      obtain ⟨x, hx⟩ : ∃ x, x * (1 - C.d * (y * y)) = r := ⟨r * C.iv (1 - C.d * (y * y)), C.quot' hdy⟩
      have hon : x * x * (1 - C.d * (y * y)) = 1 - y * y := C.cancel hdy (by
        rw [← hr, ← hx]; clear hi hk htc hy hU hr hx; grind)
      refine ⟨(x, y), ha, hk, hk1, Or.inl ⟨rfl, rfl⟩, ?_, h1, ?_⟩
      · show C.a * (x * x) + y * y = 1 + C.d * (x * x) * (y * y)
        rw [ha]; clear hi hk htc hy hU hr hx; grind
      · show u * (1 * (1 - y)) = 1 + y
        rw [← hU]; clear hi hk htc hy hU hr hx hon; grind
    · right
      have hy0 : y ≠ 0 := fun h => by
        rw [h] at hr
        exact C.one (C.nsq r 1 (by rw [hr]; clear hi hk htc hy hU hr; grind))
      obtain ⟨z, hz⟩ : ∃ z, y * z = 1 := ⟨C.iv y, C.inv y hy0⟩
      obtain ⟨x, hx⟩ : ∃ x, x * (1 - C.d * (y * y)) = r := ⟨r * C.iv (1 - C.d * (y * y)), C.quot' hdy⟩
      have hon : x * x * (1 - C.d * (y * y)) = C.d * (1 - y * y) := C.cancel hdy (by
        have : C.d * (1 - y * y) * (1 - C.d * (y * y)) = r * r := by rw [hr]; clear hi hk htc hy hU hr hx hz; grind
        rw [this, ← hx]; clear hi hk htc hy hU hr hx hz this; grind)
      refine ⟨(x, z), ha, htc, ht1, Or.inr ⟨rfl, by clear hi hk htc hy hU hr hx hz hon; grind⟩, ?_, ?_, ?_⟩
      · show (C.twin hd).a * (x * x) + z * z = 1 + C.iv C.d * (x * x) * (z * z)
        rw [show (C.twin hd).a = 1 from ha]
        apply C.cancel (C.ne_mul hd (C.ne_mul hy0 hy0))
        clear hk htc hy hU hr hx hw hdy sq
        generalize C.iv C.d = e at *
        generalize C.d = d at *
        have e1 : (1 * (x * x) + z * z) * (d * (y * y)) = d * (y * y) * (x * x) + d := by clear hon hi; grind
        have e2 : (1 + e * (x * x) * (z * z)) * (d * (y * y)) = d * (y * y) + x * x := by clear hon e1; grind
        rw [e1, e2]
        clear e1 e2 hi hz
        grind
      · show 1 - z ≠ 0
        intro h
        apply h1
        clear hi hk htc hy hU hr hx hon
        grind
      · show u * (-1 * (1 - z)) = 1 + z
        apply C.cancel hy0
        clear hi hk htc hy hr hx hon
        grind
/-- Two ladders, one behind the other: the order does not matter. -/
theorem Crv.chain (C : Crv N) (ha : C.a = 1) (h0 : C.iv 0 = 0) {k : Fin N} (hk : C.d * (k + 1) = k) (hk0 : k ≠ 0) (hk1 : k + 1 ≠ 0) (hd : C.d ≠ 0) (sq : ∀ w : Fin N, w ≠ 0 → (∃ r, r * r = w) ∨ (∃ r, r * r = C.d * w)) (u : Fin N) (m n : List Bool) :
    lad C.iv k (lad C.iv k u (m ++ [false])) (n ++ [false]) = lad C.iv k (lad C.iv k u (n ++ [false])) (m ++ [false]) := by
  by_cases hu : u = 0
  · subst hu
    rw [lad_zero _ h0 k m, lad_zero _ h0 k n, lad_zero _ h0 k m]
  · rcases C.found ha hk hk0 hk1 hd sq hu with ⟨P, h⟩ | ⟨P, h⟩
    · rw [h.chain hu h0, h.chain hu h0, Nat.mul_comm]
    · have h1 := h.chain hu h0 m n
      have h2 := h.chain hu h0 n m
      rw [Nat.mul_comm] at h2
      exact h1.trans h2.symm
end
end Go.Proofs.Ytidhffaphbiapaa

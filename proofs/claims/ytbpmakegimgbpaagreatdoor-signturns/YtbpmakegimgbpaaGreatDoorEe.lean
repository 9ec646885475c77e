/- The curve, its group, points by their numbers (7 texts in one). No program but the field's numbers. -/
import Derived.Test.YtbpmakegimgbpaaGreatDoorAa
import Derived.Test.YtbpmakegimgbpaaGreatDoorNum
import Derived.Test.YtbpmakegimgbpaaGreatDoorRm
/- The curve a x² + y² = 1 + d x² y², a a square and d none: its points are a group. No program. -/
namespace Go.Proofs.YtbpmakegimgbpaaGreatDoor

/-- A field, by what is used of it, and the curve's numbers. -/
structure Crv (N : Nat) [NeZero N] where
  a : Fin N
  s : Fin N
  d : Fin N
  iv : Fin N → Fin N
  sq : a = s * s
  snz : s ≠ 0
  inv : ∀ x, x ≠ 0 → x * iv x = 1
  nz : ∀ x y : Fin N, x * y = 0 → x = 0 ∨ y = 0
  one : (1 : Fin N) ≠ 0
  two : (1 : Fin N) + 1 ≠ 0
  nsq : ∀ x y : Fin N, x * x = d * (y * y) → y = 0

section
variable {N : Nat} [NeZero N] (C : Crv N)

theorem Crv.ne_mul (C : Crv N) {x y : Fin N} (hx : x ≠ 0) (hy : y ≠ 0) : x * y ≠ 0 := fun h => by
  rcases C.nz x y h with h | h
  · exact hx h
  · exact hy h
theorem Crv.cancel (C : Crv N) {x y z : Fin N} (hz : z ≠ 0) (h : x * z = y * z) : x = y := by
  have h1 : (x - y) * z = 0 := by grind
  rcases C.nz _ _ h1 with h2 | h2
  · grind
  · exact absurd h2 hz
theorem Crv.sqz (C : Crv N) {x : Fin N} (h : x * x = 0) : x = 0 := by
  rcases C.nz _ _ h with h | h <;> exact h
/-- A quotient: what times z is x. -/
theorem Crv.quot {x z q : Fin N} (hz : z ≠ 0) (h : q * z = x) : x * C.iv z = q := by
  have h1 := C.inv z hz
  grind
theorem Crv.quot' {x z : Fin N} (hz : z ≠ 0) : x * C.iv z * z = x := by
  have h1 := C.inv z hz
  grind

/-- A point of the curve. -/
def Crv.On (P : Fin N × Fin N) : Prop := C.a * (P.1 * P.1) + P.2 * P.2 = 1 + C.d * (P.1 * P.1) * (P.2 * P.2)
/-- The product that the divisors have. -/
def Crv.D (P Q : Fin N × Fin N) : Fin N := C.d * (P.1 * Q.1 * P.2 * Q.2)
def Crv.add (P Q : Fin N × Fin N) : Fin N × Fin N := ((P.1 * Q.2 + P.2 * Q.1) * C.iv (1 + C.D P Q), (P.2 * Q.2 - C.a * (P.1 * Q.1)) * C.iv (1 - C.D P Q))
def Crv.zero (_ : Crv N) : Fin N × Fin N := (0, 1)
def Crv.neg (_ : Crv N) (P : Fin N × Fin N) : Fin N × Fin N := (-P.1, P.2)

theorem Crv.full {P Q : Fin N × Fin N} (hP : C.On P) (hQ : C.On Q) : C.D P Q * C.D P Q ≠ 1 := by
  intro h
  unfold Crv.D at h
  unfold Crv.On at hP hQ
  obtain ⟨x1, y1⟩ := P
  obtain ⟨x2, y2⟩ := Q
  dsimp only at h hP hQ
  have hs := C.sq
  have hn := C.nsq
  have hone := C.one
  generalize C.d = d at *
  generalize C.a = a at *
  have hxy : x1 * y1 ≠ 0 := fun e => hone (by rw [← h]; grind)
  have k1 : ∀ ε : Fin N, ε * ε = 1 → d * (x1 * x2 * y1 * y2) = ε → (C.s * x1 + ε * y1) * (C.s * x1 + ε * y1) = d * ((x1 * y1 * (C.s * x2 + y2)) * (x1 * y1 * (C.s * x2 + y2))) := by
    intro ε he hd
    generalize C.s = s at *
    grind
  have k2 : ∀ ε : Fin N, ε * ε = 1 → d * (x1 * x2 * y1 * y2) = ε → (C.s * x1 - ε * y1) * (C.s * x1 - ε * y1) = d * ((x1 * y1 * (C.s * x2 - y2)) * (x1 * y1 * (C.s * x2 - y2))) := by
    intro ε he hd
    generalize C.s = s at *
    grind
  have h1 := hn _ _ (k1 _ h rfl)
  have h2 := hn _ _ (k2 _ h rfl)
  have h3 : C.s * x2 + y2 = 0 := by
    rcases C.nz _ _ h1 with h | h
    · exact absurd h hxy
    · exact h
  have h4 : C.s * x2 - y2 = 0 := by
    rcases C.nz _ _ h2 with h | h
    · exact absurd h hxy
    · exact h
  have h5 : (1 + 1) * y2 = 0 := by grind
  rcases C.nz _ _ h5 with h6 | h6
  · exact C.two h6
  · exact hone (by rw [← h]; grind)
theorem Crv.plus {P Q : Fin N × Fin N} (hP : C.On P) (hQ : C.On Q) : 1 + C.D P Q ≠ 0 := fun h => C.full hP hQ (by grind)
theorem Crv.less {P Q : Fin N × Fin N} (hP : C.On P) (hQ : C.On Q) : 1 - C.D P Q ≠ 0 := fun h => C.full hP hQ (by grind)

/-- What a sum's coordinates are, with no quotient. -/
theorem Crv.add_x {P Q : Fin N × Fin N} (hP : C.On P) (hQ : C.On Q) : (C.add P Q).1 * (1 + C.D P Q) = P.1 * Q.2 + P.2 * Q.1 := C.quot' (C.plus hP hQ)
theorem Crv.add_y {P Q : Fin N × Fin N} (hP : C.On P) (hQ : C.On Q) : (C.add P Q).2 * (1 - C.D P Q) = P.2 * Q.2 - C.a * (P.1 * Q.1) := C.quot' (C.less hP hQ)
theorem Crv.add_of {P Q R : Fin N × Fin N} (hP : C.On P) (hQ : C.On Q) (hx : R.1 * (1 + C.D P Q) = P.1 * Q.2 + P.2 * Q.1) (hy : R.2 * (1 - C.D P Q) = P.2 * Q.2 - C.a * (P.1 * Q.1)) : C.add P Q = R := by
  apply Prod.ext
  · exact C.cancel (C.plus hP hQ) (by rw [C.add_x hP hQ, hx])
  · exact C.cancel (C.less hP hQ) (by rw [C.add_y hP hQ, hy])
theorem Crv.on_add {P Q : Fin N × Fin N} (hP : C.On P) (hQ : C.On Q) : C.On (C.add P Q) := by
  have hx := C.add_x hP hQ
  have hy := C.add_y hP hQ
  have hp := C.plus hP hQ
  have hl := C.less hP hQ
  generalize C.add P Q = R at *
  obtain ⟨x1, y1⟩ := P
  obtain ⟨x2, y2⟩ := Q
  obtain ⟨x3, y3⟩ := R
  unfold Crv.On Crv.D at *
  dsimp only at *
  have hz := C.ne_mul (C.ne_mul hp hp) (C.ne_mul hl hl)
  apply C.cancel hz
  generalize C.d = d at *
  generalize C.a = a at *
  have e1 : (x3 * (1 + d * (x1 * x2 * y1 * y2))) * (x3 * (1 + d * (x1 * x2 * y1 * y2))) = (x1 * y2 + y1 * x2) * (x1 * y2 + y1 * x2) := by rw [hx]
  have e2 : (y3 * (1 - d * (x1 * x2 * y1 * y2))) * (y3 * (1 - d * (x1 * x2 * y1 * y2))) = (y1 * y2 - a * (x1 * x2)) * (y1 * y2 - a * (x1 * x2)) := by rw [hy]
  have key : a * ((x1 * y2 + y1 * x2) * (x1 * y2 + y1 * x2)) * ((1 - d * (x1 * x2 * y1 * y2)) * (1 - d * (x1 * x2 * y1 * y2))) + ((y1 * y2 - a * (x1 * x2)) * (y1 * y2 - a * (x1 * x2))) * ((1 + d * (x1 * x2 * y1 * y2)) * (1 + d * (x1 * x2 * y1 * y2)))
      = ((1 + d * (x1 * x2 * y1 * y2)) * (1 + d * (x1 * x2 * y1 * y2))) * ((1 - d * (x1 * x2 * y1 * y2)) * (1 - d * (x1 * x2 * y1 * y2))) + d * ((x1 * y2 + y1 * x2) * (x1 * y2 + y1 * x2)) * ((y1 * y2 - a * (x1 * x2)) * (y1 * y2 - a * (x1 * x2))) := by
    clear e1 e2 hx hy hp hl hz
    grind
  rw [← e1, ← e2] at key
  clear e1 e2 hx hy hP hQ hp hl hz
  generalize 1 + d * (x1 * x2 * y1 * y2) = u at *
  generalize 1 - d * (x1 * x2 * y1 * y2) = v at *
  grind
theorem Crv.on_zero : C.On C.zero := by
  unfold Crv.On Crv.zero
  dsimp only
  grind
theorem Crv.on_neg {P : Fin N × Fin N} (hP : C.On P) : C.On (C.neg P) := by
  unfold Crv.On Crv.neg at *
  dsimp only
  grind
theorem Crv.add_comm {P Q : Fin N × Fin N} (hP : C.On P) (hQ : C.On Q) : C.add P Q = C.add Q P := by
  have e : C.D P Q = C.D Q P := by unfold Crv.D; grind
  have hx := C.add_x hQ hP
  have hy := C.add_y hQ hP
  exact C.add_of hP hQ (by rw [e, hx]; grind) (by rw [e, hy]; grind)
theorem Crv.add_zero {P : Fin N × Fin N} (hP : C.On P) : C.add P C.zero = P := by
  refine C.add_of hP C.on_zero ?_ ?_
  · unfold Crv.D Crv.zero; dsimp only; grind
  · unfold Crv.D Crv.zero; dsimp only; grind
theorem Crv.zero_add {P : Fin N × Fin N} (hP : C.On P) : C.add C.zero P = P := by rw [C.add_comm C.on_zero hP, C.add_zero hP]
theorem Crv.add_neg {P : Fin N × Fin N} (hP : C.On P) : C.add P (C.neg P) = C.zero := by
  refine C.add_of hP (C.on_neg hP) ?_ ?_
  · unfold Crv.D Crv.zero Crv.neg; dsimp only; grind
  · unfold Crv.On at hP
    unfold Crv.D Crv.zero Crv.neg; dsimp only; grind
theorem Crv.assoc_x (d a x1 y1 x2 y2 x3 y3 : Fin N) (e1 : a * (x1 * x1) + y1 * y1 = 1 + d * (x1 * x1) * (y1 * y1)) (e2 : a * (x2 * x2) + y2 * y2 = 1 + d * (x2 * x2) * (y2 * y2)) (e3 : a * (x3 * x3) + y3 * y3 = 1 + d * (x3 * x3) * (y3 * y3)) :
  ((x1*y2+y1*x2)*(1 - d*(x1*x2*y1*y2))*y3 + (y1*y2-a*(x1*x2))*(1 + d*(x1*x2*y1*y2))*x3) * ((1 + d*(x2*x3*y2*y3))*(1 - d*(x2*x3*y2*y3)) + d*x1*y1*(x2*y3+y2*x3)*(y2*y3-a*(x2*x3)))
  = (x1*(y2*y3-a*(x2*x3))*(1 + d*(x2*x3*y2*y3)) + y1*(x2*y3+y2*x3)*(1 - d*(x2*x3*y2*y3))) * ((1 + d*(x1*x2*y1*y2))*(1 - d*(x1*x2*y1*y2)) + d*(x1*y2+y1*x2)*(y1*y2-a*(x1*x2))*x3*y3) := by
  grind
theorem Crv.assoc_y (d a x1 y1 x2 y2 x3 y3 : Fin N) (e1 : a * (x1 * x1) + y1 * y1 = 1 + d * (x1 * x1) * (y1 * y1)) (e2 : a * (x2 * x2) + y2 * y2 = 1 + d * (x2 * x2) * (y2 * y2)) (e3 : a * (x3 * x3) + y3 * y3 = 1 + d * (x3 * x3) * (y3 * y3)) :
  ((y1*y2-a*(x1*x2))*(1 + d*(x1*x2*y1*y2))*y3 - a*((x1*y2+y1*x2)*(1 - d*(x1*x2*y1*y2))*x3)) * ((1 + d*(x2*x3*y2*y3))*(1 - d*(x2*x3*y2*y3)) - d*x1*y1*(x2*y3+y2*x3)*(y2*y3-a*(x2*x3)))
  = (y1*(y2*y3-a*(x2*x3))*(1 + d*(x2*x3*y2*y3)) - a*(x1*(x2*y3+y2*x3)*(1 - d*(x2*x3*y2*y3)))) * ((1 + d*(x1*x2*y1*y2))*(1 - d*(x1*x2*y1*y2)) - d*(x1*y2+y1*x2)*(y1*y2-a*(x1*x2))*x3*y3) := by
  grind
theorem Crv.add_assoc {P Q R : Fin N × Fin N} (hP : C.On P) (hQ : C.On Q) (hR : C.On R) : C.add (C.add P Q) R = C.add P (C.add Q R) := by
  have hPQ := C.on_add hP hQ
  have hQR := C.on_add hQ hR
  have ax := C.add_x hP hQ
  have ay := C.add_y hP hQ
  have bx := C.add_x hQ hR
  have byy := C.add_y hQ hR
  have ap := C.plus hP hQ
  have al := C.less hP hQ
  have bp := C.plus hQ hR
  have bl := C.less hQ hR
  have cx := C.add_x hPQ hR
  have cy := C.add_y hPQ hR
  have cp := C.plus hPQ hR
  have cl := C.less hPQ hR
  have dx := C.add_x hP hQR
  have dy := C.add_y hP hQR
  have dp := C.plus hP hQR
  have dl := C.less hP hQR
  generalize C.add (C.add P Q) R = S at *
  generalize C.add P (C.add Q R) = T at *
  generalize C.add P Q = U at *
  generalize C.add Q R = V at *
  obtain ⟨x1, y1⟩ := P
  obtain ⟨x2, y2⟩ := Q
  obtain ⟨x3, y3⟩ := R
  obtain ⟨x4, y4⟩ := S
  obtain ⟨x5, y5⟩ := T
  obtain ⟨x6, y6⟩ := U
  obtain ⟨x7, y7⟩ := V
  unfold Crv.On Crv.D at *
  dsimp only at *
  have kx := Crv.assoc_x C.d C.a x1 y1 x2 y2 x3 y3 hP hQ hR
  have ky := Crv.assoc_y C.d C.a x1 y1 x2 y2 x3 y3 hP hQ hR
  generalize C.d = d at *
  generalize C.a = a at *
  clear hP hQ hR hPQ hQR
  rw [← ax, ← ay, ← bx, ← byy] at kx ky
  clear ax ay bx byy
  generalize 1 + d * (x1 * x2 * y1 * y2) = m1 at *
  generalize 1 - d * (x1 * x2 * y1 * y2) = m2 at *
  generalize 1 + d * (x2 * x3 * y2 * y3) = n1 at *
  generalize 1 - d * (x2 * x3 * y2 * y3) = n2 at *
  have m := C.ne_mul ap al
  have n := C.ne_mul bp bl
  have kx2 : (x6 * y3 + y6 * x3) * (1 + d * (x1 * x7 * y1 * y7)) = (x1 * y7 + y1 * x7) * (1 + d * (x6 * x3 * y6 * y3)) := C.cancel (C.ne_mul m n) (by clear cx dx cy dy cp cl dp dl ky ap al bp bl m n; grind)
  have ky2 : (y6 * y3 - a * (x6 * x3)) * (1 - d * (x1 * x7 * y1 * y7)) = (y1 * y7 - a * (x1 * x7)) * (1 - d * (x6 * x3 * y6 * y3)) := C.cancel (C.ne_mul m n) (by clear cx dx cy dy cp cl dp dl kx kx2 ap al bp bl m n; grind)
  clear kx ky m n ap al bp bl
  rw [← cx, ← dx] at kx2
  rw [← cy, ← dy] at ky2
  clear cx cy dx dy
  generalize 1 + d * (x1 * x7 * y1 * y7) = r1 at *
  generalize 1 - d * (x1 * x7 * y1 * y7) = r2 at *
  generalize 1 + d * (x6 * x3 * y6 * y3) = q1 at *
  generalize 1 - d * (x6 * x3 * y6 * y3) = q2 at *
  apply Prod.ext
  · exact C.cancel (C.ne_mul cp dp) (by dsimp only; clear ky2 cp dp cl dl; grind)
  · exact C.cancel (C.ne_mul cl dl) (by dsimp only; clear kx2 cp dp cl dl; grind)
/-- What is added is found again. -/
theorem Crv.add_sub {P Q : Fin N × Fin N} (hP : C.On P) (hQ : C.On Q) : C.add (C.add P Q) (C.neg Q) = P := by
  rw [C.add_assoc hP hQ (C.on_neg hQ), C.add_neg hQ, C.add_zero hP]
end
/-- A point, so many times. -/
def Crv.mul {N : Nat} [NeZero N] (C : Crv N) (P : Fin N × Fin N) : Nat → Fin N × Fin N
  | 0 => C.zero
  | n + 1 => C.add (C.mul P n) P
theorem Crv.on_mul {N : Nat} [NeZero N] (C : Crv N) {P : Fin N × Fin N} (hP : C.On P) : ∀ n, C.On (C.mul P n)
  | 0 => C.on_zero
  | n + 1 => C.on_add (C.on_mul hP n) hP
theorem Crv.mul_one {N : Nat} [NeZero N] (C : Crv N) {P : Fin N × Fin N} (hP : C.On P) : C.mul P 1 = P := C.zero_add hP
theorem Crv.mul_add {N : Nat} [NeZero N] (C : Crv N) {P : Fin N × Fin N} (hP : C.On P) (m : Nat) : ∀ n, C.mul P (m + n) = C.add (C.mul P m) (C.mul P n)
  | 0 => (C.add_zero (C.on_mul hP m)).symm
  | n + 1 => by
    show C.add (C.mul P (m + n)) P = C.add (C.mul P m) (C.add (C.mul P n) P)
    rw [C.mul_add hP m n, C.add_assoc (C.on_mul hP m) (C.on_mul hP n) hP]
theorem Crv.mul_mul {N : Nat} [NeZero N] (C : Crv N) {P : Fin N × Fin N} (hP : C.On P) (m : Nat) : ∀ n, C.mul P (m * n) = C.mul (C.mul P m) n
  | 0 => rfl
  | n + 1 => by
    rw [Nat.mul_succ, C.mul_add hP, C.mul_mul hP m n]; rfl
theorem Crv.mul_zero {N : Nat} [NeZero N] (C : Crv N) : ∀ n, C.mul C.zero n = C.zero
  | 0 => rfl
  | n + 1 => by show C.add (C.mul C.zero n) C.zero = C.zero; rw [C.mul_zero n, C.add_zero C.on_zero]
theorem Crv.mul_plus {N : Nat} [NeZero N] (C : Crv N) {P Q : Fin N × Fin N} (hP : C.On P) (hQ : C.On Q) : ∀ n, C.mul (C.add P Q) n = C.add (C.mul P n) (C.mul Q n)
  | 0 => (C.add_zero C.on_zero).symm
  | n + 1 => by
    show C.add (C.mul (C.add P Q) n) (C.add P Q) = C.add (C.add (C.mul P n) P) (C.add (C.mul Q n) Q)
    have hp := C.on_mul hP n
    have hq := C.on_mul hQ n
    rw [C.mul_plus hP hQ n, C.add_assoc hp hq (C.on_add hP hQ), ← C.add_assoc hq hP hQ, C.add_comm hq hP, C.add_assoc hP hq hQ, ← C.add_assoc hp hP (C.on_add hq hQ)]
section
variable {N : Nat} [NeZero N] (C : Crv N)

theorem dif_id (d x1 y1 x2 y2 D : Fin N) (e1 : x1*x1 + y1*y1 = 1 + d*(x1*x1)*(y1*y1)) (e2 : x2*x2 + y2*y2 = 1 + d*(x2*x2)*(y2*y2)) (hD : D = d * (x1 * x2 * y1 * y2)) :
    (1 - D + (y1*y2 - x1*x2)) * (1 + D + (y1*y2 + x1*x2)) * ((y1 - y2) * (y1 - y2)) = (1 - D - (y1*y2 - x1*x2)) * (1 + D - (y1*y2 + x1*x2)) * ((y1 + y2) * (y1 + y2)) := by
  subst hD
  grind
theorem dbl_id (d c x y : Fin N) (e : x*x + y*y = 1 + d*(x*x)*(y*y)) (hc : d * (c + 1) = c) : (1 - x*x) * (1 + c * (1 - y*y)) = y*y := by
  grind
/-- The ladder's step: twice a point, and a sum whose difference is known. -/
def ldbl (k a b : Fin N) : Fin N × Fin N := ((a + b) * (a + b) * ((a - b) * (a - b)), ((a + b) * (a + b) - (a - b) * (a - b)) * ((a + b) * (a + b) + k * ((a + b) * (a + b) - (a - b) * (a - b))))
def ldif (u a b c d : Fin N) : Fin N × Fin N := (((c + d) * (a - b) + (c - d) * (a + b)) * ((c + d) * (a - b) + (c - d) * (a + b)), u * (((c + d) * (a - b) - (c - d) * (a + b)) * ((c + d) * (a - b) - (c - d) * (a + b))))
theorem ldif_symm (u a b c d : Fin N) : ldif u c d a b = ldif u a b c d := by
  unfold ldif
  apply Prod.ext
  · dsimp only; grind
  · dsimp only; grind
/-- a through b is the coordinate of a point of height y. -/
def Lev (σ y a b : Fin N) : Prop := ∃ l : Fin N, l ≠ 0 ∧ a = l * (1 + y) ∧ b = l * (σ * (1 - y))
/-- Which of the two curves: its number c, and the ladder's k. -/
def Side (σ c k : Fin N) : Prop := (σ = 1 ∧ k = c) ∨ (σ = -1 ∧ k = -(c + 1))
theorem Side.sq {σ c k : Fin N} (h : Side σ c k) : σ * σ = 1 := by
  rcases h with ⟨rfl, _⟩ | ⟨rfl, _⟩ <;> grind
theorem Crv.lev_of (C : Crv N) {σ y a b : Fin N} (hσ : σ * σ = 1) (h : a * (σ * (1 - y)) = b * (1 + y)) (hne : a ≠ 0 ∨ b ≠ 0) : Lev σ y a b := by
  have hi := C.inv _ C.two
  generalize C.iv (1 + 1) = i at *
  have ea : a = (a + σ * b) * i * (1 + y) := by
    have : (1 + 1) * i * a = (a + σ * b) * i * (1 + y) := by grind
    grind
  have eb : b = (a + σ * b) * i * (σ * (1 - y)) := by
    have : (1 + 1) * i * b = (a + σ * b) * i * (σ * (1 - y)) := by grind
    grind
  refine ⟨(a + σ * b) * i, fun h0 => ?_, ea, eb⟩
  rw [h0] at ea eb
  rcases hne with h1 | h1
  · exact h1 (by rw [ea]; grind)
  · exact h1 (by rw [eb]; grind)
theorem Crv.dbl_ok {σ c k a b : Fin N} {P : Fin N × Fin N} (ha : C.a = 1) (hc : C.d * (c + 1) = c) (hc1 : c + 1 ≠ 0) (hS : Side σ c k) (hP : C.On P) (h : Lev σ P.2 a b) : Lev σ (C.add P P).2 (ldbl k a b).1 (ldbl k a b).2 := by
  have hy := C.add_y hP hP
  have hl := C.less hP hP
  generalize (C.add P P).2 = y' at *
  obtain ⟨x, y⟩ := P
  obtain ⟨l, hl0, rfl, rfl⟩ := h
  unfold Crv.On Crv.D at *
  dsimp only at *
  rw [ha] at hP hy
  have key := dbl_id C.d c x y (by grind) hc
  have h1 : (1 - C.d * (x * x * y * y)) * (1 - y') = (1 + 1) * (1 - y * y) := by grind
  have h2 : (1 - C.d * (x * x * y * y)) * (1 + y') = (1 + 1) * (1 - x * x) := by grind
  have hb : ∀ z : Fin N, z = 1 + c * (1 - y * y) → y * y * (1 - y') = (1 - y * y) * z * (1 + y') := by
    intro z hz
    apply C.cancel hl
    have e1 : y * y * (1 - y') * (1 - C.d * (x * x * y * y)) = y * y * ((1 + 1) * (1 - y * y)) := by rw [← h1]; grind
    have e2 : (1 - y * y) * z * (1 + y') * (1 - C.d * (x * x * y * y)) = (1 - y * y) * z * ((1 + 1) * (1 - x * x)) := by rw [← h2]; grind
    rw [e1, e2, hz]
    clear h1 h2 hy hP e1 e2 hl
    grind
  have hb' := hb _ rfl
  have hne : y * y ≠ 0 ∨ (1 - y * y) * (1 + c * (1 - y * y)) ≠ 0 := by
    by_cases h0 : y * y = 0
    · right
      rw [h0]
      intro h3
      apply hc1
      grind
    · exact Or.inl h0
  have h16 : (1 + 1 : Fin N) * (1 + 1) * ((1 + 1) * (1 + 1)) * (l * l * (l * l)) ≠ 0 := C.ne_mul (C.ne_mul (C.ne_mul C.two C.two) (C.ne_mul C.two C.two)) (C.ne_mul (C.ne_mul hl0 hl0) (C.ne_mul hl0 hl0))
  have e1 : (ldbl k (l * (1 + y)) (l * (σ * (1 - y)))).1 = (1 + 1 : Fin N) * (1 + 1) * ((1 + 1) * (1 + 1)) * (l * l * (l * l)) * (y * y) := by
    unfold ldbl
    rcases hS with ⟨rfl, rfl⟩ | ⟨rfl, rfl⟩
    · dsimp only; grind
    · dsimp only; grind
  have e2 : (ldbl k (l * (1 + y)) (l * (σ * (1 - y)))).2 = (1 + 1 : Fin N) * (1 + 1) * ((1 + 1) * (1 + 1)) * (l * l * (l * l)) * (σ * ((1 - y * y) * (1 + c * (1 - y * y)))) := by
    unfold ldbl
    rcases hS with ⟨rfl, rfl⟩ | ⟨rfl, rfl⟩
    · dsimp only; grind
    · dsimp only; grind
  rw [e1, e2]
  have hs := hS.sq
  refine C.lev_of hs ?_ ?_
  · clear e1 e2 key h1 h2 hb hne h16 hP hy hl hc
    grind
  · rcases hne with h | h
    · exact Or.inl (C.ne_mul h16 h)
    · refine Or.inr (C.ne_mul h16 fun h0 => h ?_)
      have : σ * (σ * ((1 - y * y) * (1 + c * (1 - y * y)))) = 0 := by rw [h0]; grind
      grind
theorem Crv.neg_d (P Q : Fin N × Fin N) : C.D Q (C.neg P) = - C.D P Q := by unfold Crv.D Crv.neg; dsimp only; grind
theorem Crv.dif_ok {σ u a b c d : Fin N} {P Q R : Fin N × Fin N} (ha : C.a = 1) (hs : σ * σ = 1) (hP : C.On P) (hR : C.On R) (hQ : Q = C.add P R) (hu : u * (σ * (1 - R.2)) = 1 + R.2) (hu0 : u ≠ 0) (hR1 : 1 - R.2 ≠ 0) (h1 : Lev σ P.2 a b) (h2 : Lev σ Q.2 c d) (hS : σ = 1 ∨ σ = -1) :
    Lev σ (C.add P Q).2 (ldif u a b c d).1 (ldif u a b c d).2 := by
  have hQo : C.On Q := by rw [hQ]; exact C.on_add hP hR
  have hRd : R = C.add Q (C.neg P) := by
    rw [hQ, C.add_comm hP hR, C.add_sub hR hP]
  have hy := C.add_y hP hQo
  have hl := C.less hP hQo
  have hp := C.plus hP hQo
  have hz := C.add_y hQo (C.on_neg hP)
  rw [← hRd, C.neg_d] at hz
  clear hRd hQ hR
  generalize (C.add P Q).2 = yp at *
  generalize hD : C.D P Q = D at *
  obtain ⟨x1, y1⟩ := P
  obtain ⟨x2, y2⟩ := Q
  obtain ⟨x0, y0⟩ := R
  unfold Crv.D at hD
  unfold Crv.On at hP hQo
  unfold Crv.neg at hz
  dsimp only at *
  rw [ha] at hP hQo hy hz
  have hid := dif_id C.d x1 y1 x2 y2 D (by grind) (by grind) hD.symm
  have hK : (1 + yp) * (1 + y0) * ((y1 - y2) * (y1 - y2)) = (1 - yp) * (1 - y0) * ((y1 + y2) * (y1 + y2)) := by
    apply C.cancel (C.ne_mul hl hp)
    have t1 : 1 - D + (y1 * y2 - x1 * x2) = (1 - D) * (1 + yp) := by clear hid hz hP hQo hD hu hs hS h1 h2; grind
    have t2 : 1 + D + (y1 * y2 + x1 * x2) = (1 + D) * (1 + y0) := by clear hid hy hP hQo hD hu hs hS h1 h2 t1; grind
    have t3 : 1 - D - (y1 * y2 - x1 * x2) = (1 - D) * (1 - yp) := by clear hid hz hP hQo hD hu hs hS h1 h2 t1 t2; grind
    have t4 : 1 + D - (y1 * y2 + x1 * x2) = (1 + D) * (1 - y0) := by clear hid hy hP hQo hD hu hs hS h1 h2 t1 t2 t3; grind
    rw [t1, t2, t3, t4] at hid
    clear t1 t2 t3 t4 hy hz hP hQo hD hu hs hS h1 h2
    grind
  obtain ⟨l, hl0, rfl, rfl⟩ := h1
  obtain ⟨m, hm0, rfl, rfl⟩ := h2
  have h16 : (1 + 1 : Fin N) * (1 + 1) * ((1 + 1) * (1 + 1)) * (l * m * (l * m)) ≠ 0 := C.ne_mul (C.ne_mul (C.ne_mul C.two C.two) (C.ne_mul C.two C.two)) (C.ne_mul (C.ne_mul hl0 hm0) (C.ne_mul hl0 hm0))
  have e1 : (ldif u (l * (1 + y1)) (l * (σ * (1 - y1))) (m * (1 + y2)) (m * (σ * (1 - y2)))).1 = (1 + 1 : Fin N) * (1 + 1) * ((1 + 1) * (1 + 1)) * (l * m * (l * m)) * ((y1 + y2) * (y1 + y2)) := by
    unfold ldif
    clear hK hid hy hz hP hQo hD hu hs
    rcases hS with rfl | rfl
    · dsimp only; grind
    · dsimp only; grind
  have e2 : (ldif u (l * (1 + y1)) (l * (σ * (1 - y1))) (m * (1 + y2)) (m * (σ * (1 - y2)))).2 = (1 + 1 : Fin N) * (1 + 1) * ((1 + 1) * (1 + 1)) * (l * m * (l * m)) * (u * ((y1 - y2) * (y1 - y2))) := by
    unfold ldif
    clear hK hid hy hz hP hQo hD hu e1 hs
    rcases hS with rfl | rfl
    · dsimp only; grind
    · dsimp only; grind
  rw [e1, e2]
  have hT : (y1 + y2) * (y1 + y2) * (σ * (1 - yp)) = u * ((y1 - y2) * (y1 - y2)) * (1 + yp) := by
    apply C.cancel hR1
    have t : u * (1 - y0) = σ * (1 + y0) := by rw [← hu]; clear hid hy hz hP hQo hD hu hK hS e1 e2; grind
    have t1 : (y1 + y2) * (y1 + y2) * (σ * (1 - yp)) * (1 - y0) = σ * ((1 - yp) * (1 - y0) * ((y1 + y2) * (y1 + y2))) := by clear hid hy hz hP hQo hD hu hK t hS hs e1 e2; grind
    have t2 : u * ((y1 - y2) * (y1 - y2)) * (1 + yp) * (1 - y0) = u * (1 - y0) * ((1 + yp) * ((y1 - y2) * (y1 - y2))) := by clear hid hy hz hP hQo hD hu hK t t1 hS hs e1 e2; grind
    rw [t1, t2, t, ← hK]
    clear hid hy hz hP hQo hD hu hK t t1 t2 hS hs e1 e2
    grind
  refine C.lev_of hs ?_ ?_
  · clear hK hid hy hz hP hQo hD hu e1 e2 hs hS
    grind
  · by_cases hA : y1 + y2 = 0
    · by_cases hB : y1 - y2 = 0
      · exfalso
        clear hid hK hT e1 e2 hS
        have q1 : (1 + 1) * y1 = 0 := by clear hy hz hP hQo hD hu hs; grind
        have q2 : y1 = 0 := by
          rcases C.nz _ _ q1 with h | h
          · exact absurd h C.two
          · exact h
        have q3 : y2 = 0 := by clear hy hz hP hQo hD hu hs; grind
        subst q2 q3
        have q4 : D = 0 := by rw [← hD]; clear hy hz hP hQo hD hu hs; grind
        rw [q4] at hz
        have q5 : y0 = x1 * x2 := by clear hy hP hQo hD hu hs; grind
        have q6 : (1 - y0) * (1 + y0) = 0 := by rw [q5]; clear hy hz hD hu hs; grind
        rcases C.nz _ _ q6 with h | h
        · exact hR1 h
        · rw [h] at hu
          have hsn : σ ≠ 0 := fun h => C.one (by rw [← hs, h]; grind)
          exact C.ne_mul hu0 (C.ne_mul hsn hR1) hu
      · exact Or.inr (C.ne_mul h16 (C.ne_mul hu0 (C.ne_mul hB hB)))
    · exact Or.inl (C.ne_mul h16 (C.ne_mul hA hA))
end
/-- The ladder. -/
def lstep {N : Nat} [NeZero N] (k u : Fin N) (q : (Fin N × Fin N) × (Fin N × Fin N)) : Bool → (Fin N × Fin N) × (Fin N × Fin N)
  | false => (ldbl k q.1.1 q.1.2, ldif u q.1.1 q.1.2 q.2.1 q.2.2)
  | true => (ldif u q.2.1 q.2.2 q.1.1 q.1.2, ldbl k q.2.1 q.2.2)
def lads {N : Nat} [NeZero N] (k u : Fin N) (q : (Fin N × Fin N) × (Fin N × Fin N)) (bits : List Bool) : (Fin N × Fin N) × (Fin N × Fin N) := bits.foldl (lstep k u) q
def lfirst {N : Nat} [NeZero N] (u : Fin N) : (Fin N × Fin N) × (Fin N × Fin N) := ((1, 0), (u, 1))
/-- The number that bits are, the highest first. -/
def bnum (n : Nat) (bits : List Bool) : Nat := bits.foldl (fun n b => 2 * n + b.toNat) n

section
variable {N : Nat} [NeZero N] (C : Crv N)
structure Good (σ c k u : Fin N) (P : Fin N × Fin N) : Prop where
  a : C.a = 1
  hc : C.d * (c + 1) = c
  c1 : c + 1 ≠ 0
  side : Side σ c k
  on : C.On P
  ne : 1 - P.2 ≠ 0
  u : u * (σ * (1 - P.2)) = 1 + P.2
theorem Side.pm {σ c k : Fin N} (h : Side σ c k) : σ = 1 ∨ σ = -1 := by
  rcases h with ⟨h, _⟩ | ⟨h, _⟩
  · exact Or.inl h
  · exact Or.inr h
variable {C}
/-- What holds along the ladder. -/
def Rung (C : Crv N) (σ : Fin N) (P : Fin N × Fin N) (n : Nat) (q : (Fin N × Fin N) × (Fin N × Fin N)) : Prop := Lev σ (C.mul P n).2 q.1.1 q.1.2 ∧ Lev σ (C.mul P (n + 1)).2 q.2.1 q.2.2
theorem Good.first {σ c k u : Fin N} {P : Fin N × Fin N} (h : Good C σ c k u P) : Rung C σ P 0 (lfirst u) := by
  refine ⟨?_, ?_⟩
  · refine C.lev_of h.side.sq ?_ (Or.inl C.one)
    show (1 : Fin N) * (σ * (1 - 1)) = 0 * (1 + 1)
    grind
  · rw [C.mul_one h.on]
    refine C.lev_of h.side.sq ?_ (Or.inr C.one)
    show u * (σ * (1 - P.2)) = 1 * (1 + P.2)
    rw [h.u]; grind
theorem Good.step {σ c k u : Fin N} {P : Fin N × Fin N} (h : Good C σ c k u P) (hu : u ≠ 0) (n : Nat) (q : (Fin N × Fin N) × (Fin N × Fin N)) (hq : Rung C σ P n q) (b : Bool) : Rung C σ P (2 * n + b.toNat) (lstep k u q b) := by
  have hn := C.on_mul h.on n
  have hn1 := C.on_mul h.on (n + 1)
  have hd := C.dif_ok h.a h.side.sq hn h.on rfl h.u hu h.ne hq.1 hq.2 h.side.pm
  have e1 : C.add (C.mul P n) (C.add (C.mul P n) P) = C.mul P (2 * n + 1) := by
    rw [show 2 * n + 1 = n + (n + 1) by omega, C.mul_add h.on]; rfl
  rw [e1] at hd
  cases b with
  | false =>
    have h2 := C.dbl_ok h.a h.hc h.c1 h.side hn hq.1
    rw [← C.mul_add h.on, show n + n = 2 * n by omega] at h2
    exact ⟨h2, hd⟩
  | true =>
    have h2 := C.dbl_ok h.a h.hc h.c1 h.side hn1 hq.2
    rw [← C.mul_add h.on, show n + 1 + (n + 1) = 2 * n + 1 + 1 by omega] at h2
    refine ⟨?_, h2⟩
    show Lev σ (C.mul P (2 * n + 1)).2 (ldif u q.2.1 q.2.2 q.1.1 q.1.2).1 (ldif u q.2.1 q.2.2 q.1.1 q.1.2).2
    rw [ldif_symm]; exact hd
theorem Good.steps {σ c k u : Fin N} {P : Fin N × Fin N} (h : Good C σ c k u P) (hu : u ≠ 0) : ∀ (bits : List Bool) (n : Nat) (q : (Fin N × Fin N) × (Fin N × Fin N)), Rung C σ P n q → Rung C σ P (bnum n bits) (lads k u q bits)
  | [], _, _, hq => hq
  | b :: bits, n, q, hq => Good.steps h hu bits _ _ (h.step hu n q hq b)
theorem Crv.d_ne_one (C : Crv N) : C.d ≠ 1 := fun h => C.one (C.nsq 1 1 (by rw [h]; grind))
end
section
variable {N : Nat} [NeZero N]
end
end Go.Proofs.YtbpmakegimgbpaaGreatDoor
/- Plain number theory, without any program: the order of the curve's base point, 2^252 + 27742317777372353535851937790883648493, is prime. No conditions. -/
namespace Go.Proofs.YtbpmakegimgbpaaGreatDoor.Num

end Go.Proofs.YtbpmakegimgbpaaGreatDoor.Num
/- The numbers modulo a prime, by a generator: inverses, squares; the curves over them. No program. -/
namespace Go.Proofs.YtbpmakegimgbpaaGreatDoor

section
variable {N g : Nat} [NeZero N]
def finv (x : Fin N) : Fin N := Fin.ofNat N (x.val ^ (N - 2))
/-- d is no square. -/
def Nsq (d : Fin N) : Prop := d.val ^ ((N - 1) / 2) % N ≠ 1
theorem fin_val_ne {x : Fin N} (h : x ≠ 0) : x.val ≠ 0 := fun e => h (Fin.ext (by rw [e]; rfl))
theorem fin_mod_ne {x : Fin N} (h : x ≠ 0) : x.val % N ≠ 0 := by rw [Nat.mod_eq_of_lt x.isLt]; exact fin_val_ne h
theorem one_val (h2 : 2 < N) : (1 : Fin N).val = 1 := by
  show 1 % N = 1
  exact Nat.mod_eq_of_lt (by omega)
theorem fin_inv (G : Num.Gen N g) (h2 : 2 < N) (x : Fin N) (hx : x ≠ 0) : x * finv x = 1 := by
  apply Fin.ext
  rw [Fin.val_mul, one_val h2]
  show x.val * (x.val ^ (N - 2) % N) % N = 1
  rw [Nat.mul_mod, Nat.mod_mod, ← Nat.mul_mod]
  exact G.inv h2 x.val (fin_mod_ne hx)
theorem fin_nz (G : Num.Gen N g) (h2 : 2 < N) (x y : Fin N) (h : x * y = 0) : x = 0 ∨ y = 0 := by
  have h1 := congrArg Fin.val h
  rw [Fin.val_mul, show (0 : Fin N).val = 0 from Nat.zero_mod N] at h1
  rcases G.nozero h2 x.val y.val h1 with h3 | h3
  · left
    by_cases hx : x = 0
    · exact hx
    · exact absurd h3 (fin_mod_ne hx)
  · right
    by_cases hy : y = 0
    · exact hy
    · exact absurd h3 (fin_mod_ne hy)
theorem fin_one (h2 : 2 < N) : (1 : Fin N) ≠ 0 := fun h => by
  have := congrArg Fin.val h
  rw [one_val h2, show (0 : Fin N).val = 0 from Nat.zero_mod N] at this
  omega
theorem fin_two (h2 : 2 < N) : (1 : Fin N) + 1 ≠ 0 := fun h => by
  have := congrArg Fin.val h
  rw [Fin.val_add, one_val h2, show (0 : Fin N).val = 0 from Nat.zero_mod N, Nat.mod_eq_of_lt (by omega)] at this
  omega
theorem sq_pow (x e : Nat) : (x * x) ^ e = x ^ (2 * e) := by rw [Nat.pow_mul, Nat.pow_two]
theorem fin_nsq (G : Num.Gen N g) (h2 : 2 < N) (ho : N % 2 = 1) {d : Fin N} (hd0 : d ≠ 0) (hd : Nsq d) (x y : Fin N) (h : x * x = d * (y * y)) : y = 0 := by
  unfold Nsq at hd
  by_cases hy : y = 0
  · exact hy
  exfalso
  have hx : x ≠ 0 := fun e => by
    rw [e] at h
    have h1 : d * (y * y) = 0 := by rw [← h]; grind
    rcases fin_nz G h2 _ _ h1 with h3 | h3
    · exact hd0 h3
    · rcases fin_nz G h2 _ _ h3 with h4 | h4 <;> exact hy h4
  have h1 := congrArg Fin.val h
  rw [Fin.val_mul, Fin.val_mul, Fin.val_mul, Nat.mul_mod_mod] at h1
  have hxf := G.fermat x.val (fin_mod_ne hx)
  have hyf := G.fermat y.val (fin_mod_ne hy)
  obtain ⟨e, he⟩ : ∃ e, e = (N - 1) / 2 := ⟨_, rfl⟩
  have he2 : 2 * e = N - 1 := by omega
  rw [← he] at hd
  rw [← he2] at hxf hyf
  apply hd
  have h3 : (x.val * x.val) ^ e % N = (d.val * (y.val * y.val)) ^ e % N := by
    rw [Nat.pow_mod, h1, ← Nat.pow_mod]
  rw [sq_pow, hxf, Nat.mul_pow, sq_pow, Nat.mul_mod, hyf, Nat.mul_one, Nat.mod_mod] at h3
  exact h3.symm
/-- The curve. -/
def finC (G : Num.Gen N g) (h2 : 2 < N) (ho : N % 2 = 1) (a s d : Fin N) (sq : a = s * s) (hs : s ≠ 0) (hd0 : d ≠ 0) (hd : Nsq d) : Crv N where
  a := a
  s := s
  d := d
  iv := finv
  sq := sq
  snz := hs
  inv := fin_inv G h2
  nz := fin_nz G h2
  one := fin_one h2
  two := fin_two h2
  nsq := fin_nsq G h2 ho hd0 hd
end
end Go.Proofs.YtbpmakegimgbpaaGreatDoor
/- A point's order; a ladder in numbers modulo n; what is not 0. No program. -/
namespace Go.Proofs.YtbpmakegimgbpaaGreatDoor
open Num (force force_eq)

section
variable {N : Nat} [NeZero N] (C : Crv N)
theorem Crv.mul_mod {P : Fin N × Fin N} (hP : C.On P) {l : Nat} (hl : C.mul P l = C.zero) (m : Nat) : C.mul P (m % l) = C.mul P m := by
  have h := C.mul_add hP (l * (m / l)) (m % l)
  rw [Nat.div_add_mod, C.mul_mul hP, hl, C.mul_zero, C.zero_add (C.on_mul hP _)] at h
  exact h.symm
/-- A point of height 1 is the neutral one. -/
theorem Crv.top {P : Fin N × Fin N} (ha : C.a = 1) (hP : C.On P) (hy : 1 - P.2 = 0) : P = C.zero := by
  obtain ⟨x, y⟩ := P
  unfold Crv.On at hP
  dsimp only at hP hy
  rw [ha] at hP
  have hy1 : y = 1 := by grind
  subst hy1
  have hx : x * x * (1 - C.d) = 0 := by grind
  have hx0 : x = 0 := by
    rcases C.nz _ _ hx with h | h
    · exact C.sqz h
    · exact absurd (by grind) C.d_ne_one
  subst hx0
  rfl
end

section
variable {N : Nat} [NeZero N]
/-- A number, as one modulo N. -/
def cn (N : Nat) [NeZero N] (x : Nat) : Fin N := Fin.ofNat N x
theorem cn_mul (x y : Nat) : cn N (x * y % N) = cn N x * cn N y := by apply Fin.ext; simp [cn, Fin.val_mul]
theorem cn_add (x y : Nat) : cn N ((x + y) % N) = cn N x + cn N y := by apply Fin.ext; simp [cn, Fin.val_add]
theorem cn_sub (x y : Nat) (h : y ≤ N) : cn N ((x + N - y) % N) = cn N x - cn N y := by
  have h1 : cn N ((x + N - y) % N) + cn N y = cn N x := by
    apply Fin.ext
    simp [cn, Fin.val_add]
    rw [Nat.sub_add_cancel (by omega), Nat.add_mod_right]
  grind
theorem cn_one : cn N 1 = 1 := rfl
theorem cn_eq_zero {x : Nat} (hx : x < N) (h : cn N x = 0) : x = 0 := by
  have := congrArg Fin.val h
  simpa [cn, Nat.mod_eq_of_lt hx] using this
/-- The ladder's step in numbers. -/
def nst {α : Type} (n k u : Nat) (bit : Bool) (a b c d : Nat) (K : Nat → Nat → Nat → Nat → α) : α :=
  force (cond bit c a) fun a1 => force (cond bit d b) fun b1 => force (cond bit a c) fun c1 => force (cond bit b d) fun d1 =>
  force ((a1 + b1) % n) fun p => force ((a1 + n - b1) % n) fun q => force (p * p % n) fun s => force (q * q % n) fun t => force ((s + n - t) % n) fun e =>
  force ((c1 + d1) % n * q % n) fun x => force ((c1 + n - d1) % n * p % n) fun y =>
  force (s * t % n) fun a2 => force (e * ((s + k * e % n) % n) % n) fun b2 =>
  force ((x + y) % n) fun f => force ((x + n - y) % n) fun g => force (f * f % n) fun c2 => force (u * (g * g % n) % n) fun d2 =>
  K (cond bit c2 a2) (cond bit d2 b2) (cond bit a2 c2) (cond bit b2 d2)
def nl {α : Type} (n k u : Nat) : List Bool → Nat → Nat → Nat → Nat → (Nat → Nat → Nat → Nat → α) → α
  | [], a, b, c, d, K => K a b c d
  | bit :: r, a, b, c, d, K => nst n k u bit a b c d fun a b c d => nl n k u r a b c d K
theorem mod_lt' (x : Nat) : x % N < N := Nat.mod_lt _ (Nat.pos_of_ne_zero (NeZero.ne N))
theorem ldbl_cn (k a b : Nat) (hb : b ≤ N) : ldbl (cn N k) (cn N a) (cn N b) =
    (cn N (((a + b) % N) * ((a + b) % N) % N * (((a + N - b) % N) * ((a + N - b) % N) % N) % N),
     cn N (((((a + b) % N) * ((a + b) % N) % N) + N - ((a + N - b) % N) * ((a + N - b) % N) % N) % N * (((((a + b) % N) * ((a + b) % N) % N) + k * ((((a + b) % N) * ((a + b) % N) % N + N - ((a + N - b) % N) * ((a + N - b) % N) % N) % N) % N) % N) % N)) := by
  unfold ldbl
  simp only [cn_mul, cn_add, cn_sub _ _ hb, cn_sub _ _ (Nat.le_of_lt (mod_lt' _))]
theorem ldif_cn (u a b c d : Nat) (hb : b ≤ N) (hd : d ≤ N) : ldif (cn N u) (cn N a) (cn N b) (cn N c) (cn N d) =
    (cn N ((((c + d) % N * ((a + N - b) % N) % N + (c + N - d) % N * ((a + b) % N) % N) % N) * (((c + d) % N * ((a + N - b) % N) % N + (c + N - d) % N * ((a + b) % N) % N) % N) % N),
     cn N (u * ((((c + d) % N * ((a + N - b) % N) % N + N - (c + N - d) % N * ((a + b) % N) % N) % N) * (((c + d) % N * ((a + N - b) % N) % N + N - (c + N - d) % N * ((a + b) % N) % N) % N) % N) % N)) := by
  unfold ldif
  simp only [cn_mul, cn_add, cn_sub _ _ hb, cn_sub _ _ hd, cn_sub _ _ (Nat.le_of_lt (mod_lt' _))]
theorem nst_ok (k u : Nat) (bit : Bool) (a b c d : Nat) (hb : b ≤ N) (hd : d ≤ N) : ∃ A B C D, A < N ∧ B < N ∧ C < N ∧ D < N ∧ (∀ {α : Type} (K : Nat → Nat → Nat → Nat → α), nst N k u bit a b c d K = K A B C D) ∧
    lstep (cn N k) (cn N u) ((cn N a, cn N b), (cn N c, cn N d)) bit = ((cn N A, cn N B), (cn N C, cn N D)) := by
  cases bit with
  | false =>
    refine ⟨_, _, _, _, mod_lt' _, mod_lt' _, mod_lt' _, mod_lt' _, fun K => by simp only [nst, force_eq, cond_false]; rfl, ?_⟩
    show (ldbl (cn N k) (cn N a) (cn N b), ldif (cn N u) (cn N a) (cn N b) (cn N c) (cn N d)) = _
    rw [ldbl_cn k a b hb, ldif_cn u a b c d hb hd]
  | true =>
    refine ⟨_, _, _, _, mod_lt' _, mod_lt' _, mod_lt' _, mod_lt' _, fun K => by simp only [nst, force_eq, cond_true]; rfl, ?_⟩
    show (ldif (cn N u) (cn N c) (cn N d) (cn N a) (cn N b), ldbl (cn N k) (cn N c) (cn N d)) = _
    rw [ldbl_cn k c d hd, ldif_cn u c d a b hd hb]
theorem nl_ok (k u : Nat) : ∀ (bits : List Bool) (a b c d : Nat), a < N → b < N → c < N → d < N → ∃ A B C D, A < N ∧ B < N ∧ C < N ∧ D < N ∧ (∀ {α : Type} (K : Nat → Nat → Nat → Nat → α), nl N k u bits a b c d K = K A B C D) ∧
    lads (cn N k) (cn N u) ((cn N a, cn N b), (cn N c, cn N d)) bits = ((cn N A, cn N B), (cn N C, cn N D))
  | [], a, b, c, d, ha, hb, hc, hd => ⟨a, b, c, d, ha, hb, hc, hd, fun _ => rfl, rfl⟩
  | bit :: r, a, b, c, d, _, hb, _, hd => by
    obtain ⟨A, B, C, D, hA, hB, hC, hD, hK, hl⟩ := nst_ok (N := N) k u bit a b c d (Nat.le_of_lt hb) (Nat.le_of_lt hd)
    obtain ⟨A2, B2, C2, D2, hA2, hB2, hC2, hD2, hK2, hl2⟩ := nl_ok k u r A B C D hA hB hC hD
    refine ⟨A2, B2, C2, D2, hA2, hB2, hC2, hD2, fun K => by show nst N k u bit a b c d _ = _; rw [hK, hK2], ?_⟩
    show lads (cn N k) (cn N u) (lstep (cn N k) (cn N u) ((cn N a, cn N b), (cn N c, cn N d)) bit) r = _
    rw [hl]; exact hl2
/-- The lowest f bits of a number, the highest first. -/
def nbits (n : Nat) : Nat → List Bool
  | 0 => []
  | f + 1 => n.testBit f :: nbits n f
theorem bnum_nbits (n : Nat) : ∀ f m, bnum m (nbits n f) = m * 2 ^ f + n % 2 ^ f
  | 0, m => by show m = _; rw [Nat.pow_zero, Nat.mod_one]; omega
  | f + 1, m => by
    show bnum (2 * m + (n.testBit f).toNat) (nbits n f) = _
    rw [bnum_nbits n f, Nat.toNat_testBit, Nat.pow_succ, Nat.mod_mul, Nat.add_mul, Nat.mul_comm (n / 2 ^ f % 2), show 2 * m * 2 ^ f = m * (2 ^ f * 2) by rw [Nat.mul_comm 2 m, Nat.mul_assoc, Nat.mul_comm 2]]
    omega
end
end Go.Proofs.YtbpmakegimgbpaaGreatDoor
/- X25519 in numbers: two ladders in either order, the base point's order, points of little order. No program. -/
namespace Go.Proofs.YtbpmakegimgbpaaGreatDoor
open F

theorem p_two : 2 < pP := by unfold pP; omega
theorem p_odd : pP % 2 = 1 := by unfold pP; omega
def dN : Nat := 20800338683988658368647408995589388737092878452977063003340006470870624536394
def xN : Nat := 9771384041963202563870679428059935816164187996444183106833894008023910952347
def yN : Nat := 46316835694926478169428394003475163141307993866256225615783033603165251855960
/-- The order. -/
def lP : Nat := 7237005577332262213973186563042994240857116359379907606001950938285454250989
theorem cn_val {x : Nat} (h : x < pP) : (cn pP x).val = x := Nat.mod_eq_of_lt h
theorem cn_ne {x : Nat} (h : x < pP) (h0 : x ≠ 0) : cn pP x ≠ 0 := fun e => h0 (cn_eq_zero h e)
theorem dN_lt : dN < pP := by decide +kernel
theorem dN_half : dN ^ ((pP - 1) / 2) % pP = pP - 1 := Num.pow_of_pw pP 255 dN _ _ (by decide +kernel) (by decide +kernel)
theorem dN_nsq : Nsq (cn pP dN) := by
  unfold Nsq
  rw [cn_val dN_lt, dN_half]
  unfold pP; omega
/-- The curve. -/
def C1 : Crv pP := finC genP p_two p_odd 1 1 (cn pP dN) (by grind) (fin_one p_two) (cn_ne dN_lt (by decide +kernel)) dN_nsq
theorem C1_a : C1.a = 1 := rfl
theorem C1_d : C1.d = cn pP dN := rfl
/-- The ladder's number. -/
def k25 : Fin pP := cn pP 121665
theorem k_one : k25 + 1 = cn pP 121666 := by
  rw [k25, ← cn_one, ← cn_add, show (121665 + 1) % pP = 121666 by decide +kernel]
theorem k_ok : C1.d * (k25 + 1) = k25 := by
  rw [k_one]
  show cn pP dN * cn pP 121666 = k25
  rw [← cn_mul, show dN * 121666 % pP = 121665 by decide +kernel]; rfl
theorem k1_ne : k25 + 1 ≠ 0 := by rw [k_one]; exact cn_ne (by decide +kernel) (by decide)
/-- The base point. -/
def bP : Fin pP × Fin pP := (cn pP xN, cn pP yN)
theorem bP_on : C1.On bP := by
  show C1.a * (cn pP xN * cn pP xN) + cn pP yN * cn pP yN = 1 + cn pP dN * (cn pP xN * cn pP xN) * (cn pP yN * cn pP yN)
  rw [C1_a, ← cn_one, ← cn_mul, ← cn_mul, ← cn_mul, ← cn_mul, ← cn_mul, ← cn_add, ← cn_add]
  exact congrArg (cn pP) (by decide +kernel)
theorem bP_less : 1 - bP.2 = cn pP ((1 + pP - yN) % pP) := by
  rw [cn_sub _ _ (by decide +kernel)]; rfl
theorem bP_ne : 1 - bP.2 ≠ 0 := by
  rw [bP_less]; exact cn_ne (by decide +kernel) (by decide +kernel)
theorem bP_u : cn pP 9 * (1 * (1 - bP.2)) = 1 + bP.2 := by
  rw [bP_less, ← cn_one, ← cn_mul, ← cn_mul]
  show _ = cn pP 1 + cn pP yN
  rw [← cn_add]
  exact congrArg (cn pP) (by decide +kernel)
theorem bP_good : Good C1 1 k25 k25 (cn pP 9) bP := ⟨C1_a, k_ok, k1_ne, Or.inl ⟨rfl, rfl⟩, bP_on, bP_ne, bP_u⟩
theorem nine_ne : cn pP 9 ≠ 0 := cn_ne (by decide +kernel) (by decide)
/-- Where the ladder's second number is 0 the point is the neutral one. -/
theorem Good.done {C : Crv pP} {σ c k u : Fin pP} {P : Fin pP × Fin pP} (h : Good C σ c k u P) (hu : u ≠ 0) (bits : List Bool) (h0 : (lads k u (lfirst u) bits).1.2 = 0) : C.mul P (bnum 0 bits) = C.zero := by
  have h1 := (h.steps hu bits 0 _ h.first).1
  obtain ⟨l, hl, _, hb⟩ := h1
  rw [h0] at hb
  have hs := h.side.sq
  have hsn : σ ≠ 0 := fun e => C.one (by rw [← hs, e]; grind)
  refine C.top h.a (C.on_mul h.on _) ?_
  rcases C.nz _ _ hb.symm with h2 | h2
  · exact absurd h2 hl
  · rcases C.nz _ _ h2 with h3 | h3
    · exact absurd h3 hsn
    · exact h3
theorem done_cn (k u : Nat) (hu : u < pP) (bits : List Bool) (h : nl pP k u bits 1 0 u 1 (fun _ b _ _ => b) = 0) : (lads (cn pP k) (cn pP u) (lfirst (cn pP u)) bits).1.2 = 0 := by
  obtain ⟨A, B, C, D, _, _, _, _, hK, hl⟩ := nl_ok (N := pP) k u bits 1 0 u 1 (by decide +kernel) (by decide +kernel) hu (by decide +kernel)
  rw [hK] at h
  have e : lfirst (cn pP u) = ((cn pP 1, cn pP 0), (cn pP u, cn pP 1)) := rfl
  rw [e, hl]
  show cn pP B = 0
  rw [h]; rfl
theorem ord_run : nl pP 121665 9 (nbits lP 253) 1 0 9 1 (fun _ b _ _ => b) = 0 := by decide +kernel
theorem ord_num : bnum 0 (nbits lP 253) = lP := by
  rw [bnum_nbits, Nat.zero_mul, Nat.zero_add]
  exact Nat.mod_eq_of_lt (by decide +kernel)
theorem bP_done (bits : List Bool) (h : nl pP 121665 9 bits 1 0 9 1 (fun _ b _ _ => b) = 0) : C1.mul bP (bnum 0 bits) = C1.zero := bP_good.done nine_ne bits (done_cn 121665 9 (by decide +kernel) bits h)
theorem bP_order : C1.mul bP lP = C1.zero := by
  have h := bP_done _ ord_run
  rw [ord_num] at h
  exact h
end Go.Proofs.YtbpmakegimgbpaaGreatDoor
/- X25519 in numbers: what two share, points of little order. No program. -/
namespace Go.Proofs.YtbpmakegimgbpaaGreatDoor
open F

end Go.Proofs.YtbpmakegimgbpaaGreatDoor
/- Points by four coordinates; curves that are one another's likeness; the curve of chapter 7. No program. -/
namespace Go.Proofs.YtbpmakegimgbpaaGreatDoor
open F

section
variable {N : Nat} [NeZero N]
/-- Four coordinates of a point: x through z, y through z, and x times y through z. -/
abbrev W4 (N : Nat) := Fin N × Fin N × Fin N × Fin N
def Wd (P : Fin N × Fin N) (q : W4 N) : Prop := q.2.2.1 ≠ 0 ∧ q.1 = P.1 * q.2.2.1 ∧ q.2.1 = P.2 * q.2.2.1 ∧ q.2.2.2 = P.1 * P.2 * q.2.2.1
def wE (p q : W4 N) : Fin N := (p.2.1 + p.1) * (q.2.1 + q.1) - (p.2.1 - p.1) * (q.2.1 - q.1)
def wH (p q : W4 N) : Fin N := (p.2.1 + p.1) * (q.2.1 + q.1) + (p.2.1 - p.1) * (q.2.1 - q.1)
def wF (dd : Fin N) (p q : W4 N) : Fin N := p.2.2.1 * q.2.2.1 + p.2.2.1 * q.2.2.1 - p.2.2.2 * dd * q.2.2.2
def wG (dd : Fin N) (p q : W4 N) : Fin N := p.2.2.1 * q.2.2.1 + p.2.2.1 * q.2.2.1 + p.2.2.2 * dd * q.2.2.2
def wsum (dd : Fin N) (p q : W4 N) : W4 N := (wE p q * wF dd p q, wG dd p q * wH p q, wF dd p q * wG dd p q, wE p q * wH p q)
theorem Crv.wsum_ok (C : Crv N) (ha : C.a = -1) {P Q : Fin N × Fin N} {p q : W4 N} (hP : C.On P) (hQ : C.On Q) (h1 : Wd P p) (h2 : Wd Q q) : Wd (C.add P Q) (wsum (C.d + C.d) p q) := by
  have hx := C.add_x hP hQ
  have hy := C.add_y hP hQ
  have hp := C.plus hP hQ
  have hl := C.less hP hQ
  rw [ha] at hy
  generalize C.add P Q = R at *
  unfold Crv.D at *
  obtain ⟨x1, y1⟩ := P
  obtain ⟨x2, y2⟩ := Q
  obtain ⟨x3, y3⟩ := R
  obtain ⟨X1, Y1, Z1, T1⟩ := p
  obtain ⟨X2, Y2, Z2, T2⟩ := q
  obtain ⟨hz1, e1, e2, e3⟩ := h1
  obtain ⟨hz2, f1, f2, f3⟩ := h2
  dsimp only at *
  subst e1 e2 e3 f1 f2 f3
  have hzz := C.ne_mul C.two (C.ne_mul hz1 hz2)
  have hF : wF (C.d + C.d) (x1 * Z1, y1 * Z1, Z1, x1 * y1 * Z1) (x2 * Z2, y2 * Z2, Z2, x2 * y2 * Z2) = (1 + 1) * (Z1 * Z2) * (1 - C.d * (x1 * x2 * y1 * y2)) := by
    unfold wF; clear hx hy hP hQ; dsimp only; grind
  have hG : wG (C.d + C.d) (x1 * Z1, y1 * Z1, Z1, x1 * y1 * Z1) (x2 * Z2, y2 * Z2, Z2, x2 * y2 * Z2) = (1 + 1) * (Z1 * Z2) * (1 + C.d * (x1 * x2 * y1 * y2)) := by
    unfold wG; clear hx hy hP hQ hF; dsimp only; grind
  have hE : wE (x1 * Z1, y1 * Z1, Z1, x1 * y1 * Z1) (x2 * Z2, y2 * Z2, Z2, x2 * y2 * Z2) = (1 + 1) * (Z1 * Z2) * (x1 * y2 + y1 * x2) := by
    unfold wE; clear hx hy hP hQ hF hG; dsimp only; grind
  have hH : wH (x1 * Z1, y1 * Z1, Z1, x1 * y1 * Z1) (x2 * Z2, y2 * Z2, Z2, x2 * y2 * Z2) = (1 + 1) * (Z1 * Z2) * (y1 * y2 - -1 * (x1 * x2)) := by
    unfold wH; clear hx hy hP hQ hF hG hE; dsimp only; grind
  rw [← hx] at hE
  rw [← hy] at hH
  unfold wsum
  rw [hE, hF, hG, hH]
  refine ⟨C.ne_mul (C.ne_mul hzz hl) (C.ne_mul hzz hp), ?_, ?_, ?_⟩
  · clear hx hy hP hQ hF hG hE hH; dsimp only; grind
  · clear hx hy hP hQ hF hG hE hH; dsimp only; grind
  · clear hx hy hP hQ hF hG hE hH; dsimp only; grind
/-- What the four coordinates are of. -/
theorem Crv.wd_out (C : Crv N) {P : Fin N × Fin N} {q : W4 N} (h : Wd P q) : (q.1 * C.iv q.2.2.1, q.2.1 * C.iv q.2.2.1) = P := by
  apply Prod.ext
  · exact C.quot h.1 h.2.1.symm
  · exact C.quot h.1 h.2.2.1.symm
theorem wd_of (P : Fin N × Fin N) (h1 : (1 : Fin N) ≠ 0) : Wd P (P.1, P.2, 1, P.1 * P.2) := by
  refine ⟨h1, ?_, ?_, ?_⟩ <;> (dsimp only; grind)
/-- Curves that are alike: x times t. -/
structure Like (C D : Crv N) (t : Fin N) : Prop where
  nz : t ≠ 0
  a : C.a = D.a * (t * t)
  d : C.d = D.d * (t * t)
def lk (t : Fin N) (P : Fin N × Fin N) : Fin N × Fin N := (t * P.1, P.2)
theorem Like.on {C D : Crv N} {t : Fin N} (h : Like C D t) {P : Fin N × Fin N} (hP : C.On P) : D.On (lk t P) := by
  have h1 := h.a
  have h2 := h.d
  unfold Crv.On lk at *
  dsimp only
  generalize C.a = a at *
  generalize C.d = d at *
  grind
theorem Like.add {C D : Crv N} {t : Fin N} (h : Like C D t) {P Q : Fin N × Fin N} (hP : C.On P) (hQ : C.On Q) : lk t (C.add P Q) = D.add (lk t P) (lk t Q) := by
  have hx := C.add_x hP hQ
  have hy := C.add_y hP hQ
  have e : D.D (lk t P) (lk t Q) = C.D P Q := by
    have h2 := h.d
    unfold Crv.D lk
    dsimp only
    generalize C.d = d at *
    grind
  refine (D.add_of (h.on hP) (h.on hQ) ?_ ?_).symm
  · rw [e]
    show t * (C.add P Q).1 * (1 + C.D P Q) = t * P.1 * Q.2 + P.2 * (t * Q.1)
    have : t * (C.add P Q).1 * (1 + C.D P Q) = t * (P.1 * Q.2 + P.2 * Q.1) := by rw [← hx]; grind
    rw [this]; grind
  · rw [e]
    show (C.add P Q).2 * (1 - C.D P Q) = P.2 * Q.2 - D.a * (t * P.1 * (t * Q.1))
    rw [hy, h.a]; grind
theorem lk_zero (C D : Crv N) (t : Fin N) : lk t C.zero = D.zero := by
  unfold lk Crv.zero
  apply Prod.ext
  · dsimp only; grind
  · rfl
theorem Like.mul {C D : Crv N} {t : Fin N} (h : Like C D t) {P : Fin N × Fin N} (hP : C.On P) : ∀ n, lk t (C.mul P n) = D.mul (lk t P) n
  | 0 => lk_zero C D t
  | n + 1 => by
    show lk t (C.add (C.mul P n) P) = D.add (D.mul (lk t P) n) (lk t P)
    rw [h.add (C.on_mul hP n) hP, h.mul hP n]
theorem Like.inj {C D : Crv N} {t : Fin N} (h : Like C D t) {P Q : Fin N × Fin N} (e : lk t P = lk t Q) : P = Q := by
  have e1 : t * P.1 = t * Q.1 := congrArg Prod.fst e
  have e2 : (lk t P).2 = (lk t Q).2 := congrArg Prod.snd e
  apply Prod.ext
  · exact C.cancel h.nz (by grind)
  · exact e2
end

def d7N : Nat := 37095705934669439343138083508754565189542113879843219016388785533085940283555
def s7N : Nat := 38214883241950591754978413199355411911188925816896391856984770930832735035197
def x7N : Nat := 15112221349535400772501151409588531511454012693041857206046113283949847762202
theorem d7_lt : d7N < pP := by decide +kernel
theorem s7_lt : s7N < pP := by decide +kernel
theorem d7_half : d7N ^ ((pP - 1) / 2) % pP = pP - 1 := Num.pow_of_pw pP 255 d7N _ _ (by decide +kernel) (by decide +kernel)
theorem d7_nsq : Nsq (cn pP d7N) := by
  unfold Nsq
  rw [cn_val d7_lt, d7_half]
  unfold pP; omega
theorem neg_of {N : Nat} [NeZero N] {x : Fin N} (h : x + 1 = 0) : x = -1 := by grind
theorem s7_sq : (-1 : Fin pP) = cn pP s7N * cn pP s7N := by
  have h : cn pP (s7N * s7N % pP) + 1 = 0 := by
    rw [← cn_one, ← cn_add, show (s7N * s7N % pP + 1) % pP = 0 by decide +kernel]; rfl
  rw [← cn_mul]; exact (neg_of h).symm
/-- The curve of chapter 7. -/
def C7 : Crv pP := finC genP p_two p_odd (-1) (cn pP s7N) (cn pP d7N) s7_sq (cn_ne s7_lt (by decide +kernel)) (cn_ne d7_lt (by decide +kernel)) d7_nsq
theorem C7_a : C7.a = -1 := rfl
theorem C7_d : C7.d = cn pP d7N := rfl
theorem one_mul' {N : Nat} [NeZero N] (x : Fin N) : x = 1 * x := by grind
theorem C7_like : Like C7 C1 (cn pP s7N) := ⟨cn_ne s7_lt (by decide +kernel), by
    rw [C7_a, C1_a, s7_sq]; exact one_mul' _, by
    rw [C7_d, C1_d, ← cn_mul, ← cn_mul]
    exact congrArg (cn pP) (by decide +kernel)⟩
/-- The base point of chapter 7. -/
def b7 : Fin pP × Fin pP := (cn pP x7N, cn pP yN)
theorem b7_lk : lk (cn pP s7N) b7 = bP := by
  show (cn pP s7N * cn pP x7N, cn pP yN) = (cn pP xN, cn pP yN)
  rw [← cn_mul, show s7N * x7N % pP = xN by decide +kernel]
theorem neg_mul' {N : Nat} [NeZero N] {a b c e : Fin N} (h : b = e + a) (hc : e = 1 + c) : -1 * a + b = 1 + c := by grind
theorem b7_on : C7.On b7 := by
  show C7.a * (cn pP x7N * cn pP x7N) + cn pP yN * cn pP yN = 1 + cn pP d7N * (cn pP x7N * cn pP x7N) * (cn pP yN * cn pP yN)
  rw [C7_a]
  refine neg_mul' (e := cn pP ((1 + d7N * (x7N * x7N % pP) % pP * (yN * yN % pP) % pP) % pP)) ?_ ?_
  · rw [← cn_mul, ← cn_mul, ← cn_add]
    exact congrArg (cn pP) (by decide +kernel)
  · rw [cn_add, cn_mul, cn_mul, cn_mul, cn_mul, cn_one]
theorem b7_order : C7.mul b7 lP = C7.zero := by
  apply C7_like.inj
  rw [C7_like.mul b7_on, b7_lk, bP_order]
  exact (lk_zero C7 C1 _).symm
end Go.Proofs.YtbpmakegimgbpaaGreatDoor

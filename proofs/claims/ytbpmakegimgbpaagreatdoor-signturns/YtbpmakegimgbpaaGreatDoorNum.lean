/- Plain number theory, without any program: 2^255 - 19 is prime, by a chain of Lucas certificates; each number below it that is not 0 is a power of 2 modulo it; so Fermat's law and inverses. No conditions. -/
namespace Go.Proofs.YtbpmakegimgbpaaGreatDoor.Num

def force {α : Type} (x : Nat) (k : Nat → α) : α := Nat.rec (k 0) (fun m _ => k (m + 1)) x
theorem force_eq {α : Type} (x : Nat) (k : Nat → α) : force x k = k x := by
  cases x <;> rfl

def pw (n : Nat) : Nat → Nat → Nat → Nat → Nat
  | 0, _, _, acc => acc
  | f + 1, a, e, acc => force (a * a % n) fun a2 => force (e / 2) fun e2 => force (if e % 2 = 1 then acc * a % n else acc) fun acc2 => pw n f a2 e2 acc2

theorem pw_eq (n : Nat) : ∀ f a e acc, e < 2 ^ f → pw n f a e acc % n = (a ^ e * acc) % n := by
  intro f
  induction f with
  | zero => intro a e acc h; have : e = 0 := by simpa using h
            subst this; simp [pw]
  | succ f ih =>
    intro a e acc h
    simp only [pw, force_eq]
    rw [ih _ _ _ (by rw [Nat.pow_succ] at h; omega)]
    have h2 : e = 2 * (e / 2) + e % 2 := by omega
    have hp : (a * a % n) ^ (e / 2) % n = (a ^ (2 * (e / 2))) % n := by
      rw [Nat.pow_mod, Nat.mod_mod, ← Nat.pow_mod, Nat.pow_mul, Nat.pow_two]
    by_cases ho : e % 2 = 1
    · rw [if_pos ho]
      have : a ^ e = a ^ (2 * (e / 2)) * a := by
        rw [← Nat.pow_succ]; congr 1; omega
      rw [Nat.mul_mod, hp, Nat.mod_mod, ← Nat.mul_mod, this, Nat.mul_assoc, Nat.mul_comm a acc]
    · rw [if_neg ho]
      have : a ^ e = a ^ (2 * (e / 2)) := by congr 1; omega
      rw [Nat.mul_mod, hp, ← Nat.mul_mod, this]

theorem pow_of_pw (n f a e r : Nat) (he : e < 2 ^ f) (h : pw n f a e 1 % n = r) : a ^ e % n = r := by
  rw [pw_eq n f a e 1 he, Nat.mul_one] at h; exact h

def IsP (q : Nat) : Prop := 1 < q ∧ ∀ m, m ∣ q → m = 1 ∨ m = q

theorem dvd_prod (L : List Nat) (hL : ∀ q ∈ L, IsP q) (d : Nat) (hd : d ∣ L.foldr (· * ·) 1) (h1 : d ≠ 1) : ∃ q ∈ L, q ∣ d := by
  induction L with
  | nil => exact absurd (Nat.dvd_one.1 (by simpa using hd)) h1
  | cons q t ih =>
    by_cases hq : q ∣ d
    · exact ⟨q, by simp, hq⟩
    · have hP := hL q (by simp)
      have hg : Nat.Coprime d q := by
        rcases hP.2 (Nat.gcd d q) (Nat.gcd_dvd_right d q) with h | h
        · exact h
        · exact absurd (h ▸ Nat.gcd_dvd_left d q) hq
      have : d ∣ t.foldr (· * ·) 1 := hg.dvd_of_dvd_mul_left (by simpa using hd)
      obtain ⟨r, hr, hrd⟩ := ih (fun q hq => hL q (by simp [hq])) this
      exact ⟨r, by simp [hr], hrd⟩

theorem no_inj (n : Nat) : ∀ f : Nat → Nat, (∀ i, i < n + 1 → f i < n) → ¬ (∀ i j, i < n + 1 → j < n + 1 → f i = f j → i = j) := by
  induction n with
  | zero => intro f h; exact absurd (h 0 (by omega)) (by omega)
  | succ n ih =>
    intro f h hi
    have hla := h (n + 1) (by omega)
    apply ih (fun i => if f i = n then f (n + 1) else f i)
    · intro i hin
      show (if f i = n then f (n + 1) else f i) < n
      split
      · rename_i e
        have : f (n + 1) ≠ n := fun e2 => by have := hi i (n + 1) (by omega) (by omega) (by rw [e, e2]); omega
        omega
      · have := h i (by omega); omega
    · intro i j hin hjn he
      have he : (if f i = n then f (n + 1) else f i) = (if f j = n then f (n + 1) else f j) := he
      split at he <;> split at he
      · rename_i a b; exact hi i j (by omega) (by omega) (by rw [a, b])
      · have := hi (n + 1) j (by omega) (by omega) he; omega
      · have := hi i (n + 1) (by omega) (by omega) he; omega
      · exact hi i j (by omega) (by omega) he

theorem inj_surj (n : Nat) (f : Nat → Nat) (hb : ∀ i, i < n → f i < n) (hi : ∀ i j, i < n → j < n → f i = f j → i = j) (y : Nat) (hy : y < n) : ∃ i, i < n ∧ f i = y := by
  apply Classical.byContradiction
  intro hno
  have hno' : ∀ i, i < n → f i ≠ y := fun i h e => hno ⟨i, h, e⟩
  apply no_inj n (fun i => if i = n then y else f i)
  · intro i hin
    show (if i = n then y else f i) < n
    split
    · exact hy
    · exact hb i (by omega)
  · intro i j hin hjn he
    have he : (if i = n then y else f i) = (if j = n then y else f j) := he
    split at he <;> split at he
    · omega
    · exact absurd he.symm (hno' j (by omega))
    · exact absurd he (hno' i (by omega))
    · exact hi i j (by omega) (by omega) he

theorem pow_add_mod (g a b n : Nat) : g ^ (a + b) % n = (g ^ a % n) * (g ^ b % n) % n := by
  rw [Nat.pow_add, Nat.mul_mod]

theorem pow_one_mul (g a n k : Nat) (hn : 1 < n) (h : g ^ a % n = 1) : g ^ (a * k) % n = 1 := by
  rw [Nat.pow_mul, Nat.pow_mod, h]; simp [Nat.mod_eq_of_lt hn]

theorem pow_gcd (g n : Nat) (hn : 1 < n) : ∀ a b, g ^ a % n = 1 → g ^ b % n = 1 → g ^ (Nat.gcd a b) % n = 1 := by
  intro a b
  induction a, b using Nat.gcd.induction with
  | H0 b => intro _ h; simpa using h
  | H1 a b ha ih =>
    intro h1 h2
    rw [Nat.gcd_rec]
    apply ih _ h1
    have e : b = a * (b / a) + b % a := (Nat.div_add_mod b a).symm
    rw [e, pow_add_mod, pow_one_mul g a n _ hn h1, Nat.one_mul, Nat.mod_mod] at h2
    exact h2

structure Gen (n g : Nat) : Prop where
  one_lt : 1 < n
  gen : ∀ x, 0 < x → x < n → ∃ k, x = g ^ k % n
  ferm : g ^ (n - 1) % n = 1

theorem lucas (n g : Nat) (L : List Nat) (hn : 2 < n) (hL : ∀ q ∈ L, IsP q) (hN : L.foldr (· * ·) 1 = n - 1) (h1 : g ^ (n - 1) % n = 1) (hq : ∀ q ∈ L, g ^ ((n - 1) / q) % n ≠ 1) : Gen n g := by
  have hn1 : 1 < n := by omega
  have ord : ∀ d, 0 < d → d < n - 1 → g ^ d % n ≠ 1 := by
    intro d hd0 hd1 hd
    have he := pow_gcd g n hn1 d (n - 1) hd h1
    have hdv : Nat.gcd d (n - 1) ∣ n - 1 := Nat.gcd_dvd_right _ _
    have hle : Nat.gcd d (n - 1) ≤ d := Nat.gcd_le_left _ hd0
    obtain ⟨m, hm⟩ := hdv
    generalize Nat.gcd d (n - 1) = e at *
    have hm1 : m ≠ 1 := by intro h; subst h; omega
    obtain ⟨q, hqL, hqm⟩ := dvd_prod L hL m (by rw [hN, hm]; exact Nat.dvd_mul_left m e) hm1
    obtain ⟨r, hr⟩ := hqm
    have hq0 : 0 < q := by have := (hL q hqL).1; omega
    apply hq q hqL
    have : (n - 1) / q = e * r := by
      rw [hm, hr, Nat.mul_left_comm, Nat.mul_div_cancel_left _ hq0]
    rw [this]
    exact pow_one_mul g e n r hn1 he
  have nz : ∀ k, k < n - 1 → g ^ k % n ≠ 0 := by
    intro k hk h0
    have : g ^ (n - 1) % n = 0 := by
      rw [show n - 1 = k + (n - 1 - k) by omega, pow_add_mod, h0]; simp
    omega
  refine ⟨hn1, ?_, h1⟩
  intro x hx0 hxn
  obtain ⟨i, hi, he⟩ := inj_surj (n - 1) (fun k => g ^ k % n - 1) (fun i hi => by
      show g ^ i % n - 1 < n - 1
      have := nz i hi
      have := Nat.mod_lt (g ^ i) (by omega : n > 0)
      omega) (by
      intro i j hi hj he
      have he : g ^ i % n - 1 = g ^ j % n - 1 := he
      have hi0 := nz i hi
      have hj0 := nz j hj
      have he2 : g ^ i % n = g ^ j % n := by omega
      have key : ∀ i j, i < j → j < n - 1 → g ^ i % n = g ^ j % n → False := by
        intro i j hij hj he
        apply ord (j - i) (by omega) (by omega)
        have e1 : g ^ (j + (n - 1 - i)) % n = 1 := by
          rw [pow_add_mod, ← he, ← pow_add_mod, show i + (n - 1 - i) = n - 1 by omega, h1]
        rw [show j + (n - 1 - i) = (n - 1) + (j - i) by omega, pow_add_mod, h1, Nat.one_mul, Nat.mod_mod] at e1
        exact e1
      rcases Nat.lt_trichotomy i j with h | h | h
      · exact absurd (key i j h hj he2) id
      · exact h
      · exact absurd (key j i h hi he2.symm) id) (x - 1) (by omega)
  have he : g ^ i % n - 1 = x - 1 := he
  have := nz i hi
  exact ⟨i, by omega⟩

theorem Gen.fermat {n g : Nat} (G : Gen n g) (x : Nat) (h : x % n ≠ 0) : x ^ (n - 1) % n = 1 := by
  have hn := G.one_lt
  obtain ⟨k, hk⟩ := G.gen (x % n) (by omega) (Nat.mod_lt _ (by omega))
  rw [Nat.pow_mod, hk, ← Nat.pow_mod, ← Nat.pow_mul, Nat.mul_comm]
  exact pow_one_mul g _ n k hn G.ferm

theorem Gen.inv {n g : Nat} (G : Gen n g) (hn2 : 2 < n) (x : Nat) (h : x % n ≠ 0) : x * x ^ (n - 2) % n = 1 := by
  have := G.fermat x h
  rw [show n - 1 = (n - 2) + 1 by omega, Nat.pow_succ, Nat.mul_comm] at this
  exact this

theorem Gen.prime {n g : Nat} (G : Gen n g) (hn2 : 2 < n) : IsP n := by
  refine ⟨G.one_lt, fun m hm => ?_⟩
  by_cases h : m % n = 0
  · right
    have h1 := Nat.le_of_dvd (by omega) hm
    obtain ⟨c, hc⟩ := Nat.dvd_of_mod_eq_zero h
    have hm0 : m ≠ 0 := by intro e; subst e; have := Nat.eq_zero_of_zero_dvd hm; omega
    have : c ≠ 0 := by intro e; subst e; omega
    have : n * 1 ≤ n * c := Nat.mul_le_mul_left n (by omega)
    omega
  · left
    have hi := G.inv hn2 m h
    have h1 : m ∣ 1 := by
      have hd : m ∣ m * m ^ (n - 2) % n := (Nat.dvd_mod_iff hm).2 (Nat.dvd_mul_right _ _)
      rw [hi] at hd; exact hd
    exact Nat.dvd_one.1 h1

theorem Gen.nozero {n g : Nat} (G : Gen n g) (hn2 : 2 < n) (a b : Nat) (h : a * b % n = 0) : a % n = 0 ∨ b % n = 0 := by
  by_cases ha : a % n = 0
  · exact .inl ha
  · right
    have hi := G.inv hn2 a ha
    have : (a * a ^ (n - 2)) * b % n = 0 := by
      rw [show a * a ^ (n - 2) * b = a ^ (n - 2) * (a * b) by rw [Nat.mul_comm a, Nat.mul_assoc], Nat.mul_mod, h]; simp
    rw [Nat.mul_mod, hi, Nat.one_mul, Nat.mod_mod] at this
    exact this

def tr (n : Nat) : Nat → Nat → Bool
  | 0, _ => false
  | f + 1, m => if n < m * m then true else if n % m = 0 then false else force (m + 1) fun m1 => tr n f m1

theorem tr_sound (n : Nat) : ∀ f m, tr n f m = true → ∀ d, m ≤ d → d * d ≤ n → n % d ≠ 0 := by
  intro f
  induction f with
  | zero => intro m h; simp [tr] at h
  | succ f ih =>
    intro m h d hmd hdn
    simp only [tr, force_eq] at h
    split at h
    · rename_i h1
      have := Nat.mul_le_mul hmd hmd
      omega
    · split at h
      · simp at h
      · rename_i h2
        rcases Nat.lt_or_ge m d with hl | hl
        · exact ih (m + 1) h d hl hdn
        · have : d = m := by omega
          subst this; exact h2

theorem isP_of_tr (n f : Nat) (hn : 1 < n) (h : tr n f 2 = true) : IsP n := by
  refine ⟨hn, fun m hm => ?_⟩
  obtain ⟨c, hc⟩ := hm
  have key := tr_sound n f 2 h
  by_cases hm1 : m = 1
  · exact .inl hm1
  · right
    have hm0 : m ≠ 0 := by intro e; subst e; simp at hc; omega
    by_cases hc1 : c = 1
    · subst hc1; omega
    · exfalso
      have hc0 : c ≠ 0 := by intro e; subst e; omega
      rcases Nat.le_total m c with hle | hle
      · have := Nat.mul_le_mul_left m hle
        exact key m (by omega) (by omega) (by rw [hc]; exact Nat.mul_mod_right m c)
      · have := Nat.mul_le_mul_right c hle
        exact key c (by omega) (by omega) (by rw [hc]; exact Nat.mul_mod_left m c)

theorem lucas_pw (n g f : Nat) (L : List Nat) (hn : 2 < n) (hL : ∀ q ∈ L, IsP q) (hN : L.foldr (· * ·) 1 = n - 1) (hf : n ≤ 2 ^ f) (h1 : pw n f g (n - 1) 1 % n = 1) (hq : L.all (fun q => pw n f g ((n - 1) / q) 1 % n != 1) = true) : Gen n g := by
  refine lucas n g L hn hL hN (pow_of_pw n f g _ _ (by omega) h1) fun q hqL he => ?_
  have := List.all_eq_true.1 hq q hqL
  rw [pw_eq n f g _ 1 (by have := Nat.div_le_self (n - 1) q; omega), Nat.mul_one, he] at this
  simp at this

theorem p2 : IsP 2 := isP_of_tr 2 4 (by decide +kernel) (by decide +kernel)
theorem p3 : IsP 3 := isP_of_tr 3 4 (by decide +kernel) (by decide +kernel)
theorem p353 : IsP 353 := isP_of_tr 353 21 (by decide +kernel) (by decide +kernel)
theorem p5 : IsP 5 := isP_of_tr 5 5 (by decide +kernel) (by decide +kernel)
theorem p13 : IsP 13 := isP_of_tr 13 6 (by decide +kernel) (by decide +kernel)
theorem p569003 : IsP 569003 := isP_of_tr 569003 757 (by decide +kernel) (by decide +kernel)
theorem p2437 : IsP 2437 := isP_of_tr 2437 52 (by decide +kernel) (by decide +kernel)
theorem gp2773320623 : Gen 2773320623 5 := lucas_pw 2773320623 5 32 [2, 2437, 569003] (by decide +kernel) (by
  intro q hq
  simp only [List.mem_cons, List.not_mem_nil, or_false] at hq
  rcases hq with rfl | rfl | rfl
  · exact p2
  · exact p2437
  · exact p569003) (by decide +kernel) (by decide +kernel) (by decide +kernel) (by decide +kernel)
theorem p2773320623 : IsP 2773320623 := gp2773320623.prime (by decide +kernel)
theorem gp72106336199 : Gen 72106336199 7 := lucas_pw 72106336199 7 37 [2, 13, 2773320623] (by decide +kernel) (by
  intro q hq
  simp only [List.mem_cons, List.not_mem_nil, or_false] at hq
  rcases hq with rfl | rfl | rfl
  · exact p2
  · exact p13
  · exact p2773320623) (by decide +kernel) (by decide +kernel) (by decide +kernel) (by decide +kernel)
theorem p72106336199 : IsP 72106336199 := gp72106336199.prime (by decide +kernel)
theorem p7 : IsP 7 := isP_of_tr 7 5 (by decide +kernel) (by decide +kernel)
theorem p47 : IsP 47 := isP_of_tr 47 9 (by decide +kernel) (by decide +kernel)
theorem p19 : IsP 19 := isP_of_tr 19 7 (by decide +kernel) (by decide +kernel)
theorem p8574133 : IsP 8574133 := isP_of_tr 8574133 2931 (by decide +kernel) (by decide +kernel)
theorem p127 : IsP 127 := isP_of_tr 127 14 (by decide +kernel) (by decide +kernel)
theorem gp1919519569386763 : Gen 1919519569386763 2 := lucas_pw 1919519569386763 2 51 [2, 3, 7, 19, 47, 47, 127, 8574133] (by decide +kernel) (by
  intro q hq
  simp only [List.mem_cons, List.not_mem_nil, or_false] at hq
  rcases hq with rfl | rfl | rfl | rfl | rfl | rfl | rfl | rfl
  · exact p2
  · exact p3
  · exact p7
  · exact p19
  · exact p47
  · exact p47
  · exact p127
  · exact p8574133) (by decide +kernel) (by decide +kernel) (by decide +kernel) (by decide +kernel)
theorem p1919519569386763 : IsP 1919519569386763 := gp1919519569386763.prime (by decide +kernel)
theorem p75707 : IsP 75707 := isP_of_tr 75707 278 (by decide +kernel) (by decide +kernel)
theorem gp75445702 : Gen 75445702479781427272750846543864801 7 := lucas_pw 75445702479781427272750846543864801 7 116 [2, 2, 2, 2, 2, 3, 3, 5, 5, 75707, 72106336199, 1919519569386763] (by decide +kernel) (by
  intro q hq
  simp only [List.mem_cons, List.not_mem_nil, or_false] at hq
  rcases hq with rfl | rfl | rfl | rfl | rfl | rfl | rfl | rfl | rfl | rfl | rfl | rfl
  · exact p2
  · exact p2
  · exact p2
  · exact p2
  · exact p2
  · exact p3
  · exact p3
  · exact p5
  · exact p5
  · exact p75707
  · exact p72106336199
  · exact p1919519569386763) (by decide +kernel) (by decide +kernel) (by decide +kernel) (by decide +kernel)
theorem p75445702 : IsP 75445702479781427272750846543864801 := gp75445702.prime (by decide +kernel)
theorem p132049 : IsP 132049 := isP_of_tr 132049 366 (by decide +kernel) (by decide +kernel)
theorem p107 : IsP 107 := isP_of_tr 107 13 (by decide +kernel) (by decide +kernel)
theorem p430751 : IsP 430751 := isP_of_tr 430751 659 (by decide +kernel) (by decide +kernel)
theorem p4153 : IsP 4153 := isP_of_tr 4153 67 (by decide +kernel) (by decide +kernel)
theorem p31 : IsP 31 := isP_of_tr 31 8 (by decide +kernel) (by decide +kernel)
theorem p223 : IsP 223 := isP_of_tr 223 17 (by decide +kernel) (by decide +kernel)
theorem gp31757755568855353 : Gen 31757755568855353 10 := lucas_pw 31757755568855353 10 55 [2, 2, 2, 3, 31, 107, 223, 4153, 430751] (by decide +kernel) (by
  intro q hq
  simp only [List.mem_cons, List.not_mem_nil, or_false] at hq
  rcases hq with rfl | rfl | rfl | rfl | rfl | rfl | rfl | rfl | rfl
  · exact p2
  · exact p2
  · exact p2
  · exact p3
  · exact p31
  · exact p107
  · exact p223
  · exact p4153
  · exact p430751) (by decide +kernel) (by decide +kernel) (by decide +kernel) (by decide +kernel)
theorem p31757755568855353 : IsP 31757755568855353 := gp31757755568855353.prime (by decide +kernel)
theorem p57467 : IsP 57467 := isP_of_tr 57467 242 (by decide +kernel) (by decide +kernel)
theorem p1923133 : IsP 1923133 := isP_of_tr 1923133 1389 (by decide +kernel) (by decide +kernel)
theorem gp74058212 : Gen 74058212732561358302231226437062788676166966415465897661863160754340907 2 := lucas_pw 74058212732561358302231226437062788676166966415465897661863160754340907 2 236 [2, 3, 353, 57467, 132049, 1923133, 31757755568855353, 75445702479781427272750846543864801] (by decide +kernel) (by
  intro q hq
  simp only [List.mem_cons, List.not_mem_nil, or_false] at hq
  rcases hq with rfl | rfl | rfl | rfl | rfl | rfl | rfl | rfl
  · exact p2
  · exact p3
  · exact p353
  · exact p57467
  · exact p132049
  · exact p1923133
  · exact p31757755568855353
  · exact p75445702) (by decide +kernel) (by decide +kernel) (by decide +kernel) (by decide +kernel)
theorem p74058212 : IsP 74058212732561358302231226437062788676166966415465897661863160754340907 := gp74058212.prime (by decide +kernel)
theorem p65147 : IsP 65147 := isP_of_tr 65147 258 (by decide +kernel) (by decide +kernel)
theorem gpP : Gen 57896044618658097711785492504343953926634992332820282019728792003956564819949 2 := lucas_pw 57896044618658097711785492504343953926634992332820282019728792003956564819949 2 255 [2, 2, 3, 65147, 74058212732561358302231226437062788676166966415465897661863160754340907] (by decide +kernel) (by
  intro q hq
  simp only [List.mem_cons, List.not_mem_nil, or_false] at hq
  rcases hq with rfl | rfl | rfl | rfl | rfl
  · exact p2
  · exact p2
  · exact p3
  · exact p65147
  · exact p74058212) (by decide +kernel) (by decide +kernel) (by decide +kernel) (by decide +kernel)
end Go.Proofs.YtbpmakegimgbpaaGreatDoor.Num

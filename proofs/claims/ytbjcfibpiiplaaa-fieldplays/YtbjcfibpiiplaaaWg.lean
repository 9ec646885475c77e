/- Walks: Odd, Same, the root of minus one, Bytes, Load, Pick. -/
import Derived.Test.YtbjcfibpiiplaaaWd
import Derived.Laws.StructEq
namespace Go.Proofs.Ytbjcfibpiiplaaa
open Go.RowKit

theorem odd_bit (x : Nat) : (bits BinOp.and IntKind.u64 (limb x 0 : Nat) 1 == 1) = decide (x % 2 = 1) := by
  have := u64_and_nat (limb x 0) 1 (limb_lt x 0) (by omega)
  rw [show ((1 : Nat) : Int) = 1 from rfl] at this
  rw [this, nat_mask1, limb0]
  rw [Bool.eq_iff_iff]; simp; omega

set_option maxHeartbeats 400000 in
theorem odd_any (x : Nat) (w : World) :
    Calls Try.prog 15 #[fe x] w fun e w' => e = .returned (.bool (decide (x % 2 = 1))) ∧ Below w.heap.size w w' := by
  rw [fe_def x]
  go_enter Try.func15, Try.ntmps15
  go_wp2
  go_ret
  exact ⟨congrArg (fun b => Ending.returned (.bool b)) (odd_bit x), (Below.refl _ w).alloc (Nat.le_refl _) _⟩

theorem fe_inj (x y : Nat) (hx : x < 2 ^ 256) (hy : y < 2 ^ 256) : x = y ↔ (limb x 0 = limb y 0 ∧ limb x 1 = limb y 1 ∧ limb x 2 = limb y 2 ∧ limb x 3 = limb y 3) := by
  constructor
  · intro h; subst h; simp
  · rintro ⟨h0, h1, h2, h3⟩
    rw [limb0, limb0] at h0
    rw [limb1, limb1] at h1
    rw [limb2, limb2] at h2
    rw [limb3, limb3] at h3
    omega

def vals (k : IntKind) (n : Nat) (f : Nat → Nat) : Array Value := ((List.range n).map fun i => Value.int k (f i : Nat)).toArray
theorem vals_get (kd : IntKind) (n : Nat) (f : Nat → Nat) (k : Nat) (h : k < n) : (vals kd n f)[k]? = some (.int kd (f k : Nat)) := by
  simp [vals, h]
theorem vals_size (kd : IntKind) (n : Nat) (f : Nat → Nat) : (vals kd n f).size = n := by simp [vals]
theorem vals_set (kd : IntKind) (n : Nat) (f : Nat → Nat) (k v : Nat) : (vals kd n f).setIfInBounds k (.int kd (v : Nat)) = vals kd n (fun j => if j = k then v else f j) := by
  apply Array.ext_getElem?
  intro i
  by_cases hi : i < n
  · rw [Array.getElem?_setIfInBounds, vals_size, vals_get kd n (fun j => if j = k then v else f j) i hi]
    by_cases hk : k = i
    · subst hk; simp [hi]
    · have : ¬ i = k := fun e => hk e.symm
      simp [hk, this, vals_get kd n f i hi]
  · rw [Array.getElem?_eq_none (by simp [vals_size]; omega), Array.getElem?_eq_none (by simp [vals_size]; omega)]
theorem vals_congr (kd : IntKind) (n : Nat) (f g : Nat → Nat) (h : ∀ j, j < n → f j = g j) : vals kd n f = vals kd n g := by
  unfold vals
  congr 1
  apply List.map_congr_left
  intro j hj
  rw [h j (by simpa using hj)]
theorem vals_one (kd : IntKind) (n : Nat) (f : Nat → Nat) : (vals kd n f).all (·.oneCell') = true := by
  simp [vals, Value.oneCell']
theorem vals_inj (kd : IntKind) (n : Nat) (f g : Nat → Nat) (h : vals kd n f = vals kd n g) : ∀ i, i < n → f i = g i := by
  intro i hi
  have h1 := vals_get kd n f i hi
  rw [h, vals_get kd n g i hi] at h1
  simp at h1; omega

theorem run_equal_vals {P : Program} (w : World) (d : Nat) (t e : TypeId) (n : Nat) (kd : IntKind) (ht : P.underlying t = some (.array n e)) (he : P.underlying e = some (.int kd)) (hsz : ∀ w, (sizeOf e).run P w = .ok 1 w) (f g : Nat → Nat) :
    (Op.equalIn (d + 2) t (.agg (vals kd n f)) (.agg (vals kd n g))).run P w = .ok ((List.range n).all fun i => f i == g i) w := by
  rw [List.range_eq_range', Op.equalIn]
  simp only [Sem.run_bind, run_underlying ht, Result.andThen_ok, hsz, Std.Legacy.Range.forIn_eq_forIn_range', Std.Legacy.Range.size, Nat.sub_zero, Nat.add_sub_cancel, Nat.div_one]
  have hl : ∀ i ∈ List.range' 0 n 1, i < n := fun i hi => by simpa using (List.mem_range'_1.1 hi).2
  generalize List.range' 0 n 1 = l at hl ⊢
  induction l with
  | nil => simp
  | cons i l ih =>
    have hi : i < n := hl i (by simp)
    have px : (part e (vals kd n f) (i * 1)).run P w = .ok (.int kd (f i : Nat)) w := by
      simp [part, isAgg, run_underlying he, vals_get kd n f i hi]
    have py : (part e (vals kd n g) (i * 1)).run P w = .ok (.int kd (g i : Nat)) w := by
      simp [part, isAgg, run_underlying he, vals_get kd n g i hi]
    have pe : (Op.equalIn (d + 1) e (.int kd (f i : Nat)) (.int kd (g i : Nat))).run P w = .ok (f i == g i) w := by
      rw [run_equalIn_int w d e kd kd _ _ he]
      congr 1
      rw [Bool.eq_iff_iff]
      simp
      omega
    simp only [List.forIn_cons, Sem.run_bind, px, py, pe, Result.andThen_ok, List.all_cons]
    cases hb : (f i == g i)
    · simp
    · simp only [Bool.not_true, Bool.false_eq_true, if_false, Sem.run_pure, Result.andThen_ok, Bool.true_and]
      exact ih fun j hj => hl j (by simp [hj])

theorem size24 (w : World) : (sizeOf 24).run Try.prog w = .ok 1 w := by kernel_rfl
theorem size5 (w : World) : (sizeOf 5).run Try.prog w = .ok 1 w := by kernel_rfl
theorem eq_limbs (x y : Nat) (hx : x < 2 ^ 256) (hy : y < 2 ^ 256) (w : World) : (Op.equalIn 10000 25 (fe x) (fe y)).run Try.prog w = .ok (decide (x = y)) w := by
  have := run_equal_vals (P := Try.prog) w 9998 25 24 4 .u64 Try.underlying25 Try.underlying24 size24 (limb x) (limb y)
  rw [show ((List.range 4).all fun i => limb x i == limb y i) = decide (x = y) from by
    rw [Bool.eq_iff_iff, decide_eq_true_eq, fe_inj x y hx hy]; simp [List.range_succ]] at this
  exact this

set_option maxHeartbeats 400000 in
theorem same_any (x y : Nat) (w : World) (hx : x < pP) (hy : y < pP) :
    Calls Try.prog 16 #[fe x, fe y] w fun e w' => e = .returned (.bool (decide (x = y))) ∧ Below w.heap.size w w' := by
  have he := eq_limbs x y (by unfold pP at hx; omega) (by unfold pP at hy; omega)
  rw [fe_def x, fe_def y] at *
  clear hx hy
  go_enter Try.func16, Try.ntmps16
  go_wp2
  go_ret
  exact ⟨rfl, ((Below.refl _ w).alloc (Nat.le_refl _) _).alloc (by simp) _⟩

def rootN : Nat := 14190309331451158704 + 3405592160176694392 * 2 ^ 64 + 3120150775007532967 * 2 ^ 128 + 3135389899092516619 * 2 ^ 192
theorem root_fe : fe rootN = .agg #[.int .u64 14190309331451158704, .int .u64 3405592160176694392, .int .u64 3120150775007532967, .int .u64 3135389899092516619] := by
  rw [fe_def, limb0, limb1, limb2, limb3]
  rw [show rootN % 18446744073709551616 = 14190309331451158704 by decide +kernel, show rootN / 18446744073709551616 % 18446744073709551616 = 3405592160176694392 by decide +kernel, show rootN / 340282366920938463463374607431768211456 % 18446744073709551616 = 3120150775007532967 by decide +kernel, show rootN / 6277101735386680763835789423207666416102355444464034512896 % 18446744073709551616 = 3135389899092516619 by decide +kernel]
  rfl

set_option maxHeartbeats 400000 in
theorem root_any (w : World) :
    Calls Try.prog 44 #[] w fun e w' => e = .returned (fe rootN) ∧ Below w.heap.size w w' := by
  rw [root_fe]
  go_enter Try.func44, Try.ntmps44
  go_wp2
  refine bodyPost_ret (v := .agg #[.int .u64 14190309331451158704, .int .u64 3405592160176694392, .int .u64 3120150775007532967, .int .u64 3135389899092516619]) (by simp [results, Try.results44, go_sem]) rfl ⟨rfl, ?_⟩
  exact (Below.refl _ w).alloc (Nat.le_refl _) _
end Go.Proofs.Ytbjcfibpiiplaaa

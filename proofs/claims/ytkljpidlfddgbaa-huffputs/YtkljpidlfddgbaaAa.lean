/- Small laws on worlds, arrays of numbers, limbs and bytes; no program. -/
import Derived.WalkKit
import Derived.WalkSpells
import Derived.WalkLawsBesides
import Derived.Laws.Externs
import Derived.Laws.BitsAllLaws
import Derived.Deep.RegionHeld3
import Derived.Lib.Mul64
import Derived.Laws.MathBits
namespace Go.Proofs.Ytkljpidlfddgbaa
open Go.RowKit



/-- Block b holds just the cells c, and none is frozen. -/
def Blk (w : World) (b : Nat) (c : Array Value) (t : TypeId) : Prop := w.heap[b]? = some (.cells c t (0, 0))

theorem Blk.lt {w : World} {b : Nat} {c : Array Value} {t : TypeId} (h : Blk w b c t) : b < w.heap.size := by
  unfold Blk at h
  exact (Array.getElem?_eq_some_iff.1 h).1
theorem Blk.cell {w : World} {b : Nat} {c : Array Value} {t : TypeId} (h : Blk w b c t) (j : Nat) : w.cell? ⟨b, j, none⟩ = c[j]? := by
  unfold Blk at h; simp [World.cell?, h]
theorem Blk.frozen {w : World} {b : Nat} {c : Array Value} {t : TypeId} (h : Blk w b c t) (j : Nat) : w.frozen? ⟨b, j, none⟩ = false := by
  unfold Blk at h; simp [World.frozen?, h]
theorem Blk.new (w : World) (c : Array Value) (t : TypeId) : Blk (w.alloc (.cells c t)) w.heap.size c t := by
  unfold Blk World.alloc; simp
theorem Blk.new' (w : World) (b : Nat) (hb : b = w.heap.size) (c : Array Value) (t : TypeId) : Blk (w.alloc (.cells c t)) b c t := by
  subst hb; exact Blk.new w c t
theorem Blk.alloc {w : World} {b : Nat} {c : Array Value} {t : TypeId} (h : Blk w b c t) (o : Obj) : Blk (w.alloc o) b c t := by
  have := h.lt
  unfold Blk at *
  rw [Below.heap_alloc w o b this]; exact h
theorem Blk.drew {w : World} {b : Nat} {c : Array Value} {t : TypeId} (h : Blk w b c t) : Blk w.drew b c t := h
theorem Blk.below {w w' : World} {b B : Nat} {c : Array Value} {t : TypeId} (h : Blk w b c t) (hb : Below B w w') (hB : b < B) : Blk w' b c t := by
  unfold Blk at *; rw [hb.block b hB]; exact h
theorem Blk.call {w w' : World} {b : Nat} {c : Array Value} {t : TypeId} (h : Blk w b c t) (hb : Below w.heap.size w w') : Blk w' b c t := h.below hb h.lt
theorem Blk.set {w : World} {b : Nat} {c : Array Value} {t : TypeId} (h : Blk w b c t) (i : Nat) (v : Value) : Blk (w.setCell ⟨b, i, none⟩ v) b (c.setIfInBounds i v) t := by
  unfold Blk at *
  simp [World.setCell, Array.getElem?_modify, h]
theorem Blk.setOther {w : World} {b b' : Nat} {c : Array Value} {t : TypeId} (h : Blk w b c t) (i : Nat) (v : Value) (hne : b' ≠ b) : Blk (w.setCell ⟨b', i, none⟩ v) b c t := by
  unfold Blk at *
  rw [Below.heap_setCell w ⟨b', i, none⟩ v b (fun e => hne e.symm)]; exact h
theorem Blk.cast {w : World} {b : Nat} {c c' : Array Value} {t : TypeId} (h : Blk w b c t) (e : c = c') : Blk w b c' t := e ▸ h
/-- What a walk wants of it: rules on cells. -/
theorem Blk.rules {w : World} {b : Nat} {c : Array Value} {t : TypeId} (h : Blk w b c t) : (∀ j, w.cell? ⟨b, j, none⟩ = c[j]?) ∧ (∀ j, w.frozen? ⟨b, j, none⟩ = false) := ⟨h.cell, h.frozen⟩
/-- Behind four stores. -/
theorem Blk.set4 {w : World} {b : Nat} {x0 x1 x2 x3 : Value} {t : TypeId} (h : Blk w b #[x0, x1, x2, x3] t) (y0 y1 y2 y3 : Value) :
    Blk ((((w.setCell ⟨b, 0, none⟩ y0).setCell ⟨b, 1, none⟩ y1).setCell ⟨b, 2, none⟩ y2).setCell ⟨b, 3, none⟩ y3) b #[y0, y1, y2, y3] t := by
  have := (((h.set 0 y0).set 1 y1).set 2 y2).set 3 y3
  exact this.cast (by simp)
theorem Blk.set4Other {w : World} {b b' : Nat} {c : Array Value} {t : TypeId} (h : Blk w b c t) (y0 y1 y2 y3 : Value) (hne : b' ≠ b) :
    Blk ((((w.setCell ⟨b', 0, none⟩ y0).setCell ⟨b', 1, none⟩ y1).setCell ⟨b', 2, none⟩ y2).setCell ⟨b', 3, none⟩ y3) b c t :=
  (((h.setOther 0 y0 hne).setOther 1 y1 hne).setOther 2 y2 hne).setOther 3 y3 hne
theorem Below.set4 {B : Nat} {a w : World} (h : Below B a w) {b : Nat} (hb : B ≤ b) (y0 y1 y2 y3 : Value) :
    Below B a ((((w.setCell ⟨b, 0, none⟩ y0).setCell ⟨b, 1, none⟩ y1).setCell ⟨b, 2, none⟩ y2).setCell ⟨b, 3, none⟩ y3) :=
  (((h.setCell hb y0).setCell hb y1).setCell hb y2).setCell hb y3
theorem Blk.row {w : World} {b : Nat} {c : Array Value} {t : TypeId} (h : Blk w b c t) (cs : Array Value) : Blk (w.setRow b cs) b cs t := setRow_heap w b c cs t (0, 0) h
theorem Blk.rowOther {w : World} {b b' : Nat} {c : Array Value} {t : TypeId} (h : Blk w b c t) (cs : Array Value) (hne : b' ≠ b) : Blk (w.setRow b' cs) b c t := by
  unfold Blk at *; rw [setRow_other w b' b cs (fun e => hne e.symm)]; exact h
theorem Below.row {B : Nat} {a w : World} (h : Below B a w) {b : Nat} (hb : B ≤ b) (cs : Array Value) : Below B a (w.setRow b cs) :=
  ⟨h.os, h.tape, h.output, by rw [setRow_size]; exact h.size, fun k hk => by rw [setRow_other w b k cs (by omega)]; exact h.block k hk⟩
/-- What a walk wants of a block that it writes: stores become one new row. -/
theorem Blk.writes {w : World} {b : Nat} {c : Array Value} {t : TypeId} (h : Blk w b c t) :
    (∀ i v, w.setCell ⟨b, i, none⟩ v = w.setRow b (c.setIfInBounds i v)) ∧ (∀ cs i v, (w.setRow b cs).setCell ⟨b, i, none⟩ v = w.setRow b (cs.setIfInBounds i v)) ∧
    (∀ cs j, (w.setRow b cs).cell? ⟨b, j, none⟩ = cs[j]?) ∧ (∀ cs j, (w.setRow b cs).frozen? ⟨b, j, none⟩ = false) :=
  ⟨fun i v => setCell_eq_setRow w b i c t (0, 0) v h, fun cs i v => by rw [setCell_eq_setRow (w.setRow b cs) b i cs t (0, 0) v (h.row cs), setRow_setRow], fun cs j => (h.row cs).cell j, fun cs j => (h.row cs).frozen j⟩
/-- And of a second block, written behind it. -/
theorem Blk.writes2 {w : World} {b b' : Nat} {c : Array Value} {t : TypeId} (h : Blk w b c t) (hne : b' ≠ b) :
    (∀ cs j, (w.setRow b' cs).cell? ⟨b, j, none⟩ = c[j]?) ∧ (∀ cs j, (w.setRow b' cs).frozen? ⟨b, j, none⟩ = false) ∧
    (∀ cs i v, (w.setRow b' cs).setCell ⟨b, i, none⟩ v = (w.setRow b' cs).setRow b (c.setIfInBounds i v)) ∧ (∀ cs es i v, ((w.setRow b' cs).setRow b es).setCell ⟨b, i, none⟩ v = (w.setRow b' cs).setRow b (es.setIfInBounds i v)) ∧
    (∀ cs es j, ((w.setRow b' cs).setRow b es).cell? ⟨b, j, none⟩ = es[j]?) ∧ (∀ cs es j, ((w.setRow b' cs).setRow b es).frozen? ⟨b, j, none⟩ = false) :=
  ⟨fun cs j => (h.rowOther cs hne).cell j, fun cs j => (h.rowOther cs hne).frozen j, fun cs => (h.rowOther cs hne).writes.1, fun cs => (h.rowOther cs hne).writes.2.1, fun cs => (h.rowOther cs hne).writes.2.2.1, fun cs => (h.rowOther cs hne).writes.2.2.2⟩
theorem hide {p : Prop} (h : p) : Hid p := h
def limb (n i : Nat) : Nat := n / 2 ^ (64 * i) % 2 ^ 64
def fe (n : Nat) : Value := .agg #[.int .u64 (limb n 0 : Nat), .int .u64 (limb n 1 : Nat), .int .u64 (limb n 2 : Nat), .int .u64 (limb n 3 : Nat)]
theorem limb0 (n : Nat) : limb n 0 = n % 18446744073709551616 := by simp [limb]
theorem limb1 (n : Nat) : limb n 1 = n / 18446744073709551616 % 18446744073709551616 := by simp [limb]
theorem limb2 (n : Nat) : limb n 2 = n / 340282366920938463463374607431768211456 % 18446744073709551616 := by simp [limb]
theorem limb3 (n : Nat) : limb n 3 = n / 6277101735386680763835789423207666416102355444464034512896 % 18446744073709551616 := by simp [limb]
theorem limb_lt (n i : Nat) : limb n i < 2 ^ 64 := Nat.mod_lt _ (Nat.two_pow_pos 64)
theorem wrap_u64' (n : Int) : IntKind.u64.wrap n = n % 18446744073709551616 := by simp [IntKind.wrap, IntKind.bits, IntKind.signed]
theorem fe_def (n : Nat) : fe n = .agg #[.int .u64 (limb n 0 : Nat), .int .u64 (limb n 1 : Nat), .int .u64 (limb n 2 : Nat), .int .u64 (limb n 3 : Nat)] := rfl
def arr (n : Nat) (f : Nat → Nat) : Array Value := ((List.range n).map fun i => Value.int .u64 (f i : Nat)).toArray
theorem arr_get (n : Nat) (f : Nat → Nat) (k : Nat) (h : k < n) : (arr n f)[k]? = some (.int .u64 (f k : Nat)) := by
  simp [arr, h]
theorem arr_size (n : Nat) (f : Nat → Nat) : (arr n f).size = n := by simp [arr]
theorem arr_set (n : Nat) (f : Nat → Nat) (k v : Nat) : (arr n f).setIfInBounds k (.int .u64 (v : Nat)) = arr n (fun j => if j = k then v else f j) := by
  apply Array.ext_getElem?
  intro i
  by_cases hi : i < n
  · rw [Array.getElem?_setIfInBounds, arr_size, arr_get n (fun j => if j = k then v else f j) i hi]
    by_cases hk : k = i
    · subst hk; simp [hi]
    · have : ¬ i = k := fun e => hk e.symm
      simp [hk, this, arr_get n f i hi]
  · rw [Array.getElem?_eq_none (by simp [arr_size]; omega), Array.getElem?_eq_none (by simp [arr_size]; omega)]
theorem arr_congr (n : Nat) (f g : Nat → Nat) (h : ∀ j, j < n → f j = g j) : arr n f = arr n g := by
  unfold arr
  congr 1
  apply List.map_congr_left
  intro j hj
  rw [h j (by simpa using hj)]
theorem arr4 (f : Nat → Nat) : arr 4 f = #[.int .u64 (f 0 : Nat), .int .u64 (f 1 : Nat), .int .u64 (f 2 : Nat), .int .u64 (f 3 : Nat)] := rfl
theorem fe_arr (n : Nat) : fe n = .agg (arr 4 (limb n)) := rfl
theorem four {k : Nat} (h : k < 4) : k = 0 ∨ k = 1 ∨ k = 2 ∨ k = 3 := by omega
def sub64Entry : Array Value → Sem Value := fun args => do
  let (x, y, b) ← Extern.MathBitsCarry.three "Sub64" args
  pure (Extern.MathBitsCarry.pair ((x + Extern.MathBitsCarry.m64 - y - b) % Extern.MathBitsCarry.m64) (if x < y + b then 1 else 0))
theorem run_sub64 {P : Program} (x y b : Nat) (hb : b ≤ 1) (w : World) :
    (sub64Entry #[.int .u64 x, .int .u64 y, .int .u64 b]).run P w =
      .ok (.tuple #[.int .u64 (((x + 18446744073709551616 - y - b) % 18446744073709551616 : Nat) : Int), .int .u64 ((if x < y + b then 1 else 0 : Nat) : Int)]) w := by
  have : b = 0 ∨ b = 1 := by omega
  rcases this with rfl | rfl <;> rfl
def bo (x y k : Nat) : Nat := if x % 2 ^ (64 * k) < y % 2 ^ (64 * k) then 1 else 0
def dif (x y : Nat) : Nat := (x + 2 ^ 256 - y) % 2 ^ 256
theorem bo_le (x y k : Nat) : bo x y k ≤ 1 := by unfold bo; split <;> omega
theorem dif_cases (x y : Nat) (hx : x < 2 ^ 256) (hy : y < 2 ^ 256) : (y ≤ x ∧ dif x y = x - y) ∨ (x < y ∧ dif x y = x + 2 ^ 256 - y) := by
  unfold dif; omega
theorem sub_step (x y k : Nat) (h : k < 4) (hx : x < 2 ^ 256) (hy : y < 2 ^ 256) : limb (dif x y) k = (limb x k + 2 ^ 64 - limb y k - bo x y k) % 2 ^ 64 ∧ bo x y (k + 1) = if limb x k < limb y k + bo x y k then 1 else 0 := by
  have hd := dif_cases x y hx hy
  generalize dif x y = d at *
  constructor
  · rcases four h with rfl | rfl | rfl | rfl <;> simp only [limb, bo, Nat.reduceMul, Nat.reducePow, Nat.mod_one, Nat.lt_irrefl, if_false, Nat.div_one] <;> (try split) <;> omega
  · clear hd
    rcases four h with rfl | rfl | rfl | rfl <;> simp only [limb, bo, Nat.reduceMul, Nat.reducePow, Nat.mod_one, Nat.lt_irrefl, if_false, Nat.div_one, Nat.reduceAdd] <;> split <;> (try split) <;> (try split) <;> omega
theorem bo0 (x y : Nat) : bo x y 0 = 0 := by simp [bo]; omega
theorem upd_next (f g : Nat → Nat) (k : Nat) (wr : World) (B : Nat) (t : TypeId) (h : Blk wr B (arr 4 (fun j => if j < k then g j else f j)) t) :
    Blk (wr.setCell ⟨B, k, none⟩ (.int .u64 (g k : Nat))) B (arr 4 (fun j => if j < k + 1 then g j else f j)) t := by
  refine (h.set k _).cast ?_
  rw [arr_set]
  apply arr_congr
  intro j _
  by_cases h1 : j = k
  · subst h1; simp
  · by_cases h2 : j < k
    · simp [h1, h2, show j < k + 1 by omega]
    · simp [h1, h2, show ¬ j < k + 1 by omega]
def vals (k : IntKind) (n : Nat) (f : Nat → Nat) : Array Value := ((List.range n).map fun i => Value.int k (f i : Nat)).toArray
theorem vals_get (kd : IntKind) (n : Nat) (f : Nat → Nat) (k : Nat) (h : k < n) : (vals kd n f)[k]? = some (.int kd (f k : Nat)) := by
  simp [vals, h]
theorem vals_size (kd : IntKind) (n : Nat) (f : Nat → Nat) : (vals kd n f).size = n := by simp [vals]
theorem vals_set (kd : IntKind) (n : Nat) (f : Nat → Nat) (k v : Nat) : (vals kd n f).setIfInBounds k (.int kd (v : Nat)) = vals kd n (fun j => if j = k then v else f j) := by
  apply Array.ext_getElem?
  intro i
  by_cases hi : i < n
  · rw [Array.getElem?_setIfInBounds, vals_size, vals_get kd n (fun j => if j = k then v else f j) i hi]
    by_cases hk : k = i
    · subst hk; simp [hi]
    · have : ¬ i = k := fun e => hk e.symm
      simp [hk, this, vals_get kd n f i hi]
  · rw [Array.getElem?_eq_none (by simp [vals_size]; omega), Array.getElem?_eq_none (by simp [vals_size]; omega)]
theorem vals_congr (kd : IntKind) (n : Nat) (f g : Nat → Nat) (h : ∀ j, j < n → f j = g j) : vals kd n f = vals kd n g := by
  unfold vals
  congr 1
  apply List.map_congr_left
  intro j hj
  rw [h j (by simpa using hj)]
theorem vals_one (kd : IntKind) (n : Nat) (f : Nat → Nat) : (vals kd n f).all (·.oneCell') = true := by
  simp [vals, Value.oneCell']
theorem vals_inj (kd : IntKind) (n : Nat) (f g : Nat → Nat) (h : vals kd n f = vals kd n g) : ∀ i, i < n → f i = g i := by
  intro i hi
  have h1 := vals_get kd n f i hi
  rw [h, vals_get kd n g i hi] at h1
  simp at h1; omega
theorem run_equal_vals {P : Program} (w : World) (d : Nat) (t e : TypeId) (n : Nat) (kd : IntKind) (ht : P.underlying t = some (.array n e)) (he : P.underlying e = some (.int kd)) (hsz : ∀ w, (sizeOf e).run P w = .ok 1 w) (f g : Nat → Nat) :
    (Op.equalIn (d + 2) t (.agg (vals kd n f)) (.agg (vals kd n g))).run P w = .ok ((List.range n).all fun i => f i == g i) w := by
  rw [List.range_eq_range', Op.equalIn]
  simp only [Sem.run_bind, run_underlying ht, Result.andThen_ok, hsz, Std.Legacy.Range.forIn_eq_forIn_range', Std.Legacy.Range.size, Nat.sub_zero, Nat.add_sub_cancel, Nat.div_one]
  have hl : ∀ i ∈ List.range' 0 n 1, i < n := fun i hi => by simpa using (List.mem_range'_1.1 hi).2
  generalize List.range' 0 n 1 = l at hl ⊢
  induction l with
  | nil => simp
  | cons i l ih =>
    have hi : i < n := hl i (by simp)
    have px : (part e (vals kd n f) (i * 1)).run P w = .ok (.int kd (f i : Nat)) w := by
      simp [part, isAgg, run_underlying he, vals_get kd n f i hi]
    have py : (part e (vals kd n g) (i * 1)).run P w = .ok (.int kd (g i : Nat)) w := by
      simp [part, isAgg, run_underlying he, vals_get kd n g i hi]
    have pe : (Op.equalIn (d + 1) e (.int kd (f i : Nat)) (.int kd (g i : Nat))).run P w = .ok (f i == g i) w := by
      rw [run_equalIn_int w d e kd kd _ _ he]
      congr 1
      rw [Bool.eq_iff_iff]
      simp
      omega
    simp only [List.forIn_cons, Sem.run_bind, px, py, pe, Result.andThen_ok, List.all_cons]
    cases hb : (f i == g i)
    · simp
    · simp only [Bool.not_true, Bool.false_eq_true, if_false, Sem.run_pure, Result.andThen_ok, Bool.true_and]
      exact ih fun j hj => hl j (by simp [hj])
theorem pw_succ (i : Nat) : 2 ^ (64 * (i + 1)) = 2 ^ (64 * i) * 2 ^ 64 := by rw [Nat.mul_add, Nat.mul_one, Nat.pow_add]
theorem pw_add (i j : Nat) : 2 ^ (64 * (i + j)) = 2 ^ (64 * i) * 2 ^ (64 * j) := by rw [Nat.mul_add, Nat.pow_add]
theorem mod_succ (n i : Nat) : n % 2 ^ (64 * (i + 1)) = n % 2 ^ (64 * i) + 2 ^ (64 * i) * limb n i := by
  rw [pw_succ, Nat.mod_mul]; rfl
theorem limb_mod (n i m : Nat) (h : i < m) : limb (n % 2 ^ (64 * m)) i = limb n i := by
  have e : 2 ^ (64 * m) = 2 ^ (64 * i) * (2 ^ 64 * 2 ^ (64 * (m - i - 1))) := by
    rw [← Nat.pow_add, ← Nat.pow_add]; congr 1; omega
  unfold limb
  rw [e, Nat.mod_mul_right_div_self, Nat.mod_mul_right_mod]
theorem limb_congr (a b i m : Nat) (h : i < m) (e : a % 2 ^ (64 * m) = b % 2 ^ (64 * m)) : limb a i = limb b i := by
  rw [← limb_mod a i m h, ← limb_mod b i m h, e]
theorem limb_zero (n i : Nat) (h : n < 2 ^ (64 * i)) : limb n i = 0 := by
  unfold limb; rw [Nat.div_eq_of_lt h]
theorem limb_top (n i : Nat) (h : n < 2 ^ (64 * (i + 1))) : limb n i = n / 2 ^ (64 * i) := by
  unfold limb; rw [Nat.mod_eq_of_lt]
  rw [pw_succ] at h
  exact Nat.div_lt_of_lt_mul h
theorem add_mod_of (a b d M : Nat) (e : a = b + M * d) : a % M = b % M := by rw [e, Nat.add_mul_mod_self_left]
theorem pos64 (i : Nat) : 0 < 2 ^ (64 * i) := Nat.two_pow_pos _
theorem fe_mod (n : Nat) : fe (n % 2 ^ 256) = fe n := by
  unfold fe
  rw [show 2 ^ 256 = 2 ^ (64 * 4) from rfl, limb_mod n 0 4 (by omega), limb_mod n 1 4 (by omega), limb_mod n 2 4 (by omega), limb_mod n 3 4 (by omega)]
def byt (n i : Nat) : Nat := n / 2 ^ (8 * i) % 256
def ba (f : Nat → Nat) : Value := .agg (vals .u8 32 f)
theorem byt_eq (x k : Nat) : limb x (k / 8) / 2 ^ (k % 8 * 8) % 256 = byt x k := by
  unfold limb byt
  have h64 : 2 ^ 64 = 2 ^ (k % 8 * 8) * (256 * 2 ^ (64 - k % 8 * 8 - 8)) := by
    rw [show 256 = 2 ^ 8 from rfl, ← Nat.pow_add, ← Nat.pow_add]; congr 1; omega
  rw [h64, Nat.mod_mul_right_div_self, Nat.mod_mul_right_mod, Nat.div_div_eq_div_mul, ← Nat.pow_add]
  congr 3; omega
theorem byt_int (x k : Nat) : ((limb x (k / 8) : Nat) : Int) / 2 ^ (k % 8 * 8) % 256 = ((byt x k : Nat) : Int) := by
  rw [← byt_eq]
  simp
theorem zero32 : (#[.int .u8 0, .int .u8 0, .int .u8 0, .int .u8 0, .int .u8 0, .int .u8 0, .int .u8 0, .int .u8 0, .int .u8 0, .int .u8 0, .int .u8 0, .int .u8 0, .int .u8 0, .int .u8 0, .int .u8 0, .int .u8 0, .int .u8 0, .int .u8 0, .int .u8 0, .int .u8 0, .int .u8 0, .int .u8 0, .int .u8 0, .int .u8 0, .int .u8 0, .int .u8 0, .int .u8 0, .int .u8 0, .int .u8 0, .int .u8 0, .int .u8 0, .int .u8 0] : Array Value) = vals .u8 32 (fun _ => 0) := rfl
/-- The number that the first k bytes are. -/
def nb (f : Nat → Nat) : Nat → Nat
  | 0 => 0
  | k + 1 => nb f k + f k * 2 ^ (8 * k)
theorem nb_lt (f : Nat → Nat) (hf : ∀ i, f i < 256) : ∀ k, nb f k < 2 ^ (8 * k)
  | 0 => by simp [nb]
  | k + 1 => by
    have ih := nb_lt f hf k
    have h1 : f k * 2 ^ (8 * k) ≤ 255 * 2 ^ (8 * k) := Nat.mul_le_mul_right _ (by have := hf k; omega)
    rw [nb, show 8 * (k + 1) = 8 * k + 8 by omega, Nat.pow_add]
    omega
theorem limb_nb (f : Nat → Nat) (hf : ∀ i, f i < 256) (k : Nat) : limb (nb f k) (k / 8) < 2 ^ (k % 8 * 8) := by
  unfold limb
  have := nb_lt f hf k
  have h : nb f k / 2 ^ (64 * (k / 8)) < 2 ^ (k % 8 * 8) := by
    apply Nat.div_lt_of_lt_mul
    rw [← Nat.pow_add, show 64 * (k / 8) + k % 8 * 8 = 8 * k by omega]; exact this
  exact Nat.lt_of_le_of_lt (Nat.mod_le _ _) h
theorem limb_nb_same (f : Nat → Nat) (hf : ∀ i, f i < 256) (k : Nat) : limb (nb f (k + 1)) (k / 8) = limb (nb f k) (k / 8) + f k * 2 ^ (k % 8 * 8) := by
  have h1 := nb_lt f hf k
  have h2 := nb_lt f hf (k + 1)
  have e1 : limb (nb f k) (k / 8) = nb f k / 2 ^ (64 * (k / 8)) := limb_top _ _ (Nat.lt_of_lt_of_le h1 (Nat.pow_le_pow_right (by omega) (by omega)))
  have e2 : limb (nb f (k + 1)) (k / 8) = nb f (k + 1) / 2 ^ (64 * (k / 8)) := limb_top _ _ (Nat.lt_of_lt_of_le h2 (Nat.pow_le_pow_right (by omega) (by omega)))
  rw [e1, e2, nb, show 8 * k = 64 * (k / 8) + k % 8 * 8 by omega, Nat.pow_add, Nat.mul_left_comm, Nat.add_mul_div_left _ _ (pos64 _)]
theorem limb_nb_other (f : Nat → Nat) (hf : ∀ i, f i < 256) (k j : Nat) (h : j ≠ k / 8) : limb (nb f (k + 1)) j = limb (nb f k) j := by
  rcases Nat.lt_or_gt_of_ne h with h | h
  · apply limb_congr _ _ j (k / 8) h
    rw [nb]
    have e : 2 ^ (8 * k) = 2 ^ (64 * (k / 8)) * 2 ^ (k % 8 * 8) := by rw [← Nat.pow_add]; congr 1; omega
    rw [e, Nat.mul_left_comm, Nat.add_mul_mod_self_left]
  · have h1 := nb_lt f hf k
    have h2 := nb_lt f hf (k + 1)
    rw [limb_zero _ _ (Nat.lt_of_lt_of_le h1 (Nat.pow_le_pow_right (by omega) (by omega))), limb_zero _ _ (Nat.lt_of_lt_of_le h2 (Nat.pow_le_pow_right (by omega) (by omega)))]
theorem or_load (f : Nat → Nat) (hf : ∀ i, f i < 256) (k : Nat) : bits .or .u64 ((limb (nb f k) (k / 8) : Nat) : Int) (IntKind.u64.wrap ((f k : Nat) * 2 ^ (k % 8 * 8))) = ((limb (nb f (k + 1)) (k / 8) : Nat) : Int) := by
  have h1 := hf k
  have h2 : f k * 2 ^ (k % 8 * 8) < 2 ^ 64 := by
    have e : 2 ^ 64 = 256 * 2 ^ (64 - k % 8 * 8 - 8) * 2 ^ (k % 8 * 8) := by
      rw [show 256 = 2 ^ 8 from rfl, ← Nat.pow_add, ← Nat.pow_add]; congr 1; omega
    rw [e]
    apply Nat.mul_lt_mul_of_pos_right _ (Nat.two_pow_pos _)
    have := Nat.two_pow_pos (64 - k % 8 * 8 - 8)
    have : 256 * 1 ≤ 256 * 2 ^ (64 - k % 8 * 8 - 8) := Nat.mul_le_mul_left _ this
    omega
  have e2 : IntKind.u64.wrap (((f k : Nat) : Int) * 2 ^ (k % 8 * 8)) = ((f k * 2 ^ (k % 8 * 8) : Nat) : Int) := by
    rw [wrap_u64', show ((f k : Nat) : Int) * 2 ^ (k % 8 * 8) = ((f k * 2 ^ (k % 8 * 8) : Nat) : Int) by simp]
    omega
  rw [e2, u64_or_nat _ _ (by have := limb_lt (nb f k) (k / 8); omega) (by omega), Nat.or_comm, nat_join (k % 8 * 8) _ _ (by simp) (limb_nb f hf k), limb_nb_same f hf k, Nat.add_comm]
theorem wrap_i64_small' (n : Int) (h0 : 0 ≤ n) (h1 : n < 1000) : IntKind.i64.wrap n = n := by
  simp [IntKind.wrap, IntKind.bits, IntKind.signed]; omega
theorem mul8 (k : Nat) : IntKind.i64.wrap ((k : Int) % 8 * 8) = (k : Int) % 8 * 8 := by
  rw [wrap_i64_small' _ (by omega) (by omega)]
theorem wrap_m1 : IntKind.u64.wrap (-1) = ((18446744073709551615 : Nat) : Int) := by rw [wrap_u64']; decide
theorem wrap_00 : IntKind.u64.wrap 0 = ((0 : Nat) : Int) := by rw [wrap_u64']; decide
theorem mask_true (x y k : Nat) : bits .xor .u64 (limb y k : Nat) (bits .and .u64 (IntKind.u64.wrap (-1)) (bits .xor .u64 (limb x k : Nat) (limb y k : Nat))) = ((limb x k : Nat) : Int) := by
  have h1 := limb_lt x k
  have h2 := limb_lt y k
  have h3 : limb x k ^^^ limb y k < 2 ^ 64 := Nat.xor_lt_two_pow h1 h2
  rw [wrap_m1, u64_xor_nat _ _ (by omega) (by omega), u64_and_nat _ _ (by omega) (by omega), Nat.and_comm, show 18446744073709551615 = 2 ^ 64 - 1 from rfl, Nat.and_two_pow_sub_one_eq_mod, Nat.mod_eq_of_lt h3, u64_xor_nat _ _ (by omega) (by omega)]
  rw [Nat.xor_comm (limb x k), ← Nat.xor_assoc, Nat.xor_self, Nat.zero_xor]
theorem mask_false (x y k : Nat) : bits .xor .u64 (limb y k : Nat) (bits .and .u64 (IntKind.u64.wrap 0) (bits .xor .u64 (limb x k : Nat) (limb y k : Nat))) = ((limb y k : Nat) : Int) := by
  have h1 := limb_lt x k
  have h2 := limb_lt y k
  have h3 : limb x k ^^^ limb y k < 2 ^ 64 := Nat.xor_lt_two_pow h1 h2
  rw [wrap_00, u64_xor_nat _ _ (by omega) (by omega), u64_and_nat _ _ (by omega) (by omega), Nat.zero_and, u64_xor_nat _ _ (by omega) (by omega), Nat.xor_zero]
def oneB (n : Nat) (i : Nat) : Nat := if i = 0 then n else 0
theorem one_lits (n : Nat) : (#[.int .u8 (n : Nat), .int .u8 0, .int .u8 0, .int .u8 0, .int .u8 0, .int .u8 0, .int .u8 0, .int .u8 0, .int .u8 0, .int .u8 0, .int .u8 0, .int .u8 0, .int .u8 0, .int .u8 0, .int .u8 0, .int .u8 0, .int .u8 0, .int .u8 0, .int .u8 0, .int .u8 0, .int .u8 0, .int .u8 0, .int .u8 0, .int .u8 0, .int .u8 0, .int .u8 0, .int .u8 0, .int .u8 0, .int .u8 0, .int .u8 0, .int .u8 0, .int .u8 0] : Array Value) = vals .u8 32 (oneB n) := rfl
theorem nb_one (n : Nat) : ∀ k, nb (oneB n) (k + 1) = n
  | 0 => by simp [nb, oneB]
  | k + 1 => by rw [nb, nb_one n k]; simp [oneB]
theorem oneB_lt (n : Nat) (hn : n < 256) (i : Nat) : oneB n i < 256 := by unfold oneB; split <;> omega
theorem nb_byt (n : Nat) : ∀ k, nb (byt n) k = n % 2 ^ (8 * k)
  | 0 => by simp [nb, Nat.mod_one]
  | k + 1 => by
    rw [nb, nb_byt n k, show 8 * (k + 1) = 8 * k + 8 by omega, Nat.pow_add, Nat.mod_mul, Nat.mul_comm (byt n k)]
    rfl
theorem byt_lt (n i : Nat) : byt n i < 256 := Nat.mod_lt _ (by omega)
theorem byt_zero (n j m : Nat) (h : n < 2 ^ (8 * m)) (hj : m ≤ j) : byt n j = 0 := by
  unfold byt
  rw [Nat.div_eq_of_lt (Nat.lt_of_lt_of_le h (Nat.pow_le_pow_right (by omega) (by omega)))]
theorem nb_congr (f g : Nat → Nat) : ∀ k, (∀ j, j < k → f j = g j) → nb f k = nb g k
  | 0, _ => rfl
  | k + 1, h => by rw [nb, nb, nb_congr f g k (fun j hj => h j (by omega)), h k (by omega)]
theorem word_int (n k : Nat) : ((n : Int) / 2 ^ (8 * k) % 256) = ((byt n k : Nat) : Int) := by
  unfold byt; simp
theorem byt_nb (f : Nat → Nat) (hf : ∀ i, f i < 256) : ∀ k i, i < k → byt (nb f k) i = f i
  | 0, i, h => by omega
  | k + 1, i, h => by
    have hl := nb_lt f hf k
    have hi := hf i
    unfold byt
    rw [nb]
    by_cases hik : i = k
    · subst hik
      rw [Nat.mul_comm, Nat.add_mul_div_left _ _ (Nat.two_pow_pos _), Nat.div_eq_of_lt hl, Nat.zero_add, Nat.mod_eq_of_lt hi]
    · have ih := byt_nb f hf k i (by omega)
      unfold byt at ih
      have e : 2 ^ (8 * k) = 2 ^ (8 * i) * (256 * 2 ^ (8 * k - 8 * i - 8)) := by
        rw [show 256 = 2 ^ 8 from rfl, ← Nat.pow_add, ← Nat.pow_add]; congr 1; omega
      rw [e, Nat.mul_left_comm, Nat.add_mul_div_left _ _ (Nat.two_pow_pos _), Nat.mul_left_comm, Nat.add_mul_mod_self_left]
      exact ih
theorem upd_vals (kd : IntKind) (n : Nat) (f g : Nat → Nat) (k : Nat) (wr : World) (B : Nat) (t : TypeId) (h : Blk wr B (vals kd n (fun j => if j < k then g j else f j)) t) :
    Blk (wr.setCell ⟨B, k, none⟩ (.int kd (g k : Nat))) B (vals kd n (fun j => if j < k + 1 then g j else f j)) t := by
  refine (h.set k _).cast ?_
  rw [vals_set]
  apply vals_congr
  intro j _
  by_cases h1 : j = k
  · subst h1; simp
  · by_cases h2 : j < k
    · simp [h1, h2, show j < k + 1 by omega]
    · simp [h1, h2, show ¬ j < k + 1 by omega]
theorem ret_bool {a b : Bool} (h : a = b) : Ending.returned (.bool a) = .returned (.bool b) := by rw [h]
theorem Blk.range {w : World} {b : Nat} {c : Array Value} {t : TypeId} (h : Blk w b c t) : w.rangeAt b 0 c.toList := fun j v hv => by
  rw [Nat.zero_add, h.cell j]; simpa using hv
/-- What a store into block g leaves. -/
structure Sto (g : Nat) (w w' : World) : Prop where
  other : ∀ b c t, g ≠ b → Blk w b c t → Blk w' b c t
  low : ∀ B a, Below B a w → B ≤ g → Below B a w'
theorem sto_row (w : World) (g : Nat) (cs : Array Value) : Sto g w (w.setRow g cs) := ⟨fun _ _ _ hne h => h.rowOther cs hne, fun _ _ h hb => Below.row h hb cs⟩
theorem wpList_store_abs {P : Program} {ops : Array Oper} {rest : List Oper} {o : Oper} {a : Act} {w : World} {Q : Exit → Act → World → Prop} (hgd : o.guard = none) (ty : TypeId) (x y : Operand) (ho : o.op = .store ty x y)
    (g : Nat) (cells : Array Value) (hx : a.eval x = .pointer (some ⟨g, 0, none⟩)) (hy : a.eval y = .agg cells)
    (t : TypeId) (old : Array Value) (hg : Blk w g old t) (hi : (P.info? ty).map (·.size) = some cells.size)
    (hold : old.size = cells.size) (h1 : cells.all (·.oneCell') = true)
    (h : ∀ w', Blk w' g cells t → Sto g w w' → wpList P ops Q rest (a.put o.dst undef) w') : wpList P ops Q (o :: rest) a w :=
  wpList_store_row hgd ty x y ho g cells hx hy t old hg hi hold h1 (h _ (hg.row cells) (sto_row w g cells))
theorem yields_blk {P : Program} {ops : Array Oper} {op : Oper} {a : Act} {w0 : World} {b : Nat} {c : Array Value} {t : TypeId} (hB : Blk w0 b c t) (hw : Region.wanted op (yielded ops a.tmps) = true) (ty : TypeId) (x : Operand) (ho : op.op = .load ty x)
    (hx : a.eval x = .pointer (some ⟨b, 0, none⟩)) (d : TypeDesc) (hu : P.underlying ty = some d) (hd : d.isRow = true) (hi : (P.info? ty).map (·.size) = some c.size) :
    YieldsIf P ops (fun w' => Below w0.heap.size w0 w') op (.agg c) a := by
  have := yieldsIf_load_mid (P := P) (ops := ops) (S := fun w' => Below w0.heap.size w0 w') hw ty x ho b 0 hx c.toList d (fun w h => (hB.call h).range) hu hd (by rw [Array.length_toList]; exact hi)
  rwa [Array.toArray_toList] at this
theorem keepLow {w0 w y y' : World} (h : Below w0.heap.size w y) (hb : Below y.heap.size y y') (he : w.heap.size = w0.heap.size := by rfl) : Below w0.heap.size w y' := h.trans (hb.mono (by rw [← he]; exact h.size))
theorem yields_S {P : Program} {ops : Array Oper} {op : Oper} {a : Act} {S : World → Prop} {b : Nat} {c : Array Value} {t : TypeId} (hB : ∀ w', S w' → Blk w' b c t) (hw : Region.wanted op (yielded ops a.tmps) = true) (ty : TypeId) (x : Operand) (ho : op.op = .load ty x)
    (hx : a.eval x = .pointer (some ⟨b, 0, none⟩)) (d : TypeDesc) (hu : P.underlying ty = some d) (hd : d.isRow = true) (hi : (P.info? ty).map (·.size) = some c.size) : YieldsIf P ops S op (.agg c) a := by
  have := yieldsIf_load_mid (P := P) (ops := ops) (S := S) hw ty x ho b 0 hx c.toList d (fun w' hS => (hB w' hS).range) hu hd (by rw [hi]; simp)
  simpa using this
theorem mul_hi (x y : Nat) (hx : x < 2 ^ 64) (hy : y < 2 ^ 64) :
    (IntKind.u64.wrap (IntKind.u64.wrap (IntKind.u64.wrap ((x : Int) / 4294967296 * ((y : Int) / 4294967296)) +
      IntKind.u64.wrap (IntKind.u64.wrap ((x : Int) / 4294967296 * bits BinOp.and IntKind.u64 (y : Int) 4294967295) + IntKind.u64.wrap (bits BinOp.and IntKind.u64 (x : Int) 4294967295 * bits BinOp.and IntKind.u64 (y : Int) 4294967295) / 4294967296) / 4294967296) +
      IntKind.u64.wrap (bits BinOp.and IntKind.u64 (IntKind.u64.wrap (IntKind.u64.wrap ((x : Int) / 4294967296 * bits BinOp.and IntKind.u64 (y : Int) 4294967295) + IntKind.u64.wrap (bits BinOp.and IntKind.u64 (x : Int) 4294967295 * bits BinOp.and IntKind.u64 (y : Int) 4294967295) / 4294967296)) 4294967295 +
        IntKind.u64.wrap (bits BinOp.and IntKind.u64 (x : Int) 4294967295 * ((y : Int) / 4294967296))) / 4294967296)) = ((x * y / 2 ^ 64 : Nat) : Int) := by
  rw [and_low32 (x : Int) (by omega) (by omega), and_low32 (y : Int) (by omega) (by omega)]
  simp only [wrap_u64']
  rw [and_low32 _ (Int.emod_nonneg _ (by omega)) (Int.emod_lt_of_pos _ (by omega))]
  rw [mul64_arith (x : Int) (y : Int) (by omega) (by omega) (by omega) (by omega)]
  rfl
theorem mul_lo (x y : Nat) : IntKind.u64.wrap ((x : Int) * (y : Int)) = ((x * y % 2 ^ 64 : Nat) : Int) := by
  rw [wrap_u64']; rfl
theorem ret_two {a b c d : Int} (h1 : a = c) (h2 : b = d) : Ending.returned (.tuple #[.int .u64 a, .int .u64 b]) = .returned (.tuple #[.int .u64 c, .int .u64 d]) := by rw [h1, h2]
theorem halves_num (x y m c : Nat) (hx : x < 2 ^ 64) (hy : y < 2 ^ 64) (hm : m < 2 ^ 64) (hc : c < 2 ^ 64) :
    x * y / 2 ^ 64 + (x * y % 2 ^ 64 + m) / 2 ^ 64 < 2 ^ 64 ∧ x * y / 2 ^ 64 + (x * y % 2 ^ 64 + m) / 2 ^ 64 + ((x * y % 2 ^ 64 + m) % 2 ^ 64 + c) / 2 ^ 64 = (x * y + m + c) / 2 ^ 64 ∧ (x * y + m + c) / 2 ^ 64 < 2 ^ 64 ∧
    ((x * y % 2 ^ 64 + m) % 2 ^ 64 + c) % 2 ^ 64 = (x * y + m + c) % 2 ^ 64 := by
  have : x * y ≤ (2 ^ 64 - 1) * (2 ^ 64 - 1) := Nat.mul_le_mul (by omega) (by omega)
  generalize x * y = z at *
  omega
end Go.Proofs.Ytkljpidlfddgbaa

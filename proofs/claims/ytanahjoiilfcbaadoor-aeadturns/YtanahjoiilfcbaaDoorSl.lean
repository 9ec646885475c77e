/- Slices of bytes as functions, parts of a text, and what one operation tells. No conditions but those that each names. -/
import Derived.Test.YtanahjoiilfcbaaDoorKa
import Derived.Laws.IdiomStrings
import Derived.Deep.OwnRows
namespace Go.Proofs.YtanahjoiilfcbaaDoor
set_option maxRecDepth 100000
open Go.RowKit Rg

/-- A slice that reads as n bytes. -/
def Rd (w : World) (A : Option Addr) (n : Nat) (f : Nat → Nat) : Prop := n = 0 ∨ ∃ a, A = some a ∧ a.block < w.heap.size ∧ ∀ i, i < n → w.cell? (a.add i) = some (.int .u8 ((f i : Nat) : Int))
theorem add_block (a : Addr) (i : Nat) : (a.add i).block = a.block := by unfold Addr.add; split <;> rfl
theorem Rd.low {w w' : World} {A : Option Addr} {n : Nat} {f : Nat → Nat} (h : Rd w A n f) (hb : Below w.heap.size w w') : Rd w' A n f := by
  rcases h with h | ⟨a, ha, hlt, hc⟩
  · exact Or.inl h
  · refine Or.inr ⟨a, ha, Nat.lt_of_lt_of_le hlt hb.size, fun i hi => ?_⟩
    rw [hb.cell (p := a.add i) (by rw [add_block]; exact hlt)]
    exact hc i hi
theorem add_add' (a : Addr) (i j : Nat) : (a.add i).add j = a.add (i + j) := by
  unfold Addr.add
  by_cases hi : i = 0
  · subst hi; simp
  · by_cases hj : j = 0
    · subst hj; simp [hi]
    · simp [hi, hj, Nat.add_assoc]
/-- What is left of a slice behind c elements. -/
def cutA (A : Option Addr) (c cap : Nat) : Option Addr := if cap = c then A else A.map (·.add c)
theorem Rd.cut {w : World} {A : Option Addr} {n : Nat} {f : Nat → Nat} (h : Rd w A n f) (c cap : Nat) (hc : n ≤ cap) : Rd w (cutA A c cap) (n - c) (fun j => f (c + j)) := by
  unfold cutA
  by_cases h0 : cap = c
  · left; omega
  · rw [if_neg h0]
    rcases h with h | ⟨a, ha, hlt, hcell⟩
    · left; omega
    · right
      subst ha
      refine ⟨a.add c, rfl, by rw [add_block]; exact hlt, fun i hi => ?_⟩
      rw [add_add']
      exact hcell _ (by omega)
theorem Rd.take {w : World} {A : Option Addr} {n : Nat} {f : Nat → Nat} (h : Rd w A n f) (m : Nat) (hm : m ≤ n) : Rd w A m f := by
  rcases h with rfl | ⟨a, rfl, hb, hc⟩
  · left; omega
  · exact Or.inr ⟨a, rfl, hb, fun i hi => hc i (by omega)⟩
theorem Rd.congr {w : World} {A : Option Addr} {n : Nat} {f g : Nat → Nat} (h : Rd w A n f) (e : ∀ i, i < n → f i = g i) : Rd w A n g := by
  rcases h with h | ⟨a, ha, hb, hc⟩
  · exact Or.inl h
  · exact Or.inr ⟨a, ha, hb, fun i hi => by rw [← e i hi]; exact hc i hi⟩
theorem rd_row {w : World} {q n o m : Nat} {t : TypeId} {f : Nat → Nat} (h : Blk w q (vals .u8 n f) t) (hm : o + m ≤ n) : Rd w (some ⟨q, o, none⟩) m (fun j => f (o + j)) := by
  refine Or.inr ⟨⟨q, o, none⟩, rfl, h.lt, fun i hi => ?_⟩
  rw [Addr.add_mid, h.cell, vals_get _ _ _ _ (by omega)]
theorem Rd.cell {w : World} {A : Option Addr} {n : Nat} {f : Nat → Nat} (h : Rd w A n f) {k : Nat} (hk : k < n) : ∃ a, A = some a ∧ ∀ w' : World, Below w.heap.size w w' → w'.cell? (a.add k) = some (.int .u8 ((f k : Nat) : Int)) := by
  rcases h with rfl | ⟨a, ha, hlt, hc⟩
  · omega
  · refine ⟨a, ha, fun w' hb => ?_⟩
    rw [hb.cell (p := a.add k) (by rw [add_block]; exact hlt)]
    exact hc k hk
theorem run_cut (A : Option Addr) (len cap c : Nat) (hc : c ≤ len) (w : World) : (Instr.slice 25 (.slice A len cap) (some (.int .i64 c)) none none).run Tryd.prog w = .ok (.slice (cutA A c cap) (len - c) (cap - c)) w := by
  rw [run_slice_l w 25 A len cap (by kernel_rfl) .i64 c (by omega) (by omega), show (sizeOf (Tryd.prog.elem 25)).run Tryd.prog w = .ok 1 w by rfl]
  simp [Result.andThen, sliced, cutA]
def ge (l : List Nat) (i : Nat) : Nat := l.getD i 0
theorem ge_lt {l : List Nat} (h : ∀ x ∈ l, x < 256) (i : Nat) : ge l i < 256 := by
  unfold ge
  rw [List.getD_eq_getElem?_getD]
  cases e : l[i]? with
  | none => simp
  | some v => exact h v (List.mem_of_getElem? e)
/-- A text in m parts, the first of which begins at o 0 and the last ends at o m. -/
structure Pts (w : World) (S : Option Addr) (m : Nat) (g o : Nat → Nat) : Prop where
  zero : o 0 = 0
  mono : ∀ i, i < m → o i ≤ o (i + 1)
  cell : m = 0 ∨ ∃ a, S = some a ∧ a.block < w.heap.size ∧ ∀ i, i < m → ∃ (A : Option Addr) (c : Nat), w.cell? (a.add i) = some (.slice A (o (i + 1) - o i) c) ∧ o (i + 1) - o i ≤ c ∧ Rd w A (o (i + 1) - o i) (fun j => g (o i + j))
theorem Pts.low {w w' : World} {S : Option Addr} {m : Nat} {g o : Nat → Nat} (h : Pts w S m g o) (hb : Below w.heap.size w w') : Pts w' S m g o := by
  refine ⟨h.zero, h.mono, ?_⟩
  rcases h.cell with h | ⟨a, ha, hlt, hc⟩
  · exact Or.inl h
  · refine Or.inr ⟨a, ha, Nat.lt_of_lt_of_le hlt hb.size, fun i hi => ?_⟩
    obtain ⟨A, c, h1, h2, h3⟩ := hc i hi
    exact ⟨A, c, by rw [hb.cell (p := a.add i) (by rw [add_block]; exact hlt)]; exact h1, h2, h3.low hb⟩
/-- Where one part ends. -/
def one (n i : Nat) : Nat := if i = 0 then 0 else n
theorem pts_one {w : World} {q n c : Nat} {t : TypeId} {A : Option Addr} {g : Nat → Nat} (hB : Blk w q #[.slice A n c] t) (hc : n ≤ c) (hr : Rd w A n g) : Pts w (some ⟨q, 0, none⟩) 1 g (one n) := by
  refine ⟨rfl, fun i hi => by unfold one; split <;> simp, Or.inr ⟨⟨q, 0, none⟩, rfl, hB.lt, fun i hi => ?_⟩⟩
  obtain rfl : i = 0 := by omega
  exact ⟨A, c, by rw [Addr.add_mid, hB.cell]; rfl, hc, hr.congr fun j _ => by rw [show one n 0 = 0 from rfl, Nat.zero_add]⟩
theorem pts_none (w : World) (S : Option Addr) (g : Nat → Nat) : Pts w S 0 g (fun _ => 0) := ⟨rfl, fun _ _ => Nat.le_refl _, Or.inl rfl⟩
theorem fit_ss {c : Array Value} (h : c.all (·.oneCell') = true) : Fit 25 c := ⟨fun h => (by cases h), h⟩
section
variable {ρ : Operand → Value} {o : Oper} {x y z : Operand}
theorem b_iaA {a : Addr} {k n c : Nat} (hk : k < n) (w : World) (ho : o.op = .indexAddr 25 x y := by rfl) (hx : ρ x = .slice (some a) n c := by kernel_rfl) (hy : ρ y = Nv .i64 k := by kernel_rfl) : (execOp ρ o).run Tryd.prog w = .ok (.value (.pointer (some (a.add k)))) w := by
  have h1 : (0 : Int) ≤ (k : Int) := by omega
  have h2 : (k : Int) < (n : Int) := by omega
  unfold execOp
  simp only [ho, hx, hy]
  go_simp
theorem b_iaP {a : Addr} {k n c : Nat} (hk : k < n) (w : World) (ho : o.op = .indexAddr 42 x y := by rfl) (hx : ρ x = .slice (some a) n c := by kernel_rfl) (hy : ρ y = Nv .i64 k := by kernel_rfl) : (execOp ρ o).run Tryd.prog w = .ok (.value (.pointer (some (a.add k)))) w := by
  have h1 : (0 : Int) ≤ (k : Int) := by omega
  have h2 : (k : Int) < (n : Int) := by omega
  unfold execOp
  simp only [ho, hx, hy]
  go_simp
theorem b_quo8 {k : Nat} (hk : k < 2 ^ 40) (w : World) (ho : o.op = .binOp .quo 3 x y 3 := by rfl) (hx : ρ x = Nv .i64 k := by kernel_rfl) (hy : ρ y = .int .i64 8 := by kernel_rfl) : (execOp ρ o).run Tryd.prog w = .ok (.value (Nv .i64 (k / 8))) w := by
  have h1 : (k : Int).tdiv 8 = ((k / 8 : Nat) : Int) := by rw [Int.tdiv_eq_ediv_of_nonneg (by omega)]; omega
  have h2 : IntKind.i64.wrap ((k : Int) / 8) = (k : Int) / 8 := by unfold IntKind.wrap; simp [IntKind.bits, IntKind.signed]; omega
  unfold execOp
  simp only [ho, hx, hy]
  go_simp
theorem b_quo256 {k : Nat} (hk : k < 2 ^ 40) (w : World) (ho : o.op = .binOp .quo 3 x y 3 := by rfl) (hx : ρ x = Nv .i64 k := by kernel_rfl) (hy : ρ y = .int .i64 256 := by kernel_rfl) : (execOp ρ o).run Tryd.prog w = .ok (.value (Nv .i64 (k / 256))) w := by
  have h1 : (k : Int).tdiv 256 = ((k / 256 : Nat) : Int) := by rw [Int.tdiv_eq_ediv_of_nonneg (by omega)]; omega
  have h2 : IntKind.i64.wrap ((k : Int) / 256) = (k : Int) / 256 := by unfold IntKind.wrap; simp [IntKind.bits, IntKind.signed]; omega
  unfold execOp
  simp only [ho, hx, hy]
  go_simp
theorem b_quo4 {k : Nat} (hk : k < 2 ^ 40) (w : World) (ho : o.op = .binOp .quo 3 x y 3 := by rfl) (hx : ρ x = Nv .i64 k := by kernel_rfl) (hy : ρ y = .int .i64 4 := by kernel_rfl) : (execOp ρ o).run Tryd.prog w = .ok (.value (Nv .i64 (k / 4))) w := by
  have h1 : (k : Int).tdiv 4 = ((k / 4 : Nat) : Int) := by rw [Int.tdiv_eq_ediv_of_nonneg (by omega)]; omega
  have h2 : IntKind.i64.wrap ((k : Int) / 4) = (k : Int) / 4 := by unfold IntKind.wrap; simp [IntKind.bits, IntKind.signed]; omega
  unfold execOp
  simp only [ho, hx, hy]
  go_simp
theorem b_rem8 {k : Nat} (w : World) (ho : o.op = .binOp .rem 3 x y 3 := by rfl) (hx : ρ x = Nv .i64 k := by kernel_rfl) (hy : ρ y = .int .i64 8 := by kernel_rfl) : (execOp ρ o).run Tryd.prog w = .ok (.value (Nv .i64 (k % 8))) w := by
  have h1 : (k : Int).tmod 8 = ((k % 8 : Nat) : Int) := by rw [Int.tmod_eq_emod_of_nonneg (by omega)]; omega
  unfold execOp
  simp only [ho, hx, hy]
  go_simp
theorem b_rem256 {k : Nat} (w : World) (ho : o.op = .binOp .rem 3 x y 3 := by rfl) (hx : ρ x = Nv .i64 k := by kernel_rfl) (hy : ρ y = .int .i64 256 := by kernel_rfl) : (execOp ρ o).run Tryd.prog w = .ok (.value (Nv .i64 (k % 256))) w := by
  have h1 : (k : Int).tmod 256 = ((k % 256 : Nat) : Int) := by rw [Int.tmod_eq_emod_of_nonneg (by omega)]; omega
  unfold execOp
  simp only [ho, hx, hy]
  go_simp
theorem b_rem4 {k : Nat} (w : World) (ho : o.op = .binOp .rem 3 x y 3 := by rfl) (hx : ρ x = Nv .i64 k := by kernel_rfl) (hy : ρ y = .int .i64 4 := by kernel_rfl) : (execOp ρ o).run Tryd.prog w = .ok (.value (Nv .i64 (k % 4))) w := by
  have h1 : (k : Int).tmod 4 = ((k % 4 : Nat) : Int) := by rw [Int.tmod_eq_emod_of_nonneg (by omega)]; omega
  unfold execOp
  simp only [ho, hx, hy]
  go_simp
theorem b_rem16 {k : Nat} (w : World) (ho : o.op = .binOp .rem 3 x y 3 := by rfl) (hx : ρ x = Nv .i64 k := by kernel_rfl) (hy : ρ y = .int .i64 16 := by kernel_rfl) : (execOp ρ o).run Tryd.prog w = .ok (.value (Nv .i64 (k % 16))) w := by
  have h1 : (k : Int).tmod 16 = ((k % 16 : Nat) : Int) := by rw [Int.tmod_eq_emod_of_nonneg (by omega)]; omega
  unfold execOp
  simp only [ho, hx, hy]
  go_simp
theorem b_rem50 {k : Nat} (w : World) (ho : o.op = .binOp .rem 3 x y 3 := by rfl) (hx : ρ x = Nv .i64 k := by kernel_rfl) (hy : ρ y = .int .i64 50 := by kernel_rfl) : (execOp ρ o).run Tryd.prog w = .ok (.value (Nv .i64 (k % 50))) w := by
  have h1 : (k : Int).tmod 50 = ((k % 50 : Nat) : Int) := by rw [Int.tmod_eq_emod_of_nonneg (by omega)]; omega
  unfold execOp
  simp only [ho, hx, hy]
  go_simp
theorem b_mulr8 {k : Nat} (hk : k < 2 ^ 40) (w : World) (ho : o.op = .binOp .mul 3 x y 3 := by rfl) (hx : ρ x = Nv .i64 k := by kernel_rfl) (hy : ρ y = .int .i64 8 := by kernel_rfl) : (execOp ρ o).run Tryd.prog w = .ok (.value (Nv .i64 (k * 8))) w := by
  have h1 : IntKind.i64.wrap ((k : Int) * 8) = (k : Int) * 8 := by unfold IntKind.wrap; simp [IntKind.bits, IntKind.signed]; omega
  unfold execOp
  simp only [ho, hx, hy]
  go_simp
theorem b_mulr64 {k : Nat} (hk : k < 2 ^ 40) (w : World) (ho : o.op = .binOp .mul 3 x y 3 := by rfl) (hx : ρ x = Nv .i64 k := by kernel_rfl) (hy : ρ y = .int .i64 64 := by kernel_rfl) : (execOp ρ o).run Tryd.prog w = .ok (.value (Nv .i64 (k * 64))) w := by
  have h1 : IntKind.i64.wrap ((k : Int) * 64) = (k : Int) * 64 := by unfold IntKind.wrap; simp [IntKind.bits, IntKind.signed]; omega
  unfold execOp
  simp only [ho, hx, hy]
  go_simp
theorem b_mul {k m : Nat} (hk : k < 2 ^ 31) (hm : m < 2 ^ 31) (w : World) (ho : o.op = .binOp .mul 3 x y 3 := by rfl) (hx : ρ x = Nv .i64 k := by kernel_rfl) (hy : ρ y = Nv .i64 m := by kernel_rfl) : (execOp ρ o).run Tryd.prog w = .ok (.value (Nv .i64 (k * m))) w := by
  have h0 : k * m < 2 ^ 31 * 2 ^ 31 := Nat.mul_lt_mul'' hk hm
  have h1 : IntKind.i64.wrap ((k : Int) * (m : Int)) = ((k * m : Nat) : Int) := by rw [← Int.natCast_mul]; unfold IntKind.wrap; simp only [IntKind.bits, IntKind.signed]; generalize k * m = q at *; simp; omega
  unfold execOp
  simp only [ho, hx, hy]
  go_simp
theorem b_add {k m : Nat} (hk : k < 2 ^ 40) (hm : m < 2 ^ 40) (w : World) (ho : o.op = .binOp .add 3 x y 3 := by rfl) (hx : ρ x = Nv .i64 k := by kernel_rfl) (hy : ρ y = Nv .i64 m := by kernel_rfl) : (execOp ρ o).run Tryd.prog w = .ok (.value (Nv .i64 (k + m))) w := by
  have h1 : IntKind.i64.wrap ((k : Int) + (m : Int)) = (k : Int) + (m : Int) := by unfold IntKind.wrap; simp [IntKind.bits, IntKind.signed]; omega
  unfold execOp
  simp only [ho, hx, hy]
  go_simp
theorem b_addE {k m d : Nat} (hk : k < 2 ^ 40) (hm : m < 2 ^ 40) (h : k + m = d) (w : World) (ho : o.op = .binOp .add 3 x y 3 := by rfl) (hx : ρ x = Nv .i64 k := by kernel_rfl) (hy : ρ y = Nv .i64 m := by kernel_rfl) : (execOp ρ o).run Tryd.prog w = .ok (.value (Nv .i64 d)) w := by
  subst h; exact b_add hk hm w ho hx hy
theorem b_sub {k m : Nat} (hk : k < 2 ^ 40) (hm : m ≤ k) (w : World) (ho : o.op = .binOp .sub 3 x y 3 := by rfl) (hx : ρ x = Nv .i64 k := by kernel_rfl) (hy : ρ y = Nv .i64 m := by kernel_rfl) : (execOp ρ o).run Tryd.prog w = .ok (.value (Nv .i64 (k - m))) w := by
  have h1 : IntKind.i64.wrap ((k : Int) - (m : Int)) = ((k - m : Nat) : Int) := by unfold IntKind.wrap; simp [IntKind.bits, IntKind.signed]; omega
  unfold execOp
  simp only [ho, hx, hy]
  go_simp
theorem b_c85 {k : Nat} (hk : k < 256) (w : World) (ho : o.op = .convert 5 38 x := by rfl) (hx : ρ x = Nv .u8 k := by kernel_rfl) : (execOp ρ o).run Tryd.prog w = .ok (.value (Nv .u64 k)) w := by
  have h1 : IntKind.u64.wrap (k : Int) = (k : Int) := by rw [wrap_u64']; omega
  unfold execOp
  simp only [ho, hx]
  go_simp
theorem b_c53 {k : Nat} (hk : k < 256) (w : World) (ho : o.op = .convert 5 3 x := by rfl) (hx : ρ x = Nv .u8 k := by kernel_rfl) : (execOp ρ o).run Tryd.prog w = .ok (.value (Nv .i64 k)) w := by
  have h1 : IntKind.i64.wrap (k : Int) = (k : Int) := by unfold IntKind.wrap; simp [IntKind.bits, IntKind.signed]; omega
  unfold execOp
  simp only [ho, hx]
  go_simp
theorem b_c35 {k : Nat} (hk : k < 256) (w : World) (ho : o.op = .convert 3 5 x := by rfl) (hx : ρ x = Nv .i64 k := by kernel_rfl) : (execOp ρ o).run Tryd.prog w = .ok (.value (Nv .u8 k)) w := by
  have h1 : IntKind.u8.wrap (k : Int) = (k : Int) := by unfold IntKind.wrap; simp [IntKind.bits, IntKind.signed]; omega
  unfold execOp
  simp only [ho, hx]
  go_simp
theorem b_c645 {k : Nat} (w : World) (ho : o.op = .convert 38 5 x := by rfl) (hx : ρ x = Nv .u64 k := by kernel_rfl) : (execOp ρ o).run Tryd.prog w = .ok (.value (Nv .u8 (k % 256))) w := by
  have h1 : IntKind.u8.wrap (k : Int) = ((k % 256 : Nat) : Int) := by unfold IntKind.wrap; simp [IntKind.bits, IntKind.signed]
  unfold execOp
  simp only [ho, hx]
  go_simp
theorem b_shl {a s : Nat} (ha : a < 256) (hs : s ≤ 56) (w : World) (ho : o.op = .binOp .shl 38 x y 3 := by rfl) (hx : ρ x = Nv .u64 a := by kernel_rfl) (hy : ρ y = Nv .i64 s := by kernel_rfl) : (execOp ρ o).run Tryd.prog w = .ok (.value (Nv .u64 (a * 2 ^ s))) w := by
  have h0 : (0 : Int) ≤ (s : Int) := by omega
  have h3 : (s : Int) < 64 := by omega
  have h4 : a * 2 ^ s < 256 * 2 ^ 56 := Nat.lt_of_lt_of_le (Nat.mul_lt_mul_of_pos_right ha (Nat.two_pow_pos s)) (Nat.mul_le_mul_left _ (Nat.pow_le_pow_right (by omega) hs))
  have h1 : IntKind.u64.wrap ((a : Int) * 2 ^ s) = ((a * 2 ^ s : Nat) : Int) := by
    rw [wrap_u64', show (a : Int) * 2 ^ s = ((a * 2 ^ s : Nat) : Int) by simp]
    generalize a * 2 ^ s = q at *
    omega
  clear h4
  unfold execOp
  simp only [ho, hx, hy]
  go_simp
theorem b_shr {a s : Nat} (hs : s < 64) (w : World) (ho : o.op = .binOp .shr 38 x y 3 := by rfl) (hx : ρ x = Nv .u64 a := by kernel_rfl) (hy : ρ y = Nv .i64 s := by kernel_rfl) : (execOp ρ o).run Tryd.prog w = .ok (.value (Nv .u64 (a / 2 ^ s))) w := by
  have h0 : (0 : Int) ≤ (s : Int) := by omega
  have h3 : (s : Int) < 64 := by omega
  have h4 : min s 64 = s := by omega
  unfold execOp
  simp only [ho, hx, hy]
  go_simp
theorem b_shr2 {a : Nat} (w : World) (ho : o.op = .binOp .shr 38 x y 65 := by rfl) (hx : ρ x = Nv .u64 a := by kernel_rfl) (hy : ρ y = .int .u64 2 := by kernel_rfl) : (execOp ρ o).run Tryd.prog w = .ok (.value (Nv .u64 (a / 4))) w := by
  unfold execOp
  simp only [ho, hx, hy]
  go_simp
theorem b_shl62 {a : Nat} (w : World) (ho : o.op = .binOp .shl 38 x y 65 := by rfl) (hx : ρ x = Nv .u64 a := by kernel_rfl) (hy : ρ y = .int .u64 62 := by kernel_rfl) : (execOp ρ o).run Tryd.prog w = .ok (.value (Nv .u64 (a % 4 * 2 ^ 62))) w := by
  have h1 : IntKind.u64.wrap ((a : Int) * 4611686018427387904) = ((a % 4 * 2 ^ 62 : Nat) : Int) := by rw [wrap_u64']; omega
  unfold execOp
  simp only [ho, hx, hy]
  go_simp
theorem b_mul64 {a c : Nat} (h : a * c < 2 ^ 64) (w : World) (ho : o.op = .binOp .mul 38 x y 38 := by rfl) (hx : ρ x = Nv .u64 a := by kernel_rfl) (hy : ρ y = Nv .u64 c := by kernel_rfl) : (execOp ρ o).run Tryd.prog w = .ok (.value (Nv .u64 (a * c))) w := by
  have h1 : IntKind.u64.wrap ((a : Int) * (c : Int)) = ((a * c : Nat) : Int) := by rw [wrap_u64', ← Int.natCast_mul]; generalize a * c = q at *; omega
  unfold execOp
  simp only [ho, hx, hy]
  go_simp
theorem b_and64 {a c d : Nat} (h : a &&& c = d) (ha : a < 2 ^ 64) (hc : c < 2 ^ 64) (w : World) (ho : o.op = .binOp .and 38 x y 38 := by rfl) (hx : ρ x = Nv .u64 a := by kernel_rfl) (hy : ρ y = Nv .u64 c := by kernel_rfl) : (execOp ρ o).run Tryd.prog w = .ok (.value (Nv .u64 d)) w := by
  have h1 := (u64_and_nat a c (by omega) (by omega)).trans (congrArg (fun n : Nat => (n : Int)) h)
  unfold execOp
  simp only [ho, hx, hy]
  go_simp
theorem b_or64 {a c d : Nat} (h : a ||| c = d) (ha : a < 2 ^ 64) (hc : c < 2 ^ 64) (w : World) (ho : o.op = .binOp .or 38 x y 38 := by rfl) (hx : ρ x = Nv .u64 a := by kernel_rfl) (hy : ρ y = Nv .u64 c := by kernel_rfl) : (execOp ρ o).run Tryd.prog w = .ok (.value (Nv .u64 d)) w := by
  have h1 := (u64_or_nat a c (by omega) (by omega)).trans (congrArg (fun n : Nat => (n : Int)) h)
  unfold execOp
  simp only [ho, hx, hy]
  go_simp
theorem an_three : ∀ (a : Nat), a < 2 ^ 64 → bits .andNot .u64 (a : Int) 3 = ((a - a % 4 : Nat) : Int) := by
  intro a ha
  have h := u64_andNot_nat a 3 (by omega) (by omega)
  have h2 := and_join (a % 4) 0 (a / 4) (2 ^ 62 - 1) 2 (Nat.mod_lt _ (by omega)) (by omega)
  rw [Nat.and_zero, Nat.and_two_pow_sub_one_eq_mod, show a % 4 + a / 4 * 2 ^ 2 = a by omega] at h2
  rw [show (3 : Int) = ((3 : Nat) : Int) from rfl, h]
  congr 1
  rw [show 18446744073709551615 - 3 = 0 + (2 ^ 62 - 1) * 2 ^ 2 from rfl, h2]
  omega
theorem b_an64 {a : Nat} (ha : a < 2 ^ 64) (w : World) (ho : o.op = .binOp .andNot 38 x y 38 := by rfl) (hx : ρ x = Nv .u64 a := by kernel_rfl) (hy : ρ y = .int .u64 3 := by kernel_rfl) : (execOp ρ o).run Tryd.prog w = .ok (.value (Nv .u64 (a - a % 4))) w := by
  have h1 := an_three a ha
  unfold execOp
  simp only [ho, hx, hy]
  go_simp
theorem b_anE {a d : Nat} (ha : a < 2 ^ 64) (h : a - a % 4 = d) (w : World) (ho : o.op = .binOp .andNot 38 x y 38 := by rfl) (hx : ρ x = Nv .u64 a := by kernel_rfl) (hy : ρ y = .int .u64 3 := by kernel_rfl) : (execOp ρ o).run Tryd.prog w = .ok (.value (Nv .u64 d)) w := by
  subst h; exact b_an64 ha w ho hx hy
theorem b_shlE {a s d : Nat} (ha : a < 256) (hs : s ≤ 56) (h : a * 2 ^ s = d) (w : World) (ho : o.op = .binOp .shl 38 x y 3 := by rfl) (hx : ρ x = Nv .u64 a := by kernel_rfl) (hy : ρ y = Nv .i64 s := by kernel_rfl) : (execOp ρ o).run Tryd.prog w = .ok (.value (Nv .u64 d)) w := by
  subst h; exact b_shl ha hs w ho hx hy
theorem b_shr2E {a d : Nat} (h : a / 4 = d) (w : World) (ho : o.op = .binOp .shr 38 x y 65 := by rfl) (hx : ρ x = Nv .u64 a := by kernel_rfl) (hy : ρ y = .int .u64 2 := by kernel_rfl) : (execOp ρ o).run Tryd.prog w = .ok (.value (Nv .u64 d)) w := by
  subst h; exact b_shr2 w ho hx hy
theorem b_shl62E {a d : Nat} (h : a % 4 * 2 ^ 62 = d) (w : World) (ho : o.op = .binOp .shl 38 x y 65 := by rfl) (hx : ρ x = Nv .u64 a := by kernel_rfl) (hy : ρ y = .int .u64 62 := by kernel_rfl) : (execOp ρ o).run Tryd.prog w = .ok (.value (Nv .u64 d)) w := by
  subst h; exact b_shl62 w ho hx hy
end
end Go.Proofs.YtanahjoiilfcbaaDoor

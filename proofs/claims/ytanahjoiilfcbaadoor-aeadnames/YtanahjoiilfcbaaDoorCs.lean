/- Slices of bytes: how they read, cut, made, told as strings. No conditions but those that each names. -/
import Derived.Test.YtanahjoiilfcbaaDoorCf
import Derived.Laws.IdiomStrings
import Derived.Deep.OwnRows
namespace Go.Proofs.YtanahjoiilfcbaaDoor.C
set_option maxRecDepth 100000
open Go.RowKit

/-- A slice that reads as bytes. -/
def Rds (w : World) (A : Option Addr) (l : List Nat) : Prop := l = [] ∨ ∃ a, A = some a ∧ a.block < w.heap.size ∧ ∀ (i : Nat) (x : Nat), l[i]? = some x → w.cell? (a.add i) = some (.int .u8 (x : Nat))
theorem Rds.low {w w' : World} {A : Option Addr} {l : List Nat} (h : Rds w A l) (hb : Below w.heap.size w w') : Rds w' A l := by
  rcases h with h | ⟨a, ha, hlt, hc⟩
  · exact Or.inl h
  · refine Or.inr ⟨a, ha, Nat.lt_of_lt_of_le hlt hb.size, fun i x hx => ?_⟩
    rw [hb.cell (p := a.add i) (by unfold Addr.add; split <;> exact hlt)]
    exact hc i x hx
theorem add_add' (a : Addr) (i j : Nat) : (a.add i).add j = a.add (i + j) := by
  unfold Addr.add
  by_cases hi : i = 0
  · subst hi; simp
  · by_cases hj : j = 0
    · subst hj; simp [hi]
    · simp [hi, hj, Nat.add_assoc]
/-- What is left of a slice behind c elements. -/
def cutA (A : Option Addr) (c cap : Nat) : Option Addr := if cap = c then A else A.map (·.add c)
theorem Rds.cut {w : World} {A : Option Addr} {l : List Nat} (h : Rds w A l) (c cap : Nat) (hc : l.length ≤ cap) : Rds w (cutA A c cap) (l.drop c) := by
  unfold cutA
  by_cases h0 : cap = c
  · left; rw [List.drop_eq_nil_of_le (by omega)]
  · rw [if_neg h0]
    rcases h with h | ⟨a, ha, hlt, hcell⟩
    · left; rw [h]; simp
    · right
      subst ha
      refine ⟨a.add c, rfl, by unfold Addr.add; split <;> exact hlt, fun i x hx => ?_⟩
      rw [add_add']
      rw [List.getElem?_drop] at hx
      exact hcell _ _ hx
theorem Rds.take {w : World} {A : Option Addr} {l : List Nat} (h : Rds w A l) (n : Nat) : Rds w A (l.take n) := by
  rcases h with rfl | ⟨a, rfl, hb, hc⟩
  · left; simp
  · right
    refine ⟨a, rfl, hb, fun i x hx => hc i x ?_⟩
    rw [List.getElem?_take] at hx
    split at hx
    · exact hx
    · cases hx
/-- A list's bytes as a string. -/
def sk (k : List Nat) : ByteArray := ⟨(k.map UInt8.ofNat).toArray⟩
theorem conv_str (w : World) (A : Option Addr) (k : List Nat) (ca : Nat) (hA : Rds w A k) (hk : ∀ x ∈ k, x < 256) : (convert 25 9 (.slice A k.length ca)).run Tryd.prog w = .ok (.string (sk k)) w := by
  have h9 : Tryd.prog.underlying 9 = some .string := by kernel_rfl
  cases A with
  | none =>
    rcases hA with rfl | ⟨a, ha, _⟩
    · rw [run_convert_bytes_nil w 25 5 Tryd.underlying25 Tryd.underlying5 _ _ 9 h9]; rfl
    · cases ha
  | some a =>
    have hc : ∀ j (hj : j < (k.map UInt8.ofNat).length), w.cell? (a.add j) = some (.int .u8 ((k.map UInt8.ofNat)[j].toNat : Int)) := by
      intro j hj
      rw [List.length_map] at hj
      rcases hA with rfl | ⟨a', ha, _, hc⟩
      · simp at hj
      · obtain rfl := Option.some.inj ha
        rw [hc j k[j] (List.getElem?_eq_getElem hj), List.getElem_map]
        have := hk k[j] (List.getElem_mem hj)
        rw [UInt8.toNat_ofNat', Nat.mod_eq_of_lt this]
    have := run_convert_bytes_back (P := Tryd.prog) w 25 9 5 a ca (k.map UInt8.ofNat) Tryd.underlying25 Tryd.underlying5 h9 hc
    rw [List.length_map] at this
    exact this
theorem conv_n (w : World) (A : Option Addr) (k : List Nat) (n ca : Nat) (hn : k.length = n) (hA : Rds w A k) (hk : ∀ x ∈ k, x < 256) : (convert 25 9 (.slice A n ca)).run Tryd.prog w = .ok (.string (sk k)) w := by
  subst hn; exact conv_str w A k ca hA hk
theorem map_inj : ∀ (k l : List Nat), (∀ x ∈ k, x < 256) → (∀ x ∈ l, x < 256) → k.map UInt8.ofNat = l.map UInt8.ofNat → k = l
  | [], [], _, _, _ => rfl
  | [], _ :: _, _, _, h => by cases h
  | _ :: _, [], _, _, h => by cases h
  | a :: k, b :: l, hk, hl, h => by
    rw [List.map_cons, List.map_cons] at h
    injection h with h1 h2
    have h3 := congrArg UInt8.toNat h1
    rw [UInt8.toNat_ofNat', UInt8.toNat_ofNat', Nat.mod_eq_of_lt (hk a (List.mem_cons_self ..)), Nat.mod_eq_of_lt (hl b (List.mem_cons_self ..))] at h3
    rw [h3, map_inj k l (fun x hx => hk x (List.mem_cons_of_mem _ hx)) (fun x hx => hl x (List.mem_cons_of_mem _ hx)) h2]
theorem sk_eq (k l : List Nat) (hk : ∀ x ∈ k, x < 256) (hl : ∀ x ∈ l, x < 256) : ((sk k).toList == (sk l).toList) = decide (k = l) := by
  rw [ByteArray.toList_eq, ByteArray.toList_eq]
  have e : ∀ t, (sk t).data.toList = t.map UInt8.ofNat := fun t => by unfold sk; simp
  rw [e, e]
  by_cases h : k = l
  · subst h; simp
  · rw [decide_eq_false h, beq_eq_false_iff_ne]
    exact fun e => h (map_inj k l hk hl e)
theorem made_vals (n : Nat) : madeCells #[.int .u8 0] n = vals .u8 n (fun _ => 0) := by
  apply Array.ext_getElem?
  intro i
  by_cases h : i < n
  · rw [vals_get _ _ _ _ h]; simp [madeCells, h, Nat.mod_one]
  · rw [Array.getElem?_eq_none (by rw [size_madeCells]; omega), Array.getElem?_eq_none (by rw [vals_size]; omega)]
theorem make_bytes (w : World) (n : Nat) (h : n ≤ 2 ^ 40) : (Instr.makeSlice 25 (.int .i64 (n : Int)) (.int .i64 (n : Int))).run Tryd.prog w = .ok (.slice (some ⟨w.heap.size, 0, none⟩) n n) (w.alloc (.cells (vals .u8 n (fun _ => 0)) 5)) := by
  rw [← made_vals]
  exact run_make_row' (P := Tryd.prog) 25 5 (.int .u8 0) 1 Tryd.underlying25 (by kernel_rfl) rfl .i64 .i64 n (by omega) (by omega) w
theorem run_cut (A : Option Addr) (len cap c : Nat) (hc : c ≤ len) (w : World) : (Instr.slice 25 (.slice A len cap) (some (.int .i64 c)) none none).run Tryd.prog w = .ok (.slice (cutA A c cap) (len - c) (cap - c)) w := by
  rw [run_slice_l w 25 A len cap (by kernel_rfl) .i64 c (by omega) (by omega), show (sizeOf (Tryd.prog.elem 25)).run Tryd.prog w = .ok 1 w by rfl]
  simp [Result.andThen, sliced, cutA]
/-- The bytes of a function, as a list. -/
def li (n : Nat) (f : Nat → Nat) : List Nat := (List.range n).map f
theorem li_len (n : Nat) (f : Nat → Nat) : (li n f).length = n := by simp [li]
theorem li_lt (n : Nat) (f : Nat → Nat) (hf : ∀ i, f i < 256) : ∀ x ∈ li n f, x < 256 := fun x hx => by
  obtain ⟨i, _, rfl⟩ := List.mem_map.1 hx; exact hf i
theorem li_congr (n : Nat) (f g : Nat → Nat) (h : ∀ i, i < n → f i = g i) : li n f = li n g := List.map_congr_left fun i hi => h i (List.mem_range.1 hi)
def ge (l : List Nat) (i : Nat) : Nat := l.getD i 0
theorem ge_lt {l : List Nat} (h : ∀ x ∈ l, x < 256) (i : Nat) : ge l i < 256 := by
  unfold ge
  rw [List.getD_eq_getElem?_getD]
  cases e : l[i]? with
  | none => simp
  | some v => exact h v (List.mem_of_getElem? e)
theorem li_ge (l : List Nat) : li l.length (ge l) = l := by
  apply List.ext_getElem?
  intro i
  by_cases h : i < l.length
  · simp [li, ge, h]
  · rw [List.getElem?_eq_none (by rw [li_len]; omega), List.getElem?_eq_none (by omega)]
theorem rds_row {w : World} {q n : Nat} {t : TypeId} {f : Nat → Nat} (h : Blk w q (vals .u8 n f) t) : Rds w (some ⟨q, 0, none⟩) (li n f) := by
  refine Or.inr ⟨⟨q, 0, none⟩, rfl, h.lt, fun i x hx => ?_⟩
  have hi : i < n := by
    have := (List.getElem?_eq_some_iff.1 hx).1
    rwa [li_len] at this
  have : x = f i := by
    simp [li, hi] at hx; exact hx.symm
  subst this
  rw [Addr.add_mid, Nat.zero_add, h.cell, vals_get _ _ _ _ hi]
theorem Rds.cell {w : World} {A : Option Addr} {l : List Nat} (h : Rds w A l) {i : Nat} (hi : i < l.length) : ∃ a, A = some a ∧ w.cell? (a.add i) = some (.int .u8 ((ge l i : Nat) : Int)) := by
  rcases h with rfl | ⟨a, ha, _, hc⟩
  · simp at hi
  · refine ⟨a, ha, ?_⟩
    have := hc i _ (List.getElem?_eq_getElem hi)
    rw [this]
    unfold ge
    rw [List.getD_eq_getElem?_getD, List.getElem?_eq_getElem hi]; rfl
section
variable {ρ : Operand → Value} {o : Oper} {x y : Operand}
theorem b_mk {n : Nat} (h : n ≤ 2 ^ 40) (w : World) (ho : o.op = .makeSlice 25 x y := by rfl) (hx : ρ x = Nv .i64 n := by kernel_rfl) (hy : ρ y = Nv .i64 n := by kernel_rfl) : (execOp ρ o).run Tryd.prog w = .ok (.value (.slice (some ⟨w.heap.size, 0, none⟩) n n)) (w.alloc (.cells (vals .u8 n (fun _ => 0)) 5)) := by
  unfold execOp
  simp only [ho, hx, hy, Sem.run_bind, make_bytes w n h, Result.andThen_ok, Sem.run_pure]
theorem b_str {A : Option Addr} {l : List Nat} {n c : Nat} (w : World) (hA : Rds w A l) (hl : ∀ x ∈ l, x < 256) (hn : l.length = n) (ho : o.op = .convert 25 9 x) (hx : ρ x = .slice A n c) : (execOp ρ o).run Tryd.prog w = .ok (.value (.string (sk l))) w := by
  unfold execOp
  simp only [ho, hx, Sem.run_bind, conv_n w A l n c hn hA hl, Result.andThen_ok, Sem.run_pure]
theorem b_rem64 {k : Nat} (w : World) (ho : o.op = .binOp .rem 3 x y 3 := by rfl) (hx : ρ x = Nv .i64 k := by kernel_rfl) (hy : ρ y = .int .i64 64 := by kernel_rfl) : (execOp ρ o).run Tryd.prog w = .ok (.value (Nv .i64 (k % 64))) w := by
  have h1 : (k : Int).tmod 64 = ((k % 64 : Nat) : Int) := by rw [Int.tmod_eq_emod_of_nonneg (by omega)]; omega
  unfold execOp
  simp only [ho, hx, hy]
  go_simp
theorem b_quo64 {k : Nat} (hk : k < 2 ^ 40) (w : World) (ho : o.op = .binOp .quo 3 x y 3 := by rfl) (hx : ρ x = Nv .i64 k := by kernel_rfl) (hy : ρ y = .int .i64 64 := by kernel_rfl) : (execOp ρ o).run Tryd.prog w = .ok (.value (Nv .i64 (k / 64))) w := by
  have h1 : (k : Int).tdiv 64 = ((k / 64 : Nat) : Int) := by rw [Int.tdiv_eq_ediv_of_nonneg (by omega)]; omega
  have h2 : IntKind.i64.wrap ((k : Int) / 64) = (k : Int) / 64 := by unfold IntKind.wrap; simp [IntKind.bits, IntKind.signed]; omega
  unfold execOp
  simp only [ho, hx, hy]
  go_simp
theorem b_c32 {k : Nat} (hk : k < 4294967296) (w : World) (ho : o.op = .convert 3 31 x := by rfl) (hx : ρ x = Nv .i64 k := by kernel_rfl) : (execOp ρ o).run Tryd.prog w = .ok (.value (Nv .u32 k)) w := by
  have h1 : IntKind.u32.wrap (k : Int) = (k : Int) := by rw [IntKind.wrap_u32']; omega
  unfold execOp
  simp only [ho, hx]
  go_simp
theorem b_ia64 {n a : Nat} (ha : a < 64) (w : World) (ho : o.op = .indexAddr 39 x y := by rfl) (hx : ρ x = D n := by kernel_rfl) (hy : ρ y = Nv .i64 a := by kernel_rfl) : (execOp ρ o).run Tryd.prog w = .ok (.value (E n a)) w := by
  have h1 : (0 : Int) ≤ (a : Int) := by omega
  have h2 : (a : Int) < 64 := by omega
  unfold execOp
  simp only [ho, hx, hy]
  go_simp
theorem b_ias {n a m c : Nat} (ha : a < m) (w : World) (ho : o.op = .indexAddr 25 x y := by rfl) (hx : ρ x = .slice (some ⟨n, 0, none⟩) m c := by kernel_rfl) (hy : ρ y = Nv .i64 a := by kernel_rfl) : (execOp ρ o).run Tryd.prog w = .ok (.value (E n a)) w := by
  have h1 : (0 : Int) ≤ (a : Int) := by omega
  have h2 : (a : Int) < (m : Int) := by omega
  unfold execOp
  simp only [ho, hx, hy]
  go_simp
theorem b_xor8 {a c : Nat} (ha : a < 256) (hc : c < 256) (w : World) (ho : o.op = .binOp .xor 5 x y 5 := by rfl) (hx : ρ x = Nv .u8 a := by kernel_rfl) (hy : ρ y = Nv .u8 c := by kernel_rfl) : (execOp ρ o).run Tryd.prog w = .ok (.value (Nv .u8 (a ^^^ c))) w := by
  have h1 := u8_xor_nat a c ha hc
  unfold execOp
  simp only [ho, hx, hy]
  go_simp
end
end Go.Proofs.YtanahjoiilfcbaaDoor.C

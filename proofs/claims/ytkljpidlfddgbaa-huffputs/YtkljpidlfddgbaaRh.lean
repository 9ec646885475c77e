/- What the reference's Least wants: cells of whole numbers, piles laid where they belong, bounds. No conditions but those that each names. -/
import Derived.Test.YtkljpidlfddgbaaRe
import Derived.Test.YtkljpidlfddgbaaRm
import Derived.Test.YtkljpidlfddgbaaHx
namespace Go.Proofs.Ytkljpidlfddgbaa
set_option maxRecDepth 100000
open Go.RowKit Rg B


open R
namespace B
section
variable {ρ : Operand → Value} {o : Oper} {x y : Operand}
theorem addI_int {a c : Int} (w : World) (ho : o.op = .binOp .add 3 x y 3 := by rfl) (hx : ρ x = .int .i64 a := by kernel_rfl) (hy : ρ y = .int .i64 c := by kernel_rfl) : (execOp ρ o).run Try.prog w = .ok (.value (.int .i64 (IntKind.i64.wrap (a + c)))) w := by
  unfold execOp
  simp only [ho, hx, hy]
  go_simp
theorem b_hiS {S : Option Addr} {len cap c : Nat} (hc : c ≤ len) (hl : len ≤ cap) (w : World) (ho : o.op = .slice 80 x none (some y) none := by rfl) (hx : ρ x = .slice S len cap := by kernel_rfl) (hy : ρ y = Nv .i64 c := by kernel_rfl) : (execOp ρ o).run Try.prog w = .ok (.value (.slice S c cap)) w := by
  have e : (Instr.slice 80 (.slice S len cap) none (some (Nv .i64 c)) none).run Try.prog w = .ok (.slice S c cap) w := by
    rw [run_slice_h w 80 S len cap (by kernel_rfl) .i64 (c : Int) (by omega) (by omega), show (sizeOf (Try.prog.elem 80)).run Try.prog w = .ok 2 w by rfl]
    cases S <;> simp [Result.andThen, sliced, Addr.add]
  have e' : (Instr.sliceAt 80 (.slice S len cap) none (some (Nv .i64 c)) none).run Try.prog w = .ok (.slice S c cap) w := by
    unfold Instr.sliceAt
    go_simp
  unfold execOp
  rw [ho]
  dsimp only [Option.map]
  rw [hx, hy, Sem.run_bind, e']
  rfl
end
/-- Cells of whole numbers. -/
def ints (n : Nat) (f : Nat → Int) : Array Value := ((List.range n).map fun i => Value.int .i64 (f i)).toArray
theorem ints_size (n : Nat) (f : Nat → Int) : (ints n f).size = n := by simp [ints]
theorem ints_get {n : Nat} (f : Nat → Int) {i : Nat} (h : i < n) : (ints n f)[i]? = some (.int .i64 (f i)) := by simp [ints, h]
theorem ints_one (n : Nat) (f : Nat → Int) : (ints n f).all (·.oneCell') = true := by
  unfold ints
  simp only [List.all_toArray, List.all_map, List.all_eq_true, List.mem_range, Function.comp]
  intro i _
  rfl
theorem fit_ints (n : Nat) (f : Nat → Int) : Fit 3 (ints n f) := ⟨(fun h => by cases h), ints_one _ _⟩
theorem ints_set (n : Nat) (f : Nat → Int) (k : Nat) (z : Int) : (ints n f).setIfInBounds k (.int .i64 z) = ints n (fun i => if i = k then z else f i) := by
  apply Array.ext_getElem?
  intro i
  rw [Array.getElem?_setIfInBounds, ints_size]
  by_cases hi : i < n
  · rw [ints_get _ hi, ints_get _ hi]
    by_cases h : k = i
    · subst h; rw [if_pos rfl, if_pos hi, if_pos rfl]
    · rw [if_neg h, if_neg (show ¬ i = k from fun e => h e.symm)]
  · have h1 : (ints n f)[i]? = none := Array.getElem?_eq_none (by rw [ints_size]; omega)
    have h2 : (ints n (fun i => if i = k then z else f i))[i]? = none := Array.getElem?_eq_none (by rw [ints_size]; omega)
    rw [h1, h2]
    split
    · rw [if_neg (by omega)]
    · rfl
theorem made_ints (n : Nat) : madeCells #[.int .i64 0] n = ints n (fun _ => 0) := by
  apply Array.ext_getElem?
  intro i
  by_cases h : i < n
  · rw [ints_get _ h]; simp [madeCells, h, Nat.mod_one]
  · rw [Array.getElem?_eq_none (by rw [size_madeCells]; omega), Array.getElem?_eq_none (by rw [ints_size]; omega)]
theorem b_mkI {ρ : Operand → Value} {o : Oper} {x y : Operand} {n : Nat} (h : n ≤ 2 ^ 40) (w : World) (ho : o.op = .makeSlice 25 x y := by rfl) (hx : ρ x = Nv .i64 n := by kernel_rfl) (hy : ρ y = Nv .i64 n := by kernel_rfl) : (execOp ρ o).run Try.prog w = .ok (.value (.slice (some ⟨w.heap.size, 0, none⟩) n n)) (w.alloc (.cells (ints n (fun _ => 0)) 3)) := by
  have e : (Instr.makeSlice 25 (.int .i64 (n : Int)) (.int .i64 (n : Int))).run Try.prog w = .ok (.slice (some ⟨w.heap.size, 0, none⟩) n n) (w.alloc (.cells (ints n (fun _ => 0)) 3)) := by
    rw [← made_ints]
    exact run_make_row' (P := Try.prog) 25 3 (.int .i64 0) 8 Try.underlying25 (by kernel_rfl) rfl .i64 .i64 n (by omega) (by omega) w
  unfold execOp
  simp only [ho, hx, hy, Sem.run_bind, e, Result.andThen_ok, Sem.run_pure]
theorem agg_si (w : World) : (isAgg 25).run Try.prog w = .ok false w := by kernel_rfl
end B
namespace H
/-- The have of each pile lies somewhere: n whole numbers. -/
def HV (w : World) (n : Nat) (l : List (Nat × Value)) : Prop := ∀ p ∈ l, ∃ h f, p.2 = .slice (some ⟨h, 0, none⟩) n n ∧ Blk w h (ints n f) 3
theorem HV.call {w w' : World} {n : Nat} {l : List (Nat × Value)} (h : HV w n l) (hb : Below w.heap.size w w') : HV w' n l := fun p hp => by
  obtain ⟨h', f, e, hB⟩ := h p hp
  exact ⟨h', f, e, hB.call hb⟩
/-- A pile cell: the variable's two cells. -/
def pcl (s : Nat) (h n : Nat) : Array Value := #[.int .u64 ((s : Nat) : Int), .slice (some ⟨h, 0, none⟩) n n]
theorem pcl_fit (s h n : Nat) : Fit 82 (pcl s h n) := ⟨(fun h => by cases h), by simp [pcl]; exact ⟨rfl, rfl⟩⟩
theorem pcl_info (s h n : Nat) : (Try.prog.info? 82).map (·.size) = some (pcl s h n).size := by kernel_rfl
def pcz : Array Value := #[.int .u64 0, .slice none 0 0]
theorem pcz_fit : Fit 82 pcz := ⟨(fun h => by cases h), by simp [pcz]; exact ⟨rfl, rfl⟩⟩
theorem pc_nil_fit : Fit 82 #[] := ⟨(fun h => by cases h), by simp⟩
theorem al_pile {ρ : Operand → Value} {o : Oper} (w : World) (ho : o.op = .alloc 82 := by rfl) : (execOp ρ o).run Try.prog w = .ok (.value (D w.heap.size)) (w.alloc (.cells pcz 82)) := by
  unfold execOp
  simp only [ho]
  kernel_rfl
theorem reg_waysW {P : Program} {c : Code} {Q : Exit → Act → World → Prop} {a : Act} {w : World} {ι : Type} (G : ι → Act) (R : World → Prop) (hc : (∀ x w', R w' → Q .normal (G x) w') → c.wp P Q a w) (h : ∀ x w', R w' → Q .normal (G x) w') : c.wp P Q a w := hc h
theorem pcl_built (s h n : Nat) : Try.prog.built 82 [(0, .int .u64 ((s : Nat) : Int)), (1, .slice (some ⟨h, 0, none⟩) n n)] = some (pcl s h n) := by kernel_rfl
theorem pcl_0 (s h n : Nat) : (pcl s h n)[0]? = some (.int .u64 ((s : Nat) : Int)) := rfl
theorem pcl_1 (s h n : Nat) : (pcl s h n)[1]? = some (.slice (some ⟨h, 0, none⟩) n n) := rfl
theorem pcl_part (s h n : Nat) : Part (pcl s h n) 0 82 (pcl s h n) := ⟨rfl, by kernel_rfl⟩
theorem pf_at0 {l : List (Nat × Value)} {i : Nat} (h : i < l.length) : pf l (i * 2) = .int .u64 ((l[i].1 : Nat) : Int) := by
  unfold pf
  rw [show i * 2 / 2 = i by omega, List.getElem?_eq_getElem h]
  show (if i * 2 % 2 = 0 then _ else _) = _
  rw [if_pos (by omega)]
theorem pf_at1 {l : List (Nat × Value)} {i : Nat} (h : i < l.length) : pf l (i * 2 + 1) = l[i].2 := by
  unfold pf
  rw [show (i * 2 + 1) / 2 = i by omega, List.getElem?_eq_getElem h]
  show (if (i * 2 + 1) % 2 = 0 then _ else _) = _
  rw [if_neg (by omega)]
theorem pf_take {l m : List (Nat × Value)} {a j : Nat} (ha : a ≤ l.length) (h : j < a * 2) : pf l j = pf (l.take a ++ m) j := by
  unfold pf
  rw [List.getElem?_append_left (by rw [List.length_take]; omega), List.getElem?_take, if_pos (by omega)]
theorem pf_drop {l : List (Nat × Value)} {p : Nat × Value} {a j : Nat} (ha : a ≤ l.length) : pf l (a * 2 + j) = pf (l.take a ++ p :: l.drop a) ((a + 1) * 2 + j) := by
  unfold pf
  have hl : (l.take a).length = a := by rw [List.length_take]; omega
  rw [List.getElem?_append_right (by rw [hl]; omega), hl, show ((a + 1) * 2 + j) / 2 - a = j / 2 + 1 by omega, List.getElem?_cons_succ, List.getElem?_drop, show a + j / 2 = (a * 2 + j) / 2 by omega, show ((a + 1) * 2 + j) % 2 = (a * 2 + j) % 2 by omega]
theorem pf_mid {l : List (Nat × Value)} {s h n a i : Nat} (ha : a ≤ l.length) (hi : i < 2) : (pcl s h n)[i]? = some (pf (l.take a ++ (s, .slice (some ⟨h, 0, none⟩) n n) :: l.drop a) (a * 2 + i)) := by
  unfold pf
  have hl : (l.take a).length = a := by rw [List.length_take]; omega
  rw [List.getElem?_append_right (by rw [hl]; omega), hl, show (a * 2 + i) / 2 - a = 0 by omega, List.getElem?_cons_zero]
  obtain rfl | rfl : i = 0 ∨ i = 1 := by omega
  · show _ = some (if (a * 2 + 0) % 2 = 0 then _ else _)
    rw [if_pos (by omega)]; rfl
  · show _ = some (if (a * 2 + 1) % 2 = 0 then _ else _)
    rw [if_neg (by omega)]; rfl
theorem rc_cutA {w : World} {S : Option Addr} {m a cap : Nat} {l : List (Nat × Value)} (h : Rc w S (m * 2) (pf l)) (hc : m ≤ cap) (ha : a ≤ m) : Rc w (cutS S a cap 2) ((m - a) * 2) (fun j => pf l (a * 2 + j)) := by
  unfold cutS
  by_cases h1 : cap = a
  · exact .inl (by omega)
  · rw [if_neg h1]
    have := h.cut (a * 2)
    rwa [show m * 2 - a * 2 = (m - a) * 2 by omega] at this
/-- One more laid where it belongs. -/
theorem ins_up {l : List (Nat × Value)} {p : Nat × Value} {a : Nat} (hl : Up (·.1) l) (ha : a ≤ l.length) (h1 : ∀ j, (hj : j < l.length) → j < a → l[j].1 ≤ p.1) (h2 : (h : a < l.length) → p.1 < l[a].1) : Up (·.1) (l.take a ++ p :: l.drop a) := by
  have hu : ∀ i j, (hi : i < l.length) → (hj : j < l.length) → i ≤ j → l[i].1 ≤ l[j].1 := fun i j hi hj hij => up_get (key := fun x : Nat × Value => x.1) hl hij hj
  refine List.pairwise_append.2 ⟨hl.sublist (List.take_sublist _ _), List.pairwise_cons.2 ⟨fun x hx => ?_, hl.sublist (List.drop_sublist _ _)⟩, fun x hx y hy => ?_⟩
  · obtain ⟨i, hi, rfl⟩ := List.getElem_of_mem hx
    rw [List.length_drop] at hi
    rw [List.getElem_drop]
    have h3 := h2 (by omega)
    have h4 := hu a (a + i) (by omega) (by omega) (by omega)
    exact Nat.le_trans (Nat.le_of_lt h3) h4
  · obtain ⟨i, hi, rfl⟩ := List.getElem_of_mem hx
    rw [List.length_take] at hi
    rw [List.getElem_take]
    have hip := h1 i (by omega) (by omega)
    rcases List.mem_cons.1 hy with rfl | hy
    · exact hip
    · obtain ⟨j, hj, rfl⟩ := List.getElem_of_mem hy
      rw [List.length_drop] at hj
      rw [List.getElem_drop]
      exact hu i (a + j) (by omega) (by omega) (by omega)
theorem ins_perm {l : List (Nat × Value)} {p : Nat × Value} {a : Nat} : (l.take a ++ p :: l.drop a).Perm (p :: l) := List.perm_middle.trans (List.Perm.cons _ (by rw [List.take_append_drop]))
/-- The have of each pile is among these rows. -/
def PHB (B : List Row) (n : Nat) (l : List (Nat × Value)) : Prop := ∀ p ∈ l, ∃ h f, p.2 = .slice (some ⟨h, 0, none⟩) n n ∧ (h, ints n f, 3) ∈ B
theorem gr_join {u w w' : World} {L R' : List Row} {e : TypeId} {s n : Nat} {zv : Value} {f : Nat → Value} {v : Value} (h : Gr u w L e s zv n f v) (h' : Own w w' R') : Gr u w' (R' ++ L) e s zv n f v := by
  rcases h with ⟨h0, hv, hO⟩ | ⟨g, d, hv, hO⟩
  · exact .inl ⟨h0, hv, (own_join hO h').perm List.perm_append_comm⟩
  · exact .inr ⟨g, d, hv, (own_join hO h').perm (List.perm_append_comm.trans (by rw [List.append_assoc]))⟩
theorem gr_rcs {u w : World} {L : List Row} {e : TypeId} {s n : Nat} {zv : Value} {f : Nat → Value} {S : Option Addr} {c : Nat} (h : Gr u w L e s zv n f (.slice S n c)) : Rc w S (n * s) f := by
  rcases h with ⟨rfl, _, _⟩ | ⟨g, d, hv, hO⟩
  · exact .inl (Nat.zero_mul s)
  · injection hv with h1 _ _
    subst h1
    exact rc_cl (hO.row L.length (at_end L _)) (Nat.mul_le_mul_right _ (Nat.le_add_right _ _))
theorem gr_cap {u w : World} {L : List Row} {e : TypeId} {s n : Nat} {zv : Value} {f : Nat → Value} {S : Option Addr} {c : Nat} (h : Gr u w L e s zv n f (.slice S n c)) : n ≤ c := by
  rcases h with ⟨rfl, _, _⟩ | ⟨g, d, hv, _⟩
  · exact Nat.zero_le _
  · injection hv with _ _ h3
    omega
theorem gr_mem {u w : World} {L : List Row} {e : TypeId} {s n : Nat} {zv : Value} {f : Nat → Value} {v : Value} (h : Gr u w L e s zv n f v) {r : Row} (hr : r ∈ L) : Blk w r.1 r.2.1 r.2.2 := by
  rcases h with ⟨_, _, hO⟩ | ⟨g, d, _, hO⟩
  · exact hO.blk r hr
  · exact hO.blk r (List.mem_append_left _ hr)
section
variable {S : List Nat}
abbrev LS (S : List Nat) (k : Nat) : List Nat := ls (fun x => x) (fun x y => x + y) S k
theorem pr_mem {M : Nat} : ∀ {l : List Nat}, (∀ x ∈ l, x < M) → ∀ x ∈ pr (fun x y => x + y) l, x < 2 * M
  | [], _, x, hx => by simp [pr] at hx
  | [_], _, x, hx => by simp [pr] at hx
  | a :: b :: r, h, x, hx => by
    rw [pr] at hx
    rcases List.mem_cons.1 hx with rfl | hx
    · have := h a List.mem_cons_self
      have := h b (List.mem_cons_of_mem _ List.mem_cons_self)
      omega
    · exact pr_mem (fun y hy => h y (List.mem_cons_of_mem _ (List.mem_cons_of_mem _ hy))) x hx
theorem LS_lt (hS : ∀ x ∈ S, x < 2 ^ 32) : ∀ k, ∀ x ∈ LS S k, x < 2 ^ (32 + k)
  | 0, x, hx => by cases hx
  | k + 1, x, hx => by
    have h1 : 2 ^ (32 + (k + 1)) = 2 * 2 ^ (32 + k) := by rw [← Nat.add_assoc, Nat.pow_succ]; omega
    have h2 : 2 ^ 32 ≤ 2 ^ (32 + (k + 1)) := Nat.pow_le_pow_right (by decide) (by omega)
    rcases List.mem_append.1 ((mg_perm S _).mem_iff.1 hx) with h | h
    · have := hS x h; omega
    · have := pr_mem (LS_lt hS k) x h; omega
theorem LS_len : ∀ k, (LS S k).length ≤ 2 * S.length
  | 0 => Nat.zero_le _
  | k + 1 => by
    have h : (ls (fun x => x) (fun x y => x + y) S k).length ≤ 2 * S.length := LS_len k
    rw [ls_length]; omega
theorem sm_take_lt {l : List Nat} {M : Nat} (h : ∀ x ∈ l, x < M) : ∀ k, sm (fun x => x) (l.take k) ≤ k * M
  | 0 => by simp [sm]
  | k + 1 => by
    by_cases hk : k < l.length
    · rw [sm_take_succ _ hk, Nat.succ_mul]
      have := sm_take_lt h k
      have := h _ (List.getElem_mem hk)
      omega
    · rw [List.take_of_length_le (by omega), ← List.take_of_length_le (show l.length ≤ k by omega), Nat.succ_mul]
      have := sm_take_lt h k
      omega
theorem LS_one : LS S 1 = S := mg_nil' S
theorem up_map {l : List (Nat × Value)} (h : Up (·.1) l) : Up (fun x => x) (l.map (·.1)) := List.pairwise_map.2 h
theorem take_next {l : List Nat} {q : Nat} (h : 2 * q + 1 < l.length) : (pr (fun x y => x + y) l).take (q + 1) = (pr (fun x y => x + y) l).take q ++ [l[2 * q] + l[2 * q + 1]] := by
  have hq : q < (pr (fun x y => x + y) l).length := by rw [pr_length]; omega
  rw [List.take_succ_eq_append_getElem hq, pr_get l q hq]
/-- What the lengths of these counts weigh at least. -/
def wLeast (S : List Nat) (L : Nat) : Nat := sm (fun x => x) ((LS S L).take (2 * S.length - 2))
end
end H
end Go.Proofs.Ytkljpidlfddgbaa

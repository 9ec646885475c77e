/- The reference of stage 13: Words. No conditions but the slice's length. -/
import Derived.Test.YtkljpidlfddgbaaRa
namespace Go.Proofs.Ytkljpidlfddgbaa
set_option maxRecDepth 100000
open Go.RowKit Rg B


namespace B
theorem fit_u32 (n : Nat) (f : Nat → Nat) : Fit 24 (vals .u32 n f) := ⟨(fun h => by cases h), vals_one _ _ _⟩
theorem made_u32 (n : Nat) : madeCells #[.int .u32 0] n = vals .u32 n (fun _ => 0) := by
  apply Array.ext_getElem?
  intro i
  by_cases h : i < n
  · rw [vals_get _ _ _ _ h]; simp [madeCells, h, Nat.mod_one]
  · rw [Array.getElem?_eq_none (by rw [size_madeCells]; omega), Array.getElem?_eq_none (by rw [vals_size]; omega)]
theorem b_mk32 {ρ : Operand → Value} {o : Oper} {x y : Operand} {n : Nat} (h : n ≤ 2 ^ 40) (w : World) (ho : o.op = .makeSlice 23 x y := by rfl) (hx : ρ x = Nv .i64 n := by kernel_rfl) (hy : ρ y = Nv .i64 n := by kernel_rfl) : (execOp ρ o).run Try.prog w = .ok (.value (.slice (some ⟨w.heap.size, 0, none⟩) n n)) (w.alloc (.cells (vals .u32 n (fun _ => 0)) 24)) := by
  have e : (Instr.makeSlice 23 (.int .i64 (n : Int)) (.int .i64 (n : Int))).run Try.prog w = .ok (.slice (some ⟨w.heap.size, 0, none⟩) n n) (w.alloc (.cells (vals .u32 n (fun _ => 0)) 24)) := by
    rw [← made_u32]
    exact run_make_row' (P := Try.prog) 23 24 (.int .u32 0) 4 Try.underlying23 (by kernel_rfl) rfl .i64 .i64 n (by omega) (by omega) w
  unfold execOp
  simp only [ho, hx, hy, Sem.run_bind, e, Result.andThen_ok, Sem.run_pure]
theorem b_isq {ty e : TypeId} {ρ : Operand → Value} {o : Oper} {x y : Operand} {q k n c : Nat} (hk : k < n) (hu : Try.prog.underlying ty = some (.slice e)) (hc : ∀ w, (sizeOf e).run Try.prog w = .ok 1 w) (w : World) (ho : o.op = .indexAddr ty x y := by rfl) (hx : ρ x = .slice (some ⟨q, 0, none⟩) n c := by kernel_rfl) (hy : ρ y = Nv .i64 k := by kernel_rfl) : (execOp ρ o).run Try.prog w = .ok (.value (E q k)) w := by
  have h := b_ixs (a := ⟨q, 0, none⟩) hk hu hc w ho hx hy
  rw [Addr.add_mid, Nat.zero_add] at h
  exact h
end B
namespace H
def zi (z : Nat → Int) (i : Nat) : Value := .int .i64 (z i)
/-- Lengths that may be, as numbers. -/
def ln (z : Nat → Int) (i : Nat) : Nat := min (z i).toNat 15
theorem ln_le (z : Nat → Int) (i : Nat) : ln z i ≤ 15 := Nat.min_le_right _ _
theorem ln_eq {z : Nat → Int} {i : Nat} (h : 0 ≤ z i ∧ z i ≤ 15) : z i = ((ln z i : Nat) : Int) := by unfold ln; omega
/-- Lengths that have words. -/
def okW (z : Nat → Int) (n : Nat) : Prop := n ≤ 1000 ∧ (∀ i, i < n → 0 ≤ z i ∧ z i ≤ 15) ∧ many (ln z) n ≠ 0 ∧ (room (ln z) n = 32768 ∨ (many (ln z) n = 1 ∧ room (ln z) n = 16384))
/-- The words, 0 of a length 0. -/
def wd (l : Nat → Nat) (n i : Nat) : Nat := if 1 ≤ l i then word l n i else 0
/-- Those that are told ahead of a length and a place. -/
def pw (l : Nat → Nat) (n m j i : Nat) : Nat := if 1 ≤ l i ∧ (l i < m ∨ (l i = m ∧ i < j)) then word l n i else 0
/-- The last word and its length, where the room ahead is told. -/
def Wst (l : Nat → Nat) (n m j wv la : Nat) : Prop := (la = 0 ∧ wv = 0 ∧ ah l n m j = 0) ∨ (1 ≤ la ∧ la ≤ m ∧ (wv + 1) * 2 ^ (15 - la) = ah l n m j)
section
variable {l : Nat → Nat} {n m j wv la : Nat}
theorem pw_first : pw l n 1 0 = fun _ => 0 := funext fun i => if_neg (by omega)
theorem pw_next : vals .u32 n (pw l n (m + 1) 0) = vals .u32 n (pw l n m n) := vals_congr _ _ _ _ fun i hi => by
  unfold pw
  by_cases h : 1 ≤ l i ∧ (l i < m + 1 ∨ (l i = m + 1 ∧ i < 0))
  · rw [if_pos h, if_pos (by omega)]
  · rw [if_neg h, if_neg (by omega)]
theorem pw_not (h : l j ≠ m) : vals .u32 n (pw l n m (j + 1)) = vals .u32 n (pw l n m j) := vals_congr _ _ _ _ fun i hi => by
  unfold pw
  by_cases h2 : 1 ≤ l i ∧ (l i < m ∨ (l i = m ∧ i < j))
  · rw [if_pos h2, if_pos (by omega)]
  · rw [if_neg h2]
    by_cases hij : i = j
    · subst hij; rw [if_neg (by omega)]
    · rw [if_neg (by omega)]
theorem pw_here (hm : 1 ≤ m) (h : l j = m) : (vals .u32 n (pw l n m j)).setIfInBounds j (.int .u32 ((word l n j : Nat) : Int)) = vals .u32 n (pw l n m (j + 1)) := by
  rw [vals_set]
  refine vals_congr _ _ _ _ fun i hi => ?_
  unfold pw
  by_cases hij : i = j
  · subst hij; rw [if_pos rfl, if_pos (by omega)]
  · rw [if_neg hij]
    by_cases h2 : 1 ≤ l i ∧ (l i < m ∨ (l i = m ∧ i < j))
    · rw [if_pos h2, if_pos (by omega)]
    · rw [if_neg h2, if_neg (by omega)]
theorem pw_last (h : ∀ i, l i ≤ 15) : vals .u32 n (pw l n 16 0) = vals .u32 n (wd l n) := vals_congr _ _ _ _ fun i hi => by
  unfold pw wd
  have := h i
  by_cases h2 : 1 ≤ l i
  · rw [if_pos h2, if_pos (by omega)]
  · rw [if_neg h2, if_neg (by omega)]
theorem Wst.first : Wst l n 1 0 0 0 := .inl ⟨rfl, rfl, ah_first⟩
theorem Wst.next (h : Wst l n m n wv la) : Wst l n (m + 1) 0 wv la := by
  unfold Wst
  rw [ah_next]
  rcases h with ⟨h1, h2, h3⟩ | ⟨h1, h2, h3⟩
  · exact .inl ⟨h1, h2, h3⟩
  · exact .inr ⟨h1, by omega, h3⟩
theorem Wst.not (h : Wst l n m j wv la) (hl : l j ≠ m) : Wst l n m (j + 1) wv la := by
  unfold Wst
  rw [ah_not hl]
  exact h
theorem Wst.here (hj : j < n) (hm : 1 ≤ m) (hl : l j = m) : Wst l n m (j + 1) (word l n j) m := by
  refine .inr ⟨hm, Nat.le_refl _, ?_⟩
  rw [ah_here hj hm hl, Nat.add_mul, Nat.one_mul]
  have := word_mul (l := l) (N := n) j
  rw [hl] at this
  rw [this]
/-- The word that is laid, of the one ahead. -/
theorem Wst.word (h : Wst l n m j wv la) (hm : m ≤ 15) (hl : l j = m) (h0 : 0 < la) : (wv + 1) * 2 ^ (m - la) = word l n j := by
  rcases h with ⟨h1, _, _⟩ | ⟨h1, h2, h3⟩
  · omega
  · have e := word_mul (l := l) (N := n) j
    rw [hl, ← h3] at e
    have e2 : (wv + 1) * 2 ^ (15 - la) = (wv + 1) * 2 ^ (m - la) * 2 ^ (15 - m) := by rw [Nat.mul_assoc, ← Nat.pow_add, show m - la + (15 - m) = 15 - la by omega]
    rw [e2] at e
    exact (Nat.eq_of_mul_eq_mul_right (Nat.two_pow_pos _) e).symm
theorem Wst.zero (h : Wst l n m j wv la) (hl : l j = m) (h0 : ¬ 0 < la) : wv = H.word l n j := by
  rcases h with ⟨h1, h2, h3⟩ | ⟨h1, _, _⟩
  · have e := word_mul (l := l) (N := n) j
    rw [hl, h3] at e
    rw [h2]
    rcases Nat.mul_eq_zero.1 e with e | e
    · exact e.symm
    · exact absurd e (Nat.ne_of_gt (Nat.two_pow_pos _))
  · omega
theorem word_le (hj : j < n) (h1 : 1 ≤ l j) (h15 : l j ≤ 15) (hr : room l n ≤ 32768) : word l n j < 32768 := by
  have h := word_lt hj h1 h15 hr
  exact Nat.lt_of_lt_of_le h (Nat.pow_le_pow_right (show 0 < 2 by decide) h15)
end
/-- What Words answers. -/
def WordsP (z : Nat → Int) (n : Nat) (w : World) (x : Value) (w' : World) : Prop := (okW z n ∧ ∃ q, x = .tuple #[.slice (some ⟨q, 0, none⟩) n n, Nv .i64 0] ∧ Own w w' [(q, vals .u32 n (wd (ln z) n), 24)]) ∨ (¬ okW z n ∧ x = .tuple #[.slice none 0 0, Nv .i64 130] ∧ Below w.heap.size w w')
set_option maxHeartbeats 8000000 in
theorem Words_c {S : Option Addr} {n c : Nat} {z : Nat → Int} (hn : n ≤ 2 ^ 30) (w : World) (hS : Rc w S n (zi z)) :
    RetP 19 #[.slice S n c] w (WordsP z n w) := by
  go_enter Try.func19, Try.ntmps19
  have hO := Own.start w
  go_upto_region 0 with (fail)
  refine wp_region_list (WL.out ?_)
  refine g_val (.slice none 0 0) ?_
  refine g_val (Nv .i64 0) ?_
  refine g_nil ?_
  simp only [Act.put, List.setIfInBounds_toArray, List.set_cons_succ, List.set_cons_zero]
  by_cases hbig : 1000 < n
  · have hno : ¬ okW z n := fun h => by have := h.1; omega
    go_upto_region 1 with (fail)
    refine wp_region_list (WL.out ?_)
    refine g_val (.slice S n c) ?_
    refine g_val (Nv .i64 n) ?_
    refine g_val (.bool true) ?_ (B.gtr_int (a := n) (c := 1000) (b := true) (decide_eq_true hbig) w)
    refine g_nil ?_
    simp only [Act.put, List.setIfInBounds_toArray, List.set_cons_succ, List.set_cons_zero]
    go_upto_region 2 with (fail)
    refine wp_region_list (WL.out ?_)
    refine g_val (.slice none 0 0) ?_
    refine g_val (Nv .i64 130) ?_
    refine g_nil ?_
    simp only [Act.put, List.setIfInBounds_toArray, List.set_cons_succ, List.set_cons_zero]
    have HF := hide hO.low
    clear hO
    go_wp2_with (fail)
    go_ret2
    exact ⟨_, rfl, Or.inr ⟨hno, rfl, HF.out⟩⟩
  go_upto_region 1 with (fail)
  refine wp_region_list (WL.out ?_)
  refine g_val (.slice S n c) ?_
  refine g_val (Nv .i64 n) ?_
  refine g_val (.bool false) ?_ (B.gtr_int (a := n) (c := 1000) (b := false) (decide_eq_false hbig) w)
  refine g_nil ?_
  simp only [Act.put, List.setIfInBounds_toArray, List.set_cons_succ, List.set_cons_zero]
  go_upto_region 3 with (fail)
  refine wp_region_list (WL.out ?_)
  refine g_val (Nv .i64 0) ?_
  refine g_nil ?_
  simp only [Act.put, List.setIfInBounds_toArray, List.set_cons_succ, List.set_cons_zero]
  have HO := hide hO
  clear hO
  go_wp2_with (fail)
  go_loopw [4] (fun x4 wr => ∃ k : Nat, k ≤ n ∧ x4 = .int .i64 (k : Int) ∧ (∀ i, i < k → 0 ≤ z i ∧ z i ≤ 15) ∧ Own w wr []) (fun x4 _ => n - (intOf x4).toNat)
  case atStart => exact ⟨0, Nat.zero_le _, rfl, (fun i hi => absurd hi (Nat.not_lt_zero i)), HO.out⟩
  case round =>
    clear HO
    obtain ⟨k, hk9, rfl, hcnd, hO⟩ := hrel
    by_cases hz : k < n
    · have hk0 : 0 ≤ k := Nat.zero_le _
      go_upto_region 4 with (fail)
      refine wp_region_list (WL.out ?_)
      refine g_val (Nv .i64 k) ?_
      refine g_val (.slice S n c) ?_
      refine g_val (Nv .i64 n) ?_
      refine g_val (.bool true) ?_ (B.lss_int (a := k) (c := n) (b := true) (decide_eq_true hz) wr)
      refine g_nil ?_
      simp only [Act.put, List.setIfInBounds_toArray, List.set_cons_succ, List.set_cons_zero]
      obtain ⟨a, rfl, hc⟩ := hS.cell hz
      by_cases hneg : z k < 0
      · have hno : ¬ okW z n := fun h => by have := (h.2.1 k hz).1; omega
        go_upto_region 6 with (fail)
        refine wp_region_list (WL.out ?_)
        refine g_val (.slice (some a) n c) ?_
        refine g_val (Nv .i64 k) ?_
        refine g_val (.pointer (some (a.add k))) ?_ (b_ixs (n := n) (c := c) hz Try.underlying25 sz_int wr)
        refine g_la (.int .i64 (z k)) (hc _ hO.low) agg_int ?_
        refine g_val (.bool true) ?_ (lssI_int (a := z k) (c := 0) (decide_eq_true hneg) wr)
        refine g_val (.bool true) ?_
        refine g_skip ?_
        refine g_skip ?_
        refine g_skip ?_
        refine g_skip ?_
        refine g_skip ?_
        refine g_val (.bool true) ?_
        refine g_nil ?_
        simp only [Act.put, List.setIfInBounds_toArray, List.set_cons_succ, List.set_cons_zero]
        go_upto_region 7 with (fail)
        refine wp_region_list (WL.out ?_)
        refine g_val (.slice none 0 0) ?_
        refine g_val (Nv .i64 130) ?_
        refine g_nil ?_
        simp only [Act.put, List.setIfInBounds_toArray, List.set_cons_succ, List.set_cons_zero]
        have HF := hide hO.low
        clear hO
        go_wp2_with (fail)
        go_ret2
        exact ⟨_, rfl, Or.inr ⟨hno, rfl, HF.out⟩⟩
      by_cases hgt : 15 < z k
      · have hno : ¬ okW z n := fun h => by have := (h.2.1 k hz).2; omega
        go_upto_region 6 with (fail)
        refine wp_region_list (WL.out ?_)
        refine g_val (.slice (some a) n c) ?_
        refine g_val (Nv .i64 k) ?_
        refine g_val (.pointer (some (a.add k))) ?_ (b_ixs (n := n) (c := c) hz Try.underlying25 sz_int wr)
        refine g_la (.int .i64 (z k)) (hc _ hO.low) agg_int ?_
        refine g_val (.bool false) ?_ (lssI_int (a := z k) (c := 0) (decide_eq_false hneg) wr)
        refine g_val (.bool false) ?_
        refine g_val (.slice (some a) n c) ?_
        refine g_val (Nv .i64 k) ?_
        refine g_val (.pointer (some (a.add k))) ?_ (b_ixs (n := n) (c := c) hz Try.underlying25 sz_int wr)
        refine g_la (.int .i64 (z k)) (hc _ hO.low) agg_int ?_
        refine g_val (.bool true) ?_ (gtrI_int (a := z k) (c := 15) (decide_eq_true hgt) wr)
        refine g_val (.bool true) ?_
        refine g_nil ?_
        simp only [Act.put, List.setIfInBounds_toArray, List.set_cons_succ, List.set_cons_zero]
        go_upto_region 7 with (fail)
        refine wp_region_list (WL.out ?_)
        refine g_val (.slice none 0 0) ?_
        refine g_val (Nv .i64 130) ?_
        refine g_nil ?_
        simp only [Act.put, List.setIfInBounds_toArray, List.set_cons_succ, List.set_cons_zero]
        have HF := hide hO.low
        clear hO
        go_wp2_with (fail)
        go_ret2
        exact ⟨_, rfl, Or.inr ⟨hno, rfl, HF.out⟩⟩
      go_upto_region 6 with (fail)
      refine wp_region_list (WL.out ?_)
      refine g_val (.slice (some a) n c) ?_
      refine g_val (Nv .i64 k) ?_
      refine g_val (.pointer (some (a.add k))) ?_ (b_ixs (n := n) (c := c) hz Try.underlying25 sz_int wr)
      refine g_la (.int .i64 (z k)) (hc _ hO.low) agg_int ?_
      refine g_val (.bool false) ?_ (lssI_int (a := z k) (c := 0) (decide_eq_false hneg) wr)
      refine g_val (.bool false) ?_
      refine g_val (.slice (some a) n c) ?_
      refine g_val (Nv .i64 k) ?_
      refine g_val (.pointer (some (a.add k))) ?_ (b_ixs (n := n) (c := c) hz Try.underlying25 sz_int wr)
      refine g_la (.int .i64 (z k)) (hc _ hO.low) agg_int ?_
      refine g_val (.bool false) ?_ (gtrI_int (a := z k) (c := 15) (decide_eq_false hgt) wr)
      refine g_val (.bool false) ?_
      refine g_nil ?_
      simp only [Act.put, List.setIfInBounds_toArray, List.set_cons_succ, List.set_cons_zero]
      have HO := hide hO
      clear hO
      go_upto_region 5 with (fail)
      refine wp_region_list (WL.out ?_)
      refine g_val (Nv .i64 k) ?_
      refine g_val (Nv .i64 (k + 1)) ?_ (B.add_int (a := k) (c := 1) (d := k + 1) rfl (by omega) wr)
      refine g_val (Nv .i64 (k + 1)) ?_
      refine g_nil ?_
      simp only [Act.put, List.setIfInBounds_toArray, List.set_cons_succ, List.set_cons_zero]
      go_wp2_with (fail)
      go_roundw
      case rel => exact ⟨k + 1, hz, rfl, (fun i hi => by rcases Nat.lt_or_eq_of_le (Nat.le_of_lt_succ hi) with h | h; exact hcnd i h; subst h; exact ⟨by omega, by omega⟩), HO.out⟩
      case measure => show n - ((k + 1 : Nat) : Int).toNat < n - ((k : Nat) : Int).toNat; omega
    · obtain rfl : k = n := by omega
      clear hk9
      go_upto_region 4 with (fail)
      refine wp_region_list (WL.out ?_)
      refine g_val (Nv .i64 k) ?_
      refine g_val (.slice S k c) ?_
      refine g_val (Nv .i64 k) ?_
      refine g_val (.bool false) ?_ (B.lss_int (a := k) (c := k) (b := false) (decide_eq_false hz) wr)
      refine g_nil ?_
      simp only [Act.put, List.setIfInBounds_toArray, List.set_cons_succ, List.set_cons_zero]
      obtain ⟨l, hl⟩ : ∃ l, l = ln z := ⟨_, rfl⟩
      have hl15 : ∀ i, l i ≤ 15 := fun i => by rw [hl]; exact ln_le z i
      have hSl : Rc w S k (ni l) := hS.congr fun i hi => by unfold zi ni; rw [hl, ln_eq (hcnd i hi)]
      have hzl : ∀ i, i < k → z i = ((l i : Nat) : Int) := fun i hi => by rw [hl]; exact ln_eq (hcnd i hi)
      go_upto_region 8 with (fail)
      refine wp_region_list (WL.out ?_)
      refine g_val (.slice S k c) ?_
      refine g_call hO 16 #[.slice S k c] (Nv .i64 (room l k)) (Room_c hl15 (by omega) wr (hSl.low hO.low)) ?_
      intro w1 hb34 hO
      refine g_val (Nv .i64 (room l k)) ?_
      refine g_nil ?_
      simp only [Act.put, List.setIfInBounds_toArray, List.set_cons_succ, List.set_cons_zero]
      go_upto_region 9 with (fail)
      refine wp_region_list (WL.out ?_)
      refine g_val (.slice S k c) ?_
      refine g_call hO 38 #[.slice S k c] (Nv .i64 (many l k)) (Some_c hl15 (by omega) w1 (hSl.low hO.low)) ?_
      intro w2 hb36 hO
      refine g_val (Nv .i64 (many l k)) ?_
      refine g_nil ?_
      simp only [Act.put, List.setIfInBounds_toArray, List.set_cons_succ, List.set_cons_zero]
      have hok : okW z k ↔ (many l k ≠ 0 ∧ (room l k = 32768 ∨ (many l k = 1 ∧ room l k = 16384))) := by
        unfold okW; rw [← hl]; exact ⟨fun h => h.2.2, fun h => ⟨by omega, hcnd, h⟩⟩
      obtain ⟨ρ, hρ⟩ : ∃ ρ, room l k = ρ := ⟨_, rfl⟩
      obtain ⟨μ, hμ⟩ : ∃ μ, many l k = μ := ⟨_, rfl⟩
      rw [hρ, hμ] at hok
      rw [hρ]
      rw [hμ]
      by_cases h0 : μ = 0
      · have hno : ¬ okW z k := fun h => (hok.1 h).1 h0
        go_upto_region 10 with (fail)
        refine wp_region_list (WL.out ?_)
        refine g_val (Nv .i64 μ) ?_
        refine g_val (.bool true) ?_ (B.eql_int (a := μ) (c := 0) (b := true) (decide_eq_true h0) w2)
        refine g_val (.bool true) ?_
        refine g_skip ?_
        refine g_skip ?_
        refine g_skip ?_
        refine g_skip ?_
        refine g_skip ?_
        refine g_skip ?_
        refine g_skip ?_
        refine g_skip ?_
        refine g_skip ?_
        refine g_skip ?_
        refine g_val (.bool true) ?_
        refine g_nil ?_
        simp only [Act.put, List.setIfInBounds_toArray, List.set_cons_succ, List.set_cons_zero]
        go_upto_region 11 with (fail)
        refine wp_region_list (WL.out ?_)
        refine g_val (.slice none 0 0) ?_
        refine g_val (Nv .i64 130) ?_
        refine g_nil ?_
        simp only [Act.put, List.setIfInBounds_toArray, List.set_cons_succ, List.set_cons_zero]
        have HF := hide hO.low
        clear hO
        go_wp2_with (fail)
        go_ret2
        exact ⟨_, rfl, Or.inr ⟨hno, rfl, HF.out⟩⟩
      by_cases h1 : ρ = 32768 ∨ (μ = 1 ∧ ρ = 16384)
      · have hyes : okW z k := hok.2 ⟨h0, h1⟩
        go_upto_region 10 with (fail)
        refine reg_ways (fun x : Value × Value × Value × Value × Value × Value × Value × Value => Fr [.slice S k c, U, u2, u3, Nv .i64 k, Nv .i64 ρ, Nv .i64 μ, U, U, U, U, U, .slice S k c, Nv .i64 k, .bool false, Nv .i64 k, .slice S k c, Nv .i64 k, .bool false, u19, u20, u21, u22, u23, u24, u25, u26, u27, u28, u29, u30, u31, u32, .slice S k c, Nv .i64 ρ, .slice S k c, Nv .i64 μ, Nv .i64 μ, .bool false, .bool false, Nv .i64 ρ, x.1, x.2.1, x.2.2.1, x.2.2.2.1, x.2.2.2.2.1, x.2.2.2.2.2.1, x.2.2.2.2.2.2.1, x.2.2.2.2.2.2.2, .bool false, .bool false, U, U, U, U, U, U, U, U, U, U, U, U, U, U, U, U, U, U, U, U, U, U, U, U, U, U, U, U, U, U, U, U, U, U]) ?_ ?_
        · intro H
          by_cases hr : ρ = 32768
          · refine wp_region_list (WL.out ?_)
            refine g_val (Nv .i64 μ) ?_
            refine g_val (.bool false) ?_ (B.eql_int (a := μ) (c := 0) (b := false) (decide_eq_false h0) w2)
            refine g_val (.bool false) ?_
            refine g_val (Nv .i64 ρ) ?_
            refine g_val (.bool false) ?_ (B.neq_int (a := ρ) (c := 32768) (b := false) (decide_eq_false (by omega)) w2)
            refine g_val (.bool false) ?_
            refine g_skip ?_
            refine g_skip ?_
            refine g_skip ?_
            refine g_skip ?_
            refine g_skip ?_
            refine g_skip ?_
            refine g_val (.bool false) ?_
            refine g_val (.bool false) ?_
            refine g_nil ?_
            simp only [Act.put, List.setIfInBounds_toArray, List.set_cons_succ, List.set_cons_zero]
            exact H (.bool false, .bool false, U, U, U, U, U, U)
          · refine wp_region_list (WL.out ?_)
            refine g_val (Nv .i64 μ) ?_
            refine g_val (.bool false) ?_ (B.eql_int (a := μ) (c := 0) (b := false) (decide_eq_false h0) w2)
            refine g_val (.bool false) ?_
            refine g_val (Nv .i64 ρ) ?_
            refine g_val (.bool true) ?_ (B.neq_int (a := ρ) (c := 32768) (b := true) (decide_eq_true hr) w2)
            refine g_val (.bool true) ?_
            refine g_val (Nv .i64 μ) ?_
            refine g_val (.bool false) ?_ (B.neq_int (a := μ) (c := 1) (b := false) (decide_eq_false (by omega)) w2)
            refine g_val (.bool false) ?_
            refine g_val (Nv .i64 ρ) ?_
            refine g_val (.bool false) ?_ (B.neq_int (a := ρ) (c := 16384) (b := false) (decide_eq_false (by omega)) w2)
            refine g_val (.bool false) ?_
            refine g_val (.bool false) ?_
            refine g_val (.bool false) ?_
            refine g_nil ?_
            simp only [Act.put, List.setIfInBounds_toArray, List.set_cons_succ, List.set_cons_zero]
            exact H (.bool true, .bool true, Nv .i64 μ, .bool false, .bool false, Nv .i64 ρ, .bool false, .bool false)
        rintro ⟨x41, x42, x43, x44, x45, x46, x47, x48⟩
        dsimp only
        have hr32 : room l k ≤ 32768 := by omega
        clear h1 h0 hok hρ hμ hS
        go_upto_region 12 with (fail)
        refine wp_region_list (WL.out ?_)
        refine g_val (.slice S k c) ?_
        refine g_val (Nv .i64 k) ?_
        refine g_new hO (fun q => .slice (some ⟨q, 0, none⟩) k k) (vals .u32 k (fun _ => 0)) 24 (fit_u32 _ _) (b_mk32 (by omega) w2) ?_
        intro n53 w3 hb53 hO
        replace hO : Own w w3 [(n53, vals .u32 k (fun _ => 0), 24)] := hO
        refine g_val (.slice (some ⟨n53, 0, none⟩) k k) ?_
        refine g_nil ?_
        simp only [Act.put, List.setIfInBounds_toArray, List.set_cons_succ, List.set_cons_zero]
        rw [← pw_first (l := l) (n := k)] at hO
        go_upto_region 13 with (fail)
        refine wp_region_list (WL.out ?_)
        refine g_val (Nv .u32 0) ?_
        refine g_nil ?_
        simp only [Act.put, List.setIfInBounds_toArray, List.set_cons_succ, List.set_cons_zero]
        go_upto_region 14 with (fail)
        refine wp_region_list (WL.out ?_)
        refine g_val (Nv .i64 0) ?_
        refine g_nil ?_
        simp only [Act.put, List.setIfInBounds_toArray, List.set_cons_succ, List.set_cons_zero]
        go_upto_region 15 with (fail)
        refine wp_region_list (WL.out ?_)
        refine g_val (Nv .i64 1) ?_
        refine g_nil ?_
        simp only [Act.put, List.setIfInBounds_toArray, List.set_cons_succ, List.set_cons_zero]
        have HO := hide hO
        clear hO
        go_wp2_with (fail)
        go_loopw [8, 9, 10] (fun x8 x9 x10 wr => ∃ (m wv la : Nat), 1 ≤ m ∧ m ≤ 16 ∧ x8 = Nv .u32 wv ∧ x9 = Nv .i64 la ∧ x10 = .int .i64 (m : Int) ∧ Wst l k m 0 wv la ∧ Own w wr [(n53, vals .u32 k (pw l k m 0), 24)]) (fun _ _ x10 _ => 16 - (intOf x10).toNat)
        case atStart => exact ⟨1, 0, 0, Nat.le_refl _, by decide, rfl, rfl, rfl, Wst.first, HO.out⟩
        case round =>
          clear HO
          obtain ⟨m, wv, la, hm1, hm16, rfl, rfl, rfl, hst, hO⟩ := hrel
          by_cases hz2 : m ≤ 15
          · have Hst := hide hst
            clear hst
            go_upto_region 16 with (fail)
            refine wp_region_list (WL.out ?_)
            refine g_val (Nv .i64 m) ?_
            refine g_val (.bool true) ?_ (B.leq_int (a := m) (c := 15) (b := true) (decide_eq_true hz2) wr)
            refine g_nil ?_
            simp only [Act.put, List.setIfInBounds_toArray, List.set_cons_succ, List.set_cons_zero]
            go_upto_region 18 with (fail)
            refine wp_region_list (WL.out ?_)
            refine g_val (Nv .i64 0) ?_
            refine g_nil ?_
            simp only [Act.put, List.setIfInBounds_toArray, List.set_cons_succ, List.set_cons_zero]
            have HO := hide hO
            clear hO
            go_wp2_with (fail)
            go_loopw [8, 9, 11] (fun x8 x9 x11 wr => ∃ (j wv la : Nat), j ≤ k ∧ x8 = Nv .u32 wv ∧ x9 = Nv .i64 la ∧ x11 = .int .i64 (j : Int) ∧ Wst l k m j wv la ∧ Own w wr [(n53, vals .u32 k (pw l k m j), 24)]) (fun _ _ x11 _ => k - (intOf x11).toNat)
            case atStart => exact ⟨0, wv, la, Nat.zero_le _, rfl, rfl, rfl, Hst.out, HO.out⟩
            case round =>
              clear HO Hst
              obtain ⟨j, wv, la, hjk, rfl, rfl, rfl, hst, hO⟩ := hrel
              have Hst := hide hst
              clear hst
              by_cases hz3 : j < k
              · obtain ⟨a, rfl, hc⟩ := hSl.cell hz3
                go_upto_region 19 with (fail)
                refine wp_region_list (WL.out ?_)
                refine g_val (Nv .i64 j) ?_
                refine g_val (.slice (some a) k c) ?_
                refine g_val (Nv .i64 k) ?_
                refine g_val (.bool true) ?_ (B.lss_int (a := j) (c := k) (b := true) (decide_eq_true hz3) wr)
                refine g_nil ?_
                simp only [Act.put, List.setIfInBounds_toArray, List.set_cons_succ, List.set_cons_zero]
                have hlj := hl15 j
                by_cases hlm : l j = m
                · have hwl := word_le (l := l) hz3 (by omega) hlj hr32
                  go_upto_region 21 with (fail)
                  refine wp_region_list (WL.out ?_)
                  refine g_val (.slice (some a) k c) ?_
                  refine g_val (Nv .i64 j) ?_
                  refine g_val (.pointer (some (a.add j))) ?_ (b_ixs (n := k) (c := c) hz3 Try.underlying25 sz_int wr)
                  refine g_la (Nv .i64 (l j)) (hc _ hO.low) agg_int ?_
                  refine g_val (Nv .i64 m) ?_
                  refine g_val (.bool false) ?_ (B.neq_int (a := l j) (c := m) (b := false) (decide_eq_false (fun h => h hlm)) wr)
                  refine g_nil ?_
                  simp only [Act.put, List.setIfInBounds_toArray, List.set_cons_succ, List.set_cons_zero]
                  have hset := pw_here (n := k) (j := j) hm1 hlm
                  have Hnew : Hid (Wst l k m (j + 1) (word l k j) m) := hide (Wst.here hz3 hm1 hlm)
                  by_cases hla : 0 < la
                  · have hwd := Hst.out.word hz2 hlm hla
                    have hlam : la ≤ m := by rcases Hst.out with h | h; omega; exact h.2.1
                    have hwv : wv + 1 ≤ word l k j := by rw [← hwd]; exact Nat.le_mul_of_pos_right _ (Nat.two_pow_pos _)
                    go_upto_region 22 with (fail)
                    refine wp_region_list (WL.out ?_)
                    refine g_val (Nv .i64 la) ?_
                    refine g_val (.bool true) ?_ (B.gtr_int (a := la) (c := 0) (b := true) (decide_eq_true hla) wr)
                    refine g_nil ?_
                    simp only [Act.put, List.setIfInBounds_toArray, List.set_cons_succ, List.set_cons_zero]
                    go_upto_region 23 with (fail)
                    refine wp_region_list (WL.out ?_)
                    refine g_val (Nv .u32 wv) ?_
                    refine g_val (Nv .u32 (wv + 1)) ?_ (B.add_u32 (a := wv) (c := 1) (d := wv + 1) rfl (by omega) wr)
                    refine g_val (Nv .i64 m) ?_
                    refine g_val (Nv .i64 la) ?_
                    refine g_val (Nv .i64 (m - la)) ?_ (B.sub_int (a := m) (c := la) (d := m - la) (by omega) (by omega) wr)
                    refine g_val (Nv .u64 (m - la)) ?_ (B.c_int_uint (a := m - la) (d := m - la) rfl (by omega) wr)
                    refine g_val (Nv .u32 (word l k j)) ?_ (B.shl_u32_uint (a := wv + 1) (s := m - la) (d := word l k j) (by rw [hwd]; exact Nat.mod_eq_of_lt (by omega)) (by omega) wr)
                    refine g_val (Nv .u32 (word l k j)) ?_
                    refine g_nil ?_
                    simp only [Act.put, List.setIfInBounds_toArray, List.set_cons_succ, List.set_cons_zero]
                    go_upto_region 24 with (fail)
                    refine wp_region_list (WL.out ?_)
                    refine g_val (.slice (some ⟨n53, 0, none⟩) k k) ?_
                    refine g_val (Nv .i64 j) ?_
                    refine g_val (Nv .u32 (word l k j)) ?_
                    refine g_val (E n53 j) ?_ (b_isq (n := k) (c := k) hz3 Try.underlying23 sz_u32 wr)
                    refine g_sc hO 0 j (Nv .u32 (word l k j)) (Nv .u32 (pw l k m j j)) rfl (vals_get _ _ _ _ hz3) (fun hc hf => st_int 24 sz_u32 rfl (by kernel_rfl) (by kernel_rfl) hc hf) (hset) (fit_u32 _ _) ?_
                    intro w4 hO
                    replace hO : Own w w4 [(n53, vals .u32 k (pw l k m (j + 1)), 24)] := hO
                    refine g_nil ?_
                    simp only [Act.put, List.setIfInBounds_toArray, List.set_cons_succ, List.set_cons_zero]
                    go_upto_region 25 with (fail)
                    refine wp_region_list (WL.out ?_)
                    refine g_val (Nv .i64 m) ?_
                    refine g_val (Nv .i64 m) ?_
                    refine g_nil ?_
                    simp only [Act.put, List.setIfInBounds_toArray, List.set_cons_succ, List.set_cons_zero]
                    have HO := hide hO
                    clear hO
                    go_upto_region 20 with (fail)
                    refine wp_region_list (WL.out ?_)
                    refine g_val (Nv .i64 j) ?_
                    refine g_val (Nv .i64 (j + 1)) ?_ (B.add_int (a := j) (c := 1) (d := j + 1) rfl (by omega) w4)
                    refine g_val (Nv .i64 (j + 1)) ?_
                    refine g_nil ?_
                    simp only [Act.put, List.setIfInBounds_toArray, List.set_cons_succ, List.set_cons_zero]
                    go_wp2_with (fail)
                    go_roundw
                    case rel => exact ⟨j + 1, _, _, hz3, rfl, rfl, rfl, Hnew.out, HO.out⟩
                    case measure => show k - ((j + 1 : Nat) : Int).toNat < k - ((j : Nat) : Int).toNat; omega
                  · have hwd := Hst.out.zero hlm hla
                    go_upto_region 22 with (fail)
                    refine wp_region_list (WL.out ?_)
                    refine g_val (Nv .i64 la) ?_
                    refine g_val (.bool false) ?_ (B.gtr_int (a := la) (c := 0) (b := false) (decide_eq_false hla) wr)
                    refine g_nil ?_
                    simp only [Act.put, List.setIfInBounds_toArray, List.set_cons_succ, List.set_cons_zero]
                    rw [hwd]
                    go_upto_region 24 with (fail)
                    refine wp_region_list (WL.out ?_)
                    refine g_val (.slice (some ⟨n53, 0, none⟩) k k) ?_
                    refine g_val (Nv .i64 j) ?_
                    refine g_val (Nv .u32 (word l k j)) ?_
                    refine g_val (E n53 j) ?_ (b_isq (n := k) (c := k) hz3 Try.underlying23 sz_u32 wr)
                    refine g_sc hO 0 j (Nv .u32 (word l k j)) (Nv .u32 (pw l k m j j)) rfl (vals_get _ _ _ _ hz3) (fun hc hf => st_int 24 sz_u32 rfl (by kernel_rfl) (by kernel_rfl) hc hf) (hset) (fit_u32 _ _) ?_
                    intro w4 hO
                    replace hO : Own w w4 [(n53, vals .u32 k (pw l k m (j + 1)), 24)] := hO
                    refine g_nil ?_
                    simp only [Act.put, List.setIfInBounds_toArray, List.set_cons_succ, List.set_cons_zero]
                    go_upto_region 25 with (fail)
                    refine wp_region_list (WL.out ?_)
                    refine g_val (Nv .i64 m) ?_
                    refine g_val (Nv .i64 m) ?_
                    refine g_nil ?_
                    simp only [Act.put, List.setIfInBounds_toArray, List.set_cons_succ, List.set_cons_zero]
                    have HO := hide hO
                    clear hO
                    go_upto_region 20 with (fail)
                    refine wp_region_list (WL.out ?_)
                    refine g_val (Nv .i64 j) ?_
                    refine g_val (Nv .i64 (j + 1)) ?_ (B.add_int (a := j) (c := 1) (d := j + 1) rfl (by omega) w4)
                    refine g_val (Nv .i64 (j + 1)) ?_
                    refine g_nil ?_
                    simp only [Act.put, List.setIfInBounds_toArray, List.set_cons_succ, List.set_cons_zero]
                    go_wp2_with (fail)
                    go_roundw
                    case rel => exact ⟨j + 1, _, _, hz3, rfl, rfl, rfl, Hnew.out, HO.out⟩
                    case measure => show k - ((j + 1 : Nat) : Int).toNat < k - ((j : Nat) : Int).toNat; omega
                · have hset := pw_not (n := k) hlm
                  go_upto_region 21 with (fail)
                  refine wp_region_list (WL.out ?_)
                  refine g_val (.slice (some a) k c) ?_
                  refine g_val (Nv .i64 j) ?_
                  refine g_val (.pointer (some (a.add j))) ?_ (b_ixs (n := k) (c := c) hz3 Try.underlying25 sz_int wr)
                  refine g_la (Nv .i64 (l j)) (hc _ hO.low) agg_int ?_
                  refine g_val (Nv .i64 m) ?_
                  refine g_val (.bool true) ?_ (B.neq_int (a := l j) (c := m) (b := true) (decide_eq_true hlm) wr)
                  refine g_nil ?_
                  simp only [Act.put, List.setIfInBounds_toArray, List.set_cons_succ, List.set_cons_zero]
                  rw [← hset] at hO
                  have HO := hide hO
                  clear hO
                  go_upto_region 20 with (fail)
                  refine wp_region_list (WL.out ?_)
                  refine g_val (Nv .i64 j) ?_
                  refine g_val (Nv .i64 (j + 1)) ?_ (B.add_int (a := j) (c := 1) (d := j + 1) rfl (by omega) wr)
                  refine g_val (Nv .i64 (j + 1)) ?_
                  refine g_nil ?_
                  simp only [Act.put, List.setIfInBounds_toArray, List.set_cons_succ, List.set_cons_zero]
                  go_wp2_with (fail)
                  go_roundw
                  case rel => exact ⟨j + 1, _, _, hz3, rfl, rfl, rfl, Hst.out.not hlm, HO.out⟩
                  case measure => show k - ((j + 1 : Nat) : Int).toNat < k - ((j : Nat) : Int).toNat; omega
              · obtain rfl : j = k := by omega
                go_upto_region 19 with (fail)
                refine wp_region_list (WL.out ?_)
                refine g_val (Nv .i64 j) ?_
                refine g_val (.slice S j c) ?_
                refine g_val (Nv .i64 j) ?_
                refine g_val (.bool false) ?_ (B.lss_int (a := j) (c := j) (b := false) (decide_eq_false hz3) wr)
                refine g_nil ?_
                simp only [Act.put, List.setIfInBounds_toArray, List.set_cons_succ, List.set_cons_zero]
                rw [← pw_next] at hO
                have HO := hide hO
                clear hO
                go_upto_region 17 with (fail)
                refine wp_region_list (WL.out ?_)
                refine g_val (Nv .i64 m) ?_
                refine g_val (Nv .i64 (m + 1)) ?_ (B.add_int (a := m) (c := 1) (d := m + 1) rfl (by omega) wr)
                refine g_val (Nv .i64 (m + 1)) ?_
                refine g_nil ?_
                simp only [Act.put, List.setIfInBounds_toArray, List.set_cons_succ, List.set_cons_zero]
                go_wp2_with (fail)
                go_roundw
                case rel => exact ⟨m + 1, _, _, by omega, by omega, rfl, rfl, rfl, Hst.out.next, HO.out⟩
                case measure => show 16 - ((m + 1 : Nat) : Int).toNat < 16 - ((m : Nat) : Int).toNat; omega
          · obtain rfl : m = 16 := by omega
            rw [pw_last hl15, hl] at hO
            go_upto_region 16 with (fail)
            refine wp_region_list (WL.out ?_)
            refine g_val (Nv .i64 16) ?_
            refine g_val (.bool false) ?_ (B.leq_int (a := 16) (c := 15) (b := false) (decide_eq_false (by decide)) wr)
            refine g_nil ?_
            simp only [Act.put, List.setIfInBounds_toArray, List.set_cons_succ, List.set_cons_zero]
            go_upto_region 26 with (fail)
            refine wp_region_list (WL.out ?_)
            refine g_val (.slice (some ⟨n53, 0, none⟩) k k) ?_
            refine g_val (.slice (some ⟨n53, 0, none⟩) k k) ?_
            refine g_val (Nv .i64 0) ?_
            refine g_nil ?_
            simp only [Act.put, List.setIfInBounds_toArray, List.set_cons_succ, List.set_cons_zero]
            have HO := hide hO
            clear hO
            go_wp2_with (fail)
            go_ret2
            exact ⟨_, rfl, Or.inl ⟨hyes, n53, rfl, HO.out⟩⟩
      have hno : ¬ okW z k := fun h => h1 (hok.1 h).2
      by_cases hm1 : μ = 1
      · have hr1 : ρ ≠ 32768 ∧ ρ ≠ 16384 := ⟨fun h => h1 (.inl h), fun h => h1 (.inr ⟨hm1, h⟩)⟩
        go_upto_region 10 with (fail)
        refine wp_region_list (WL.out ?_)
        refine g_val (Nv .i64 μ) ?_
        refine g_val (.bool false) ?_ (B.eql_int (a := μ) (c := 0) (b := false) (decide_eq_false h0) w2)
        refine g_val (.bool false) ?_
        refine g_val (Nv .i64 ρ) ?_
        refine g_val (.bool true) ?_ (B.neq_int (a := ρ) (c := 32768) (b := true) (decide_eq_true hr1.1) w2)
        refine g_val (.bool true) ?_
        refine g_val (Nv .i64 μ) ?_
        refine g_val (.bool false) ?_ (B.neq_int (a := μ) (c := 1) (b := false) (decide_eq_false (fun h => h hm1)) w2)
        refine g_val (.bool false) ?_
        refine g_val (Nv .i64 ρ) ?_
        refine g_val (.bool true) ?_ (B.neq_int (a := ρ) (c := 16384) (b := true) (decide_eq_true hr1.2) w2)
        refine g_val (.bool true) ?_
        refine g_val (.bool true) ?_
        refine g_val (.bool true) ?_
        refine g_nil ?_
        simp only [Act.put, List.setIfInBounds_toArray, List.set_cons_succ, List.set_cons_zero]
        go_upto_region 11 with (fail)
        refine wp_region_list (WL.out ?_)
        refine g_val (.slice none 0 0) ?_
        refine g_val (Nv .i64 130) ?_
        refine g_nil ?_
        simp only [Act.put, List.setIfInBounds_toArray, List.set_cons_succ, List.set_cons_zero]
        have HF := hide hO.low
        clear hO
        go_wp2_with (fail)
        go_ret2
        exact ⟨_, rfl, Or.inr ⟨hno, rfl, HF.out⟩⟩
      · have hr1 : ρ ≠ 32768 := fun h => h1 (.inl h)
        go_upto_region 10 with (fail)
        refine wp_region_list (WL.out ?_)
        refine g_val (Nv .i64 μ) ?_
        refine g_val (.bool false) ?_ (B.eql_int (a := μ) (c := 0) (b := false) (decide_eq_false h0) w2)
        refine g_val (.bool false) ?_
        refine g_val (Nv .i64 ρ) ?_
        refine g_val (.bool true) ?_ (B.neq_int (a := ρ) (c := 32768) (b := true) (decide_eq_true hr1) w2)
        refine g_val (.bool true) ?_
        refine g_val (Nv .i64 μ) ?_
        refine g_val (.bool true) ?_ (B.neq_int (a := μ) (c := 1) (b := true) (decide_eq_true hm1) w2)
        refine g_val (.bool true) ?_
        refine g_skip ?_
        refine g_skip ?_
        refine g_val (.bool true) ?_
        refine g_val (.bool true) ?_
        refine g_val (.bool true) ?_
        refine g_nil ?_
        simp only [Act.put, List.setIfInBounds_toArray, List.set_cons_succ, List.set_cons_zero]
        go_upto_region 11 with (fail)
        refine wp_region_list (WL.out ?_)
        refine g_val (.slice none 0 0) ?_
        refine g_val (Nv .i64 130) ?_
        refine g_nil ?_
        simp only [Act.put, List.setIfInBounds_toArray, List.set_cons_succ, List.set_cons_zero]
        have HF := hide hO.low
        clear hO
        go_wp2_with (fail)
        go_ret2
        exact ⟨_, rfl, Or.inr ⟨hno, rfl, HF.out⟩⟩
end H
end Go.Proofs.Ytkljpidlfddgbaa

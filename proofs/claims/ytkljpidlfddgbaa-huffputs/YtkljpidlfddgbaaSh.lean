/- fit: whether lengths have words. The symbols in the order of their words, and what is laid of them. At most 2^30 lengths; no other condition. -/
import Derived.Test.YtkljpidlfddgbaaSg
import Derived.Test.YtkljpidlfddgbaaRb
namespace Go.Proofs.Ytkljpidlfddgbaa
set_option maxRecDepth 100000
open Go.RowKit Rg B

namespace B
theorem shr_ii {ρ : Operand → Value} {o : Oper} {x y : Operand} {a s d : Nat} (h : a / 2 ^ s = d) (ha : a < 9223372036854775808) (hs : s < 64) (w : World) (ho : o.op = .binOp .shr 3 x y 3 := by rfl) (hx : ρ x = Nv .i64 a := by kernel_rfl) (hy : ρ y = Nv .i64 s := by kernel_rfl) : (execOp ρ o).run Try.prog w = .ok (.value (Nv .i64 d)) w := by
  have h0 : (0 : Int) ≤ (s : Int) := by omega
  have h3 : (s : Int) < 64 := by omega
  have h4 : min s 64 = s := by omega
  have h5 : (a : Int) / 2 ^ s = (d : Int) := by rw [← h]; simp
  have hd : d < 9223372036854775808 := by rw [← h]; exact Nat.lt_of_le_of_lt (Nat.div_le_self _ _) ha
  have h1 : IntKind.i64.wrap ((a : Int) / 2 ^ s) = (d : Int) := by rw [show (a : Int) / 2 ^ s = ((a / 2 ^ s : Nat) : Int) by simp, h]; exact w_i64 _ hd
  clear h
  unfold execOp
  simp only [ho, hx, hy]
  go_simp
end B
namespace Q
open H
theorem rsg_len (l : Nat → Nat) (n : Nat) : (rsg l n).length = many l n := by
  rw [(rsg_perm l n).length_eq]
  induction n with
  | zero => rfl
  | succ n ih =>
    rw [pz]
    by_cases h : l n = 0
    · rw [if_pos h, ih]
      exact many_no (l := l) (k := n) (by omega)
    · rw [if_neg h, List.length_cons, ih]
      exact many_yes (l := l) (k := n) (by omega)
theorem rsg_lex (l : Nat → Nat) (n : Nat) : (rsg l n).Pairwise (Lx l) := srt_lex (upl_up l n)
theorem rsg_mem {l : Nat → Nat} {n x : Nat} (h : x ∈ rsg l n) : x < n ∧ 1 ≤ l x := by
  have := pz_mem ((rsg_perm l n).mem_iff.1 h)
  exact ⟨this.1, by omega⟩
theorem rsg_has {l : Nat → Nat} {n x : Nat} (h : x < n) (h1 : 1 ≤ l x) : x ∈ rsg l n := (rsg_perm l n).mem_iff.2 (pz_all h (by omega))
/-- The j-th of the symbols in the order of their words. -/
def og (l : Nat → Nat) (n j : Nat) : Nat := ky (fun x => x) (rsg l n) j
section
variable {l : Nat → Nat} {n i j : Nat}
theorem og_get (h : j < many l n) : og l n j = (rsg l n)[j]'(by rw [rsg_len]; exact h) := ky_at _ _
theorem og_mem (h : j < many l n) : og l n j < n ∧ 1 ≤ l (og l n j) := by
  rw [og_get h]; exact rsg_mem (List.getElem_mem _)
theorem og_lt (h : i < j) (hj : j < many l n) : Lx l (og l n i) (og l n j) := by
  rw [og_get hj, og_get (by omega)]
  exact List.pairwise_iff_getElem.1 (rsg_lex l n) i j (by rw [rsg_len]; omega) (by rw [rsg_len]; exact hj) h
theorem og_all {x : Nat} (h : x < n) (h1 : 1 ≤ l x) : ∃ j, j < many l n ∧ og l n j = x := by
  obtain ⟨j, hj, e⟩ := List.getElem_of_mem (rsg_has h h1)
  rw [rsg_len] at hj
  exact ⟨j, hj, by rw [og_get hj]; exact e⟩
theorem og_le (h : i ≤ j) (hj : j < many l n) : l (og l n i) ≤ l (og l n j) := by
  rcases Nat.lt_or_eq_of_le h with h | h
  · have := og_lt h hj; unfold Lx at this; omega
  · rw [h]; exact Nat.le_refl _
theorem og_one (hi : i < many l n) (hj : j < many l n) (h : og l n i = og l n j) : i = j := by
  rcases Nat.lt_trichotomy i j with h' | h' | h'
  · have := og_lt h' hj; rw [h] at this; unfold Lx at this; omega
  · exact h'
  · have := og_lt h' hi; rw [h] at this; unfold Lx at this; omega
theorem og_first (_ : 0 < many l n) : word l n (og l n 0) = 0 := by
  unfold word
  have : ah l n (l (og l n 0)) (og l n 0) = H.sg n (fun _ => 0) := sg_congr fun k hk => by
    refine if_neg ?_
    rintro ⟨h1, h2⟩
    obtain ⟨j, hj, rfl⟩ := og_all hk h1
    rcases Nat.eq_zero_or_pos j with h0 | h0
    · subst h0; omega
    · have := og_lt h0 hj; unfold Lx at this; omega
  rw [this, sg_const, Nat.mul_zero, Nat.zero_div]
theorem og_next (h15 : ∀ i, l i ≤ 15) (h : j + 1 < many l n) : (word l n (og l n j) + 1) * 2 ^ (l (og l n (j + 1)) - l (og l n j)) = word l n (og l n (j + 1)) := by
  have e1 := word_mul (l := l) (N := n) (og l n j)
  have e2 := word_mul (l := l) (N := n) (og l n (j + 1))
  have hm := og_mem (l := l) (n := n) (j := j) (by omega)
  have hl := og_lt (show j < j + 1 by omega) h
  have e3 : ah l n (l (og l n (j + 1))) (og l n (j + 1)) = ah l n (l (og l n j)) (og l n j) + 2 ^ (15 - l (og l n j)) := by
    refine sg_step (i := og l n j) hm.1 (fun k hk hne => ?_) ?_
    · by_cases h1 : 1 ≤ l k
      · obtain ⟨i, hi, rfl⟩ := og_all hk h1
        have hne' : i ≠ j := fun e => hne (by rw [e])
        rcases Nat.lt_or_ge i j with h' | h'
        · have a1 := og_lt h' (by omega : j < many l n)
          have a2 := og_lt (show i < j + 1 by omega) h
          unfold Lx at a1 a2
          rw [if_pos (by omega), if_pos (by omega)]
        · have hji : j + 1 ≤ i := by omega
          have a1 := og_lt (show j < i by omega) hi
          rcases Nat.lt_or_eq_of_le hji with h'' | h''
          · have a2 := og_lt h'' hi
            unfold Lx at a1 a2
            rw [if_neg (by omega), if_neg (by omega)]
          · subst h''
            unfold Lx at a1
            rw [if_neg (by omega), if_neg (by omega)]
      · rw [if_neg (by omega), if_neg (by omega)]
    · unfold Lx at hl
      rw [if_pos (by omega), if_neg (by omega), Nat.zero_add]
  have hle := og_le (show j ≤ j + 1 by omega) h
  have h15' := h15 (og l n (j + 1))
  rw [e3, ← e1, ← Nat.succ_mul] at e2
  have hp : 2 ^ (15 - l (og l n j)) = 2 ^ (l (og l n (j + 1)) - l (og l n j)) * 2 ^ (15 - l (og l n (j + 1))) := by rw [← Nat.pow_add]; congr 1; omega
  rw [hp, ← Nat.mul_assoc] at e2
  exact (Nat.eq_of_mul_eq_mul_right (Nat.two_pow_pos _) e2).symm
/-- What is laid of the first m symbols in the order of their words. -/
def pl (l : Nat → Nat) (n m i : Nat) : Nat := if i ∈ (rsg l n).take m then word l n i else 0
theorem pl_take {m x : Nat} (hx : x ∈ (rsg l n).take m) : ∃ j, j < m ∧ j < many l n ∧ og l n j = x := by
  obtain ⟨j, hj, e⟩ := List.getElem_of_mem hx
  rw [List.length_take, rsg_len] at hj
  refine ⟨j, by omega, by omega, ?_⟩
  rw [og_get (by omega), ← e, List.getElem_take]
theorem pl_has {m : Nat} (h : j < m) (hj : j < many l n) : og l n j ∈ (rsg l n).take m := by
  rw [og_get hj, ← List.getElem_take (xs := rsg l n) (j := m) (h := by rw [List.length_take, rsg_len]; omega)]
  exact List.getElem_mem _
theorem pl_first (h : 0 < many l n) : pl l n 1 = fun _ => 0 := funext fun i => by
  unfold pl
  split
  · rename_i hx
    obtain ⟨j, h1, h2, rfl⟩ := pl_take hx
    obtain rfl : j = 0 := by omega
    exact og_first h
  · rfl
theorem pl_at {m : Nat} (h : j < m) (hj : j < many l n) : pl l n m (og l n j) = word l n (og l n j) := if_pos (pl_has h hj)
theorem pl_set {m : Nat} (hm : m < many l n) : (vals .u32 n (pl l n m)).setIfInBounds (og l n m) (.int .u32 ((word l n (og l n m) : Nat) : Int)) = vals .u32 n (pl l n (m + 1)) := by
  rw [vals_set]
  refine vals_congr _ _ _ _ fun i hi => ?_
  unfold pl
  by_cases hij : i = og l n m
  · subst hij; rw [if_pos rfl, if_pos (pl_has (Nat.lt_succ_self m) hm)]
  · rw [if_neg hij]
    by_cases h2 : i ∈ (rsg l n).take m
    · rw [if_pos h2]
      obtain ⟨j, h1, h3, rfl⟩ := pl_take h2
      rw [if_pos (pl_has (by omega) h3)]
    · rw [if_neg h2, if_neg]
      intro h3
      obtain ⟨j, h1, h4, rfl⟩ := pl_take h3
      by_cases hjm : j = m
      · exact hij (by rw [hjm])
      · exact h2 (pl_has (by omega) h4)
theorem pl_last : vals .u32 n (pl l n (many l n)) = vals .u32 n (wd l n) := vals_congr _ _ _ _ fun i hi => by
  unfold pl wd
  by_cases h : 1 ≤ l i
  · obtain ⟨j, h1, rfl⟩ := og_all hi h
    rw [if_pos h, if_pos (pl_has h1 h1)]
  · rw [if_neg h, if_neg]
    intro h2
    obtain ⟨j, _, h1, rfl⟩ := pl_take h2
    exact h (og_mem h1).2
theorem many_zero (h : many l n = 0) : room l n = 0 := by
  have : room l n = H.sg n (fun _ => 0) := sg_congr fun k hk => by
    refine if_neg fun h1 => ?_
    obtain ⟨j, hj, _⟩ := og_all hk h1
    omega
  rw [this, sg_const, Nat.mul_zero]
end
/-- What fit answers. -/
def FitP (z : Nat → Int) (n : Nat) (v : Value) : Prop := (okW z n ∧ v = .bool true) ∨ (¬ okW z n ∧ v = .bool false)
set_option maxHeartbeats 8000000 in
theorem Fit_c {S : Option Addr} {n c : Nat} {z : Nat → Int} (hn : n ≤ 2 ^ 30) (w : World) (hS : Rc w S n (zi z)) :
    RetP 36 #[.slice S n c] w fun v w' => FitP z n v ∧ Below w.heap.size w w' := by
  go_enter Try.func36, Try.ntmps36
  have hO := Own.start w
  go_upto_region 0 with (fail)
  refine wp_region_list (WL.out ?_)
  refine g_val (.bool false) ?_
  refine g_nil ?_
  simp only [Act.put, List.setIfInBounds_toArray, List.set_cons_succ, List.set_cons_zero]
  by_cases hbig : 1000 < n
  · have hno : Hid (¬ okW z n) := hide fun h => by have := h.1; omega
    go_upto_region 1 with (fail)
    refine wp_region_list (WL.out ?_)
    refine g_val (.slice S n c) ?_
    refine g_val (Nv .i64 n) ?_
    refine g_val (.bool true) ?_ (B.gtr_int (a := n) (c := 1000) (b := true) (decide_eq_true hbig) w)
    refine g_nil ?_
    simp only [Act.put, List.setIfInBounds_toArray, List.set_cons_succ, List.set_cons_zero]
    go_upto_region 2 with (fail)
    refine wp_region_list (WL.out ?_)
    refine g_val (.bool false) ?_
    refine g_nil ?_
    simp only [Act.put, List.setIfInBounds_toArray, List.set_cons_succ, List.set_cons_zero]
    have HF := hide hO.low
    clear hO
    go_wp2_with (fail)
    go_ret
    exact ⟨_, rfl, Or.inr ⟨hno.out, rfl⟩, HF.out⟩
  go_upto_region 1 with (fail)
  refine wp_region_list (WL.out ?_)
  refine g_val (.slice S n c) ?_
  refine g_val (Nv .i64 n) ?_
  refine g_val (.bool false) ?_ (B.gtr_int (a := n) (c := 1000) (b := false) (decide_eq_false hbig) w)
  refine g_nil ?_
  simp only [Act.put, List.setIfInBounds_toArray, List.set_cons_succ, List.set_cons_zero]
  go_upto_region 3 with (fail)
  refine wp_region_list (WL.out ?_)
  refine g_val (Nv .i64 0) ?_
  refine g_val (Nv .i64 0) ?_
  refine g_nil ?_
  simp only [Act.put, List.setIfInBounds_toArray, List.set_cons_succ, List.set_cons_zero]
  go_upto_region 4 with (fail)
  refine wp_region_list (WL.out ?_)
  refine g_val (.slice S n c) ?_
  refine g_val (Nv .i64 n) ?_
  refine g_val (Nv .i64 0) ?_
  refine g_nil ?_
  simp only [Act.put, List.setIfInBounds_toArray, List.set_cons_succ, List.set_cons_zero]
  have HO := hide hO
  clear hO
  go_wp2_with (fail)
  go_loopw [3, 4, 12] (fun x3 x4 x12 wr => ∃ k : Nat, k ≤ n ∧ x12 = .int .i64 (k : Int) ∧ x3 = Nv .i64 (many (ln z) k) ∧ x4 = Nv .i64 (room (ln z) k) ∧ (∀ i, i < k → 0 ≤ z i ∧ z i ≤ 15) ∧ Own w wr []) (fun _ _ x12 _ => n - (intOf x12).toNat)
  case atStart => exact ⟨0, Nat.zero_le _, rfl, rfl, rfl, (fun i hi => absurd hi (Nat.not_lt_zero i)), HO.out⟩
  case round =>
    clear HO
    obtain ⟨k, hk9, rfl, rfl, rfl, hcnd, hO⟩ := hrel
    by_cases hz : k < n
    · have hk0 : 0 ≤ k := Nat.zero_le _
      go_upto_region 5 with (fail)
      refine wp_region_list (WL.out ?_)
      refine g_val (.bool true) ?_ (B.lss_int (a := k) (c := n) (b := true) (decide_eq_true hz) wr)
      refine g_nil ?_
      simp only [Act.put, List.setIfInBounds_toArray, List.set_cons_succ, List.set_cons_zero]
      obtain ⟨a, rfl, hc⟩ := hS.cell hz
      go_upto_region 6 with (fail)
      refine wp_region_list (WL.out ?_)
      refine g_val (.pointer (some (a.add k))) ?_ (b_ixs (n := n) (c := c) hz Try.underlying25 sz_int wr)
      refine g_la (.int .i64 (z k)) (hc _ hO.low) agg_int ?_
      refine g_val (.int .i64 (z k)) ?_
      refine g_nil ?_
      simp only [Act.put, List.setIfInBounds_toArray, List.set_cons_succ, List.set_cons_zero]
      by_cases hneg : z k < 0
      · have hno : Hid (¬ okW z n) := hide fun h => by have := (h.2.1 k hz).1; omega
        go_upto_region 7 with (fail)
        refine wp_region_list (WL.out ?_)
        refine g_val (.int .i64 (z k)) ?_
        refine g_val (.bool true) ?_ (lssI_int (a := z k) (c := 0) (decide_eq_true hneg) wr)
        refine g_val (.bool true) ?_
        refine g_skip ?_
        refine g_skip ?_
        refine g_val (.bool true) ?_
        refine g_nil ?_
        simp only [Act.put, List.setIfInBounds_toArray, List.set_cons_succ, List.set_cons_zero]
        go_upto_region 8 with (fail)
        refine wp_region_list (WL.out ?_)
        refine g_val (.bool false) ?_
        refine g_nil ?_
        simp only [Act.put, List.setIfInBounds_toArray, List.set_cons_succ, List.set_cons_zero]
        have HF := hide hO.low
        clear hO
        go_wp2_with (fail)
        go_ret
        exact ⟨_, rfl, Or.inr ⟨hno.out, rfl⟩, HF.out⟩
      by_cases hgt : 15 < z k
      · have hno : Hid (¬ okW z n) := hide fun h => by have := (h.2.1 k hz).2; omega
        go_upto_region 7 with (fail)
        refine wp_region_list (WL.out ?_)
        refine g_val (.int .i64 (z k)) ?_
        refine g_val (.bool false) ?_ (lssI_int (a := z k) (c := 0) (decide_eq_false hneg) wr)
        refine g_val (.bool false) ?_
        refine g_val (.int .i64 (z k)) ?_
        refine g_val (.bool true) ?_ (gtrI_int (a := z k) (c := 15) (decide_eq_true hgt) wr)
        refine g_val (.bool true) ?_
        refine g_nil ?_
        simp only [Act.put, List.setIfInBounds_toArray, List.set_cons_succ, List.set_cons_zero]
        go_upto_region 8 with (fail)
        refine wp_region_list (WL.out ?_)
        refine g_val (.bool false) ?_
        refine g_nil ?_
        simp only [Act.put, List.setIfInBounds_toArray, List.set_cons_succ, List.set_cons_zero]
        have HF := hide hO.low
        clear hO
        go_wp2_with (fail)
        go_ret
        exact ⟨_, rfl, Or.inr ⟨hno.out, rfl⟩, HF.out⟩
      go_upto_region 7 with (fail)
      refine wp_region_list (WL.out ?_)
      refine g_val (.int .i64 (z k)) ?_
      refine g_val (.bool false) ?_ (lssI_int (a := z k) (c := 0) (decide_eq_false hneg) wr)
      refine g_val (.bool false) ?_
      refine g_val (.int .i64 (z k)) ?_
      refine g_val (.bool false) ?_ (gtrI_int (a := z k) (c := 15) (decide_eq_false hgt) wr)
      refine g_val (.bool false) ?_
      refine g_nil ?_
      simp only [Act.put, List.setIfInBounds_toArray, List.set_cons_succ, List.set_cons_zero]
      have hlk := ln_le z k
      have hzk := ln_eq (z := z) (i := k) ⟨by omega, by omega⟩
      rw [hzk]
      by_cases hp : 0 < ln z k
      · have hrm := room_le (l := ln z) (n := k)
        have hmm := many_le (l := ln z) (n := k)
        have hrk := room_yes (l := ln z) hp
        have hmk := many_yes (l := ln z) hp
        have hpw : 2 ^ (15 - ln z k) ≤ 2 ^ 15 := Nat.pow_le_pow_right (by decide) (by omega)
        have hdv : 32768 / 2 ^ ln z k = 2 ^ (15 - ln z k) := by rw [show (32768 : Nat) = 2 ^ 15 by decide, Nat.pow_div (by omega) (by decide)]
        go_upto_region 9 with (fail)
        refine wp_region_list (WL.out ?_)
        refine g_val (Nv .i64 (ln z k)) ?_
        refine g_val (.bool true) ?_ (B.gtr_int (a := ln z k) (c := 0) (b := true) (decide_eq_true hp) wr)
        refine g_nil ?_
        simp only [Act.put, List.setIfInBounds_toArray, List.set_cons_succ, List.set_cons_zero]
        go_upto_region 10 with (fail)
        refine wp_region_list (WL.out ?_)
        refine g_val (Nv .i64 (many (ln z) k)) ?_
        refine g_val (Nv .i64 (many (ln z) (k + 1))) ?_ (B.add_int (a := many (ln z) k) (c := 1) (d := many (ln z) (k + 1)) hmk (by omega) wr)
        refine g_val (Nv .i64 (many (ln z) (k + 1))) ?_
        refine g_nil ?_
        simp only [Act.put, List.setIfInBounds_toArray, List.set_cons_succ, List.set_cons_zero]
        go_upto_region 11 with (fail)
        refine wp_region_list (WL.out ?_)
        refine g_val (Nv .i64 (room (ln z) k)) ?_
        refine g_val (Nv .i64 (ln z k)) ?_
        refine g_val (Nv .i64 (2 ^ (15 - ln z k))) ?_ (shr_ii (a := 32768) (s := ln z k) hdv (by decide) (by omega) wr)
        refine g_val (Nv .i64 (room (ln z) (k + 1))) ?_ (B.add_int (a := room (ln z) k) (c := 2 ^ (15 - ln z k)) (d := room (ln z) (k + 1)) hrk (by omega) wr)
        refine g_val (Nv .i64 (room (ln z) (k + 1))) ?_
        refine g_nil ?_
        simp only [Act.put, List.setIfInBounds_toArray, List.set_cons_succ, List.set_cons_zero]
        have HO := hide hO
        clear hO
        go_upto_region 12 with (fail)
        refine wp_region_list (WL.out ?_)
        refine g_val (Nv .i64 (k + 1)) ?_ (B.add_int (a := k) (c := 1) (d := k + 1) rfl (by omega) wr)
        refine g_val (Nv .i64 (k + 1)) ?_
        refine g_nil ?_
        simp only [Act.put, List.setIfInBounds_toArray, List.set_cons_succ, List.set_cons_zero]
        go_wp2_with (fail)
        go_roundw
        case rel => exact ⟨k + 1, hz, rfl, rfl, rfl, (fun i hi => by rcases Nat.lt_or_eq_of_le (Nat.le_of_lt_succ hi) with h | h; exact hcnd i h; subst h; exact ⟨by omega, by omega⟩), HO.out⟩
        case measure => show n - ((k + 1 : Nat) : Int).toNat < n - ((k : Nat) : Int).toNat; omega
      · have e1 := room_no (l := ln z) hp
        have e2 := many_no (l := ln z) hp
        go_upto_region 9 with (fail)
        refine wp_region_list (WL.out ?_)
        refine g_val (Nv .i64 (ln z k)) ?_
        refine g_val (.bool false) ?_ (B.gtr_int (a := ln z k) (c := 0) (b := false) (decide_eq_false hp) wr)
        refine g_nil ?_
        simp only [Act.put, List.setIfInBounds_toArray, List.set_cons_succ, List.set_cons_zero]
        have HO := hide hO
        clear hO
        go_upto_region 12 with (fail)
        refine wp_region_list (WL.out ?_)
        refine g_val (Nv .i64 (k + 1)) ?_ (B.add_int (a := k) (c := 1) (d := k + 1) rfl (by omega) wr)
        refine g_val (Nv .i64 (k + 1)) ?_
        refine g_nil ?_
        simp only [Act.put, List.setIfInBounds_toArray, List.set_cons_succ, List.set_cons_zero]
        go_wp2_with (fail)
        go_roundw
        case rel => exact ⟨k + 1, hz, rfl, by rw [e2], by rw [e1], (fun i hi => by rcases Nat.lt_or_eq_of_le (Nat.le_of_lt_succ hi) with h | h; exact hcnd i h; subst h; exact ⟨by omega, by omega⟩), HO.out⟩
        case measure => show n - ((k + 1 : Nat) : Int).toNat < n - ((k : Nat) : Int).toNat; omega
    · obtain rfl : k = n := by omega
      clear hk9
      go_upto_region 5 with (fail)
      refine wp_region_list (WL.out ?_)
      refine g_val (.bool false) ?_ (B.lss_int (a := k) (c := k) (b := false) (decide_eq_false hz) wr)
      refine g_nil ?_
      simp only [Act.put, List.setIfInBounds_toArray, List.set_cons_succ, List.set_cons_zero]
      have Hcnd := hide hcnd
      clear hcnd
      have hm0 : Hid (many (ln z) k = 0 → room (ln z) k = 0) := hide many_zero
      obtain ⟨ρ9, hρ⟩ : ∃ ρ9, room (ln z) k = ρ9 := ⟨_, rfl⟩
      obtain ⟨μ, hμ⟩ : ∃ μ, many (ln z) k = μ := ⟨_, rfl⟩
      have hok : Hid (okW z k ↔ (μ ≠ 0 ∧ (ρ9 = 32768 ∨ (μ = 1 ∧ ρ9 = 16384)))) := hide (by unfold okW; rw [hρ, hμ]; exact ⟨fun h => h.2.2, fun h => ⟨by omega, Hcnd.out, h⟩⟩)
      rw [hρ, hμ] at hm0
      rw [hρ, hμ]
      clear hρ hμ Hcnd hS
      by_cases hr : ρ9 = 32768
      · have hyes : Hid (okW z k) := hide (hok.out.2 ⟨fun e => by have := hm0.out e; omega, .inl hr⟩)
        go_upto_region 13 with (fail)
        refine wp_region_list (WL.out ?_)
        refine g_val (Nv .i64 ρ9) ?_
        refine g_val (.bool true) ?_ (B.eql_int (a := ρ9) (c := 32768) (b := true) (decide_eq_true hr) wr)
        refine g_val (.bool true) ?_
        refine g_skip ?_
        refine g_skip ?_
        refine g_skip ?_
        refine g_skip ?_
        refine g_skip ?_
        refine g_skip ?_
        refine g_val (.bool true) ?_
        refine g_val (.bool true) ?_
        refine g_nil ?_
        simp only [Act.put, List.setIfInBounds_toArray, List.set_cons_succ, List.set_cons_zero]
        have HF := hide hO.low
        clear hO
        go_wp2_with (fail)
        go_ret
        exact ⟨_, rfl, Or.inl ⟨hyes.out, rfl⟩, HF.out⟩
      by_cases hm1 : μ = 1
      · by_cases hr2 : ρ9 = 16384
        · have hyes : Hid (okW z k) := hide (hok.out.2 ⟨by omega, .inr ⟨hm1, hr2⟩⟩)
          go_upto_region 13 with (fail)
          refine wp_region_list (WL.out ?_)
          refine g_val (Nv .i64 ρ9) ?_
          refine g_val (.bool false) ?_ (B.eql_int (a := ρ9) (c := 32768) (b := false) (decide_eq_false hr) wr)
          refine g_val (.bool false) ?_
          refine g_val (Nv .i64 μ) ?_
          refine g_val (.bool true) ?_ (B.eql_int (a := μ) (c := 1) (b := true) (decide_eq_true hm1) wr)
          refine g_val (.bool true) ?_
          refine g_val (Nv .i64 ρ9) ?_
          refine g_val (.bool true) ?_ (B.eql_int (a := ρ9) (c := 16384) (b := true) (decide_eq_true hr2) wr)
          refine g_val (.bool true) ?_
          refine g_val (.bool true) ?_
          refine g_val (.bool true) ?_
          refine g_nil ?_
          simp only [Act.put, List.setIfInBounds_toArray, List.set_cons_succ, List.set_cons_zero]
          have HF := hide hO.low
          clear hO
          go_wp2_with (fail)
          go_ret
          exact ⟨_, rfl, Or.inl ⟨hyes.out, rfl⟩, HF.out⟩
        · have hno : Hid (¬ okW z k) := hide (fun h => by have := (hok.out.1 h).2; omega)
          go_upto_region 13 with (fail)
          refine wp_region_list (WL.out ?_)
          refine g_val (Nv .i64 ρ9) ?_
          refine g_val (.bool false) ?_ (B.eql_int (a := ρ9) (c := 32768) (b := false) (decide_eq_false hr) wr)
          refine g_val (.bool false) ?_
          refine g_val (Nv .i64 μ) ?_
          refine g_val (.bool true) ?_ (B.eql_int (a := μ) (c := 1) (b := true) (decide_eq_true hm1) wr)
          refine g_val (.bool true) ?_
          refine g_val (Nv .i64 ρ9) ?_
          refine g_val (.bool false) ?_ (B.eql_int (a := ρ9) (c := 16384) (b := false) (decide_eq_false hr2) wr)
          refine g_val (.bool false) ?_
          refine g_val (.bool false) ?_
          refine g_val (.bool false) ?_
          refine g_nil ?_
          simp only [Act.put, List.setIfInBounds_toArray, List.set_cons_succ, List.set_cons_zero]
          have HF := hide hO.low
          clear hO
          go_wp2_with (fail)
          go_ret
          exact ⟨_, rfl, Or.inr ⟨hno.out, rfl⟩, HF.out⟩
      · have hno : Hid (¬ okW z k) := hide (fun h => by have := (hok.out.1 h).2; omega)
        go_upto_region 13 with (fail)
        refine wp_region_list (WL.out ?_)
        refine g_val (Nv .i64 ρ9) ?_
        refine g_val (.bool false) ?_ (B.eql_int (a := ρ9) (c := 32768) (b := false) (decide_eq_false hr) wr)
        refine g_val (.bool false) ?_
        refine g_val (Nv .i64 μ) ?_
        refine g_val (.bool false) ?_ (B.eql_int (a := μ) (c := 1) (b := false) (decide_eq_false hm1) wr)
        refine g_val (.bool false) ?_
        refine g_skip ?_
        refine g_skip ?_
        refine g_val (.bool false) ?_
        refine g_val (.bool false) ?_
        refine g_val (.bool false) ?_
        refine g_nil ?_
        simp only [Act.put, List.setIfInBounds_toArray, List.set_cons_succ, List.set_cons_zero]
        have HF := hide hO.low
        clear hO
        go_wp2_with (fail)
        go_ret
        exact ⟨_, rfl, Or.inr ⟨hno.out, rfl⟩, HF.out⟩
end Q
end Go.Proofs.Ytkljpidlfddgbaa

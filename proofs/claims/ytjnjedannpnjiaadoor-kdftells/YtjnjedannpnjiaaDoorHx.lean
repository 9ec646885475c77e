/- HKDF on lists of numbers. No program. -/
import Derived.Test.YtjnjedannpnjiaaDoorRs
namespace Go.Proofs.YtjnjedannpnjiaaDoor

/-- A code's bytes, in a row. -/
def ml (k l : List Nat) : List Nat := (List.range 64).map (mc k l)
theorem ml_len (k l : List Nat) : (ml k l).length = 64 := by simp [ml]
theorem mc_lt (k l : List Nat) (i : Nat) : mc k l i < 256 := dg_lt _ i
theorem ml_lt (k l : List Nat) : ∀ x ∈ ml k l, x < 256 := fun x hx => by
  obtain ⟨i, _, rfl⟩ := List.mem_map.1 hx
  exact mc_lt k l i
/-- The blocks T1, T2 and so on; none ahead of them. -/
def tb (k u : List Nat) : Nat → List Nat
  | 0 => []
  | i + 1 => ml k (tb k u i ++ u ++ [(i + 1) % 256])
theorem tb_len (k u : List Nat) (i : Nat) : (tb k u (i + 1)).length = 64 := ml_len _ _
theorem tb_le (k u : List Nat) : ∀ i, (tb k u i).length ≤ 64
  | 0 => by show 0 ≤ 64; omega
  | i + 1 => by rw [tb_len]; exact Nat.le_refl _
theorem tb_lt (k u : List Nat) : ∀ i, ∀ x ∈ tb k u i, x < 256
  | 0 => fun _ hx => nomatch hx
  | _ + 1 => ml_lt _ _
/-- All blocks up to one. -/
def tc (k u : List Nat) : Nat → List Nat
  | 0 => []
  | i + 1 => tc k u i ++ tb k u (i + 1)
theorem tc_len (k u : List Nat) : ∀ i, (tc k u i).length = 64 * i
  | 0 => rfl
  | i + 1 => by
    show (tc k u i ++ tb k u (i + 1)).length = _
    rw [List.length_append, tc_len k u i, tb_len]; omega
theorem tc_lt (k u : List Nat) : ∀ i, ∀ x ∈ tc k u i, x < 256
  | 0 => fun _ hx => nomatch hx
  | i + 1 => fun x hx => by
    rcases List.mem_append.1 hx with h | h
    · exact tc_lt k u i x h
    · exact tb_lt k u (i + 1) x h
theorem tc_begins (k u : List Nat) (i : Nat) : ∀ j, ∃ r, tc k u (i + j) = tc k u i ++ r
  | 0 => ⟨[], by rw [List.append_nil]; rfl⟩
  | j + 1 => by
    obtain ⟨r, hr⟩ := tc_begins k u i j
    exact ⟨r ++ tb k u (i + j + 1), by
      show tc k u (i + j) ++ tb k u (i + j + 1) = _
      rw [hr, List.append_assoc]⟩
/-- What Expand tells. -/
def xp (k u : List Nat) (n : Nat) : List Nat := (tc k u ((n + 63) / 64)).take n
theorem xp_len (k u : List Nat) (n : Nat) : (xp k u n).length = n := by
  unfold xp
  rw [List.length_take, tc_len]; omega
theorem xp_lt (k u : List Nat) (n : Nat) : ∀ x ∈ xp k u n, x < 256 := fun x hx => tc_lt k u _ x (List.mem_of_mem_take hx)
/-- However many blocks were made. -/
theorem xp_of (k u : List Nat) (n i : Nat) (h : n ≤ 64 * i) : (tc k u i).take n = xp k u n := by
  unfold xp
  obtain ⟨j, hj⟩ : ∃ j, i = (n + 63) / 64 + j := ⟨i - (n + 63) / 64, by omega⟩
  subst hj
  obtain ⟨r, hr⟩ := tc_begins k u ((n + 63) / 64) j
  rw [hr, List.take_append_of_le_length (by rw [tc_len]; omega)]
theorem xp_begins (k u : List Nat) (m n : Nat) (h : m ≤ n) : (xp k u n).take m = xp k u m := by
  rw [← xp_of k u n ((n + 63) / 64) (by omega), List.take_take, Nat.min_eq_left h]
  exact xp_of k u m _ (by omega)
theorem xp_first (k u : List Nat) : (xp k u 128).take 64 = ml k (u ++ [1]) ∧ (xp k u 128).drop 64 = ml k (ml k (u ++ [1]) ++ u ++ [2]) := by
  have e : xp k u 128 = tb k u 1 ++ tb k u 2 := by
    show ((([] ++ tb k u 1) ++ tb k u 2)).take 128 = _
    rw [List.nil_append, List.take_of_length_le (by rw [List.length_append, tb_len, tb_len]; omega)]
  rw [e]
  constructor
  · rw [List.take_append_of_le_length (by rw [tb_len]; omega), List.take_of_length_le (by rw [tb_len]; omega)]; rfl
  · rw [List.drop_append_of_le_length (by rw [tb_len]; omega), List.drop_of_length_le (by rw [tb_len]; omega)]; rfl
end Go.Proofs.YtjnjedannpnjiaaDoor

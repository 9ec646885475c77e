/- HMAC on lists of numbers: what the laws of chapter 4 say of it. -/
import Derived.Test.YtjnjedannpnjiaaDoorRs
namespace Go.Proofs.YtjnjedannpnjiaaDoor
open Go.RowKit

theorem ky_self (k : List Nat) (h : k.length ≤ 128) : ky k = k := if_neg (by omega)
theorem ky_long (k : List Nat) (h : 128 < k.length) : ky k = dl k := if_pos h
theorem ky_dl (k : List Nat) : ky (dl k) = dl k := ky_self _ (by rw [dl_len]; omega)
theorem kb_congr (k m : List Nat) (y i : Nat) (h : ∀ j, (ky k).getD j 0 = (ky m).getD j 0) : kb k y i = kb m y i := by unfold kb; rw [h]
theorem kl_congr (k m : List Nat) (y : Nat) (h : ∀ j, (ky k).getD j 0 = (ky m).getD j 0) : kl k y = kl m y := by
  unfold kl; exact List.map_congr_left fun i _ => kb_congr k m y i h
theorem mc_congr (k m l : List Nat) (h : ∀ j, (ky k).getD j 0 = (ky m).getD j 0) : mc k l = mc m l := by
  unfold mc; rw [kl_congr k m 92 h, kl_congr k m 54 h]
/-- A key that is too long is its digest. -/
theorem mc_long (k l : List Nat) (h : 128 < k.length) : mc (dl k) l = mc k l := mc_congr _ _ _ fun j => by rw [ky_dl, ky_long k h]
/-- A key with bytes 0 behind it is the same key. -/
theorem mc_zeros (k l : List Nat) (n : Nat) (h : k.length + n ≤ 128) : mc (k ++ List.replicate n 0) l = mc k l := mc_congr _ _ _ fun j => by
  rw [ky_self _ (by simp; omega), ky_self k (by omega), List.getD_eq_getElem?_getD, List.getD_eq_getElem?_getD]
  by_cases hj : j < k.length
  · rw [List.getElem?_append_left hj]
  · rw [List.getElem?_append_right (by omega), List.getElem?_eq_none (l := k) (by omega), List.getElem?_replicate]
    split <;> rfl
def jefe : List Nat := [74, 101, 102, 101]
def what : List Nat := [119, 104, 97, 116, 32, 100, 111, 32, 121, 97, 32, 119, 97, 110, 116, 32]
def nothing : List Nat := [102, 111, 114, 32, 110, 111, 116, 104, 105, 110, 103, 63]
theorem jefe_lt : ∀ x ∈ jefe, x < 256 := by decide
theorem what_lt : ∀ x ∈ what, x < 256 := by decide
theorem nothing_lt : ∀ x ∈ nothing, x < 256 := by decide
set_option maxRecDepth 100000 in
theorem mc_jefe : mc jefe (what ++ nothing) 0 = 22 ∧ mc jefe (what ++ nothing) 1 = 75 ∧ mc jefe (what ++ nothing) 2 = 122 ∧ mc jefe (what ++ nothing) 3 = 123 := by decide +kernel
end Go.Proofs.YtjnjedannpnjiaaDoor

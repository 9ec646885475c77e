/- What Lengths tells is a code's; codes of one word. No conditions but those that each names. -/
import Derived.Test.YtkljpidlfddgbaaSn
import Derived.Test.YtkljpidlfddgbaaSp
namespace Go.Proofs.Ytkljpidlfddgbaa
set_option maxRecDepth 100000
open Go.RowKit Rg B

namespace Q
open H
section
variable {cn : Nat → Nat} {n L : Nat}
abbrev zt (cn : Nat → Nat) (n L : Nat) (i : Nat) : Int := ((tl cn n L i : Nat) : Int)
theorem tl_fit (hL1 : 1 ≤ L) (hL : L ≤ 15) (hm : many cn n ≤ 2 ^ L) (i : Nat) (hi : i < n) : (tl cn n L i = 0 ↔ cn i = 0) ∧ tl cn n L i ≤ L := (tl_ok hL1 hL (by rw [rsg_len]; exact hm)).1 i hi
theorem ln_tl (hL1 : 1 ≤ L) (hL : L ≤ 15) (hm : many cn n ≤ 2 ^ L) (i : Nat) (hi : i < n) : ln (zt cn n L) i = tl cn n L i := by
  have := (tl_fit hL1 hL hm i hi).2
  unfold ln zt
  omega
theorem many_tl (hL1 : 1 ≤ L) (hL : L ≤ 15) (hm : many cn n ≤ 2 ^ L) : many (ln (zt cn n L)) n = many cn n := sg_congr fun i hi => by
  rw [ln_tl hL1 hL hm i hi]
  have := (tl_fit hL1 hL hm i hi).1
  by_cases h : cn i = 0
  · rw [if_neg (by have := this.2 h; omega), if_neg (by omega)]
  · rw [if_pos (by have : tl cn n L i ≠ 0 := fun e => h (this.1 e)
                   omega), if_pos (by omega)]
theorem room_tl (hL1 : 1 ≤ L) (hL : L ≤ 15) (hm : many cn n ≤ 2 ^ L) : room (ln (zt cn n L)) n = room (tl cn n L) n := sg_congr fun i hi => by rw [ln_tl hL1 hL hm i hi]
theorem okW_tl (hn : n ≤ 1000) (hL1 : 1 ≤ L) (hL : L ≤ 15) (hm : many cn n ≤ 2 ^ L) (h0 : many cn n ≠ 0) : okW (zt cn n L) n := by
  have h := tl_ok (c := cn) (n := n) hL1 hL (by rw [rsg_len]; exact hm)
  rw [rsg_len] at h
  refine ⟨hn, fun i hi => ?_, by rw [many_tl hL1 hL hm]; exact h0, ?_⟩
  · have := (h.1 i hi).2
    unfold zt
    omega
  · rw [many_tl hL1 hL hm, room_tl hL1 hL hm]
    by_cases h1 : many cn n = 1
    · exact .inr ⟨h1, h.2.1 h1⟩
    · exact .inl (h.2.2 (by omega)).1
end
section
variable {i n v : Nat}
theorem one_many (hi : i < n) (hv : 1 ≤ v) : many (fun j => if j = i then v else 0) n = 1 := by
  unfold many
  rw [sg_step (h := fun _ => 0) (d := 1) (i := i) hi ?_ ?_, sg_const, Nat.mul_zero]
  · intro k _ hk
    show (if 1 ≤ (if k = i then v else 0) then 1 else 0) = 0
    rw [if_neg hk]; rfl
  · show (if 1 ≤ (if i = i then v else 0) then 1 else 0) = 1
    rw [if_pos rfl, if_pos hv]
theorem one_tl (hi : i < n) (hv : 1 ≤ v) (L j : Nat) : tl (fun j => if j = i then v else 0) n L j = if j = i then 1 else 0 := by
  unfold tl
  rw [if_pos (by rw [rsg_len]; exact one_many hi hv)]
  by_cases h : j = i
  · rw [if_pos h, if_pos (rsg_in.2 ⟨by omega, by show (if j = i then v else 0) ≠ 0; rw [if_pos h]; omega⟩)]
  · have hn : ¬ j ∈ rsg (fun j => if j = i then v else 0) n := fun e => (rsg_in.1 e).2 (if_neg h)
    rw [if_neg h, if_neg hn]
variable {l : Nat → Nat}
theorem one_word (hi : i < n) (hl : l i = 1) (hr : room l n = 16384) : word l n i = 0 := by
  have := word_room (l := l) hi (by omega)
  rw [hl, hr] at this
  omega
theorem one_t0 (hi : i < n) (hl : ∀ j, j < n → l j = if j = i then 1 else 0) (hr : room l n = 16384) : tko l n (8 * 1) 254 0 15 0 = (i, 0, 1) := by
  have hli : l i = 1 := by rw [hl i hi, if_pos rfl]
  refine tko_found (by decide) (fd_some hi ?_ fun j hj => ?_)
  · unfold pW wd
    rw [if_pos (by omega), one_word hi hli hr, hli]
    decide
  · unfold pW
    rw [hl j (by omega), if_neg (by omega)]
    rfl
theorem one_t1 (hi : i < n) (hl : ∀ j, j < n → l j = if j = i then 1 else 0) (hr : room l n = 16384) : tko l n (8 * 1) 1 0 15 0 = (0, 130, 1) := by
  have hli : l i = 1 := by rw [hl i hi, if_pos rfl]
  have hf : fd (pW l n 1 (hv 1 0 1)) n = none := fd_none fun j hj => by
    unfold pW
    by_cases h : j = i
    · subst h
      have : wd l n j = 0 := by unfold wd; rw [if_pos (by omega), one_word hi hli hr]
      rw [this]
      simp [hv]
    · rw [hl j hj, if_neg h]
      rfl
  rw [tko, if_neg (by decide)]
  show (match fd (pW l n 1 (hv 1 0 1)) n with | some i => _ | none => _) = _
  rw [hf]
  show (if (0 : Nat) = 0 ∧ room l n = 16384 then _ else _) = _
  rw [if_pos ⟨rfl, hr⟩]
end
end Q
end Go.Proofs.Ytkljpidlfddgbaa

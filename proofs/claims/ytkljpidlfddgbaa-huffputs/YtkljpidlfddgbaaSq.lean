/- Lengths of small counts, reckoned. No program. -/
import Derived.Test.YtkljpidlfddgbaaSp
namespace Go.Proofs.Ytkljpidlfddgbaa
namespace Q
open H
section
variable {α : Type} (key : α → Nat)
/-- mg, by so many steps. -/
def mgF : Nat → List α → List α → List α
  | 0, _, _ => []
  | _ + 1, [], b => b
  | _ + 1, a :: as, [] => a :: as
  | f + 1, a :: as, b :: bs => if Nat.ble (key a) (key b) then a :: mgF f as (b :: bs) else b :: mgF f (a :: as) bs
variable {key}
theorem mgF_eq : ∀ (f : Nat) (a b : List α), a.length + b.length < f → mg key a b = mgF key f a b
  | 0, _, _, h => by omega
  | _ + 1, [], b, _ => by rw [mg_nil, mgF]
  | _ + 1, a :: as, [], _ => by rw [mg_nil', mgF]
  | f + 1, a :: as, b :: bs, h => by
    rw [mgF]
    simp only [List.length_cons] at h
    by_cases hk : key a ≤ key b
    · rw [mg_le hk, if_pos (Nat.ble_eq_true_of_le hk), mgF_eq f as (b :: bs) (by simp only [List.length_cons]; omega)]
    · rw [mg_gt hk, if_neg (fun e => hk (Nat.le_of_ble_eq_true e)), mgF_eq f (a :: as) bs (by simp only [List.length_cons]; omega)]
end
def clF (S : List Pl) (f : Nat) : Nat → List Pl
  | 0 => []
  | k + 1 => mgF (fun x => x.1) f S (pr pj (clF S f k))
theorem clF_eq {c : Nat → Nat} {p : List Nat} {f : Nat} (h : 2 * p.length < f) : ∀ k, cl2 c p k = clF (pS c p) f k
  | 0 => rfl
  | k + 1 => by
    show mg (fun x : Pl => x.1) (pS c p) (pr pj (cl2 c p k)) = _
    have h1 := cl2_len c p k
    rw [mgF_eq f _ _ (by rw [pS_len, pr_length]; omega), clF_eq h k]
    rfl
theorem tl_num {c : Nat → Nat} {n L f i v : Nat} {p : List Nat} (hp : rsg c n = p) (h1 : p.length ≠ 1) (hf : 2 * p.length < f) (h : sm (fun x : Pl => x.2.2 i) ((clF (pS c p) f L).take (2 * p.length - 2)) = v) : tl c n L i = v := by
  unfold tl tL
  rw [hp, if_neg h1, clF_eq hf, h]
theorem aw_p : rsg (fun i => [5, 1, 1, 0, 2].getD i 0) 5 = [1, 2, 4, 0] := by decide +kernel
theorem aw_0 : tl (fun i => [5, 1, 1, 0, 2].getD i 0) 5 15 0 = 1 := tl_num (f := 9) aw_p (by decide) (by decide) (by decide +kernel)
theorem aw_4 : tl (fun i => [5, 1, 1, 0, 2].getD i 0) 5 15 4 = 2 := tl_num (f := 9) aw_p (by decide) (by decide) (by decide +kernel)
theorem aw_3 : tl (fun i => [5, 1, 1, 0, 2].getD i 0) 5 15 3 = 0 := tl_num (f := 9) aw_p (by decide) (by decide) (by decide +kernel)
theorem aw_m : tl (fun i => [5, 1, 1, 1].getD i 0) 4 2 0 = 2 := tl_num (p := [1, 2, 3, 0]) (f := 9) (by decide +kernel) (by decide) (by decide) (by decide +kernel)
end Q
end Go.Proofs.Ytkljpidlfddgbaa

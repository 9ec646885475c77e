/- Walks: RotateLeft64, right, turn. -/
import Derived.Test.YtjnjedannpnjiaaDoorProg
import Derived.Test.YtjnjedannpnjiaaDoorSp
namespace Go.Proofs.YtjnjedannpnjiaaDoor
open Go.RowKit

theorem and63 (n : Nat) (h0 : 0 < n) (hn : n < 64) : bits .and .u64 (IntKind.u64.wrap (-(n : Int))) 63 = ((64 - n : Nat) : Int) := by
  rw [wrap_u64', show -(n : Int) % 18446744073709551616 = ((18446744073709551616 - n : Nat) : Int) by omega, show (63 : Int) = ((63 : Nat) : Int) from rfl, u64_and_nat _ _ (by omega) (by omega), show 63 = 2 ^ 6 - 1 from rfl, Nat.and_two_pow_sub_one_eq_mod]
  omega
theorem or_rot (x n : Nat) (hx : x < 2 ^ 64) : bits .or .u64 (IntKind.u64.wrap ((x : Int) * 2 ^ (64 - n))) ((x : Int) / 2 ^ n) = ((rotr x n : Nat) : Int) := by
  have e1 : IntKind.u64.wrap ((x : Int) * 2 ^ (64 - n)) = ((x * 2 ^ (64 - n) % 2 ^ 64 : Nat) : Int) := by
    rw [wrap_u64', show (x : Int) * 2 ^ (64 - n) = ((x * 2 ^ (64 - n) : Nat) : Int) by simp]
    omega
  have e2 : (x : Int) / 2 ^ n = ((x / 2 ^ n : Nat) : Int) := by simp
  have := div_lt64 x n hx
  rw [e1, e2, u64_or_nat _ _ (by omega) (by omega)]
  rfl
set_option maxHeartbeats 400000 in
theorem rotl_any (x n : Nat) (w : World) (hx : x < 2 ^ 64) (h0 : 0 < n) (hn : n < 64) :
    Calls Tryd.prog 36 #[.int .u64 x, .int .i64 (-(n : Int))] w fun e w' => e = .returned (.int .u64 (rotr x n : Nat)) ∧ w' = w := by
  have h1 := and63 n h0 hn
  have Ho := hide (or_rot x n hx)
  have h2 : (0 : Int) ≤ ((64 - n : Nat) : Int) := by omega
  have h3 : IntKind.u64.wrap (64 - ((64 - n : Nat) : Int)) = (n : Int) := by rw [wrap_u64']; omega
  have h4 : (0 : Int) ≤ (n : Int) := by omega
  have h5 : (n : Int) < 64 := by omega
  have h6 : ((64 - n : Nat) : Int) < 64 := by omega
  clear hx h0 hn
  go_enter Tryd.func36, Tryd.ntmps36
  go_wp2
  rw [Ho.out]
  go_ret
  exact ⟨rfl, rfl⟩
theorem rotl_at (x n : Nat) (args : Array Value) (w : World) (h : args = #[.int .u64 x, .int .i64 (-(n : Int))]) (hx : x < 2 ^ 64) (h0 : 0 < n) (hn : n < 64) :
    Calls Tryd.prog 36 args w fun e w' => e = .returned (.int .u64 (rotr x n : Nat)) ∧ w' = w := by
  subst h; exact rotl_any x n w hx h0 hn
theorem neg_i64 (n : Nat) (hn : n < 64) : IntKind.i64.wrap (-(n : Int)) = -(n : Int) := by
  simp [IntKind.wrap, IntKind.bits, IntKind.signed]; omega

set_option maxHeartbeats 400000 in
theorem right_any (x n : Nat) (w : World) (hx : x < 2 ^ 64) (h0 : 0 < n) (hn : n < 64) :
    Calls Tryd.prog 32 #[.int .u64 x, .int .i64 n] w fun e w' => e = .returned (.int .u64 (rotr x n : Nat)) ∧ w' = w := by
  have h1 := neg_i64 n hn
  have Hx := hide hx
  have H0 := hide h0
  have Hn := hide hn
  clear hx h0 hn
  go_enter Tryd.func32, Tryd.ntmps32
  go_wp2_with (go_at_call 36; refine (rotl_at x n _ _ rfl Hx.out H0.out Hn.out).mono ?_; rintro e w1 ⟨rfl, rfl⟩; dsimp only)
  go_ret
  exact ⟨rfl, rfl⟩
theorem right_at (x n : Nat) (args : Array Value) (w : World) (h : args = #[.int .u64 x, .int .i64 n]) (hx : x < 2 ^ 64) (h0 : 0 < n) (hn : n < 64) :
    Calls Tryd.prog 32 args w fun e w' => e = .returned (.int .u64 (rotr x n : Nat)) ∧ w' = w := by
  subst h; exact right_any x n w hx h0 hn

set_option maxHeartbeats 400000 in
theorem turn_any (x n : Nat) (w : World) (hx : x < 2 ^ 64) (h0 : 0 < n) (hn : n < 64) :
    Calls Tryd.prog 34 #[.int .u64 x, .int .i64 n] w fun e w' => e = .returned (.int .u64 (rotr x n : Nat)) ∧ w' = w := by
  have h1 := neg_i64 n hn
  have Hx := hide hx
  have H0 := hide h0
  have Hn := hide hn
  clear hx h0 hn
  go_enter Tryd.func34, Tryd.ntmps34
  go_wp2_with (go_at_call 36; refine (rotl_at x n _ _ rfl Hx.out H0.out Hn.out).mono ?_; rintro e w1 ⟨rfl, rfl⟩; dsimp only)
  go_ret
  exact ⟨rfl, rfl⟩
theorem turn_at (x n : Nat) (args : Array Value) (w : World) (h : args = #[.int .u64 x, .int .i64 n]) (hx : x < 2 ^ 64) (h0 : 0 < n) (hn : n < 64) :
    Calls Tryd.prog 34 args w fun e w' => e = .returned (.int .u64 (rotr x n : Nat)) ∧ w' = w := by
  subst h; exact turn_any x n w hx h0 hn
end Go.Proofs.YtjnjedannpnjiaaDoor

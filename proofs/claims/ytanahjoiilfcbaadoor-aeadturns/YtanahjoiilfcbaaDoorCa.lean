/- Walks: RotateLeft32, mixed, the reference's turn; what one operation on words tells. A word below 2^32; no other condition. -/
import Derived.Test.YtanahjoiilfcbaaDoorOw
import Derived.Test.YtanahjoiilfcbaaDoorCh
namespace Go.Proofs.YtanahjoiilfcbaaDoor.C
open Go.RowKit

theorem and31 (n : Nat) (hn : n < 32) : bits .and .u64 (n : Int) 31 = ((n : Nat) : Int) := by
  rw [show (31 : Int) = ((31 : Nat) : Int) from rfl, u64_and_nat _ _ (by omega) (by omega), nat_mask5, Nat.mod_eq_of_lt hn]
theorem shl_nat (x n : Nat) : (x : Int) * 2 ^ n % 4294967296 = ((x * 2 ^ n % 4294967296 : Nat) : Int) := by
  rw [show (x : Int) * 2 ^ n = ((x * 2 ^ n : Nat) : Int) by simp]; omega
theorem shr_nat (x n : Nat) : (x : Int) / 2 ^ n = ((x / 2 ^ n : Nat) : Int) := by simp
theorem add_nat (x y : Nat) : ((x : Int) + (y : Int)) % 4294967296 = ((ad x y : Nat) : Int) := by
  unfold ad; omega
theorem or_rl (x n : Nat) (hx : x < 4294967296) (hn : n < 32) : bits .or .u32 ((x : Int) * 2 ^ n % 4294967296) ((x : Int) / 2 ^ (32 - n)) = ((rl x n : Nat) : Int) := by
  have h1 := Nat.lt_of_le_of_lt (Nat.div_le_self x (2 ^ (32 - n))) hx
  rw [shl_nat, shr_nat, u32_or_nat _ _ (by omega) h1, rl_or x n hx hn]
theorem add_rl (x n : Nat) (hx : x < 4294967296) (hn : n < 32) : ((x : Int) * 2 ^ n % 4294967296 + (x : Int) / 2 ^ (32 - n)) % 4294967296 = ((rl x n : Nat) : Int) := by
  have h1 := rl_lt x n hx hn
  rw [shl_nat, shr_nat]
  unfold rl at *
  generalize x * 2 ^ n % 4294967296 = a at *
  generalize x / 2 ^ (32 - n) = b at *
  omega
theorem xor_nat (x y : Nat) (hx : x < 4294967296) (hy : y < 4294967296) : bits .xor .u32 (x : Int) (y : Int) = ((x ^^^ y : Nat) : Int) := u32_xor_nat x y hx hy
set_option maxHeartbeats 400000 in
theorem rotl_any (x n : Nat) (w : World) (hx : x < 4294967296) (hn : n < 32) : Calls Tryd.prog 42 #[.int .u32 x, .int .i64 n] w fun e w' => e = .returned (.int .u32 (rl x n : Nat)) ∧ w' = w := by
  have h1 := and31 n hn
  have Ho := hide (or_rl x n hx hn)
  have h3 : IntKind.u64.wrap (n : Int) = (n : Int) := by rw [wrap_u64']; omega
  have h4 : (0 : Int) ≤ (n : Int) := by omega
  have h5 : (n : Int) < 32 := by omega
  have h6 : IntKind.u64.wrap (32 - (n : Int)) = ((32 - n : Nat) : Int) := by rw [wrap_u64']; omega
  have h7 : (0 : Int) ≤ ((32 - n : Nat) : Int) := by omega
  clear hx hn
  go_enter Tryd.func42, Tryd.ntmps42
  go_wp2
  rw [Ho.out]
  go_ret
  exact ⟨rfl, rfl⟩
set_option maxHeartbeats 400000 in
theorem turn_any (x n : Nat) (w : World) (hx : x < 4294967296) (hn : n < 32) : Calls Tryd.prog 45 #[.int .u32 x, .int .u64 n] w fun e w' => e = .returned (.int .u32 (rl x n : Nat)) ∧ w' = w := by
  have Ho := hide (add_rl x n hx hn)
  have h4 : (0 : Int) ≤ (n : Int) := by omega
  have h5 : (n : Int) < 32 := by omega
  have h8 : min n 32 = n := by omega
  have h6 : IntKind.u64.wrap (32 - (n : Int)) = ((32 - n : Nat) : Int) := by rw [wrap_u64']; omega
  have h7 : (0 : Int) ≤ ((32 - n : Nat) : Int) := by omega
  clear hx hn
  go_enter Tryd.func45, Tryd.ntmps45
  go_wp2
  rw [Ho.out]
  go_ret
  exact ⟨rfl, rfl⟩
set_option maxHeartbeats 400000 in
theorem mixed_any (x y z n : Nat) (w : World) (hz : z < 4294967296) (hn : n < 32) : Calls Tryd.prog 28 #[.int .u32 x, .int .u32 y, .int .u32 z, .int .i64 n] w fun e w' => e = .returned (.tuple #[.int .u32 (ad x y : Nat), .int .u32 (rl (z ^^^ ad x y) n : Nat)]) ∧ w' = w := by
  have h1 := add_nat x y
  have hx := ad_lt x y
  have h2 := xor_nat z (ad x y) hz hx
  have hk := xor_lt32 hz hx
  generalize ad x y = s at *
  generalize z ^^^ s = k at *
  have R := fun (w : World) => rotl_any k n w hk hn
  have HR := hide R
  clear R hz hn hx hk
  go_enter Tryd.func28, Tryd.ntmps28
  go_wp2_with (go_at_call 42; refine (HR.out _).mono ?_; rintro e w1 ⟨rfl, rfl⟩; dsimp only)
  go_ret2
  exact ⟨by rw [← h1]; rfl, rfl⟩
theorem turn_c (x n : Nat) (hx : x < 4294967296) (hn : n < 32) (w : World) : Ret 45 #[.int .u32 x, .int .u64 n] w (.int .u32 (rl x n : Nat)) := (turn_any x n w hx hn).mono fun _ _ h => ⟨h.1, h.2 ▸ Below.refl _ _⟩
theorem mixed_c (x y z n : Nat) (hz : z < 4294967296) (hn : n < 32) (w : World) : Ret 28 #[.int .u32 x, .int .u32 y, .int .u32 z, .int .i64 n] w (.tuple #[.int .u32 (ad x y : Nat), .int .u32 (rl (z ^^^ ad x y) n : Nat)]) := (mixed_any x y z n w hz hn).mono fun _ _ h => ⟨h.1, h.2 ▸ Below.refl _ _⟩
end Go.Proofs.YtanahjoiilfcbaaDoor.C

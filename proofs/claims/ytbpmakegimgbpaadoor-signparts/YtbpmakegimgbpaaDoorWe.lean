/- Walks: Mul64, the closure of Mul. -/
import Derived.Test.YtbpmakegimgbpaaDoorWc
import Derived.Lib.Mul64
import Derived.Laws.MathBits
namespace Go.Proofs.YtbpmakegimgbpaaDoor.F
open Go.RowKit

set_option maxHeartbeats 400000 in
theorem mul64_any (x y : Nat) (w : World) (hx : x < 2 ^ 64) (hy : y < 2 ^ 64) :
    Calls Tryd.prog 62 #[.int .u64 x, .int .u64 y] w fun e w' => e = .returned (.tuple #[.int .u64 (x * y / 2 ^ 64 : Nat), .int .u64 (x * y % 2 ^ 64 : Nat)]) ∧ w' = w := by
  have Hh := hide (mul_hi x y hx hy)
  clear hx hy
  go_enter Tryd.func62, Tryd.ntmps62
  go_wp2
  go_ret2
  exact ⟨ret_two Hh.out (mul_lo x y), rfl⟩

theorem mul64_at (x y : Nat) (args : Array Value) (w : World) (h : args = #[.int .u64 x, .int .u64 y]) (hx : x < 2 ^ 64) (hy : y < 2 ^ 64) (hi lo : Nat) (hh : hi = x * y / 2 ^ 64) (hl : lo = x * y % 2 ^ 64) :
    Calls Tryd.prog 62 args w fun e w' => e = .returned (.tuple #[.int .u64 hi, .int .u64 lo]) ∧ w' = w := by
  subst h hh hl; exact mul64_any x y w hx hy

theorem add_lit (x y s o : Nat) (hs : s = (x + y) % 2 ^ 64) (ho : o = (x + y) / 2 ^ 64) (w : World) : (callFunc 60 #[.int .u64 x, .int .u64 y, .int .u64 0]).run Tryd.prog w =
      .ok (.value (.tuple #[.int .u64 s, .int .u64 o])) w := by
  have := run_add x y 0 (by omega) w
  rw [hs, ho]; exact this

set_option maxHeartbeats 400000 in
/-- The closure: low half told, high half kept in the captured cell. -/
theorem halves_any (x y m c : Nat) (b : Nat) (w : World) (hx : x < 2 ^ 64) (hy : y < 2 ^ 64) (hm : m < 2 ^ 64) (hc : c < 2 ^ 64) (hB : Blk w b #[.int .u64 c] 36) :
    Calls Tryd.prog 61 #[.int .u64 x, .int .u64 y, .int .u64 m, .pointer (some ⟨b, 0, none⟩)] w fun e w' => e = .returned (.int .u64 ((x * y + m + c) % 2 ^ 64 : Nat)) ∧ w' = w.setCell ⟨b, 0, none⟩ (.int .u64 ((x * y + m + c) / 2 ^ 64 : Nat)) := by
  obtain ⟨n1, n2, n3, n4⟩ := halves_num x y m c hx hy hm hc
  have a1 := add_lit (x * y % 2 ^ 64) m _ _ rfl rfl
  have a2 := add_lit ((x * y % 2 ^ 64 + m) % 2 ^ 64) c _ _ rfl rfl
  have w1 : IntKind.u64.wrap (((x * y / 2 ^ 64 : Nat) : Int) + (((x * y % 2 ^ 64 + m) / 2 ^ 64 : Nat) : Int)) = ((x * y / 2 ^ 64 + (x * y % 2 ^ 64 + m) / 2 ^ 64 : Nat) : Int) := by rw [wrap_u64']; omega
  have w2 : IntKind.u64.wrap (((x * y / 2 ^ 64 + (x * y % 2 ^ 64 + m) / 2 ^ 64 : Nat) : Int) + ((((x * y % 2 ^ 64 + m) % 2 ^ 64 + c) / 2 ^ 64 : Nat) : Int)) = (((x * y + m + c) / 2 ^ 64 : Nat) : Int) := by rw [wrap_u64']; omega
  have M := hide (fun w => mul64_at x y #[.int .u64 x, .int .u64 y] w rfl hx hy _ _ rfl rfl)
  rw [← n4]
  clear n1 n2 n3 n4 hx hy hm hc
  generalize ((x * y % 2 ^ 64 + m) % 2 ^ 64 + c) % 2 ^ 64 = s2 at *
  generalize ((x * y % 2 ^ 64 + m) % 2 ^ 64 + c) / 2 ^ 64 = o2 at *
  generalize (x * y + m + c) / 2 ^ 64 = g2 at *
  generalize x * y / 2 ^ 64 + (x * y % 2 ^ 64 + m) / 2 ^ 64 = g1 at *
  generalize (x * y % 2 ^ 64 + m) % 2 ^ 64 = s1 at *
  generalize (x * y % 2 ^ 64 + m) / 2 ^ 64 = o1 at *
  generalize x * y / 2 ^ 64 = hi at *
  generalize x * y % 2 ^ 64 = lo at *
  obtain ⟨hc, hf⟩ := hB.rules
  clear hB
  go_enter Tryd.func61, Tryd.ntmps61
  go_wp2_with fail
  refine (M.out _).mono ?_
  rintro e w' ⟨rfl, rfl⟩
  dsimp only
  go_wp2
  go_ret
  exact ⟨rfl, rfl⟩

end Go.Proofs.YtbpmakegimgbpaaDoor.F

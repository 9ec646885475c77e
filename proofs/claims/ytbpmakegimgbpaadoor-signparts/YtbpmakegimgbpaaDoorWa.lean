/- Walks. -/
import Derived.Test.YtbpmakegimgbpaaDoorProg
import Derived.Test.YtbpmakegimgbpaaDoorAa
import Derived.WalkKit
import Derived.WalkSpells
import Derived.WalkLawsBesides
import Derived.Laws.Externs
namespace Go.Proofs.YtbpmakegimgbpaaDoor.F
open Go.RowKit

theorem run_add (x y c : Nat) (hc : c ≤ 1) (w : World) :
    (callFunc 60 #[.int .u64 x, .int .u64 y, .int .u64 c]).run Tryd.prog w =
      .ok (.value (.tuple #[.int .u64 ((x + y + c) % 2 ^ 64 : Nat), .int .u64 ((x + y + c) / 2 ^ 64 : Nat)])) w := by
  rw [run_callFunc_extern Tryd.func60 (by kernel_rfl) (by kernel_rfl) (by kernel_rfl) (e := add64Entry) (by kernel_rfl), run_add64 x y c (by omega) (by omega) (by omega) (by omega)]
  simp only [Result.andThen]
  congr 5 <;> omega

theorem add_ex (x y c : Nat) (hx : x < 2 ^ 64) (hy : y < 2 ^ 64) (hc : c ≤ 1) (s : Nat) (hs : s = (x + y + c) % 2 ^ 64) : ∃ c' : Nat, c' ≤ 1 ∧ c' = (x + y + c) / 2 ^ 64 ∧ ∀ w, (callFunc 60 #[.int .u64 x, .int .u64 y, .int .u64 c]).run Tryd.prog w =
      .ok (.value (.tuple #[.int .u64 s, .int .u64 c'])) w :=
  ⟨_, by omega, rfl, fun w => by rw [run_add x y c hc, hs]⟩
theorem top_bit (n : Nat) (h : n < 2 ^ 256) : limb n 3 / 2 ^ 63 = n / 2 ^ 255 := by rw [limb3]; omega
set_option maxHeartbeats 400000 in
theorem raise_any (n m : Nat) (w : World) (hm : m < 2 ^ 64) (hn : n + m < 2 ^ 256) :
    Calls Tryd.prog 78 #[fe n, .int .u64 m] w fun e w' => e = .returned (fe (n + m)) ∧ Below w.heap.size w w' := by
  obtain ⟨c0, hc0, e0, h0⟩ := add_ex (limb n 0) m 0 (limb_lt _ _) hm (by omega) (limb (n + m) 0) (by simp only [limb]; omega)
  obtain ⟨c1, hc1, e1, h1⟩ := add_ex (limb n 1) 0 c0 (limb_lt _ _) (by omega) hc0 (limb (n + m) 1) (by simp only [limb] at *; omega)
  obtain ⟨c2, hc2, e2, h2⟩ := add_ex (limb n 2) 0 c1 (limb_lt _ _) (by omega) hc1 (limb (n + m) 2) (by simp only [limb] at *; omega)
  obtain ⟨c3, hc3, e3, h3⟩ := add_ex (limb n 3) 0 c2 (limb_lt _ _) (by omega) hc2 (limb (n + m) 3) (by simp only [limb] at *; omega)
  unfold fe
  generalize limb n 0 = a at *
  generalize limb n 1 = b at *
  generalize limb n 2 = c at *
  generalize limb n 3 = d at *
  generalize limb (n + m) 0 = a' at *
  generalize limb (n + m) 1 = b' at *
  generalize limb (n + m) 2 = c' at *
  generalize limb (n + m) 3 = d' at *
  clear e0 e1 e2 e3 hc0 hc1 hc2 hc3 hn hm
  simp only [Int.natCast_zero] at h0 h1 h2 h3
  go_enter Tryd.func78, Tryd.ntmps78
  go_wp2
  refine bodyPost_ret (v := .agg #[.int .u64 a', .int .u64 b', .int .u64 c', .int .u64 d']) (by simp [results, Tryd.results78, go_sem]) rfl ⟨rfl, ?_⟩
  exact ((Below.refl _ _).alloc (Nat.le_refl _) _).alloc (by simp) _

end Go.Proofs.YtbpmakegimgbpaaDoor.F

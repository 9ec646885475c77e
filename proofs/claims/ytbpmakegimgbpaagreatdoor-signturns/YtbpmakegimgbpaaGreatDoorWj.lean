/- Walks: squares, power250. -/
import Derived.Test.YtbpmakegimgbpaaGreatDoorWf
import Derived.Test.YtbpmakegimgbpaaGreatDoorWg
import Derived.Deep.DeepCutAuto
namespace Go.Proofs.YtbpmakegimgbpaaGreatDoor.F
set_option maxRecDepth 100000
open Go.RowKit

def pm (x e : Nat) : Nat := x ^ e % pP
theorem pP_pos : 0 < pP := by unfold pP; omega
theorem pm_lt (x e : Nat) : pm x e < pP := Nat.mod_lt _ pP_pos
theorem pm_one (x : Nat) (h : x < pP) : pm x 1 = x := by unfold pm; rw [Nat.pow_one, Nat.mod_eq_of_lt h]
theorem pm_mul (x a b : Nat) : pm x a * pm x b % pP = pm x (a + b) := by
  unfold pm; rw [← Nat.mul_mod, Nat.pow_add]
theorem pm_mul' (x a b c : Nat) (h : a + b = c) : pm x a * pm x b % pP = pm x c := by subst h; exact pm_mul x a b
theorem pm_pm (x a b : Nat) : pm (pm x a) b = pm x (a * b) := by
  unfold pm; rw [← Nat.pow_mod, Nat.pow_mul]
theorem pm_sq (x k : Nat) : pm x (2 ^ k) * pm x (2 ^ k) % pP = pm x (2 ^ (k + 1)) := pm_mul' x _ _ _ (by rw [Nat.pow_succ]; omega)

theorem square_at (x : Nat) (args : Array Value) (w : World) (h : args = #[fe x]) (hx : x < pP) :
    Calls Tryz.prog 50 args w fun e w' => e = .returned (fe ((x * x) % pP)) ∧ Below w.heap.size w w' := by
  subst h; exact square_any x w hx

set_option maxHeartbeats 400000 in
theorem squares_any (x t : Nat) (w : World) (hx : x < pP) (ht : t < 1000) :
    Calls Tryz.prog 95 #[fe x, .int .i64 t] w fun e w' => e = .returned (fe (pm x (2 ^ t))) ∧ Below w.heap.size w w' := by
  have Hx := hide hx
  clear hx
  rw [fe_arr x]
  go_enter Tryz.func95, Tryz.ntmps95
  go_wp2
  go_loopw [6] (fun i wr => ∃ k : Nat, k ≤ t ∧ i = .int .i64 k ∧ Blk wr w.heap.size (arr 4 (limb (pm x (2 ^ k)))) 47 ∧ (∃ z0 z1 z2 z3, Blk wr (w.heap.size + 1) #[z0, z1, z2, z3] 47) ∧ Below w.heap.size w wr) (fun i _ => t - (intOf i).toNat)
  case atStart =>
    refine ⟨0, by omega, rfl, ?_, ⟨.int .u64 0, .int .u64 0, .int .u64 0, .int .u64 0, ?_⟩, ?_⟩
    · exact ((Blk.new w _ _).alloc _).cast (by rw [Nat.pow_zero, pm_one x Hx.out])
    · exact (Blk.new' (w.alloc _) (w.heap.size + 1) (by simp) _ _)
    · exact ((Below.refl _ w).alloc (Nat.le_refl _) _).alloc (by simp) _
  case round =>
    obtain ⟨k, hk, rfl, Bx, ⟨z0, z1, z2, z3, Bz⟩, L⟩ := hrel
    rw [arr4] at Bx
    obtain ⟨c1, f1⟩ := Bx.rules
    obtain ⟨r1, r2, r3, r4⟩ := Bx.writes
    by_cases hlt : k < t
    · have HBx := hide Bx
      have HBz := hide Bz
      have HL := hide L
      clear Bx Bz L
      go_wp2_with fail
      refine (square_at (pm x (2 ^ k)) _ _ (by rw [fe_def]) (pm_lt _ _)).mono ?_
      rw [pm_sq, fe_def]
      rintro e w1 ⟨rfl, hb1⟩
      have B1 := HBx.out.call hb1
      have HE1 := hide (HBz.out.call hb1)
      have HL1 := hide (HL.out.trans (hb1.mono HL.out.size))
      clear c1 f1 r1 r2 r3 r4 hb1
      obtain ⟨c1, f1⟩ := B1.rules
      obtain ⟨r1, r2, r3, r4⟩ := B1.writes
      have HB1 := hide B1
      clear B1
      dsimp only
      go_wp2
      go_roundw
      case rel =>
        refine ⟨k + 1, by omega, by go_num, ?_, ⟨z0, z1, z2, z3, HE1.out.rowOther _ (by omega)⟩, Below.row HL1.out (Nat.le_refl _) _⟩
        rw [arr4]
        exact HB1.out.row _
      case measure => simp [intOf]; omega
    · have e4 : k = t := by omega
      subst e4
      clear hlt r1 r2 r3 r4
      obtain ⟨c2, f2⟩ := Bz.rules
      obtain ⟨r1, r2, r3, r4⟩ := Bz.writes
      have HL := hide L
      clear Bx Bz L
      go_wp2
      refine bodyPost_ret (v := fe (pm x (2 ^ k))) (by simp [results, Tryz.results95, go_sem, r3, fe_def]) rfl ⟨rfl, ?_⟩
      exact Below.row HL.out (by omega) _
theorem squares_at (x t : Nat) (args : Array Value) (w : World) (h : args = #[fe x, .int .i64 t]) (hx : x < pP) (ht : t < 1000) :
    Calls Tryz.prog 95 args w fun e w' => e = .returned (fe (pm x (2 ^ t))) ∧ Below w.heap.size w w' := by
  subst h; exact squares_any x t w hx ht

end Go.Proofs.YtbpmakegimgbpaaGreatDoor.F

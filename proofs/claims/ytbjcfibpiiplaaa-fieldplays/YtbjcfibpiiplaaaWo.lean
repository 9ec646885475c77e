/- Walks: of. -/
import Derived.Test.YtbjcfibpiiplaaaWn
import Derived.Test.YtbjcfibpiiplaaaWi
import Derived.Test.YtbjcfibpiiplaaaNum
namespace Go.Proofs.Ytbjcfibpiiplaaa
open Go.RowKit

theorem bytes_at (x : Nat) (args : Array Value) (w : World) (h : args = #[fe x]) :
    Calls Try.prog 14 args w fun e w' => e = .returned (ba (byt x)) ∧ Below w.heap.size w w' := by
  subst h; exact bytes_any x w
theorem add_at' (x y : Nat) (args : Array Value) (w : World) (h : args = #[fe x, fe y]) (hx : x < pP) (hy : y < pP) :
    Calls Try.prog 18 args w fun e w' => e = .returned (fe ((x + y) % pP)) ∧ Below w.heap.size w w' := by
  subst h; exact add_any x y w hx hy

def oneB (n : Nat) (i : Nat) : Nat := if i = 0 then n else 0
theorem one_lits (n : Nat) : (#[.int .u8 (n : Nat), .int .u8 0, .int .u8 0, .int .u8 0, .int .u8 0, .int .u8 0, .int .u8 0, .int .u8 0, .int .u8 0, .int .u8 0, .int .u8 0, .int .u8 0, .int .u8 0, .int .u8 0, .int .u8 0, .int .u8 0, .int .u8 0, .int .u8 0, .int .u8 0, .int .u8 0, .int .u8 0, .int .u8 0, .int .u8 0, .int .u8 0, .int .u8 0, .int .u8 0, .int .u8 0, .int .u8 0, .int .u8 0, .int .u8 0, .int .u8 0, .int .u8 0] : Array Value) = vals .u8 32 (oneB n) := rfl
theorem nb_one (n : Nat) : ∀ k, nb (oneB n) (k + 1) = n
  | 0 => by simp [nb, oneB]
  | k + 1 => by rw [nb, nb_one n k]; simp [oneB]

theorem oneB_lt (n : Nat) (hn : n < 256) (i : Nat) : oneB n i < 256 := by unfold oneB; split <;> omega
theorem n_lt (n : Nat) (hn : n < 256) : n < pP := by unfold pP; omega
set_option maxHeartbeats 400000 in
theorem of_any (n : Nat) (w : World) (hn : n < 256) :
    Calls Try.prog 31 #[.int .u8 n] w fun e w' => e = .returned (fe n) ∧ Below w.heap.size w w' := by
  go_enter Try.func31, Try.ntmps31
  go_wp2_with fail
  refine (load_at (oneB n) _ _ (by rw [one_lits]; rfl) (oneB_lt n hn)).mono ?_
  rw [nb_one n 31, Nat.mod_eq_of_lt (n_lt n hn)]
  rintro e w1 ⟨rfl, hb1⟩
  have E1 := (Blk.new w _ _).call hb1
  have L1 : Below w.heap.size w w1 := ((Below.refl _ w).alloc (Nat.le_refl _) _).trans (hb1.mono (by simp))
  obtain ⟨c2, f2⟩ := E1.rules
  obtain ⟨r1, r2, r3, r4⟩ := E1.writes
  rw [fe_def]
  have HL1 := hide L1
  clear E1 L1 hb1
  dsimp only
  go_wp2
  refine bodyPost_ret (v := fe n) (by simp [results, Try.results31, go_sem, r3, fe_def]) rfl ⟨rfl, ?_⟩
  exact Below.row HL1.out (Nat.le_refl _) _
theorem of_at (n : Nat) (args : Array Value) (w : World) (h : args = #[.int .u8 n]) (hn : n < 256) :
    Calls Try.prog 31 args w fun e w' => e = .returned (fe n) ∧ Below w.heap.size w w' := by
  subst h; exact of_any n w hn

/-! What the calls of awake tell. -/
open Num in
theorem pm_pw (x e r : Nat) (he : e < 2 ^ 256) (h : pw pP 256 x e 1 % pP = r) : pm x e = r := pow_of_pw pP 256 x e r he h
theorem ones_pw (x m r : Nat) (he : 2 ^ m - 1 < 2 ^ 256) (h : Num.pw pP 256 x (2 ^ m - 1) 1 % pP = r) : ones x m = r := pm_pw x _ r he h
def bigB (i : Nat) : Nat := if i = 0 then 238 else if i < 31 then 255 else if i = 31 then 127 else 0
end Go.Proofs.Ytbjcfibpiiplaaa

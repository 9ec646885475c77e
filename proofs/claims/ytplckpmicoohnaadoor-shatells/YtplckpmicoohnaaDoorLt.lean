/- ShaTells' walk: for all bytes the law returns true. -/
import Derived.Test.YtplckpmicoohnaaDoorLn
import Derived.Test.YtplckpmicoohnaaDoorRd
namespace Go.Proofs.YtplckpmicoohnaaDoor
open Go.RowKit

set_option maxRecDepth 100000 in
set_option maxHeartbeats 4000000 in
theorem tells_walk (A : Option Addr) (l : List Nat) (cap : Nat) (w : World) (hG : Glob w) (hA : Rds w A l) (hcap : l.length ≤ cap) (hl : ∀ x ∈ l, x < 256) :
    Calls Tryd.prog 3 #[.slice A l.length cap] w fun e w' => e = .returned (.bool true) ∧ Below w.heap.size w w' := by
  have HG := hide hG
  have HA := hide hA
  have Hcap := hide hcap
  have Hl := hide hl
  clear hG hA hcap hl
  go_enter Tryd.func3, Tryd.ntmps3
  go_upto_region 2 with (go_at_call 8; refine (awake_at _ _ rfl HG.out).mono ?_; rintro e w1 ⟨rfl, hb⟩; have L1 := hide hb; clear hb; dsimp only)
  by_cases hlen : 2000 < l.length
  · have hi : (2000 : Int) < (l.length : Int) := by omega
    go_wp2
    go_ret
    exact ⟨rfl, L1.out⟩
  have hi : ¬ (2000 : Int) < (l.length : Int) := by omega
  have Hlen := hide hlen
  clear hlen
  have q1 := eq_self (dg l)
  go_wp2_with (first
    | (go_at_call 9; refine (all_one A l cap w1.heap.size 22 _ _ rfl (Blk.new w1 _ _) (HG.out.low (L1.out.alloc L1.out.size _)) (HA.out.low (L1.out.alloc L1.out.size _)) Hcap.out Hl.out (by have := Hlen.out; omega)).mono ?_; rintro e k11 ⟨rfl, hb⟩; have L_11 := hide (keepLow2 (L1.out.alloc L1.out.size _) hb); clear hb L1; dsimp only)
    | (go_at_call 10; refine (rSum_at A l cap _ _ rfl (HA.out.low L_11.out) Hcap.out Hl.out (by have := Hlen.out; omega)).mono ?_; rintro e k12 ⟨rfl, hb⟩; have L_12 := hide (keepLow2 L_11.out hb); clear hb L_11; dsimp only)
    | (go_at_call 11; refine (new_any _).mono ?_; rintro e k13 ⟨rfl, hb⟩; have L_13 := hide (keepLow2 L_12.out hb); clear hb L_12; dsimp only)
    | (go_at_call 12; refine (write_n (fun _ => 0) (fun _ => 0) 0 [] l l A cap _ _ rfl (HG.out.low L_13.out) rep_none Hl.out (HA.out.low L_13.out) Hcap.out (by have := Hlen.out; show 0 + l.length < _; omega) rfl).mono ?_; rintro e k14 ⟨r1, f1, n1, rfl, hR1, hb⟩; have L_14 := hide (keepLow2 L_13.out hb); have HR1 := hide hR1; clear hR1; clear hb L_13; dsimp only)
    | (go_at_call 13; refine (sum_n r1 f1 n1 l l _ _ rfl (HG.out.low L_14.out) HR1.out (by have := Hlen.out; omega) rfl).mono ?_; rintro e k15 ⟨rfl, hb⟩; have L_15 := hide (keepLow2 L_14.out hb); clear hb L_14; dsimp only)
    | (go_at_call 10; refine (rSum_at A l cap _ _ rfl (HA.out.low L_15.out) Hcap.out Hl.out (by have := Hlen.out; omega)).mono ?_; rintro e k16 ⟨rfl, hb⟩; have L_16 := hide (keepLow2 L_15.out hb); clear hb L_15; dsimp only))
  go_ret
  exact ⟨rfl, L_16.out⟩
end Go.Proofs.YtplckpmicoohnaaDoor

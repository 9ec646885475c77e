/- MacTells' and MacLong's walks. -/
import Derived.Test.YtaegklfomecmfaaDoorMy
namespace Go.Proofs.YtaegklfomecmfaaDoor
open Go.RowKit

set_option maxRecDepth 100000 in
set_option maxHeartbeats 4000000 in
theorem mtells_walk (h0 : SumOk) (h1 : AwakeOk) (A B : Option Addr) (k l : List Nat) (ca cb : Nat) (w : World) (hG : Glob w) (hA : Rds w A k) (hcap : k.length ≤ ca) (hk : ∀ x ∈ k, x < 256) (hB : Rds w B l) (hcb : l.length ≤ cb) (hl : ∀ x ∈ l, x < 256) :
    Calls Tryd.prog 3 #[.slice A k.length ca, .slice B l.length cb] w fun e w' => e = .returned (.bool true) ∧ Below w.heap.size w w' := by
  have H0 := hide h0
  have H1 := hide h1
  have HG := hide hG
  have HA := hide hA
  have Hca := hide hcap
  have Hk := hide hk
  have HB := hide hB
  have Hcb := hide hcb
  have Hl := hide hl
  clear h0 h1 hG hA hcap hk hB hcb hl
  go_enter Tryd.func3, Tryd.ntmps3
  go_upto_region 2 with (go_at_call 8; refine (H1.out _ _ rfl HG.out).mono ?_; rintro e w1 ⟨rfl, hb⟩; have L1 := hide hb; clear hb; dsimp only)
  clear H1
  by_cases hlk : 1000 < k.length
  · have hi : (1000 : Int) < (k.length : Int) := by omega
    go_wp2
    go_ret
    exact ⟨rfl, L1.out⟩
  have hi : ¬ (1000 : Int) < (k.length : Int) := by omega
  have Hlk := hide hlk
  clear hlk
  by_cases hll : 1000 < l.length
  · have hj : (1000 : Int) < (l.length : Int) := by omega
    go_wp2
    go_ret
    exact ⟨rfl, L1.out⟩
  have hj : ¬ (1000 : Int) < (l.length : Int) := by omega
  have Hll := hide hll
  clear hll
  obtain ⟨f, hf⟩ : ∃ f, f = mc k l := ⟨_, rfl⟩
  have Hf := hide hf
  clear hf
  have q1 := eq_self f
  go_wp2_with (first
    | (go_at_call 9; refine (mac_onef f H0.out A B k l Hf.out ca cb w1.heap.size 22 _ _ rfl (Blk.new w1 _ _) (HG.out.low (L1.out.alloc L1.out.size _)) (HA.out.low (L1.out.alloc L1.out.size _)) Hca.out Hk.out (HB.out.low (L1.out.alloc L1.out.size _)) Hcb.out Hl.out (by have := Hlk.out; omega) (by have := Hll.out; omega)).mono ?_; rintro e k11 ⟨rfl, hb⟩; have L_11 := hide (keepLow2 (L1.out.alloc L1.out.size _) hb); clear hb L1; dsimp only)
    | (go_at_call 10; refine (rmac_f f A B k l Hf.out ca cb _ _ rfl (HA.out.low L_11.out) Hca.out Hk.out (by have := Hlk.out; omega) (HB.out.low L_11.out) Hcb.out Hl.out (by have := Hll.out; omega)).mono ?_; rintro e k12 ⟨rfl, hb⟩; have L_12 := hide (keepLow2 L_11.out hb); clear hb L_11; dsimp only))
  go_ret
  exact ⟨rfl, L_12.out⟩
end Go.Proofs.YtaegklfomecmfaaDoor

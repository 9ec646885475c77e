/- KdfNames' walk. -/
import Derived.Test.YtjnjedannpnjiaaDoorXg
namespace Go.Proofs.YtjnjedannpnjiaaDoor
open Go.RowKit

set_option maxRecDepth 100000 in
set_option maxHeartbeats 4000000 in
theorem names_walk (h0 : SumOk) (w : World) (hG : Glob w) : Calls Tryd.prog 3 #[] w fun e w' => e = .returned (.bool true) ∧ Below w.heap.size w w' := by
  have H0 := hide h0
  have HG := hide hG
  clear h0 hG
  go_enter Tryd.func3, Tryd.ntmps3
  go_wp2_with (go_at_call 9; refine (awake_at H0.out _ _ rfl HG.out).mono ?_; rintro e w1 ⟨rfl, hb⟩; have L1 := hide hb; clear hb; dsimp only)
  go_ret
  exact ⟨rfl, L1.out⟩
/-- Expand's answer, read. -/
theorem expand_rds (h0 : SumOk) (A C : Option Addr) (k u t : List Nat) (ca cc n : Nat) (args : Array Value) (w : World) (h : args = #[.slice A k.length ca, .slice C u.length cc, .int .i64 (n : Int)]) (ht : t = xp k u n) (hn : n ≤ 16320) (hG : Glob w) (hA : Rds w A k) (hca : k.length ≤ ca) (hk : ∀ x ∈ k, x < 256) (hC : Rds w C u) (hcc : u.length ≤ cc) (hu : ∀ x ∈ u, x < 256) (hs : k.length ≤ 500) (hs2 : u.length ≤ 500) :
    Calls Tryd.prog 10 args w fun e w' => ∃ g, e = .returned (.tuple #[.slice (some ⟨g, 0, none⟩) n n, .int .i64 0]) ∧ Rds w' (some ⟨g, 0, none⟩) t ∧ Below w.heap.size w w' := by
  refine (expand_at h0 A C k u ca cc n args w h hn hG hA hca hk hC hcc hu (by omega) (by omega)).mono ?_
  rintro e w' ⟨g, rfl, _, hB, hb⟩
  refine ⟨g, rfl, rds_blk hB _ fun i x hx => ?_, hb⟩
  rw [ht] at hx
  have hi := (List.getElem?_eq_some_iff.1 hx).1
  rw [xp_len] at hi
  rw [vals_get _ _ _ _ hi, List.getD_eq_getElem?_getD, hx]; rfl
theorem run_top (A : Option Addr) (len cap c : Nat) (hc : c ≤ cap) (w : World) : (Instr.slice 23 (.slice A len cap) none (some (.int .i64 (c : Int))) none).run Tryd.prog w = .ok (.slice A c cap) w := by
  have h0 : (0 : Int) ≤ (c : Int) := by omega
  have h1 : (c : Int) ≤ (cap : Int) := by omega
  have h2 : ¬ (c : Int) < 0 := by omega
  have h3 : ¬ (cap : Int) < (c : Int) := by omega
  go_simp
end Go.Proofs.YtjnjedannpnjiaaDoor

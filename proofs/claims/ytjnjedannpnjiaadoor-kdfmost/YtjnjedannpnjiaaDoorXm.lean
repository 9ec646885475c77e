/- KdfMost's walk. -/
import Derived.Test.YtjnjedannpnjiaaDoorXn
namespace Go.Proofs.YtjnjedannpnjiaaDoor
open Go.RowKit

theorem expand_len (h0 : SumOk) (A C : Option Addr) (k u : List Nat) (ca cc n : Nat) (z : Int) (hz : z = (n : Int)) (args : Array Value) (w : World) (h : args = #[.slice A k.length ca, .slice C u.length cc, .int .i64 z]) (hn : n ≤ 16320) (hG : Glob w) (hA : Rds w A k) (hca : k.length ≤ ca) (hk : ∀ x ∈ k, x < 256) (hC : Rds w C u) (hcc : u.length ≤ cc) (hu : ∀ x ∈ u, x < 256) (hs : k.length ≤ 100) (hs2 : u.length ≤ 100) :
    Calls Tryd.prog 10 args w fun e w' => (∃ g, e = .returned (.tuple #[.slice (some ⟨g, 0, none⟩) n n, .int .i64 0])) ∧ Below w.heap.size w w' := by
  subst hz
  refine (expand_at h0 A C k u ca cc n args w h hn hG hA hca hk hC hcc hu (by omega) (by omega)).mono ?_
  rintro e w' ⟨g, rfl, _, _, hb⟩
  exact ⟨⟨g, rfl⟩, hb⟩
set_option maxRecDepth 100000 in
set_option maxHeartbeats 4000000 in
theorem most_walk (h0 : SumOk) (A C : Option Addr) (k u : List Nat) (ca cc : Nat) (n : Int) (w : World) (hG : Glob w) (hA : Rds w A k) (hca : k.length ≤ ca) (hk : ∀ x ∈ k, x < 256) (hC : Rds w C u) (hcc : u.length ≤ cc) (hu : ∀ x ∈ u, x < 256) :
    Calls Tryd.prog 6 #[.slice A k.length ca, .slice C u.length cc, .int .i64 n] w fun e w' => e = .returned (.bool true) ∧ Below w.heap.size w w' := by
  have H0 := hide h0
  have HG := hide hG
  have HA := hide hA
  have Hca := hide hca
  have Hk := hide hk
  have HC := hide hC
  have Hcc := hide hcc
  have Hu := hide hu
  clear h0 hG hA hca hk hC hcc hu
  go_enter Tryd.func6, Tryd.ntmps6
  go_upto_region 2 with (go_at_call 9; refine (awake_at H0.out _ _ rfl HG.out).mono ?_; rintro e w1 ⟨rfl, hb⟩; have L1 := hide hb; clear hb; dsimp only)
  by_cases hlk : 100 < k.length
  · have hi : (100 : Int) < (k.length : Int) := by omega
    go_wp2
    go_ret
    exact ⟨rfl, L1.out⟩
  have hi : ¬ (100 : Int) < (k.length : Int) := by omega
  have Hlk := hide hlk
  clear hlk
  by_cases hll : 100 < u.length
  · have hj : (100 : Int) < (u.length : Int) := by omega
    go_wp2
    go_ret
    exact ⟨rfl, L1.out⟩
  have hj : ¬ (100 : Int) < (u.length : Int) := by omega
  have Hll := hide hll
  clear hll
  go_upto_region 5 with (go_at_call 10; refine (expand_long A C k.length u.length ca cc 16321 (by decide) _ _ rfl).mono ?_; rintro e k1 ⟨rfl, hb⟩; have L2 := hide (keepLow2 L1.out hb); clear hb L1; dsimp only)
  go_upto_region 6 with (go_at_call 10; refine (expand_neg A C k.length u.length ca cc (-1) (by decide) _ _ rfl).mono ?_; rintro e k2 ⟨rfl, hb⟩; have L3 := hide (keepLow2 L2.out hb); clear hb L2; dsimp only)
  by_cases h5 : n = 5
  · obtain ⟨N, hN⟩ : ∃ N : Nat, N = 16320 := ⟨_, rfl⟩
    have hz : (16320 : Int) = (N : Int) := by rw [hN]; rfl
    have Hz := hide hz
    have HN : Hid (N ≤ 16320) := hide (by omega)
    have hq : (N : Int) = 16320 := hz.symm
    clear hN hz
    go_upto_region 8 with (go_at_call 10; refine (expand_len H0.out A C k u ca cc N 16320 Hz.out _ _ rfl HN.out (HG.out.low L3.out) (HA.out.low L3.out) Hca.out Hk.out (HC.out.low L3.out) Hcc.out Hu.out (by have := Hlk.out; omega) (by have := Hll.out; omega)).mono ?_; rintro e k3 ⟨⟨g, rfl⟩, hb⟩; have L4 := hide (keepLow2 L3.out hb); clear hb L3; dsimp only)
    go_wp2
    go_ret
    exact ⟨rfl, L4.out⟩
  · by_cases hn : n < 16321
    · have hn2 : ¬ (16321 : Int) < n := by omega
      have hn3 : n ≤ (16321 : Int) := by omega
      have hn4 : ¬ (16321 : Int) ≤ n := by omega
      go_wp2_with (go_at_call 10; refine (expand_long A C k.length u.length ca cc 16321 (by decide) _ _ rfl).mono ?_; rintro e k3 ⟨rfl, hb⟩; have L4 := hide (keepLow2 L3.out hb); clear hb L3; dsimp only)
      go_ret
      exact ⟨rfl, L4.out⟩
    · have hn3 : (16321 : Int) ≤ n := by omega
      have Hn : Hid (16320 < n) := hide (by omega)
      go_wp2_with (go_at_call 10; refine (expand_long A C k.length u.length ca cc n Hn.out _ _ rfl).mono ?_; rintro e k3 ⟨rfl, hb⟩; have L4 := hide (keepLow2 L3.out hb); clear hb L3; dsimp only)
      go_ret
      exact ⟨rfl, L4.out⟩
end Go.Proofs.YtjnjedannpnjiaaDoor

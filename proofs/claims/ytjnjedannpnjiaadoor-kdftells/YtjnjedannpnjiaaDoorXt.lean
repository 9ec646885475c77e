/- KdfTells' walk. -/
import Derived.Test.YtjnjedannpnjiaaDoorXk
namespace Go.Proofs.YtjnjedannpnjiaaDoor
open Go.RowKit

set_option maxRecDepth 100000 in
set_option maxHeartbeats 4000000 in
theorem tells_walk (h0 : SumOk) (A C : Option Addr) (k u : List Nat) (ca cc : Nat) (n : Int) (w : World) (hG : Glob w) (hA : Rds w A k) (hca : k.length ≤ ca) (hk : ∀ x ∈ k, x < 256) (hC : Rds w C u) (hcc : u.length ≤ cc) (hu : ∀ x ∈ u, x < 256) :
    Calls Tryd.prog 4 #[.slice A k.length ca, .slice C u.length cc, .int .i64 n] w fun e w' => e = .returned (.bool true) ∧ Below w.heap.size w w' := by
  have H0 := hide h0
  have HG := hide hG
  have HA := hide hA
  have Hca := hide hca
  have Hk := hide hk
  have HC := hide hC
  have Hcc := hide hcc
  have Hu := hide hu
  clear h0 hG hA hca hk hC hcc hu
  go_enter Tryd.func4, Tryd.ntmps4
  go_upto_region 2 with (go_at_call 9; refine (awake_at H0.out _ _ rfl HG.out).mono ?_; rintro e w1 ⟨rfl, hb⟩; have L1 := hide hb; clear hb; dsimp only)
  by_cases hlk : 500 < k.length
  · have hi : (500 : Int) < (k.length : Int) := by omega
    go_wp2
    go_ret
    exact ⟨rfl, L1.out⟩
  have hi : ¬ (500 : Int) < (k.length : Int) := by omega
  have Hlk := hide hlk
  clear hlk
  by_cases hll : 500 < u.length
  · have hj : (500 : Int) < (u.length : Int) := by omega
    go_wp2
    go_ret
    exact ⟨rfl, L1.out⟩
  have hj : ¬ (500 : Int) < (u.length : Int) := by omega
  have Hll := hide hll
  clear hll
  obtain ⟨f, hf⟩ : ∃ f, f = mc k u := ⟨_, rfl⟩
  have Hf := hide hf
  clear hf
  by_cases hneg : n < 0
  · have Hn := hide hneg
    have h1 : ¬ (1000 : Int) < n := by omega
    clear hneg
    go_upto_region 5 with (go_at_call 10; refine (expand_neg A C k.length u.length ca cc n Hn.out _ _ rfl).mono ?_; rintro e k2 ⟨rfl, hb⟩; have L2 := hide (keepLow2 L1.out hb); clear hb L1; dsimp only)
    go_upto_region 6 with (go_at_call 11; refine (rexpand_neg A C k.length u.length ca cc n Hn.out _ _ rfl).mono ?_; rintro e k3 ⟨rfl, hb⟩; have L3 := hide (keepLow2 L2.out hb); clear hb L2; dsimp only)
    have hcA := conv_n k3 none [] 0 0 rfl (Or.inl rfl) (fun x hx => by cases hx)
    have q1 := eq_self f
    go_wp2_with (first
      | (go_at_call 12; refine (ext_at f H0.out A C k u Hf.out ca cc _ _ rfl (HG.out.low L3.out) (HA.out.low L3.out) Hca.out Hk.out (HC.out.low L3.out) Hcc.out Hu.out (by have := Hlk.out; omega) (by have := Hll.out; omega)).mono ?_; rintro e k4 ⟨rfl, hb⟩; have L4 := hide (keepLow2 L3.out hb); clear hb L3; dsimp only)
      | (go_at_call 13; refine (rext_at f A C k u Hf.out ca cc _ _ rfl (HA.out.low L4.out) Hca.out Hk.out (HC.out.low L4.out) Hcc.out Hu.out (by have := Hlk.out; omega) (by have := Hll.out; omega)).mono ?_; rintro e k5 ⟨rfl, hb⟩; have L5 := hide (keepLow2 L4.out hb); clear hb L4; dsimp only))
    go_ret
    exact ⟨rfl, L5.out⟩
  by_cases hlong : 16320 < n
  · have Hn := hide hlong
    have h1 : (1000 : Int) < n := by omega
    have h2 : ¬ n ≤ (16320 : Int) := by omega
    clear hneg hlong
    go_upto_region 5 with (go_at_call 10; refine (expand_long A C k.length u.length ca cc n Hn.out _ _ rfl).mono ?_; rintro e k2 ⟨rfl, hb⟩; have L2 := hide (keepLow2 L1.out hb); clear hb L1; dsimp only)
    go_upto_region 6 with (go_at_call 11; refine (rexpand_long A C k.length u.length ca cc n Hn.out _ _ rfl).mono ?_; rintro e k3 ⟨rfl, hb⟩; have L3 := hide (keepLow2 L2.out hb); clear hb L2; dsimp only)
    have hcA := conv_n k3 none [] 0 0 rfl (Or.inl rfl) (fun x hx => by cases hx)
    have q1 := eq_self f
    go_wp2_with (first
      | (go_at_call 12; refine (ext_at f H0.out A C k u Hf.out ca cc _ _ rfl (HG.out.low L3.out) (HA.out.low L3.out) Hca.out Hk.out (HC.out.low L3.out) Hcc.out Hu.out (by have := Hlk.out; omega) (by have := Hll.out; omega)).mono ?_; rintro e k4 ⟨rfl, hb⟩; have L4 := hide (keepLow2 L3.out hb); clear hb L3; dsimp only)
      | (go_at_call 13; refine (rext_at f A C k u Hf.out ca cc _ _ rfl (HA.out.low L4.out) Hca.out Hk.out (HC.out.low L4.out) Hcc.out Hu.out (by have := Hlk.out; omega) (by have := Hll.out; omega)).mono ?_; rintro e k5 ⟨rfl, hb⟩; have L5 := hide (keepLow2 L4.out hb); clear hb L4; dsimp only))
    go_ret
    exact ⟨rfl, L5.out⟩
  by_cases hmid : 1000 < n
  · have h2 : n ≤ (16320 : Int) := by omega
    clear hneg hlong
    go_wp2
    go_ret
    exact ⟨rfl, L1.out⟩
  obtain ⟨m, rfl⟩ : ∃ m : Nat, n = (m : Int) := ⟨n.toNat, by omega⟩
  have h1 : ¬ (1000 : Int) < (m : Int) := by omega
  have Hm : Hid (m ≤ 16320) := hide (by omega)
  obtain ⟨la, hla⟩ : ∃ la, la = xp k u m := ⟨_, rfl⟩
  have NA : Hid (la.length = m) := hide (by rw [hla, xp_len])
  have XA : Hid (∀ x ∈ la, x < 256) := hide (by rw [hla]; exact xp_lt k u m)
  have Hla := hide hla
  clear hla hneg hlong hmid
  go_upto_region 5 with (go_at_call 10; refine (expand_rds H0.out A C k u la ca cc m _ _ rfl Hla.out Hm.out (HG.out.low L1.out) (HA.out.low L1.out) Hca.out Hk.out (HC.out.low L1.out) Hcc.out Hu.out (by have := Hlk.out; omega) (by have := Hll.out; omega)).mono ?_; rintro e k2 ⟨ga, rfl, hR, hb⟩; have R2 := hide hR; have L2 := hide (keepLow2 L1.out hb); clear hb hR L1; dsimp only)
  go_upto_region 6 with (go_at_call 11; refine (rexpand_at A C k u la ca cc m _ _ rfl Hla.out Hm.out (HA.out.low L2.out) Hca.out Hk.out (HC.out.low L2.out) Hcc.out Hu.out (by have := Hlk.out; omega) (by have := Hll.out; omega)).mono ?_; rintro e k3 ⟨gb, c3, rfl, hR, hb⟩; have R3 := hide (R2.out.low hb); have S3 := hide hR; have L3 := hide (keepLow2 L2.out hb); clear hb hR L2 R2; dsimp only)
  have hcA := conv_n k3 (some ⟨ga, 0, none⟩) la m m NA.out R3.out XA.out
  have hcB := conv_n k3 gb la m c3 NA.out S3.out XA.out
  have q1 := eq_self f
  go_wp2_with (first
    | (go_at_call 12; refine (ext_at f H0.out A C k u Hf.out ca cc _ _ rfl (HG.out.low L3.out) (HA.out.low L3.out) Hca.out Hk.out (HC.out.low L3.out) Hcc.out Hu.out (by have := Hlk.out; omega) (by have := Hll.out; omega)).mono ?_; rintro e k4 ⟨rfl, hb⟩; have L4 := hide (keepLow2 L3.out hb); clear hb L3; dsimp only)
    | (go_at_call 13; refine (rext_at f A C k u Hf.out ca cc _ _ rfl (HA.out.low L4.out) Hca.out Hk.out (HC.out.low L4.out) Hcc.out Hu.out (by have := Hlk.out; omega) (by have := Hll.out; omega)).mono ?_; rintro e k5 ⟨rfl, hb⟩; have L5 := hide (keepLow2 L4.out hb); clear hb L4; dsimp only))
  go_ret
  exact ⟨rfl, L5.out⟩
end Go.Proofs.YtjnjedannpnjiaaDoor

/- Walks of the reference: Prime. -/
import Derived.Test.YtplckpmicoohnaaDoorNa
import Derived.Test.YtplckpmicoohnaaDoorCj
namespace Go.Proofs.YtplckpmicoohnaaDoor
open Go.RowKit

theorem sq_le (d p : Nat) (h : (d - 1) * (d - 1) ≤ p) (hp : p ≤ 409) : d ≤ 21 := by
  rcases Nat.lt_or_ge 21 d with h1 | h1
  · have : 21 * 21 ≤ (d - 1) * (d - 1) := Nat.mul_le_mul (by omega) (by omega)
    omega
  · exact h1
set_option maxRecDepth 100000 in
set_option maxHeartbeats 2000000 in
theorem prime_any (n : Nat) (w : World) (hn : n < 80) :
    Calls Tryd.prog 17 #[.int .i64 n] w fun e w' => e = .returned (.int .u64 (pr n : Nat)) ∧ w' = w := by
  have Hn := hide hn
  have Hpr := hide (pr_le n hn)
  go_enter Tryd.func17, Tryd.ntmps17
  go_wp2
  go_loop [3, 4] (fun pv fv => ∃ p : Nat, 1 ≤ p ∧ p ≤ pr n ∧ pv = .int .u64 p ∧ fv = .int .i64 ((cnt p : Int) - 1)) (fun pv _ => 409 - (intOf pv).toNat)
  case atStart => exact ⟨1, by omega, by have := Hpr.out; omega, rfl, by congr 1⟩
  case round =>
    obtain ⟨p, hp1, hp2, rfl, rfl⟩ := hrel
    have hp409 : p ≤ 409 := by have := Hpr.out; omega
    have hc := cnt_pr p n hp409 Hn.out
    by_cases hlt : p < pr n
    · have hcl : (cnt p : Int) - 1 < (n : Int) := by have := hc.2 hlt; omega
      have hp9 : p < 409 := by have := Hpr.out; omega
      have Hstep := hide (cnt_step p hp9)
      have hcn : cnt p < 81 := by have := hc.2 hlt; omega
      obtain ⟨q, hq⟩ : ∃ q, q = p + 1 := ⟨_, rfl⟩
      have hpw : IntKind.u64.wrap ((p : Int) + 1) = (q : Int) := by rw [wrap_u64']; omega
      have Hq := hide hq
      have hq9 : q ≤ 409 := by omega
      have hq2 : 2 ≤ q := by omega
      clear hc hq
      go_wp2
      go_loop [5, 6] (fun bv dv => ∃ d : Nat, 2 ≤ d ∧ (d - 1) * (d - 1) ≤ q ∧ dv = .int .u64 d ∧ bv = .bool (pf q d)) (fun _ dv => 22 - (intOf dv).toNat)
      case atStart => exact ⟨2, by omega, by show 1 * 1 ≤ q; omega, rfl, rfl⟩
      case round =>
        obtain ⟨d, hd2, hdq, rfl, rfl⟩ := hrel
        have hd21 := sq_le d q hdq hq9
        obtain ⟨dd, hdd⟩ : ∃ dd, dd = d * d := ⟨_, rfl⟩
        have hddl : dd ≤ 441 := by rw [hdd]; exact Nat.mul_le_mul hd21 hd21
        have hmul : IntKind.u64.wrap ((d : Int) * (d : Int)) = (dd : Int) := by
          rw [show (d : Int) * (d : Int) = (dd : Int) by rw [hdd]; simp, wrap_u64']; omega
        by_cases hle : dd ≤ q
        · have hle' : (dd : Int) ≤ (q : Int) := by omega
          have hd0 : ¬ (d : Int) = 0 := by omega
          have hdw : IntKind.u64.wrap ((d : Int) + 1) = ((d + 1 : Nat) : Int) := by rw [wrap_u64']; omega
          have hpf : pf q (d + 1) = (pf q d && (q % d != 0)) := by
            rw [pf, show decide (d < 2) = false by rw [decide_eq_false_iff_not]; omega, Bool.false_or]
          have Hpf := hide hpf
          have Hdq : Hid ((d + 1 - 1) * (d + 1 - 1) ≤ q) := hide (by rw [Nat.add_sub_cancel, ← hdd]; exact hle)
          have Hbn : Hid (((q : Int) % (d : Int) != 0) = (q % d != 0)) := hide (by
            rw [show (q : Int) % (d : Int) = ((q % d : Nat) : Int) by simp]
            rw [Bool.eq_iff_iff]; simp; omega)
          clear hpf hdd hdq
          cases hb : pf q d with
          | true =>
            rw [hb, Bool.true_and] at Hpf
            go_wp2
            go_round
            case rel => exact ⟨d + 1, by omega, Hdq.out, by go_num, by rw [Hpf.out, ← Hbn.out]⟩
            case measure => simp [intOf]; omega
          | false =>
            rw [hb, Bool.false_and] at Hpf
            go_wp2
            go_round
            case rel => exact ⟨d + 1, by omega, Hdq.out, by go_num, by rw [Hpf.out]⟩
            case measure => simp [intOf]; omega
        · have hle' : ¬ (dd : Int) ≤ (q : Int) := by omega
          have Hst := hide (pf_stop q d hq9 hd21 (by omega) hdq hq2)
          have hcw : IntKind.i64.wrap ((cnt p : Int) - 1 + 1) = (cnt p : Int) - 1 + 1 := wrap_i64_small' _ (by omega) (by omega)
          clear hdd hdq
          cases hb : pf q d with
          | true =>
            rw [hb, Hq.out] at Hst
            have Hs2 : Hid (cnt q = cnt p + 1) := hide (by rw [Hq.out, Hstep.out, ← Hst.out]; rfl)
            go_wp2
            go_round
            case rel => exact ⟨q, by omega, by have := Hq.out; omega, rfl, by congr 1; have := Hs2.out; omega⟩
            case measure => simp [intOf]; have := Hq.out; omega
          | false =>
            rw [hb, Hq.out] at Hst
            have Hs2 : Hid (cnt q = cnt p) := hide (by rw [Hq.out, Hstep.out, ← Hst.out]; rfl)
            go_wp2
            go_round
            case rel => exact ⟨q, by omega, by have := Hq.out; omega, rfl, by congr 1; have := Hs2.out; omega⟩
            case measure => simp [intOf]; have := Hq.out; omega
    · have hcl : ¬ (cnt p : Int) - 1 < (n : Int) := by
        intro h
        exact hlt (hc.1 (by omega))
      have e : p = pr n := by omega
      subst e
      go_wp2
      go_ret
      exact ⟨rfl, rfl⟩
theorem prime_at (n : Nat) (args : Array Value) (w : World) (h : args = #[.int .i64 n]) (hn : n < 80) :
    Calls Tryd.prog 17 args w fun e w' => e = .returned (.int .u64 (pr n : Nat)) ∧ w' = w := by
  subst h; exact prime_any n w hn
end Go.Proofs.YtplckpmicoohnaaDoor

/- Walks. -/
import Derived.Test.YtbpmakegimgbpaaDoorWa
import Derived.Laws.BitsAllLaws
namespace Go.Proofs.YtbpmakegimgbpaaDoor.F
open Go.RowKit

theorem raise_at (n m : Nat) (args : Array Value) (w : World) (h : args = #[fe n, .int .u64 m]) (hm : m < 2 ^ 64) (hn : n + m < 2 ^ 256) :
    Calls Tryd.prog 78 args w fun e w' => e = .returned (fe (n + m)) ∧ Below w.heap.size w w' := by
  subst h; exact raise_any n m w hm hn

theorem and63 (d : Nat) (h : d < 2 ^ 64) : bits .and .u64 (d : Int) 9223372036854775807 = ((d % 2 ^ 63 : Nat) : Int) := by
  have := u64_and_nat d 9223372036854775807 (by omega) (by omega)
  rw [show ((9223372036854775807 : Nat) : Int) = 9223372036854775807 from rfl] at this
  rw [this, show 9223372036854775807 = 2 ^ 63 - 1 from rfl, Nat.and_two_pow_sub_one_eq_mod]

theorem or_above (v q : Nat) (hv : v < 2 ^ 58) (h : q ≤ 1) : bits .or .u64 ((v : Int) * 2) (q : Int) = ((2 * v + q : Nat) : Int) := by
  have e1 : (v : Int) * 2 = ((2 * v : Nat) : Int) := by omega
  rw [e1, u64_or_nat _ _ (by omega) (by omega), nat_join 1 _ _ (by omega) (by omega)]

def pP : Nat := 2 ^ 255 - 19

theorem settle_val (n v : Nat) (hn : n < 2 ^ 256) (hv : v < 2 ^ 58) :
    (n % 2 ^ 255 + 19 * (2 * v + limb n 3 / 2 ^ 63) + 19 * (limb (n % 2 ^ 255 + 19 * (2 * v + limb n 3 / 2 ^ 63) + 19) 3 / 2 ^ 63)) % 2 ^ 255 = (n + v * 2 ^ 256) % pP := by
  simp only [pP]
  rw [top_bit n hn, top_bit _ (by omega)]
  generalize hm : n % 2 ^ 255 + 19 * (2 * v + n / 2 ^ 255) = m
  have hb : n / 2 ^ 255 ≤ 1 := by omega
  have hm2 : m < 2 ^ 255 + 2 ^ 64 := by omega
  have e3 : n + v * 2 ^ 256 = m + (2 ^ 255 - 19) * (2 * v + n / 2 ^ 255) := by omega
  rw [e3, Nat.add_mul_mod_self_left]
  by_cases h : m < 2 ^ 255 - 19
  · rw [Nat.mod_eq_of_lt h]; omega
  · have e4 : (m + 19) / 2 ^ 255 = 1 := by omega
    rw [Nat.mod_eq_sub_mod (by omega), Nat.mod_eq_of_lt (by omega), e4]; omega

theorem fe_low (n d : Nat) (hd : d = limb n 3) : fe (n % 2 ^ 255) = .agg #[.int .u64 (limb n 0 : Nat), .int .u64 (limb n 1 : Nat), .int .u64 (limb n 2 : Nat), .int .u64 (d % 2 ^ 63 : Nat)] := by
  subst hd
  have h0 : limb (n % 2 ^ 255) 0 = limb n 0 := by rw [limb0, limb0]; omega
  have h1 : limb (n % 2 ^ 255) 1 = limb n 1 := by rw [limb1, limb1]; omega
  have h2 : limb (n % 2 ^ 255) 2 = limb n 2 := by rw [limb2, limb2]; omega
  have h3 : limb (n % 2 ^ 255) 3 = limb n 3 % 2 ^ 63 := by rw [limb3, limb3]; omega
  simp only [fe, h0, h1, h2, h3]

theorem idx3 (x0 x1 x2 x3 : Value) (w : World) : (Instr.index 37 (.agg #[x0, x1, x2, x3]) (.int .i64 3)).run Tryd.prog w = .ok x3 w := by kernel_rfl
theorem lt_of_le1 {q : Nat} (h : q ≤ 1) : 19 * q < 2 ^ 64 := by omega
set_option maxHeartbeats 400000 in
theorem settle_any (n v : Nat) (w : World) (hn : n < 2 ^ 256) (hv : v < 2 ^ 58) :
    Calls Tryd.prog 55 #[fe n, .int .u64 v] w fun e w' => e = .returned (fe ((n + v * 2 ^ 256) % pP)) ∧ Below w.heap.size w w' := by
  have hval := settle_val n v hn hv
  have hq1 : limb n 3 / 2 ^ 63 ≤ 1 := by have := limb_lt n 3; omega
  have ha : n % 2 ^ 255 + 19 * (2 * v + limb n 3 / 2 ^ 63) < 2 ^ 255 + 2 ^ 64 := by omega
  have Hm1 : Hid (19 * (2 * v + limb n 3 / 2 ^ 63) < 2 ^ 64) := hide (by omega)
  have Ha := hide (and63 (limb n 3) (limb_lt n 3))
  have Hs : Hid ((limb n 3 : Int) / 9223372036854775808 = ((limb n 3 / 2 ^ 63 : Nat) : Int)) := hide (by omega)
  have Ho := hide (or_above v (limb n 3 / 2 ^ 63) hv hq1)
  have Hw : Hid (IntKind.u64.wrap (19 * ((2 * v + limb n 3 / 2 ^ 63 : Nat) : Int)) = ((19 * (2 * v + limb n 3 / 2 ^ 63) : Nat) : Int)) := hide (by rw [wrap_u64']; omega)
  have Hf := hide (fe_low n (limb n 3) rfl)
  rw [← hval, fe_def n]
  generalize hn2 : n % 2 ^ 255 + 19 * (2 * v + limb n 3 / 2 ^ 63) = n2 at *
  have Hn2 := hide hn2
  clear hn2 hval
  generalize hm1 : 19 * (2 * v + limb n 3 / 2 ^ 63) = m1 at *
  clear hm1
  generalize hm1 : 2 * v + limb n 3 / 2 ^ 63 = ab at *
  clear hm1
  have hr1 : limb (n2 + 19) 3 / 2 ^ 63 ≤ 1 := by have := limb_lt (n2 + 19) 3; omega
  have Hs2 : Hid ((limb (n2 + 19) 3 : Int) / 9223372036854775808 = ((limb (n2 + 19) 3 / 2 ^ 63 : Nat) : Int)) := hide (by omega)
  have Hn2b : Hid (n2 + 19 < 2 ^ 256) := hide (by omega)
  have Hn3b : Hid (n2 + 19 * (limb (n2 + 19) 3 / 2 ^ 63) < 2 ^ 256) := hide (by omega)
  have Hm2 := hide (lt_of_le1 hr1)
  have Hnn : Hid (n2 < 2 ^ 256) := hide (by omega)
  generalize limb n 3 / 2 ^ 63 = q at *
  generalize limb (n2 + 19) 3 / 2 ^ 63 = r at *
  generalize hn3 : n2 + 19 * r = n3 at *
  have Hn3 := hide hn3
  have Ha2 := hide (and63 (limb n3 3) (limb_lt n3 3))
  have Hf2 := hide (fe_low n3 (limb n3 3) rfl)
  clear hn3 hn ha
  generalize limb n 3 % 2 ^ 63 = d1 at *
  generalize limb n3 3 % 2 ^ 63 = d3 at *
  go_enter Tryd.func55, Tryd.ntmps55
  go_wp2_with fail
  rw [Ha.out, Hs.out, Ho.out, Hw.out]
  refine (raise_at (n % 2 ^ 255) m1 _ _ ?_ Hm1.out ?_).mono ?_
  · rw [Hf.out]
  · rw [Hn2.out]; exact Hnn.out
  rw [Hn2.out]
  rintro e w1 ⟨rfl, hb1⟩
  have hz : w.heap.size + 1 < w1.heap.size := by have := hb1.size; simp at this; omega
  have B1 := ((Blk.new w _ _).alloc _).call hb1
  have E1 := (Blk.new' (w.alloc _) (w.heap.size + 1) (by simp) _ _).call hb1
  have L1 : Below w.heap.size w w1 := (((Below.refl _ w).alloc (Nat.le_refl _) _).alloc (by simp) _).trans (hb1.mono (by simp; omega))
  obtain ⟨hc, hf⟩ := B1.rules
  rw [fe_def n2]
  clear hv Hm1 Ha Hs Ho Hw Hf hb1
  have HB1 := hide B1
  have HE1 := hide E1
  have HL1 := hide L1
  clear B1 E1 L1
  go_wp2_with fail
  refine (raise_at n2 19 _ _ (by rw [fe_def]; rfl) (by omega) Hn2b.out).mono ?_
  rintro e w2 ⟨rfl, hb2⟩
  have B2 := (HB1.out.set4 (.int .u64 (limb n2 0 : Nat)) (.int .u64 (limb n2 1 : Nat)) (.int .u64 (limb n2 2 : Nat)) (.int .u64 (limb n2 3 : Nat))).call hb2
  have E2 := (HE1.out.set4Other (b' := w.heap.size) (.int .u64 (limb n2 0 : Nat)) (.int .u64 (limb n2 1 : Nat)) (.int .u64 (limb n2 2 : Nat)) (.int .u64 (limb n2 3 : Nat)) (by omega)).call hb2
  have L2 : Below w.heap.size w w2 := (Below.set4 HL1.out (Nat.le_refl _) _ _ _ _).trans (hb2.mono (by simp; omega))
  have hz2 : w.heap.size + 1 < w2.heap.size := by have := hb2.size; simp at this; omega
  clear hb2 hc hf hz HB1 HE1 HL1
  obtain ⟨hc, hf⟩ := B2.rules
  rw [fe_def (n2 + 19)]
  have HB2 := hide B2
  have HE2 := hide E2
  have HL2 := hide L2
  clear B2 E2 L2
  have hi := idx3
  have Hw2 : Hid (IntKind.u64.wrap (19 * (r : Int)) = ((19 * r : Nat) : Int)) := hide (by have := Hm2.out; rw [wrap_u64']; omega)
  have Hw3 : Hid (19 * (r : Int) = ((19 * r : Nat) : Int)) := hide (by omega)
  generalize 19 * r = m2 at *
  go_wp2_with fail
  clear hi
  rw [Hs2.out]
  first | rw [Hw2.out] | rw [Hw3.out]
  refine (raise_at n2 m2 _ _ (by rw [fe_def]) Hm2.out (by rw [Hn3.out]; exact Hn3b.out)).mono ?_
  rw [Hn3.out]
  rintro e w3 ⟨rfl, hb3⟩
  have B3 := HB2.out.call hb3
  have E3 := HE2.out.call hb3
  have L3 : Below w.heap.size w w3 := HL2.out.trans (hb3.mono (by omega))
  have hz3 : w.heap.size + 1 < w3.heap.size := by have := hb3.size; omega
  clear hb3 hc hf hz2 HB2 HE2 HL2
  obtain ⟨hc, hf⟩ := B3.rules
  obtain ⟨r1, r2, r3, r4⟩ := B3.writes
  obtain ⟨r5, r6, r7, r8, r9, r10⟩ := E3.writes2 (b' := w.heap.size) (by omega)
  rw [fe_def n3]
  have HL3 := hide L3
  clear B3 E3 L3
  dsimp only
  go_wp2
  rw [Ha2.out]
  refine bodyPost_ret (v := fe (n3 % 2 ^ 255)) (by simp [results, Tryd.results55, go_sem, r9, Hf2.out]) rfl ⟨rfl, ?_⟩
  exact Below.row (Below.row HL3.out (by omega) _) (by omega) _

end Go.Proofs.YtbpmakegimgbpaaDoor.F

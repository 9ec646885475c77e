/- Texts in one: Wa Wb Wc We Wd. -/
import Derived.Test.YtbpmakegimgbpaaGreatDoorProg
import Derived.Test.YtbpmakegimgbpaaGreatDoorAa
import Derived.WalkKit
import Derived.WalkSpells
import Derived.WalkLawsBesides
import Derived.Laws.Externs
import Derived.Laws.BitsAllLaws
import Derived.Deep.RegionHeld3
import Derived.Lib.Mul64
import Derived.Laws.MathBits
namespace Go.Proofs.YtbpmakegimgbpaaGreatDoor.F
set_option maxRecDepth 100000
open Go.RowKit

theorem run_add (x y c : Nat) (hc : c ≤ 1) (w : World) :
    (callFunc 86 #[.int .u64 x, .int .u64 y, .int .u64 c]).run Tryz.prog w =
      .ok (.value (.tuple #[.int .u64 ((x + y + c) % 2 ^ 64 : Nat), .int .u64 ((x + y + c) / 2 ^ 64 : Nat)])) w := by
  rw [run_callFunc_extern Tryz.func86 (by kernel_rfl) (by kernel_rfl) (by kernel_rfl) (e := add64Entry) (by kernel_rfl), run_add64 x y c (by omega) (by omega) (by omega) (by omega)]
  simp only [Result.andThen]
  congr 5 <;> omega

theorem add_ex (x y c : Nat) (hx : x < 2 ^ 64) (hy : y < 2 ^ 64) (hc : c ≤ 1) (s : Nat) (hs : s = (x + y + c) % 2 ^ 64) : ∃ c' : Nat, c' ≤ 1 ∧ c' = (x + y + c) / 2 ^ 64 ∧ ∀ w, (callFunc 86 #[.int .u64 x, .int .u64 y, .int .u64 c]).run Tryz.prog w =
      .ok (.value (.tuple #[.int .u64 s, .int .u64 c'])) w :=
  ⟨_, by omega, rfl, fun w => by rw [run_add x y c hc, hs]⟩
theorem top_bit (n : Nat) (h : n < 2 ^ 256) : limb n 3 / 2 ^ 63 = n / 2 ^ 255 := by rw [limb3]; omega
set_option maxHeartbeats 400000 in
theorem raise_any (n m : Nat) (w : World) (hm : m < 2 ^ 64) (hn : n + m < 2 ^ 256) :
    Calls Tryz.prog 115 #[fe n, .int .u64 m] w fun e w' => e = .returned (fe (n + m)) ∧ Below w.heap.size w w' := by
  obtain ⟨c0, hc0, e0, h0⟩ := add_ex (limb n 0) m 0 (limb_lt _ _) hm (by omega) (limb (n + m) 0) (by simp only [limb]; omega)
  obtain ⟨c1, hc1, e1, h1⟩ := add_ex (limb n 1) 0 c0 (limb_lt _ _) (by omega) hc0 (limb (n + m) 1) (by simp only [limb] at *; omega)
  obtain ⟨c2, hc2, e2, h2⟩ := add_ex (limb n 2) 0 c1 (limb_lt _ _) (by omega) hc1 (limb (n + m) 2) (by simp only [limb] at *; omega)
  obtain ⟨c3, hc3, e3, h3⟩ := add_ex (limb n 3) 0 c2 (limb_lt _ _) (by omega) hc2 (limb (n + m) 3) (by simp only [limb] at *; omega)
  unfold fe
  generalize limb n 0 = a at *
  generalize limb n 1 = b at *
  generalize limb n 2 = c at *
  generalize limb n 3 = d at *
  generalize limb (n + m) 0 = a' at *
  generalize limb (n + m) 1 = b' at *
  generalize limb (n + m) 2 = c' at *
  generalize limb (n + m) 3 = d' at *
  clear e0 e1 e2 e3 hc0 hc1 hc2 hc3 hn hm
  simp only [Int.natCast_zero] at h0 h1 h2 h3
  go_enter Tryz.func115, Tryz.ntmps115
  go_wp2
  refine bodyPost_ret (v := .agg #[.int .u64 a', .int .u64 b', .int .u64 c', .int .u64 d']) (by simp [results, Tryz.results115, go_sem]) rfl ⟨rfl, ?_⟩
  exact ((Below.refl _ _).alloc (Nat.le_refl _) _).alloc (by simp) _

end Go.Proofs.YtbpmakegimgbpaaGreatDoor.F
namespace Go.Proofs.YtbpmakegimgbpaaGreatDoor.F
set_option maxRecDepth 100000
open Go.RowKit

theorem raise_at (n m : Nat) (args : Array Value) (w : World) (h : args = #[fe n, .int .u64 m]) (hm : m < 2 ^ 64) (hn : n + m < 2 ^ 256) :
    Calls Tryz.prog 115 args w fun e w' => e = .returned (fe (n + m)) ∧ Below w.heap.size w w' := by
  subst h; exact raise_any n m w hm hn

theorem and63 (d : Nat) (h : d < 2 ^ 64) : bits .and .u64 (d : Int) 9223372036854775807 = ((d % 2 ^ 63 : Nat) : Int) := by
  have := u64_and_nat d 9223372036854775807 (by omega) (by omega)
  rw [show ((9223372036854775807 : Nat) : Int) = 9223372036854775807 from rfl] at this
  rw [this, show 9223372036854775807 = 2 ^ 63 - 1 from rfl, Nat.and_two_pow_sub_one_eq_mod]

theorem or_above (v q : Nat) (hv : v < 2 ^ 58) (h : q ≤ 1) : bits .or .u64 ((v : Int) * 2) (q : Int) = ((2 * v + q : Nat) : Int) := by
  have e1 : (v : Int) * 2 = ((2 * v : Nat) : Int) := by omega
  rw [e1, u64_or_nat _ _ (by omega) (by omega), nat_join 1 _ _ (by omega) (by omega)]

def pP : Nat := 2 ^ 255 - 19

theorem settle_val (n v : Nat) (hn : n < 2 ^ 256) (hv : v < 2 ^ 58) :
    (n % 2 ^ 255 + 19 * (2 * v + limb n 3 / 2 ^ 63) + 19 * (limb (n % 2 ^ 255 + 19 * (2 * v + limb n 3 / 2 ^ 63) + 19) 3 / 2 ^ 63)) % 2 ^ 255 = (n + v * 2 ^ 256) % pP := by
  simp only [pP]
  rw [top_bit n hn, top_bit _ (by omega)]
  generalize hm : n % 2 ^ 255 + 19 * (2 * v + n / 2 ^ 255) = m
  have hb : n / 2 ^ 255 ≤ 1 := by omega
  have hm2 : m < 2 ^ 255 + 2 ^ 64 := by omega
  have e3 : n + v * 2 ^ 256 = m + (2 ^ 255 - 19) * (2 * v + n / 2 ^ 255) := by omega
  rw [e3, Nat.add_mul_mod_self_left]
  by_cases h : m < 2 ^ 255 - 19
  · rw [Nat.mod_eq_of_lt h]; omega
  · have e4 : (m + 19) / 2 ^ 255 = 1 := by omega
    rw [Nat.mod_eq_sub_mod (by omega), Nat.mod_eq_of_lt (by omega), e4]; omega

theorem fe_low (n d : Nat) (hd : d = limb n 3) : fe (n % 2 ^ 255) = .agg #[.int .u64 (limb n 0 : Nat), .int .u64 (limb n 1 : Nat), .int .u64 (limb n 2 : Nat), .int .u64 (d % 2 ^ 63 : Nat)] := by
  subst hd
  have h0 : limb (n % 2 ^ 255) 0 = limb n 0 := by rw [limb0, limb0]; omega
  have h1 : limb (n % 2 ^ 255) 1 = limb n 1 := by rw [limb1, limb1]; omega
  have h2 : limb (n % 2 ^ 255) 2 = limb n 2 := by rw [limb2, limb2]; omega
  have h3 : limb (n % 2 ^ 255) 3 = limb n 3 % 2 ^ 63 := by rw [limb3, limb3]; omega
  simp only [fe, h0, h1, h2, h3]

theorem idx3 (x0 x1 x2 x3 : Value) (w : World) : (Instr.index 45 (.agg #[x0, x1, x2, x3]) (.int .i64 3)).run Tryz.prog w = .ok x3 w := by kernel_rfl
theorem lt_of_le1 {q : Nat} (h : q ≤ 1) : 19 * q < 2 ^ 64 := by omega
set_option maxHeartbeats 400000 in
theorem settle_any (n v : Nat) (w : World) (hn : n < 2 ^ 256) (hv : v < 2 ^ 58) :
    Calls Tryz.prog 94 #[fe n, .int .u64 v] w fun e w' => e = .returned (fe ((n + v * 2 ^ 256) % pP)) ∧ Below w.heap.size w w' := by
  have hval := settle_val n v hn hv
  have hq1 : limb n 3 / 2 ^ 63 ≤ 1 := by have := limb_lt n 3; omega
  have ha : n % 2 ^ 255 + 19 * (2 * v + limb n 3 / 2 ^ 63) < 2 ^ 255 + 2 ^ 64 := by omega
  have Hm1 : Hid (19 * (2 * v + limb n 3 / 2 ^ 63) < 2 ^ 64) := hide (by omega)
  have Ha := hide (and63 (limb n 3) (limb_lt n 3))
  have Hs : Hid ((limb n 3 : Int) / 9223372036854775808 = ((limb n 3 / 2 ^ 63 : Nat) : Int)) := hide (by omega)
  have Ho := hide (or_above v (limb n 3 / 2 ^ 63) hv hq1)
  have Hw : Hid (IntKind.u64.wrap (19 * ((2 * v + limb n 3 / 2 ^ 63 : Nat) : Int)) = ((19 * (2 * v + limb n 3 / 2 ^ 63) : Nat) : Int)) := hide (by rw [wrap_u64']; omega)
  have Hf := hide (fe_low n (limb n 3) rfl)
  rw [← hval, fe_def n]
  generalize hn2 : n % 2 ^ 255 + 19 * (2 * v + limb n 3 / 2 ^ 63) = n2 at *
  have Hn2 := hide hn2
  clear hn2 hval
  generalize hm1 : 19 * (2 * v + limb n 3 / 2 ^ 63) = m1 at *
  clear hm1
  generalize hm1 : 2 * v + limb n 3 / 2 ^ 63 = ab at *
  clear hm1
  have hr1 : limb (n2 + 19) 3 / 2 ^ 63 ≤ 1 := by have := limb_lt (n2 + 19) 3; omega
  have Hs2 : Hid ((limb (n2 + 19) 3 : Int) / 9223372036854775808 = ((limb (n2 + 19) 3 / 2 ^ 63 : Nat) : Int)) := hide (by omega)
  have Hn2b : Hid (n2 + 19 < 2 ^ 256) := hide (by omega)
  have Hn3b : Hid (n2 + 19 * (limb (n2 + 19) 3 / 2 ^ 63) < 2 ^ 256) := hide (by omega)
  have Hm2 := hide (lt_of_le1 hr1)
  have Hnn : Hid (n2 < 2 ^ 256) := hide (by omega)
  generalize limb n 3 / 2 ^ 63 = q at *
  generalize limb (n2 + 19) 3 / 2 ^ 63 = r at *
  generalize hn3 : n2 + 19 * r = n3 at *
  have Hn3 := hide hn3
  have Ha2 := hide (and63 (limb n3 3) (limb_lt n3 3))
  have Hf2 := hide (fe_low n3 (limb n3 3) rfl)
  clear hn3 hn ha
  generalize limb n 3 % 2 ^ 63 = d1 at *
  generalize limb n3 3 % 2 ^ 63 = d3 at *
  go_enter Tryz.func94, Tryz.ntmps94
  go_wp2_with fail
  rw [Ha.out, Hs.out, Ho.out, Hw.out]
  refine (raise_at (n % 2 ^ 255) m1 _ _ ?_ Hm1.out ?_).mono ?_
  · rw [Hf.out]
  · rw [Hn2.out]; exact Hnn.out
  rw [Hn2.out]
  rintro e w1 ⟨rfl, hb1⟩
  have hz : w.heap.size + 1 < w1.heap.size := by have := hb1.size; simp at this; omega
  have B1 := ((Blk.new w _ _).alloc _).call hb1
  have E1 := (Blk.new' (w.alloc _) (w.heap.size + 1) (by simp) _ _).call hb1
  have L1 : Below w.heap.size w w1 := (((Below.refl _ w).alloc (Nat.le_refl _) _).alloc (by simp) _).trans (hb1.mono (by simp; omega))
  obtain ⟨hc, hf⟩ := B1.rules
  rw [fe_def n2]
  clear hv Hm1 Ha Hs Ho Hw Hf hb1
  have HB1 := hide B1
  have HE1 := hide E1
  have HL1 := hide L1
  clear B1 E1 L1
  go_wp2_with fail
  refine (raise_at n2 19 _ _ (by rw [fe_def]; rfl) (by omega) Hn2b.out).mono ?_
  rintro e w2 ⟨rfl, hb2⟩
  have B2 := (HB1.out.set4 (.int .u64 (limb n2 0 : Nat)) (.int .u64 (limb n2 1 : Nat)) (.int .u64 (limb n2 2 : Nat)) (.int .u64 (limb n2 3 : Nat))).call hb2
  have E2 := (HE1.out.set4Other (b' := w.heap.size) (.int .u64 (limb n2 0 : Nat)) (.int .u64 (limb n2 1 : Nat)) (.int .u64 (limb n2 2 : Nat)) (.int .u64 (limb n2 3 : Nat)) (by omega)).call hb2
  have L2 : Below w.heap.size w w2 := (Below.set4 HL1.out (Nat.le_refl _) _ _ _ _).trans (hb2.mono (by simp; omega))
  have hz2 : w.heap.size + 1 < w2.heap.size := by have := hb2.size; simp at this; omega
  clear hb2 hc hf hz HB1 HE1 HL1
  obtain ⟨hc, hf⟩ := B2.rules
  rw [fe_def (n2 + 19)]
  have HB2 := hide B2
  have HE2 := hide E2
  have HL2 := hide L2
  clear B2 E2 L2
  have hi := idx3
  have Hw2 : Hid (IntKind.u64.wrap (19 * (r : Int)) = ((19 * r : Nat) : Int)) := hide (by have := Hm2.out; rw [wrap_u64']; omega)
  have Hw3 : Hid (19 * (r : Int) = ((19 * r : Nat) : Int)) := hide (by omega)
  generalize 19 * r = m2 at *
  go_wp2_with fail
  clear hi
  rw [Hs2.out]
  first | rw [Hw2.out] | rw [Hw3.out]
  refine (raise_at n2 m2 _ _ (by rw [fe_def]) Hm2.out (by rw [Hn3.out]; exact Hn3b.out)).mono ?_
  rw [Hn3.out]
  rintro e w3 ⟨rfl, hb3⟩
  have B3 := HB2.out.call hb3
  have E3 := HE2.out.call hb3
  have L3 : Below w.heap.size w w3 := HL2.out.trans (hb3.mono (by omega))
  have hz3 : w.heap.size + 1 < w3.heap.size := by have := hb3.size; omega
  clear hb3 hc hf hz2 HB2 HE2 HL2
  obtain ⟨hc, hf⟩ := B3.rules
  obtain ⟨r1, r2, r3, r4⟩ := B3.writes
  obtain ⟨r5, r6, r7, r8, r9, r10⟩ := E3.writes2 (b' := w.heap.size) (by omega)
  rw [fe_def n3]
  have HL3 := hide L3
  clear B3 E3 L3
  dsimp only
  go_wp2
  rw [Ha2.out]
  refine bodyPost_ret (v := fe (n3 % 2 ^ 255)) (by simp [results, Tryz.results94, go_sem, r9, Hf2.out]) rfl ⟨rfl, ?_⟩
  exact Below.row (Below.row HL3.out (by omega) _) (by omega) _

end Go.Proofs.YtbpmakegimgbpaaGreatDoor.F
namespace Go.Proofs.YtbpmakegimgbpaaGreatDoor.F
set_option maxRecDepth 100000
open Go.RowKit

def cin (x y k : Nat) : Nat := (x % 2 ^ (64 * k) + y % 2 ^ (64 * k)) / 2 ^ (64 * k)
theorem add_step (x y k : Nat) (h : k < 4) : limb x k + limb y k + cin x y k = limb (x + y) k + 2 ^ 64 * cin x y (k + 1) ∧ cin x y k ≤ 1 ∧ limb (x + y) k = (limb x k + limb y k + cin x y k) % 2 ^ 64 ∧ cin x y (k + 1) = (limb x k + limb y k + cin x y k) / 2 ^ 64 := by
  rcases four h with rfl | rfl | rfl | rfl <;> simp [limb, cin] <;> omega

theorem add_at (x y k : Nat) (h : k < 4) (w : World) : (callFunc 86 #[.int .u64 (limb x k : Nat), .int .u64 (limb y k : Nat), .int .u64 (cin x y k : Nat)]).run Tryz.prog w =
      .ok (.value (.tuple #[.int .u64 (limb (x + y) k : Nat), .int .u64 (cin x y (k + 1) : Nat)])) w := by
  obtain ⟨_, h2, h3, h4⟩ := add_step x y k h
  rw [run_add _ _ _ h2, h3, h4]
theorem cin0 (x y : Nat) : cin x y 0 = 0 := by simp [cin]; omega

theorem settle_at (n v : Nat) (args : Array Value) (w : World) (h : args = #[fe n, .int .u64 v]) (hn : n < 2 ^ 256) (hv : v < 2 ^ 58) :
    Calls Tryz.prog 94 args w fun e w' => e = .returned (fe ((n + v * 2 ^ 256) % pP)) ∧ Below w.heap.size w w' := by
  subst h; exact settle_any n v w hn hv

theorem add_next (x y k : Nat) (wr : World) (B : Nat) (t : TypeId) (h : Blk wr B (arr 4 (fun j => if j < k then limb (x + y) j else limb x j)) t) :
    Blk (wr.setCell ⟨B, k, none⟩ (.int .u64 (limb (x + y) k : Nat))) B (arr 4 (fun j => if j < k + 1 then limb (x + y) j else limb x j)) t := by
  refine (h.set k _).cast ?_
  rw [arr_set]
  apply arr_congr
  intro j _
  by_cases h1 : j = k
  · subst h1; simp
  · by_cases h2 : j < k
    · simp [h1, h2, show j < k + 1 by omega]
    · simp [h1, h2, show ¬ j < k + 1 by omega]

set_option maxHeartbeats 400000 in
theorem add_any (x y : Nat) (w : World) (hx : x < pP) (hy : y < pP) :
    Calls Tryz.prog 54 #[fe x, fe y] w fun e w' => e = .returned (fe ((x + y) % pP)) ∧ Below w.heap.size w w' := by
  have Hlt : Hid (x + y < 2 ^ 256) := hide (by unfold pP at *; omega)
  clear hx hy
  rw [fe_arr x, fe_arr y]
  go_enter Tryz.func54, Tryz.ntmps54
  go_wp2
  go_loopw [5, 7] (fun c i wr => ∃ k : Nat, k ≤ 4 ∧ i = .int .i64 k ∧ c = .int .u64 (cin x y k : Nat) ∧ Blk wr w.heap.size (arr 4 (fun j => if j < k then limb (x + y) j else limb x j)) 47 ∧ Blk wr (w.heap.size + 1) (arr 4 (limb y)) 47 ∧ (∃ z0 z1 z2 z3, Blk wr (w.heap.size + 2) #[z0, z1, z2, z3] 47) ∧ Below w.heap.size w wr) (fun _ i _ => 4 - (intOf i).toNat)
  case atStart =>
    refine ⟨0, by omega, rfl, by rw [cin0]; rfl, ?_, ?_, ⟨_, _, _, _, Blk.new' ((w.alloc _).alloc _) (w.heap.size + 2) (by simp) _ _⟩, ?_⟩
    · exact (((Blk.new w _ _).alloc _).alloc _).cast (arr_congr _ _ _ fun j _ => by simp)
    · exact (Blk.new' (w.alloc _) (w.heap.size + 1) (by simp) _ _).alloc _
    · exact (((Below.refl _ w).alloc (Nat.le_refl _) _).alloc (by simp) _).alloc (by simp; omega) _
  case round =>
    obtain ⟨k, hk, rfl, rfl, B1, B2, ⟨z0, z1, z2, z3, B3⟩, L⟩ := hrel
    by_cases hlt : k < 4
    · have cx := B1.cell k
      rw [arr_get _ _ _ hlt, if_neg (by omega)] at cx
      have cy := B2.cell k
      rw [arr_get _ _ _ hlt] at cy
      have fx := B1.frozen k
      have hadd := add_at x y k hlt
      have HB1 := hide (add_next x y k wr.drew _ _ B1.drew)
      have HB2 := hide B2
      have HB3 := hide B3
      have HL := hide L
      clear B1 B2 B3 L
      have hk0 : (0 : Int) ≤ (k : Int) := by omega
      have hk4 : (k : Int) < 4 := by omega
      go_wp2
      go_region_with (fail)
      all_goals
        go_wp2
        go_roundw
        case rel =>
          refine ⟨k + 1, by omega, by go_num, rfl, HB1.out, HB2.out.drew.setOther _ _ (by omega), ⟨z0, z1, z2, z3, HB3.out.drew.setOther _ _ (by omega)⟩, HL.out.drew.setCell (Nat.le_refl _) _⟩
        case measure => simp [intOf]; omega
    · have e4 : k = 4 := by omega
      subst e4
      have B1' := B1.cast (arr_congr 4 _ (limb (x + y)) fun j hj => by simp [hj])
      rw [arr4] at B1'
      obtain ⟨c1, f1⟩ := B1'.rules
      have HB3 := hide B3
      have HL := hide L
      clear B1 B2 B3 L B1'
      go_wp2_with fail
      refine (settle_at (x + y) 0 _ _ (by rw [fe_def]; rfl) Hlt.out (by omega)).mono ?_
      rintro e w1 ⟨rfl, hb1⟩
      have E1 := HB3.out.call hb1
      have L1 : Below w.heap.size w w1 := HL.out.trans (hb1.mono HL.out.size)
      obtain ⟨c2, f2⟩ := E1.rules
      obtain ⟨r1, r2, r3, r4⟩ := E1.writes
      rw [show x + y + 0 * 2 ^ 256 = x + y by omega, fe_def]
      have HL1 := hide L1
      have hz := hb1.size
      clear E1 L1 hb1
      dsimp only
      go_wp2
      refine bodyPost_ret (v := fe ((x + y) % pP)) (by simp [results, Tryz.results54, go_sem, r3, fe_def]) rfl ⟨rfl, ?_⟩
      exact Below.row HL1.out (by omega) _

end Go.Proofs.YtbpmakegimgbpaaGreatDoor.F
namespace Go.Proofs.YtbpmakegimgbpaaGreatDoor.F
set_option maxRecDepth 100000
open Go.RowKit

set_option maxHeartbeats 400000 in
theorem mul64_any (x y : Nat) (w : World) (hx : x < 2 ^ 64) (hy : y < 2 ^ 64) :
    Calls Tryz.prog 85 #[.int .u64 x, .int .u64 y] w fun e w' => e = .returned (.tuple #[.int .u64 (x * y / 2 ^ 64 : Nat), .int .u64 (x * y % 2 ^ 64 : Nat)]) ∧ w' = w := by
  have Hh := hide (mul_hi x y hx hy)
  clear hx hy
  go_enter Tryz.func85, Tryz.ntmps85
  go_wp2
  go_ret2
  exact ⟨ret_two Hh.out (mul_lo x y), rfl⟩

theorem mul64_at (x y : Nat) (args : Array Value) (w : World) (h : args = #[.int .u64 x, .int .u64 y]) (hx : x < 2 ^ 64) (hy : y < 2 ^ 64) (hi lo : Nat) (hh : hi = x * y / 2 ^ 64) (hl : lo = x * y % 2 ^ 64) :
    Calls Tryz.prog 85 args w fun e w' => e = .returned (.tuple #[.int .u64 hi, .int .u64 lo]) ∧ w' = w := by
  subst h hh hl; exact mul64_any x y w hx hy

theorem add_lit (x y s o : Nat) (hs : s = (x + y) % 2 ^ 64) (ho : o = (x + y) / 2 ^ 64) (w : World) : (callFunc 86 #[.int .u64 x, .int .u64 y, .int .u64 0]).run Tryz.prog w =
      .ok (.value (.tuple #[.int .u64 s, .int .u64 o])) w := by
  have := run_add x y 0 (by omega) w
  rw [hs, ho]; exact this

set_option maxHeartbeats 400000 in
/-- The closure: low half told, high half kept in the captured cell. -/
theorem halves_any (x y m c : Nat) (b : Nat) (w : World) (hx : x < 2 ^ 64) (hy : y < 2 ^ 64) (hm : m < 2 ^ 64) (hc : c < 2 ^ 64) (hB : Blk w b #[.int .u64 c] 44) :
    Calls Tryz.prog 99 #[.int .u64 x, .int .u64 y, .int .u64 m, .pointer (some ⟨b, 0, none⟩)] w fun e w' => e = .returned (.int .u64 ((x * y + m + c) % 2 ^ 64 : Nat)) ∧ w' = w.setCell ⟨b, 0, none⟩ (.int .u64 ((x * y + m + c) / 2 ^ 64 : Nat)) := by
  obtain ⟨n1, n2, n3, n4⟩ := halves_num x y m c hx hy hm hc
  have a1 := add_lit (x * y % 2 ^ 64) m _ _ rfl rfl
  have a2 := add_lit ((x * y % 2 ^ 64 + m) % 2 ^ 64) c _ _ rfl rfl
  have w1 : IntKind.u64.wrap (((x * y / 2 ^ 64 : Nat) : Int) + (((x * y % 2 ^ 64 + m) / 2 ^ 64 : Nat) : Int)) = ((x * y / 2 ^ 64 + (x * y % 2 ^ 64 + m) / 2 ^ 64 : Nat) : Int) := by rw [wrap_u64']; omega
  have w2 : IntKind.u64.wrap (((x * y / 2 ^ 64 + (x * y % 2 ^ 64 + m) / 2 ^ 64 : Nat) : Int) + ((((x * y % 2 ^ 64 + m) % 2 ^ 64 + c) / 2 ^ 64 : Nat) : Int)) = (((x * y + m + c) / 2 ^ 64 : Nat) : Int) := by rw [wrap_u64']; omega
  have M := hide (fun w => mul64_at x y #[.int .u64 x, .int .u64 y] w rfl hx hy _ _ rfl rfl)
  rw [← n4]
  clear n1 n2 n3 n4 hx hy hm hc
  generalize ((x * y % 2 ^ 64 + m) % 2 ^ 64 + c) % 2 ^ 64 = s2 at *
  generalize ((x * y % 2 ^ 64 + m) % 2 ^ 64 + c) / 2 ^ 64 = o2 at *
  generalize (x * y + m + c) / 2 ^ 64 = g2 at *
  generalize x * y / 2 ^ 64 + (x * y % 2 ^ 64 + m) / 2 ^ 64 = g1 at *
  generalize (x * y % 2 ^ 64 + m) % 2 ^ 64 = s1 at *
  generalize (x * y % 2 ^ 64 + m) / 2 ^ 64 = o1 at *
  generalize x * y / 2 ^ 64 = hi at *
  generalize x * y % 2 ^ 64 = lo at *
  obtain ⟨hc, hf⟩ := hB.rules
  clear hB
  go_enter Tryz.func99, Tryz.ntmps99
  go_wp2_with fail
  refine (M.out _).mono ?_
  rintro e w' ⟨rfl, rfl⟩
  dsimp only
  go_wp2
  go_ret
  exact ⟨rfl, rfl⟩

end Go.Proofs.YtbpmakegimgbpaaGreatDoor.F
namespace Go.Proofs.YtbpmakegimgbpaaGreatDoor.F
set_option maxRecDepth 100000
open Go.RowKit

theorem run_sub (x y b : Nat) (hb : b ≤ 1) (w : World) :
    (callFunc 98 #[.int .u64 x, .int .u64 y, .int .u64 b]).run Tryz.prog w =
      .ok (.value (.tuple #[.int .u64 ((x + 2 ^ 64 - y - b) % 2 ^ 64 : Nat), .int .u64 (if x < y + b then 1 else 0 : Nat)])) w := by
  rw [run_callFunc_extern Tryz.func98 (by kernel_rfl) (by kernel_rfl) (by kernel_rfl) (e := sub64Entry) (by kernel_rfl), run_sub64 x y b hb]
  simp only [Result.andThen]

theorem sub_at (x y k : Nat) (h : k < 4) (hx : x < 2 ^ 256) (hy : y < 2 ^ 256) (w : World) : (callFunc 98 #[.int .u64 (limb x k : Nat), .int .u64 (limb y k : Nat), .int .u64 (bo x y k : Nat)]).run Tryz.prog w =
      .ok (.value (.tuple #[.int .u64 (limb (dif x y) k : Nat), .int .u64 (bo x y (k + 1) : Nat)])) w := by
  obtain ⟨h3, h4⟩ := sub_step x y k h hx hy
  rw [run_sub _ _ _ (bo_le x y k), h3, h4]
def le2 (d m k : Nat) : Nat := if k = 0 then m else if d % 2 ^ (64 * k) < m then 1 else 0
theorem le_step (d m k : Nat) (h : k < 4) (hm : m ≤ 38) (hdm : m ≤ d) : limb (d - m) k = (limb d k + 2 ^ 64 - le2 d m k - 0) % 2 ^ 64 ∧ le2 d m (k + 1) = if limb d k < le2 d m k + 0 then 1 else 0 := by
  rcases four h with rfl | rfl | rfl | rfl
  · refine ⟨?_, ?_⟩
    · simp [limb, le2]; omega
    · simp [limb, le2]
  all_goals
    refine ⟨?_, ?_⟩
    · simp [limb, le2]; split <;> omega
    · simp [limb, le2]; split <;> split <;> (try split at *) <;> omega
theorem le_at (d m k : Nat) (h : k < 4) (hm : m ≤ 38) (hdm : m ≤ d) (w : World) : (callFunc 98 #[.int .u64 (limb d k : Nat), .int .u64 (le2 d m k : Nat), .int .u64 0]).run Tryz.prog w =
      .ok (.value (.tuple #[.int .u64 (limb (d - m) k : Nat), .int .u64 (le2 d m (k + 1) : Nat)])) w := by
  obtain ⟨h3, h4⟩ := le_step d m k h hm hdm
  have := run_sub (limb d k) (le2 d m k) 0 (by omega) w
  rw [h3, h4]; exact this

theorem sub_val (x y : Nat) (hx : x < pP) (hy : y < pP) : 38 * bo x y 4 ≤ dif x y ∧ (dif x y - 38 * bo x y 4) % pP = (x + pP - y) % pP ∧ dif x y - 38 * bo x y 4 < 2 ^ 256 ∧ dif x y < 2 ^ 256 := by
  unfold bo dif pP at *
  simp only [Nat.reduceMul, Nat.reducePow, Nat.reduceSub] at *
  rw [Nat.mod_eq_of_lt (show x < 115792089237316195423570985008687907853269984665640564039457584007913129639936 by omega), Nat.mod_eq_of_lt (show y < 115792089237316195423570985008687907853269984665640564039457584007913129639936 by omega)]
  split
  · rename_i h
    refine ⟨by omega, ?_, by omega, by omega⟩
    rw [show (x + 115792089237316195423570985008687907853269984665640564039457584007913129639936 - y) % 115792089237316195423570985008687907853269984665640564039457584007913129639936 - 38 * 1 = (x + 57896044618658097711785492504343953926634992332820282019728792003956564819949 - y) + 57896044618658097711785492504343953926634992332820282019728792003956564819949 * 1 by omega, Nat.add_mul_mod_self_left]
  · rename_i h
    refine ⟨by omega, ?_, by omega, by omega⟩
    rw [show x + 57896044618658097711785492504343953926634992332820282019728792003956564819949 - y = ((x + 115792089237316195423570985008687907853269984665640564039457584007913129639936 - y) % 115792089237316195423570985008687907853269984665640564039457584007913129639936 - 38 * 0) + 57896044618658097711785492504343953926634992332820282019728792003956564819949 * 1 by omega, Nat.add_mul_mod_self_left]

set_option maxHeartbeats 400000 in
theorem sub_any (x y : Nat) (w : World) (hx : x < pP) (hy : y < pP) :
    Calls Tryz.prog 52 #[fe x, fe y] w fun e w' => e = .returned (fe ((x + pP - y) % pP)) ∧ Below w.heap.size w w' := by
  obtain ⟨v1, v2, v3, v4⟩ := sub_val x y hx hy
  have Hv := hide v2
  have Hlt := hide v3
  have hx' : x < 2 ^ 256 := by unfold pP at hx; omega
  have hy' : y < 2 ^ 256 := by unfold pP at hy; omega
  have hb4 := bo_le x y 4
  have Hs := hide (fun k h => sub_at x y k h hx' hy')
  have Hl := hide (fun k h => le_at (dif x y) (38 * bo x y 4) k h (by omega) v1)
  have Hw : Hid (IntKind.u64.wrap (38 * (bo x y 4 : Int)) = ((38 * bo x y 4 : Nat) : Int)) := hide (by rw [wrap_u64']; omega)
  have Hw2 : Hid (38 * (bo x y 4 : Int) = ((38 * bo x y 4 : Nat) : Int)) := hide (by omega)
  clear v1 v2 v3 v4 hx hy hx' hy' hb4
  rw [fe_arr x, fe_arr y]
  go_enter Tryz.func52, Tryz.ntmps52
  go_wp2
  go_loopw [5, 9] (fun c i wr => ∃ k : Nat, k ≤ 4 ∧ i = .int .i64 k ∧ c = .int .u64 (bo x y k : Nat) ∧ Blk wr w.heap.size (arr 4 (fun j => if j < k then limb (dif x y) j else limb x j)) 47 ∧ Blk wr (w.heap.size + 1) (arr 4 (limb y)) 47 ∧ (∃ z0 z1 z2 z3, Blk wr (w.heap.size + 2) #[z0, z1, z2, z3] 47) ∧ Below w.heap.size w wr) (fun _ i _ => 4 - (intOf i).toNat)
  case atStart =>
    refine ⟨0, by omega, rfl, by rw [bo0]; rfl, ?_, ?_, ⟨_, _, _, _, Blk.new' ((w.alloc _).alloc _) (w.heap.size + 2) (by simp) _ _⟩, ?_⟩
    · exact (((Blk.new w _ _).alloc _).alloc _).cast (arr_congr _ _ _ fun j _ => by simp)
    · exact (Blk.new' (w.alloc _) (w.heap.size + 1) (by simp) _ _).alloc _
    · exact (((Below.refl _ w).alloc (Nat.le_refl _) _).alloc (by simp) _).alloc (by simp; omega) _
  case round =>
    obtain ⟨k, hk, rfl, rfl, B1, B2, ⟨z0, z1, z2, z3, B3⟩, L⟩ := hrel
    by_cases hlt : k < 4
    · have cx := B1.cell k
      rw [arr_get _ _ _ hlt, if_neg (by omega)] at cx
      have cy := B2.cell k
      rw [arr_get _ _ _ hlt] at cy
      have fx := B1.frozen k
      have hadd := Hs.out k hlt
      have HB1 := hide (upd_next (limb x) (limb (dif x y)) k wr.drew _ _ B1.drew)
      have HB2 := hide B2
      have HB3 := hide B3
      have HL := hide L
      clear B1 B2 B3 L
      have hk0 : (0 : Int) ≤ (k : Int) := by omega
      have hk4 : (k : Int) < 4 := by omega
      go_wp2
      go_region_with (fail)
      all_goals
        go_wp2
        go_roundw
        case rel =>
          refine ⟨k + 1, by omega, by go_num, rfl, HB1.out, HB2.out.drew.setOther _ _ (by omega), ⟨z0, z1, z2, z3, HB3.out.drew.setOther _ _ (by omega)⟩, HL.out.drew.setCell (Nat.le_refl _) _⟩
        case measure => simp [intOf]; omega
    · have e4 : k = 4 := by omega
      subst e4
      have B1' := B1.cast (arr_congr 4 _ (limb (dif x y)) fun j hj => by simp [hj])
      clear hlt hk B1 B2
      have HB1 := hide B1'
      have HB3 := hide B3
      have HL := hide L
      clear B1' B3 L
      go_wp2
      first | rw [Hw.out] | rw [Hw2.out]
      generalize hm : 38 * bo x y 4 = m at *
      clear hm
      generalize hd : dif x y = d at *
      clear hd
      go_loopw [7, 31] (fun c i wr => ∃ k : Nat, k ≤ 4 ∧ i = .int .i64 k ∧ c = .int .u64 (le2 d m k : Nat) ∧ Blk wr w.heap.size (arr 4 (fun j => if j < k then limb (d - m) j else limb d j)) 47 ∧ (∃ z0 z1 z2 z3, Blk wr (w.heap.size + 2) #[z0, z1, z2, z3] 47) ∧ Below w.heap.size w wr) (fun _ i _ => 4 - (intOf i).toNat)
      case atStart =>
        refine ⟨0, by omega, rfl, rfl, ?_, ⟨z0, z1, z2, z3, HB3.out⟩, HL.out⟩
        exact HB1.out.cast (arr_congr _ _ _ fun j _ => by simp)
      case round =>
        clear HB1 HB3 HL z0 z1 z2 z3
        obtain ⟨k, hk, rfl, rfl, B1, ⟨z0, z1, z2, z3, B3⟩, L⟩ := hrel
        by_cases hlt : k < 4
        · have cx := B1.cell k
          rw [arr_get _ _ _ hlt, if_neg (by omega)] at cx
          have fx := B1.frozen k
          have hadd := Hl.out k hlt
          have HB1 := hide (upd_next (limb d) (limb (d - m)) k _ _ _ B1)
          have HB3 := hide B3
          have HL := hide L
          clear B1 B3 L
          have hk0 : (0 : Int) ≤ (k : Int) := by omega
          have hk4 : (k : Int) < 4 := by omega
          go_wp2
          go_roundw
          case rel =>
            refine ⟨k + 1, by omega, by go_num, rfl, HB1.out, ⟨z0, z1, z2, z3, HB3.out.setOther _ _ (by omega)⟩, HL.out.setCell (Nat.le_refl _) _⟩
          case measure => simp [intOf]; omega
        · have e4 : k = 4 := by omega
          subst e4
          have B1' := B1.cast (arr_congr 4 _ (limb (d - m)) fun j hj => by simp [hj])
          rw [arr4] at B1'
          obtain ⟨c1, f1⟩ := B1'.rules
          have HB3 := hide B3
          have HL := hide L
          clear B1 B3 L B1' hlt hk
          go_wp2_with fail
          refine (settle_at (d - m) 0 _ _ (by rw [fe_def]; rfl) Hlt.out (by omega)).mono ?_
          rintro e w1 ⟨rfl, hb1⟩
          have E1 := HB3.out.call hb1
          have L1 : Below w.heap.size w w1 := HL.out.trans (hb1.mono HL.out.size)
          obtain ⟨c2, f2⟩ := E1.rules
          obtain ⟨r1, r2, r3, r4⟩ := E1.writes
          rw [show d - m + 0 * 2 ^ 256 = d - m by omega, Hv.out, fe_def]
          have HL1 := hide L1
          have hz := hb1.size
          clear E1 L1 hb1
          dsimp only
          go_wp2
          refine bodyPost_ret (v := fe ((x + pP - y) % pP)) (by simp [results, Tryz.results52, go_sem, r3, fe_def]) rfl ⟨rfl, ?_⟩
          exact Below.row HL1.out (by omega) _

theorem sub_at' (x y : Nat) (args : Array Value) (w : World) (h : args = #[fe x, fe y]) (hx : x < pP) (hy : y < pP) :
    Calls Tryz.prog 52 args w fun e w' => e = .returned (fe ((x + pP - y) % pP)) ∧ Below w.heap.size w w' := by
  subst h; exact sub_any x y w hx hy

theorem fe0 : fe 0 = .agg #[.int .u64 0, .int .u64 0, .int .u64 0, .int .u64 0] := by simp [fe, limb]

set_option maxHeartbeats 400000 in
theorem neg_any (x : Nat) (w : World) (hx : x < pP) :
    Calls Tryz.prog 60 #[fe x] w fun e w' => e = .returned (fe ((pP - x) % pP)) ∧ Below w.heap.size w w' := by
  rw [fe_def x]
  go_enter Tryz.func60, Tryz.ntmps60
  go_wp2_with fail
  refine (sub_at' 0 x _ _ (by rw [fe_def x, fe0]) (by unfold pP; omega) hx).mono ?_
  rw [Nat.zero_add]
  rintro e w1 ⟨rfl, hb1⟩
  have E1 := (Blk.new' (w.alloc _) (w.heap.size + 1) (by simp) _ _).call hb1
  have L1 : Below w.heap.size w w1 := (((Below.refl _ w).alloc (Nat.le_refl _) _).alloc (by simp) _).trans (hb1.mono (by simp; omega))
  obtain ⟨c2, f2⟩ := E1.rules
  obtain ⟨r1, r2, r3, r4⟩ := E1.writes
  rw [fe_def]
  have HL1 := hide L1
  have hz := hb1.size
  clear E1 L1 hb1
  dsimp only
  go_wp2
  refine bodyPost_ret (v := fe ((pP - x) % pP)) (by simp [results, Tryz.results60, go_sem, r3, fe_def]) rfl ⟨rfl, ?_⟩
  exact Below.row HL1.out (by omega) _

end Go.Proofs.YtbpmakegimgbpaaGreatDoor.F

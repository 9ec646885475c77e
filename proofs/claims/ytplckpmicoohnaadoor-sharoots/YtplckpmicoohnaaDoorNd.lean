/- Walks of the reference: Root. -/
import Derived.Test.YtplckpmicoohnaaDoorNb
namespace Go.Proofs.YtplckpmicoohnaaDoor
open Go.RowKit

theorem pv_small (l : Nat → Nat) (hl : ∀ j, l j < 65536) : ∀ k, pv l k < 2 ^ (16 * k)
  | 0 => by simp [pv]
  | k + 1 => by
    have ih := pv_small l hl k
    have h1 : l k * 2 ^ (16 * k) ≤ 65535 * 2 ^ (16 * k) := Nat.mul_le_mul_right _ (by have := hl k; omega)
    rw [pv, d_succ]
    omega
theorem dgt_pv (l : Nat → Nat) (hl : ∀ j, l j < 65536) (k m : Nat) (h : k < m) : dgt (pv l m) k = l k := by
  rw [ca_low l k m h]
  unfold ca
  rw [Nat.div_eq_of_lt (pv_small l hl k), Nat.add_zero, Nat.mod_eq_of_lt (hl k)]
theorem pv_dgt (n : Nat) : ∀ k, pv (dgt n) k = n % 2 ^ (16 * k)
  | 0 => by simp [pv, Nat.mod_one]
  | k + 1 => by rw [pv, pv_dgt n k, mod_split, Nat.mul_comm (dgt n k)]
theorem m20_big (k : Nat) (h : k ≤ 320) : 2 ^ k ≤ M20 := by
  unfold M20
  exact Nat.pow_le_pow_right (by omega) (show k ≤ 16 * m20 by unfold m20; omega)
/-- Room for one more bit. -/
theorem bit_room (r i : Nat) (h : r % 2 ^ (i + 1) = 0) : dgt r (i / 16) + 2 ^ (i % 16) < 65536 := by
  obtain ⟨c, hc⟩ : ∃ c, r = 2 ^ (i + 1) * c := ⟨r / 2 ^ (i + 1), by have := Nat.div_add_mod r (2 ^ (i + 1)); omega⟩
  have e : 2 ^ (i + 1) = 2 ^ (16 * (i / 16)) * 2 ^ (i % 16 + 1) := by rw [← Nat.pow_add]; congr 1; omega
  unfold dgt
  rw [hc, e, Nat.mul_assoc, Nat.mul_div_cancel_left _ (d_pos _)]
  have e2 : 65536 = 2 ^ (i % 16 + 1) * 2 ^ (15 - i % 16) := by rw [← Nat.pow_add, show i % 16 + 1 + (15 - i % 16) = 16 by omega]
  have h2 : 2 ^ (i % 16 + 1) * c % 65536 = 2 ^ (i % 16 + 1) * (c % 2 ^ (15 - i % 16)) := by rw [e2, Nat.mul_mod_mul_left]
  rw [h2]
  have h3 := Nat.mod_lt c (Nat.two_pow_pos (15 - i % 16))
  have h4 : 2 ^ (i % 16 + 1) * (c % 2 ^ (15 - i % 16) + 1) ≤ 2 ^ (i % 16 + 1) * 2 ^ (15 - i % 16) := Nat.mul_le_mul_left _ h3
  rw [← e2, Nat.mul_add, Nat.mul_one] at h4
  have h5 : 2 ^ (i % 16 + 1) = 2 * 2 ^ (i % 16) := by rw [Nat.pow_succ]; omega
  have := Nat.two_pow_pos (i % 16)
  omega
theorem add_bit (r i j : Nat) (h : r % 2 ^ (i + 1) = 0) (hr : r < M20) (hi : i / 16 < m20) (hj : j < m20) : dgt (r + 2 ^ i) j = up (dgt r) (i / 16) (2 ^ (i % 16)) j := by
  have hs : ∀ j, up (dgt r) (i / 16) (2 ^ (i % 16)) j < 65536 := fun j => by
    unfold up
    split
    · exact bit_room r i h
    · exact dgt_lt r j
  have hp : pv (up (dgt r) (i / 16) (2 ^ (i % 16))) m20 = r + 2 ^ i := by
    rw [pv_up, if_pos hi, pv_dgt, Nat.mod_eq_of_lt (show r < 2 ^ (16 * m20) from hr), ← Nat.pow_add]
    congr 2; omega
  rw [← hp]
  exact dgt_pv _ hs j m20 hj
theorem goal_dgt (n at' j : Nat) (hn : n < 65536) (hj : j < m20) (ha : at' < m20) : (if j = at' then n else 0) = dgt (n * 2 ^ (16 * at')) j := by
  have hs : ∀ j, up (fun _ => 0) at' n j < 65536 := fun j => by unfold up; dsimp only; split <;> omega
  have hp : pv (up (fun _ => 0) at' n) m20 = n * 2 ^ (16 * at') := by rw [pv_up, if_pos ha, pv_zero, Nat.zero_add]
  rw [← hp, dgt_pv _ hs j m20 hj]
  unfold up
  split <;> simp
theorem low64 (r : Nat) : dgt r 0 + dgt r 1 * 65536 + dgt r 2 * 4294967296 + dgt r 3 * 281474976710656 = r % 2 ^ 64 := by
  unfold dgt; simp; omega
theorem low_int (r : Nat) : IntKind.u64.wrap (IntKind.u64.wrap (IntKind.u64.wrap (((dgt r 0 : Nat) : Int) + IntKind.u64.wrap (((dgt r 1 : Nat) : Int) * 65536)) + IntKind.u64.wrap (((dgt r 2 : Nat) : Int) * 4294967296)) + IntKind.u64.wrap (((dgt r 3 : Nat) : Int) * 281474976710656)) = ((r % 2 ^ 64 : Nat) : Int) := by
  have h0 := dgt_lt r 0
  have h1 := dgt_lt r 1
  have h2 := dgt_lt r 2
  have h3 := dgt_lt r 3
  rw [← low64]
  simp only [wrap_u64']
  omega
theorem pw_small (third : Bool) (t : Nat) (h : t < 2 ^ 69) : pw3 third t < M20 ∧ t * t < M20 ∧ t < M20 := by
  have h2 : t * t < 2 ^ 69 * 2 ^ 69 := Nat.mul_lt_mul'' h h
  have h3 : t * t * t < 2 ^ 69 * 2 ^ 69 * 2 ^ 69 := Nat.mul_lt_mul'' h2 h
  have m1 := m20_big 69 (by omega)
  have m2 := m20_big 138 (by omega)
  have m3 := m20_big 207 (by omega)
  have e2 : 2 ^ 138 = 2 ^ 69 * 2 ^ 69 := by decide
  have e3 : 2 ^ 207 = 2 ^ 69 * 2 ^ 69 * 2 ^ 69 := by decide
  refine ⟨?_, by omega, by omega⟩
  unfold pw3
  split <;> omega
theorem bit_fits (r i : Nat) (h : r % 2 ^ (i + 1) = 0) (hr : r < 2 ^ 69) (hi : i ≤ 68) : r + 2 ^ i < 2 ^ 69 := by
  have h3 : 2 ^ 69 = 2 ^ (i + 1) * 2 ^ (68 - i) := by rw [← Nat.pow_add]; congr 1; omega
  have h4 := Nat.div_add_mod r (2 ^ (i + 1))
  rw [h, Nat.add_zero] at h4
  have h5 : r / 2 ^ (i + 1) < 2 ^ (68 - i) := Nat.div_lt_of_lt_mul (by rw [← h3]; exact hr)
  have h6 : 2 ^ (i + 1) * (r / 2 ^ (i + 1) + 1) ≤ 2 ^ (i + 1) * 2 ^ (68 - i) := Nat.mul_le_mul_left _ h5
  rw [Nat.mul_add, Nat.mul_one, h4, ← h3, show 2 ^ (i + 1) = 2 * 2 ^ i by rw [Nat.pow_succ]; omega] at h6
  have := Nat.two_pow_pos i
  omega
set_option maxRecDepth 100000 in
set_option maxHeartbeats 4000000 in
theorem root_true (n : Nat) (w : World) (hn : n < 65536) :
    Calls Tryd.prog 16 #[.int .u64 n, .bool true] w fun e w' => e = .returned (.int .u64 (rtN (n * 2 ^ (16 * 12)) true 69 % 2 ^ 64 : Nat)) ∧ Below w.heap.size w w' := by
  have Hn := hide hn
  clear hn
  obtain ⟨g, hg⟩ : ∃ g, g = n * 2 ^ (16 * 12) := ⟨_, rfl⟩
  have Hg : Hid (g < M20) := hide (by
    rw [hg]
    have h2 : n * 2 ^ (16 * 12) < 2 ^ 16 * 2 ^ (16 * 12) := Nat.mul_lt_mul_of_pos_right Hn.out (Nat.two_pow_pos _)
    rw [← Nat.pow_add] at h2
    exact Nat.lt_of_lt_of_le h2 (m20_big _ (by omega)))
  have Hge := hide hg
  rw [← hg]
  clear hg
  have hz := zero54
  go_enter Tryd.func16, Tryd.ntmps16
  go_upto_region 3 with (first
    | (refine wpList_build rfl 54 #[] rfl (by simp [built54]) ?_; simp only [List.map_toArray, List.map_nil, built54, Option.getD_some])
    | (refine wpList_store_abs rfl 54 _ _ rfl w.heap.size (arr 20 (fun _ => 0)) rfl rfl 54 _ (Blk.new w _ _) (by rw [arr_size]; exact cells54) (by simp only [arr_size]) (arr_one _ _) ?_; intro k2 Bn Sn; have B1 := hide Bn; have L1 := hide (Sn.low _ _ ((Below.refl _ w).alloc (Nat.le_refl _) _) (Nat.le_refl _)); clear Bn Sn))
  have cg := B1.out.cell 12
  rw [arr_get _ _ _ (by omega)] at cg
  have fg := B1.out.frozen 12
  have BG := hide ((B1.out.set 12 (.int .u64 (n : Nat))).cast (c' := arr 20 (dgt g)) (by
    rw [arr_set]
    exact arr_congr _ _ _ fun j hj => by rw [Hge.out]; exact goal_dgt n 12 j Hn.out hj (by decide)))
  have LG := hide (L1.out.setCell (p := ⟨w.heap.size, 12, none⟩) (Nat.le_refl _) (.int .u64 (n : Nat)))
  clear B1 L1
  go_upto_region 6 with (fail)
  clear cg fg
  generalize k2.setCell ⟨w.heap.size, 12, none⟩ (.int .u64 (n : Nat)) = w1 at *
  go_upto_region 7 with (first
    | (refine wpList_build rfl 54 #[] rfl (by simp [built54]) ?_; simp only [List.map_toArray, List.map_nil, built54, Option.getD_some])
    | (refine wpList_store_abs rfl 54 _ _ rfl w1.heap.size (arr 20 (fun _ => 0)) rfl rfl 54 _ (Blk.new w1 _ _) (by rw [arr_size]; exact cells54) (by simp only [arr_size]) (arr_one _ _) ?_; intro k3 Bn Sn; have G2 := hide (Sn.other _ _ _ (Nat.ne_of_gt BG.out.lt) (BG.out.alloc _)); have L2 := hide (Sn.low _ _ (LG.out.alloc LG.out.size _) LG.out.size); have R2 := hide Bn; have Hne : Hid (w1.heap.size ≠ w.heap.size ∧ w.heap.size ≤ w1.heap.size) := hide ⟨Nat.ne_of_gt BG.out.lt, LG.out.size⟩; clear Bn Sn BG LG))
  clear hz
  generalize w1.heap.size = br at *
  simp only [Act.put]
  go_wp2
  go_loopw [8] (fun iv wr => ∃ k : Nat, k ≤ 69 ∧ iv = .int .i64 ((68 : Int) - (k : Int)) ∧ Blk wr br (arr 20 (dgt (rtN g true k))) 54 ∧ Blk wr w.heap.size (arr 20 (dgt g)) 54 ∧ Below w.heap.size w wr) (fun i _ => (intOf i + 1).toNat)
  case atStart => exact ⟨0, by omega, rfl, R2.out.cast (arr_congr _ _ _ fun j _ => by simp [rtN, dgt]), G2.out, L2.out⟩
  case round =>
    clear R2 G2 L2
    obtain ⟨k, hk, rfl, Br, Bg, L⟩ := hrel
    have HBr := hide Br
    have HBg := hide Bg
    have HL := hide L
    clear Br Bg L
    by_cases hlt : k < 69
    · obtain ⟨s, hs⟩ : ∃ s, s = 68 - k := ⟨_, rfl⟩
      rw [show (68 : Int) - (k : Int) = (s : Int) by omega]
      obtain ⟨r, hr⟩ : ∃ r, r = rtN g true k := ⟨_, rfl⟩
      have hlow := rtN_low g true k hk
      rw [← hr, show 69 - k = s + 1 by omega] at hlow
      rw [← hr] at HBr
      have Hr := hide hr
      have Hlow := hide hlow
      have Hsk : Hid (s = 68 - k) := hide hs
      obtain ⟨x, hx⟩ : ∃ x, x = r + 2 ^ s := ⟨_, rfl⟩
      have Hx69 : Hid (x < 2 ^ 69) := hide (by rw [hx]; exact bit_fits r s hlow.1 hlow.2 (by omega))
      have Hxd : Hid (∀ j, j < 20 → dgt x j = up (dgt r) (s / 16) (2 ^ (s % 16)) j) := hide (fun j hj => by rw [hx]; exact add_bit r s j Hlow.out.1 (Nat.lt_of_lt_of_le Hlow.out.2 (m20_big 69 (by omega))) (show s / 16 < 20 by omega) hj)
      have Hroom := hide (bit_room r s hlow.1)
      have Hx := hide hx
      have hs68 : s ≤ 68 := by omega
      clear hr hlow hs hx
      have hz := zero54
      go_upto_region 11 with (first
        | (refine wpList_load_row rfl 54 _ rfl br rfl 54 _ (0, 0) _ HBr.out Tryd.underlying54 rfl (by rw [arr_size]; exact cells54) ?_)
        | (refine wpList_store_abs rfl 54 _ _ rfl wr.heap.size (arr 20 (dgt r)) rfl rfl 54 _ (Blk.new wr _ _) (by rw [arr_size]; exact cells54) (by simp only [arr_size]) (arr_one _ _) ?_; intro k3 Bn Sn; have R1 := hide (Sn.other _ _ _ (Nat.ne_of_gt HBr.out.lt) (HBr.out.alloc _)); have G1 := hide (Sn.other _ _ _ (Nat.ne_of_gt HBg.out.lt) (HBg.out.alloc _)); have L1 := hide (Sn.low _ _ (HL.out.alloc HL.out.size _) HL.out.size); have T1 := hide Bn; have Hd1 : Hid (wr.heap.size ≠ br ∧ wr.heap.size ≠ w.heap.size ∧ w.heap.size ≤ wr.heap.size) := hide ⟨Nat.ne_of_gt HBr.out.lt, Nat.ne_of_gt HBg.out.lt, HL.out.size⟩; clear Bn Sn HBr HBg HL))
      clear hz
      generalize wr.heap.size = bt at *
      simp only [Act.put]
      have ct := T1.out.cell (s / 16)
      rw [arr_get _ _ _ (by omega)] at ct
      have ft := T1.out.frozen (s / 16)
      have hs0 : (0 : Int) ≤ (s : Int) := by omega
      have hq0 : (0 : Int) ≤ (s : Int) / 16 := by omega
      have hq4 : (s : Int) / 16 < 20 := by omega
      have hq : IntKind.i64.wrap ((s : Int).tdiv 16) = (s : Int) / 16 := by rw [Int.tdiv_eq_ediv_of_nonneg (by omega), wrap_i64_small' _ (by omega) (by omega)]
      have hq' : IntKind.i64.wrap ((s : Int) / 16) = (s : Int) / 16 := wrap_i64_small' _ (by omega) (by omega)
      have hqn : ((s : Int) / 16).toNat = s / 16 := by omega
      obtain ⟨y, hy⟩ : ∃ y, y = s % 16 := ⟨_, rfl⟩
      have hr1 : (s : Int).tmod 16 = (y : Int) := by rw [Int.tmod_eq_emod_of_nonneg (by omega)]; omega
      have hr2 : (s : Int) % 16 = (y : Int) := by omega
      have hyu : IntKind.u64.wrap (y : Int) = (y : Int) := by rw [wrap_u64']; omega
      have hy0 : (0 : Int) ≤ (y : Int) := by omega
      have hy6 : (y : Int) < 64 := by omega
      have hyn : (y : Int).toNat = y := by omega
      rw [← hy] at Hxd Hroom
      obtain ⟨q, eq⟩ : ∃ q, q = dgt r (s / 16) + 2 ^ y := ⟨_, rfl⟩
      have hsum : IntKind.u64.wrap (((dgt r (s / 16) : Nat) : Int) + 2 ^ y) = (q : Int) := by
        have := Hroom.out
        rw [← eq] at this
        rw [show ((dgt r (s / 16) : Nat) : Int) + 2 ^ y = (q : Int) by rw [eq]; simp, wrap_u64']
        omega
      have hpw : IntKind.u64.wrap ((2 : Int) ^ y) = 2 ^ y := by
        have h1 := Hroom.out
        rw [show ((2 : Int) ^ y) = ((2 ^ y : Nat) : Int) by simp, wrap_u64']
        generalize 2 ^ y = z at *
        omega
      have Hq := hide eq
      clear eq
      have T2 := hide ((T1.out.set (s / 16) (.int .u64 (q : Nat))).cast (c' := arr 20 (dgt x)) (by
        rw [arr_set]
        exact arr_congr _ _ _ fun j hj => by rw [Hxd.out j hj, Hq.out]; unfold up; rfl))
      have R2 := hide (R1.out.setOther (b' := bt) (s / 16) (.int .u64 (q : Nat)) Hd1.out.1)
      have G2 := hide (G1.out.setOther (b' := bt) (s / 16) (.int .u64 (q : Nat)) Hd1.out.2.1)
      have L2 := hide (L1.out.setCell (p := ⟨bt, s / 16, none⟩) Hd1.out.2.2 (.int .u64 (q : Nat)))
      clear hy T1 R1 G1 L1
      go_upto_region 12 with (fail)
      clear ct ft hs0 hq0 hq4 hq hq' hqn hr1 hr2 hyu hy0 hy6 hyn hsum hpw
      generalize k3.setCell ⟨bt, s / 16, none⟩ (.int .u64 (q : Nat)) = w2 at *
      have hz := zero54
      go_upto_region 13 with (first
        | (refine wpList_load_row rfl 54 _ rfl bt rfl 54 _ (0, 0) _ T2.out Tryd.underlying54 rfl (by rw [arr_size]; exact cells54) ?_)
        | (go_at_call 21; refine (times_at x x _ _ rfl).mono ?_; unfold rn; rintro e k4 ⟨rfl, hb⟩; have R3 := hide (R2.out.call hb); have G3 := hide (G2.out.call hb); have T3 := hide (T2.out.call hb); have L3 := hide (keepLow2 L2.out hb); clear hb R2 G2 T2 L2; dsimp only)
        | (refine wpList_store_abs rfl 54 _ _ rfl k4.heap.size (arr 20 (dgt (x * x))) rfl rfl 54 _ (Blk.new k4 _ _) (by rw [arr_size]; exact cells54) (by simp only [arr_size]) (arr_one _ _) ?_; intro k5 Bn Sn; have R4 := hide (Sn.other _ _ _ (Nat.ne_of_gt R3.out.lt) (R3.out.alloc _)); have G4 := hide (Sn.other _ _ _ (Nat.ne_of_gt G3.out.lt) (G3.out.alloc _)); have T4 := hide (Sn.other _ _ _ (Nat.ne_of_gt T3.out.lt) (T3.out.alloc _)); have L4 := hide (Sn.low _ _ (L3.out.alloc L3.out.size _) L3.out.size); have P4 := hide Bn; have Hd4 : Hid (k4.heap.size ≠ br ∧ k4.heap.size ≠ w.heap.size ∧ k4.heap.size ≠ bt ∧ w.heap.size ≤ k4.heap.size) := hide ⟨Nat.ne_of_gt R3.out.lt, Nat.ne_of_gt G3.out.lt, Nat.ne_of_gt T3.out.lt, L3.out.size⟩; clear Bn Sn R3 G3 T3 L3))
      clear hz
      generalize k4.heap.size = bp at *
      simp only [Act.put]
      go_upto_region 15 with (first
        | (refine wpList_load_row rfl 54 _ rfl bp rfl 54 _ (0, 0) _ P4.out Tryd.underlying54 rfl (by rw [arr_size]; exact cells54) ?_)
        | (refine wpList_load_row rfl 54 _ rfl bt rfl 54 _ (0, 0) _ T4.out Tryd.underlying54 rfl (by rw [arr_size]; exact cells54) ?_)
        | (go_at_call 21; refine (times_at (x * x) x _ _ rfl).mono ?_; unfold rn; rintro e k6 ⟨rfl, hb⟩; have R5' := hide (R4.out.call hb); have G5' := hide (G4.out.call hb); have T5' := hide (T4.out.call hb); have P5' := hide (P4.out.call hb); have L5' := hide (keepLow2 L4.out hb); clear hb R4 G4 T4 P4 L4; dsimp only)
        | (refine wpList_store_row rfl 54 _ _ rfl bp (arr 20 (dgt (x * x * x))) rfl rfl 54 _ P5'.out (by rw [arr_size]; exact cells54) (by rw [arr_size, arr_size]) (arr_one _ _) ?_))
      have P5 := hide (P5'.out.row (arr 20 (dgt (x * x * x))))
      have R5 := hide (R5'.out.rowOther (b' := bp) (arr 20 (dgt (x * x * x))) Hd4.out.1)
      have G5 := hide (G5'.out.rowOther (b' := bp) (arr 20 (dgt (x * x * x))) Hd4.out.2.1)
      have T5 := hide (T5'.out.rowOther (b' := bp) (arr 20 (dgt (x * x * x))) Hd4.out.2.2.1)
      have L5 := hide (Below.row (b := bp) L5'.out Hd4.out.2.2.2 (arr 20 (dgt (x * x * x))))
      clear P5' R5' G5' T5' L5'
      generalize k6.setRow bp (arr 20 (dgt (x * x * x))) = w5 at *
      have Hpw : Hid (pw3 true x = x * x * x) := hide rfl
      have Hpm : Hid (x * x * x < M20) := hide (by rw [← Hpw.out]; exact (pw_small true x Hx69.out).1)
      have hsw : IntKind.i64.wrap ((s : Int) - 1) = (s : Int) - 1 := by simp [IntKind.wrap, IntKind.bits, IntKind.signed]; omega
      by_cases hle : x * x * x ≤ g
      · have Hnx : Hid (rtN g true (k + 1) = x) := hide (by rw [rtN, ← Hr.out, ← Hsk.out, ← Hx.out, Hpw.out, if_pos hle])
        have hdec : decide (g < x * x * x) = false := by rw [decide_eq_false_iff_not]; omega
        go_wp2_with (first
          | (refine wpList_load_row rfl 54 _ rfl bp rfl 54 _ (0, 0) _ P5.out Tryd.underlying54 rfl (by rw [arr_size]; exact cells54) ?_)
          | (refine wpList_load_row rfl 54 _ rfl w.heap.size rfl 54 _ (0, 0) _ G5.out Tryd.underlying54 rfl (by rw [arr_size]; exact cells54) ?_)
          | (go_at_call 22; refine (above_at (x * x * x) g _ _ rfl Hpm.out Hg.out).mono ?_; rw [hdec]; rintro e k6 ⟨rfl, hb⟩; have R6 := hide (R5.out.call hb); have G6 := hide (G5.out.call hb); have T6 := hide (T5.out.call hb); have L6 := hide (keepLow2 L5.out hb); clear hb; dsimp only)
          | (refine wpList_load_row rfl 54 _ rfl bt rfl 54 _ (0, 0) _ T6.out Tryd.underlying54 rfl (by rw [arr_size]; exact cells54) ?_)
          | (refine wpList_store_row rfl 54 _ _ rfl br (arr 20 (dgt x)) rfl rfl 54 _ R6.out (by rw [arr_size]; exact cells54) (by rw [arr_size, arr_size]) (arr_one _ _) ?_))
        go_roundw
        case rel => exact ⟨k + 1, by omega, by congr 1; have := Hsk.out; omega, (R6.out.row _).cast (by rw [Hnx.out]), G6.out.rowOther _ Hne.out.1, Below.row L6.out Hne.out.2 _⟩
        case measure => simp [intOf]; try omega
      · have Hnx : Hid (rtN g true (k + 1) = r) := hide (by rw [rtN, ← Hr.out, ← Hsk.out, ← Hx.out, Hpw.out, if_neg hle])
        have hdec : decide (g < x * x * x) = true := by rw [decide_eq_true_iff]; omega
        go_wp2_with (first
          | (refine wpList_load_row rfl 54 _ rfl bp rfl 54 _ (0, 0) _ P5.out Tryd.underlying54 rfl (by rw [arr_size]; exact cells54) ?_)
          | (refine wpList_load_row rfl 54 _ rfl w.heap.size rfl 54 _ (0, 0) _ G5.out Tryd.underlying54 rfl (by rw [arr_size]; exact cells54) ?_)
          | (go_at_call 22; refine (above_at (x * x * x) g _ _ rfl Hpm.out Hg.out).mono ?_; rw [hdec]; rintro e k6 ⟨rfl, hb⟩; have R6 := hide (R5.out.call hb); have G6 := hide (G5.out.call hb); have L6 := hide (keepLow2 L5.out hb); clear hb; dsimp only))
        go_roundw
        case rel => exact ⟨k + 1, by omega, by congr 1; have := Hsk.out; omega, R6.out.cast (by rw [Hnx.out]), G6.out, L6.out⟩
        case measure => simp [intOf]; try omega
    · have e69 : k = 69 := by omega
      subst e69
      rw [show (68 : Int) - ((69 : Nat) : Int) = -1 from rfl]
      obtain ⟨r, hr⟩ : ∃ r, r = rtN g true 69 := ⟨_, rfl⟩
      rw [← hr] at HBr
      have Hr := hide hr
      clear hr
      have c0 := HBr.out.cell 0
      rw [arr_get _ _ _ (by omega)] at c0
      have c1 := HBr.out.cell 1
      rw [arr_get _ _ _ (by omega)] at c1
      have c2 := HBr.out.cell 2
      rw [arr_get _ _ _ (by omega)] at c2
      have c3 := HBr.out.cell 3
      rw [arr_get _ _ _ (by omega)] at c3
      have Hlo := hide (low_int r)
      go_wp2
      rw [Hlo.out, Hr.out]
      go_ret
      exact ⟨rfl, HL.out⟩
set_option maxRecDepth 100000 in
set_option maxHeartbeats 4000000 in
theorem root_false (n : Nat) (w : World) (hn : n < 65536) :
    Calls Tryd.prog 16 #[.int .u64 n, .bool false] w fun e w' => e = .returned (.int .u64 (rtN (n * 2 ^ (16 * 8)) false 69 % 2 ^ 64 : Nat)) ∧ Below w.heap.size w w' := by
  have Hn := hide hn
  clear hn
  obtain ⟨g, hg⟩ : ∃ g, g = n * 2 ^ (16 * 8) := ⟨_, rfl⟩
  have Hg : Hid (g < M20) := hide (by
    rw [hg]
    have h2 : n * 2 ^ (16 * 8) < 2 ^ 16 * 2 ^ (16 * 8) := Nat.mul_lt_mul_of_pos_right Hn.out (Nat.two_pow_pos _)
    rw [← Nat.pow_add] at h2
    exact Nat.lt_of_lt_of_le h2 (m20_big _ (by omega)))
  have Hge := hide hg
  rw [← hg]
  clear hg
  have hz := zero54
  go_enter Tryd.func16, Tryd.ntmps16
  go_upto_region 3 with (first
    | (refine wpList_build rfl 54 #[] rfl (by simp [built54]) ?_; simp only [List.map_toArray, List.map_nil, built54, Option.getD_some])
    | (refine wpList_store_abs rfl 54 _ _ rfl w.heap.size (arr 20 (fun _ => 0)) rfl rfl 54 _ (Blk.new w _ _) (by rw [arr_size]; exact cells54) (by simp only [arr_size]) (arr_one _ _) ?_; intro k2 Bn Sn; have B1 := hide Bn; have L1 := hide (Sn.low _ _ ((Below.refl _ w).alloc (Nat.le_refl _) _) (Nat.le_refl _)); clear Bn Sn))
  have cg := B1.out.cell 8
  rw [arr_get _ _ _ (by omega)] at cg
  have fg := B1.out.frozen 8
  have BG := hide ((B1.out.set 8 (.int .u64 (n : Nat))).cast (c' := arr 20 (dgt g)) (by
    rw [arr_set]
    exact arr_congr _ _ _ fun j hj => by rw [Hge.out]; exact goal_dgt n 8 j Hn.out hj (by decide)))
  have LG := hide (L1.out.setCell (p := ⟨w.heap.size, 8, none⟩) (Nat.le_refl _) (.int .u64 (n : Nat)))
  clear B1 L1
  go_upto_region 6 with (fail)
  clear cg fg
  generalize k2.setCell ⟨w.heap.size, 8, none⟩ (.int .u64 (n : Nat)) = w1 at *
  go_upto_region 7 with (first
    | (refine wpList_build rfl 54 #[] rfl (by simp [built54]) ?_; simp only [List.map_toArray, List.map_nil, built54, Option.getD_some])
    | (refine wpList_store_abs rfl 54 _ _ rfl w1.heap.size (arr 20 (fun _ => 0)) rfl rfl 54 _ (Blk.new w1 _ _) (by rw [arr_size]; exact cells54) (by simp only [arr_size]) (arr_one _ _) ?_; intro k3 Bn Sn; have G2 := hide (Sn.other _ _ _ (Nat.ne_of_gt BG.out.lt) (BG.out.alloc _)); have L2 := hide (Sn.low _ _ (LG.out.alloc LG.out.size _) LG.out.size); have R2 := hide Bn; have Hne : Hid (w1.heap.size ≠ w.heap.size ∧ w.heap.size ≤ w1.heap.size) := hide ⟨Nat.ne_of_gt BG.out.lt, LG.out.size⟩; clear Bn Sn BG LG))
  clear hz
  generalize w1.heap.size = br at *
  simp only [Act.put]
  go_wp2
  go_loopw [8] (fun iv wr => ∃ k : Nat, k ≤ 69 ∧ iv = .int .i64 ((68 : Int) - (k : Int)) ∧ Blk wr br (arr 20 (dgt (rtN g false k))) 54 ∧ Blk wr w.heap.size (arr 20 (dgt g)) 54 ∧ Below w.heap.size w wr) (fun i _ => (intOf i + 1).toNat)
  case atStart => exact ⟨0, by omega, rfl, R2.out.cast (arr_congr _ _ _ fun j _ => by simp [rtN, dgt]), G2.out, L2.out⟩
  case round =>
    clear R2 G2 L2
    obtain ⟨k, hk, rfl, Br, Bg, L⟩ := hrel
    have HBr := hide Br
    have HBg := hide Bg
    have HL := hide L
    clear Br Bg L
    by_cases hlt : k < 69
    · obtain ⟨s, hs⟩ : ∃ s, s = 68 - k := ⟨_, rfl⟩
      rw [show (68 : Int) - (k : Int) = (s : Int) by omega]
      obtain ⟨r, hr⟩ : ∃ r, r = rtN g false k := ⟨_, rfl⟩
      have hlow := rtN_low g false k hk
      rw [← hr, show 69 - k = s + 1 by omega] at hlow
      rw [← hr] at HBr
      have Hr := hide hr
      have Hlow := hide hlow
      have Hsk : Hid (s = 68 - k) := hide hs
      obtain ⟨x, hx⟩ : ∃ x, x = r + 2 ^ s := ⟨_, rfl⟩
      have Hx69 : Hid (x < 2 ^ 69) := hide (by rw [hx]; exact bit_fits r s hlow.1 hlow.2 (by omega))
      have Hxd : Hid (∀ j, j < 20 → dgt x j = up (dgt r) (s / 16) (2 ^ (s % 16)) j) := hide (fun j hj => by rw [hx]; exact add_bit r s j Hlow.out.1 (Nat.lt_of_lt_of_le Hlow.out.2 (m20_big 69 (by omega))) (show s / 16 < 20 by omega) hj)
      have Hroom := hide (bit_room r s hlow.1)
      have Hx := hide hx
      have hs68 : s ≤ 68 := by omega
      clear hr hlow hs hx
      have hz := zero54
      go_upto_region 11 with (first
        | (refine wpList_load_row rfl 54 _ rfl br rfl 54 _ (0, 0) _ HBr.out Tryd.underlying54 rfl (by rw [arr_size]; exact cells54) ?_)
        | (refine wpList_store_abs rfl 54 _ _ rfl wr.heap.size (arr 20 (dgt r)) rfl rfl 54 _ (Blk.new wr _ _) (by rw [arr_size]; exact cells54) (by simp only [arr_size]) (arr_one _ _) ?_; intro k3 Bn Sn; have R1 := hide (Sn.other _ _ _ (Nat.ne_of_gt HBr.out.lt) (HBr.out.alloc _)); have G1 := hide (Sn.other _ _ _ (Nat.ne_of_gt HBg.out.lt) (HBg.out.alloc _)); have L1 := hide (Sn.low _ _ (HL.out.alloc HL.out.size _) HL.out.size); have T1 := hide Bn; have Hd1 : Hid (wr.heap.size ≠ br ∧ wr.heap.size ≠ w.heap.size ∧ w.heap.size ≤ wr.heap.size) := hide ⟨Nat.ne_of_gt HBr.out.lt, Nat.ne_of_gt HBg.out.lt, HL.out.size⟩; clear Bn Sn HBr HBg HL))
      clear hz
      generalize wr.heap.size = bt at *
      simp only [Act.put]
      have ct := T1.out.cell (s / 16)
      rw [arr_get _ _ _ (by omega)] at ct
      have ft := T1.out.frozen (s / 16)
      have hs0 : (0 : Int) ≤ (s : Int) := by omega
      have hq0 : (0 : Int) ≤ (s : Int) / 16 := by omega
      have hq4 : (s : Int) / 16 < 20 := by omega
      have hq : IntKind.i64.wrap ((s : Int).tdiv 16) = (s : Int) / 16 := by rw [Int.tdiv_eq_ediv_of_nonneg (by omega), wrap_i64_small' _ (by omega) (by omega)]
      have hq' : IntKind.i64.wrap ((s : Int) / 16) = (s : Int) / 16 := wrap_i64_small' _ (by omega) (by omega)
      have hqn : ((s : Int) / 16).toNat = s / 16 := by omega
      obtain ⟨y, hy⟩ : ∃ y, y = s % 16 := ⟨_, rfl⟩
      have hr1 : (s : Int).tmod 16 = (y : Int) := by rw [Int.tmod_eq_emod_of_nonneg (by omega)]; omega
      have hr2 : (s : Int) % 16 = (y : Int) := by omega
      have hyu : IntKind.u64.wrap (y : Int) = (y : Int) := by rw [wrap_u64']; omega
      have hy0 : (0 : Int) ≤ (y : Int) := by omega
      have hy6 : (y : Int) < 64 := by omega
      have hyn : (y : Int).toNat = y := by omega
      rw [← hy] at Hxd Hroom
      obtain ⟨q, eq⟩ : ∃ q, q = dgt r (s / 16) + 2 ^ y := ⟨_, rfl⟩
      have hsum : IntKind.u64.wrap (((dgt r (s / 16) : Nat) : Int) + 2 ^ y) = (q : Int) := by
        have := Hroom.out
        rw [← eq] at this
        rw [show ((dgt r (s / 16) : Nat) : Int) + 2 ^ y = (q : Int) by rw [eq]; simp, wrap_u64']
        omega
      have hpw : IntKind.u64.wrap ((2 : Int) ^ y) = 2 ^ y := by
        have h1 := Hroom.out
        rw [show ((2 : Int) ^ y) = ((2 ^ y : Nat) : Int) by simp, wrap_u64']
        generalize 2 ^ y = z at *
        omega
      have Hq := hide eq
      clear eq
      have T2 := hide ((T1.out.set (s / 16) (.int .u64 (q : Nat))).cast (c' := arr 20 (dgt x)) (by
        rw [arr_set]
        exact arr_congr _ _ _ fun j hj => by rw [Hxd.out j hj, Hq.out]; unfold up; rfl))
      have R2 := hide (R1.out.setOther (b' := bt) (s / 16) (.int .u64 (q : Nat)) Hd1.out.1)
      have G2 := hide (G1.out.setOther (b' := bt) (s / 16) (.int .u64 (q : Nat)) Hd1.out.2.1)
      have L2 := hide (L1.out.setCell (p := ⟨bt, s / 16, none⟩) Hd1.out.2.2 (.int .u64 (q : Nat)))
      clear hy T1 R1 G1 L1
      go_upto_region 12 with (fail)
      clear ct ft hs0 hq0 hq4 hq hq' hqn hr1 hr2 hyu hy0 hy6 hyn hsum hpw
      generalize k3.setCell ⟨bt, s / 16, none⟩ (.int .u64 (q : Nat)) = w2 at *
      have hz := zero54
      go_upto_region 13 with (first
        | (refine wpList_load_row rfl 54 _ rfl bt rfl 54 _ (0, 0) _ T2.out Tryd.underlying54 rfl (by rw [arr_size]; exact cells54) ?_)
        | (go_at_call 21; refine (times_at x x _ _ rfl).mono ?_; unfold rn; rintro e k4 ⟨rfl, hb⟩; have R3 := hide (R2.out.call hb); have G3 := hide (G2.out.call hb); have T3 := hide (T2.out.call hb); have L3 := hide (keepLow2 L2.out hb); clear hb R2 G2 T2 L2; dsimp only)
        | (refine wpList_store_abs rfl 54 _ _ rfl k4.heap.size (arr 20 (dgt (x * x))) rfl rfl 54 _ (Blk.new k4 _ _) (by rw [arr_size]; exact cells54) (by simp only [arr_size]) (arr_one _ _) ?_; intro k5 Bn Sn; have R4 := hide (Sn.other _ _ _ (Nat.ne_of_gt R3.out.lt) (R3.out.alloc _)); have G4 := hide (Sn.other _ _ _ (Nat.ne_of_gt G3.out.lt) (G3.out.alloc _)); have T4 := hide (Sn.other _ _ _ (Nat.ne_of_gt T3.out.lt) (T3.out.alloc _)); have L4 := hide (Sn.low _ _ (L3.out.alloc L3.out.size _) L3.out.size); have P4 := hide Bn; have Hd4 : Hid (k4.heap.size ≠ br ∧ k4.heap.size ≠ w.heap.size ∧ k4.heap.size ≠ bt ∧ w.heap.size ≤ k4.heap.size) := hide ⟨Nat.ne_of_gt R3.out.lt, Nat.ne_of_gt G3.out.lt, Nat.ne_of_gt T3.out.lt, L3.out.size⟩; clear Bn Sn R3 G3 T3 L3))
      clear hz
      generalize k4.heap.size = bp at *
      simp only [Act.put]
      have P5 := P4
      have R5 := R4
      have G5 := G4
      have T5 := T4
      have L5 := L4
      clear P4 R4 G4 T4 L4
      have Hpw : Hid (pw3 false x = x * x) := hide rfl
      have Hpm : Hid (x * x < M20) := hide (by rw [← Hpw.out]; exact (pw_small false x Hx69.out).1)
      have hsw : IntKind.i64.wrap ((s : Int) - 1) = (s : Int) - 1 := by simp [IntKind.wrap, IntKind.bits, IntKind.signed]; omega
      by_cases hle : x * x ≤ g
      · have Hnx : Hid (rtN g false (k + 1) = x) := hide (by rw [rtN, ← Hr.out, ← Hsk.out, ← Hx.out, Hpw.out, if_pos hle])
        have hdec : decide (g < x * x) = false := by rw [decide_eq_false_iff_not]; omega
        go_wp2_with (first
          | (refine wpList_load_row rfl 54 _ rfl bp rfl 54 _ (0, 0) _ P5.out Tryd.underlying54 rfl (by rw [arr_size]; exact cells54) ?_)
          | (refine wpList_load_row rfl 54 _ rfl w.heap.size rfl 54 _ (0, 0) _ G5.out Tryd.underlying54 rfl (by rw [arr_size]; exact cells54) ?_)
          | (go_at_call 22; refine (above_at (x * x) g _ _ rfl Hpm.out Hg.out).mono ?_; rw [hdec]; rintro e k6 ⟨rfl, hb⟩; have R6 := hide (R5.out.call hb); have G6 := hide (G5.out.call hb); have T6 := hide (T5.out.call hb); have L6 := hide (keepLow2 L5.out hb); clear hb; dsimp only)
          | (refine wpList_load_row rfl 54 _ rfl bt rfl 54 _ (0, 0) _ T6.out Tryd.underlying54 rfl (by rw [arr_size]; exact cells54) ?_)
          | (refine wpList_store_row rfl 54 _ _ rfl br (arr 20 (dgt x)) rfl rfl 54 _ R6.out (by rw [arr_size]; exact cells54) (by rw [arr_size, arr_size]) (arr_one _ _) ?_))
        go_roundw
        case rel => exact ⟨k + 1, by omega, by congr 1; have := Hsk.out; omega, (R6.out.row _).cast (by rw [Hnx.out]), G6.out.rowOther _ Hne.out.1, Below.row L6.out Hne.out.2 _⟩
        case measure => simp [intOf]; try omega
      · have Hnx : Hid (rtN g false (k + 1) = r) := hide (by rw [rtN, ← Hr.out, ← Hsk.out, ← Hx.out, Hpw.out, if_neg hle])
        have hdec : decide (g < x * x) = true := by rw [decide_eq_true_iff]; omega
        go_wp2_with (first
          | (refine wpList_load_row rfl 54 _ rfl bp rfl 54 _ (0, 0) _ P5.out Tryd.underlying54 rfl (by rw [arr_size]; exact cells54) ?_)
          | (refine wpList_load_row rfl 54 _ rfl w.heap.size rfl 54 _ (0, 0) _ G5.out Tryd.underlying54 rfl (by rw [arr_size]; exact cells54) ?_)
          | (go_at_call 22; refine (above_at (x * x) g _ _ rfl Hpm.out Hg.out).mono ?_; rw [hdec]; rintro e k6 ⟨rfl, hb⟩; have R6 := hide (R5.out.call hb); have G6 := hide (G5.out.call hb); have L6 := hide (keepLow2 L5.out hb); clear hb; dsimp only))
        go_roundw
        case rel => exact ⟨k + 1, by omega, by congr 1; have := Hsk.out; omega, R6.out.cast (by rw [Hnx.out]), G6.out, L6.out⟩
        case measure => simp [intOf]; try omega
    · have e69 : k = 69 := by omega
      subst e69
      rw [show (68 : Int) - ((69 : Nat) : Int) = -1 from rfl]
      obtain ⟨r, hr⟩ : ∃ r, r = rtN g false 69 := ⟨_, rfl⟩
      rw [← hr] at HBr
      have Hr := hide hr
      clear hr
      have c0 := HBr.out.cell 0
      rw [arr_get _ _ _ (by omega)] at c0
      have c1 := HBr.out.cell 1
      rw [arr_get _ _ _ (by omega)] at c1
      have c2 := HBr.out.cell 2
      rw [arr_get _ _ _ (by omega)] at c2
      have c3 := HBr.out.cell 3
      rw [arr_get _ _ _ (by omega)] at c3
      have Hlo := hide (low_int r)
      go_wp2
      rw [Hlo.out, Hr.out]
      go_ret
      exact ⟨rfl, HL.out⟩
end Go.Proofs.YtplckpmicoohnaaDoor

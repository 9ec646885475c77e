/- Walks of the reference: times, above. -/
import Derived.Test.YtplckpmicoohnaaDoorNa
import Derived.Test.YtplckpmicoohnaaDoorCj
namespace Go.Proofs.YtplckpmicoohnaaDoor
open Go.RowKit

theorem cells54 : (Tryd.prog.info? 54).map (·.size) = some 20 := by kernel_rfl
theorem built54 : Tryd.prog.built 54 [] = some (arr 20 (fun _ => 0)) := by kernel_rfl
theorem zero54 (w : World) : (zeroValue 54).run Tryd.prog w = .ok (.agg (arr 20 (fun _ => 0))) w := by kernel_rfl
/-- A number in twenty digits. -/
def rn (n : Nat) : Value := .agg (arr 20 (dgt n))
theorem upd_arr (n : Nat) (f g : Nat → Nat) (k : Nat) (wr : World) (B : Nat) (t : TypeId) (h : Blk wr B (arr n (fun j => if j < k then g j else f j)) t) :
    Blk (wr.setCell ⟨B, k, none⟩ (.int .u64 (g k : Nat))) B (arr n (fun j => if j < k + 1 then g j else f j)) t := upd_vals .u64 n f g k wr B t h
set_option maxRecDepth 100000 in
set_option maxHeartbeats 2000000 in
theorem times_any (a b : Nat) (w : World) :
    Calls Tryd.prog 21 #[rn a, rn b] w fun e w' => e = .returned (rn (a * b)) ∧ Below w.heap.size w w' := by
  unfold rn
  have hz := zero54
  have B1 := hide (((Blk.new w (arr 20 (dgt a)) 54).alloc (.cells (arr 20 (dgt b)) 54)).alloc (.cells (arr 20 (fun _ => 0)) 54))
  have B2 := hide ((Blk.new' (w.alloc (.cells (arr 20 (dgt a)) 54)) (w.heap.size + 1) (by simp) (arr 20 (dgt b)) 54).alloc (.cells (arr 20 (fun _ => 0)) 54))
  have B3 := hide (Blk.new' ((w.alloc (.cells (arr 20 (dgt a)) 54)).alloc (.cells (arr 20 (dgt b)) 54)) (w.heap.size + 1 + 1) (by simp) (arr 20 (fun _ => 0)) 54)
  have L1 : Hid (Below w.heap.size w (((w.alloc (.cells (arr 20 (dgt a)) 54)).alloc (.cells (arr 20 (dgt b)) 54)).alloc (.cells (arr 20 (fun _ => 0)) 54))) := hide ((((Below.refl _ w).alloc (Nat.le_refl _) _).alloc (by simp) _).alloc (by simp; omega) _)
  go_enter Tryd.func21, Tryd.ntmps21
  go_upto_region 1 with (fail)
  generalize ((w.alloc (.cells (arr 20 (dgt a)) 54)).alloc (.cells (arr 20 (dgt b)) 54)).alloc (.cells (arr 20 (fun _ => 0)) 54) = w1 at *
  go_upto_region 2 with (first
    | (refine wpList_build rfl 54 #[] rfl (by simp [built54]) ?_; simp only [List.map_toArray, List.map_nil, built54, Option.getD_some])
    | (refine wpList_store_abs rfl 54 _ _ rfl w1.heap.size (arr 20 (fun _ => 0)) rfl rfl 54 _ (Blk.new w1 _ _) (by rw [arr_size]; exact cells54) (by simp only [arr_size]) (arr_one _ _) ?_; intro k2 Bn Sn; have E1 := hide (Sn.other _ _ _ (Nat.ne_of_gt B1.out.lt) (B1.out.alloc _)); have E2 := hide (Sn.other _ _ _ (Nat.ne_of_gt B2.out.lt) (B2.out.alloc _)); have E3 := hide (Sn.other _ _ _ (Nat.ne_of_gt B3.out.lt) (B3.out.alloc _)); have L2 := hide (Sn.low _ _ (L1.out.alloc L1.out.size _) L1.out.size); have E4 := hide Bn; have Hd : Hid (w.heap.size < w1.heap.size ∧ w.heap.size + 1 < w1.heap.size ∧ w.heap.size + 1 + 1 < w1.heap.size) := hide ⟨B1.out.lt, B2.out.lt, B3.out.lt⟩; clear Bn Sn B1 B2 B3 L1))
  clear hz
  generalize w1.heap.size = bo at *
  simp only [Act.put]
  go_wp2
  go_loopw [6] (fun iv wr => ∃ i : Nat, i ≤ 20 ∧ iv = .int .i64 i ∧ Blk wr w.heap.size (arr 20 (dgt a)) 54 ∧ Blk wr (w.heap.size + 1) (arr 20 (dgt b)) 54 ∧ Blk wr (w.heap.size + 1 + 1) (arr 20 (fun _ => 0)) 54 ∧ (∃ l : Nat → Nat, (∀ j, l j ≤ (20 * i) * 4294836225) ∧ Eqm (pv l 20) (a % 2 ^ (16 * i) * b) ∧ Blk wr bo (arr 20 l) 54) ∧ Below w.heap.size w wr) (fun i _ => 20 - (intOf i).toNat)
  case atStart => exact ⟨0, by omega, rfl, E1.out, E2.out, E3.out, ⟨fun _ => 0, fun _ => Nat.zero_le _, by rw [pv_zero]; simp [Nat.mod_one, Eqm], E4.out⟩, L2.out⟩
  case round =>
    clear E1 E2 E3 E4 L2
    obtain ⟨i, hi, rfl, Ba, Bb, Bz, ⟨l, hl, hpv, Bl⟩, L⟩ := hrel
    have Hl := hide hl
    have Hpv := hide hpv
    have HBa := hide Ba
    have HBb := hide Bb
    have HBz := hide Bz
    have HBl := hide Bl
    have HL := hide L
    clear Ba Bb Bz Bl L hl hpv
    by_cases hlt : i < 20
    · have hi0 : (0 : Int) ≤ (i : Int) := by omega
      have hi4 : (i : Int) < 20 := by omega
      go_wp2
      go_loopw [7] (fun kv wr => ∃ k : Nat, i + k ≤ 20 ∧ kv = .int .i64 k ∧ Blk wr w.heap.size (arr 20 (dgt a)) 54 ∧ Blk wr (w.heap.size + 1) (arr 20 (dgt b)) 54 ∧ Blk wr (w.heap.size + 1 + 1) (arr 20 (fun _ => 0)) 54 ∧ (∃ l : Nat → Nat, (∀ j, l j ≤ (20 * i + k) * 4294836225) ∧ Eqm (pv l 20) (a % 2 ^ (16 * i) * b + 2 ^ (16 * i) * dgt a i * (b % 2 ^ (16 * k))) ∧ Blk wr bo (arr 20 l) 54) ∧ Below w.heap.size w wr) (fun i _ => 20 - (intOf i).toNat)
      case atStart => exact ⟨0, by omega, rfl, HBa.out, HBb.out, HBz.out, ⟨l, Hl.out, by have := Hpv.out; simpa [Nat.mod_one] using this, HBl.out⟩, HL.out⟩
      case round =>
        clear HBa HBb HBz HBl HL Hl Hpv l
        obtain ⟨k, hk, rfl, Ba, Bb, Bz, ⟨l, hl, hpv, Bl⟩, L⟩ := hrel
        have Hl := hide hl
        have Hpv := hide hpv
        clear hl hpv
        have hs0 : (0 : Int) ≤ (i : Int) + (k : Int) := by omega
        have hsn : ((i : Int) + (k : Int)).toNat = i + k := by omega
        have hsw : IntKind.i64.wrap ((i : Int) + (k : Int)) = (i : Int) + (k : Int) := wrap_i64_small' _ hs0 (by omega)
        by_cases hlk : i + k < 20
        · have c1 := Ba.cell i
          rw [arr_get _ _ _ (by omega)] at c1
          have c2 := Bb.cell k
          rw [arr_get _ _ _ (by omega)] at c2
          have co := Bl.cell (i + k)
          rw [arr_get _ _ _ hlk] at co
          have fo' := Bl.frozen (i + k)
          have hd := dd_le a b i k
          have hlb : l (i + k) ≤ 420 * 4294836225 := Nat.le_trans (Hl.out (i + k)) (Nat.mul_le_mul_right _ (by omega))
          obtain ⟨p, hp⟩ : ∃ p, p = dgt a i * dgt b k := ⟨_, rfl⟩
          have hpi : ((dgt a i : Nat) : Int) * ((dgt b k : Nat) : Int) = ((p : Nat) : Int) := by rw [hp]; simp
          rw [← hp] at hd
          have hw1 : IntKind.u64.wrap (((dgt a i : Nat) : Int) * ((dgt b k : Nat) : Int)) = ((p : Nat) : Int) := by rw [hpi, wrap_u64']; omega
          have hw2 : IntKind.u64.wrap (((l (i + k) : Nat) : Int) + ((p : Nat) : Int)) = ((l (i + k) + p : Nat) : Int) := by rw [wrap_u64']; omega
          have hw3 : IntKind.u64.wrap (((l (i + k) : Nat) : Int) + ((dgt a i : Nat) : Int) * ((dgt b k : Nat) : Int)) = ((l (i + k) + p : Nat) : Int) := by rw [hpi]; exact hw2
          have HB := hide (Blk.cast (c' := arr 20 (up l (i + k) p)) ((Bl.set (i + k) (.int .u64 (l (i + k) + p : Nat))).drew) (by
            rw [arr_set]
            exact arr_congr _ _ _ fun j _ => by unfold up; rfl))
          have Hle := hide (up_le l (i + k) p (20 * i + k) Hl.out hd)
          have Hst := hide (mul_step l a b i k hlk Hpv.out)
          rw [← hp] at Hst
          have HBa := hide Ba
          have HBb := hide Bb
          have HBz := hide Bz
          have HL := hide L
          clear Ba Bb Bz Bl L hpi hp hd hlb Hl Hpv
          have hk0 : (0 : Int) ≤ (k : Int) := by omega
          have hk5 : (k : Int) < 20 := by omega
          have hs4 : (i : Int) + (k : Int) < 20 := by omega
          go_wp2
          go_region_with (fail)
          all_goals
            go_wp2
            first | rw [hw3] | rw [hw2] | skip
            go_roundw
            case rel => exact ⟨k + 1, by omega, by go_num, (HBa.out.setOther _ _ (by have := Hd.out; omega)).drew, (HBb.out.setOther _ _ (by have := Hd.out; omega)).drew, (HBz.out.setOther _ _ (by have := Hd.out; omega)).drew, ⟨up l (i + k) p, Hle.out, Hst.out, HB.out⟩, (HL.out.setCell (by show w.heap.size ≤ bo; have := Hd.out; omega) _).drew⟩
            case measure => simp [intOf]; omega
        · have e16 : k = 20 - i := by omega
          have hs4 : ¬ (i : Int) + (k : Int) < 20 := by omega
          have HBa := hide Ba
          have HBb := hide Bb
          have HBz := hide Bz
          have HBl := hide Bl
          have HL := hide L
          have Hrow : Hid (Eqm (pv l 20) (a % 2 ^ (16 * (i + 1)) * b)) := hide (mul_row l a b i hlt (by rw [← e16]; exact Hpv.out))
          have Hl2 : Hid (∀ j, l j ≤ (20 * (i + 1)) * 4294836225) := hide (fun j => Nat.le_trans (Hl.out j) (Nat.mul_le_mul_right _ (by omega)))
          clear Ba Bb Bz Bl L hlk e16 Hl Hpv
          go_wp2
          go_roundw
          case rel => exact ⟨i + 1, by omega, by go_num, HBa.out, HBb.out, HBz.out, ⟨l, Hl2.out, Hrow.out, HBl.out⟩, HL.out⟩
          case measure => simp [intOf]; omega
    · have e16 : i = 20 := by omega
      have Heq := hide (mul_end _ a b i e16 Hpv.out)
      clear Hpv
      subst e16
      rw [show ((20 : Nat) : Int) = (20 : Int) from rfl]
      have Hlt : Hid (∀ j, l j < 2 ^ 44) := hide (fun j => by have := Hl.out j; omega)
      clear HBa HBb Hl
      go_wp2
      go_loopw [8, 9] (fun cv iv wr => ∃ k : Nat, k ≤ 20 ∧ iv = .int .i64 k ∧ cv = .int .u64 (ca l k : Nat) ∧ Blk wr bo (arr 20 (fun j => if j < k then dgt (pv l 20) j else l j)) 54 ∧ Blk wr (w.heap.size + 1 + 1) (arr 20 (fun _ => 0)) 54 ∧ Below w.heap.size w wr) (fun _ i _ => 20 - (intOf i).toNat)
      case atStart => exact ⟨0, by omega, rfl, by rw [ca_zero]; rfl, HBl.out.cast (arr_congr _ _ _ fun j _ => by simp), HBz.out, HL.out⟩
      case round =>
        clear HBl HBz HL
        obtain ⟨k, hk, rfl, rfl, Bl, Bz, L⟩ := hrel
        by_cases hlk : k < 20
        · have co := Bl.cell k
          rw [arr_get _ _ _ hlk, if_neg (by omega)] at co
          have fo' := Bl.frozen k
          have h1 := Hlt.out k
          have h2 := ca_lt l Hlt.out k
          have hw : IntKind.u64.wrap (((l k : Nat) : Int) + ((ca l k : Nat) : Int)) = ((l k + ca l k : Nat) : Int) := by rw [wrap_u64']; omega
          obtain ⟨s, hs⟩ : ∃ s, s = l k + ca l k := ⟨_, rfl⟩
          rw [← hs] at hw
          have hm : (s : Int).tmod 65536 = ((dgt (pv l 20) k : Nat) : Int) := by rw [ca_low l k 20 hlk, ← hs, Int.tmod_eq_emod_of_nonneg (by omega)]; omega
          have hm2 : (s : Int) % 65536 = ((dgt (pv l 20) k : Nat) : Int) := by rw [ca_low l k 20 hlk, ← hs]; omega
          have hq : (s : Int).tdiv 65536 = ((ca l (k + 1) : Nat) : Int) := by rw [ca_succ l k, ← hs, Int.tdiv_eq_ediv_of_nonneg (by omega)]; omega
          have hq2 : (s : Int) / 65536 = ((ca l (k + 1) : Nat) : Int) := by rw [ca_succ l k, ← hs]; omega
          have hcw : IntKind.u64.wrap ((ca l (k + 1) : Nat) : Int) = ((ca l (k + 1) : Nat) : Int) := by have := ca_lt l Hlt.out (k + 1); rw [wrap_u64']; omega
          have HB := hide (upd_arr 20 l (dgt (pv l 20)) k wr bo 54 Bl)
          have HBz := hide Bz
          have HL := hide L
          clear Bl Bz L hs h1 h2
          have hk0 : (0 : Int) ≤ (k : Int) := by omega
          have hk5 : (k : Int) < 20 := by omega
          go_wp2
          go_roundw
          case rel => exact ⟨k + 1, by omega, by go_num, rfl, HB.out, HBz.out.setOther _ _ (by have := Hd.out; omega), HL.out.setCell (by show w.heap.size ≤ bo; have := Hd.out; omega) _⟩
          case measure => simp [intOf]; omega
        · have e20 : k = 20 := by omega
          subst e20
          have HB := hide (Bl.cast (arr_congr 20 _ (dgt (a * b)) fun j hj => by rw [if_pos hj]; exact dgt_eqm _ _ j hj Heq.out))
          have HBz := hide Bz
          have HL := hide L
          clear Bl Bz L Heq
          go_wp2_with (first
            | (refine wpList_load_row rfl 54 _ rfl bo rfl 54 _ (0, 0) _ HB.out Tryd.underlying54 rfl (by rw [arr_size]; exact cells54) ?_)
            | (refine wpList_store_row rfl 54 _ _ rfl (w.heap.size + 1 + 1) (arr 20 (dgt (a * b))) rfl rfl 54 _ HBz.out (by rw [arr_size]; exact cells54) (by rw [arr_size, arr_size]) (arr_one _ _) ?_))
          refine bodyPost_ret (v := .agg (arr 20 (dgt (a * b)))) (results_cell_row Tryd.results21 _ _ (w.heap.size + 1 + 1) 54 _ (0, 0) _ rfl (HBz.out.row _) Tryd.underlying54 rfl (by rw [arr_size]; exact cells54)) rfl ⟨rfl, ?_⟩
          exact Below.row HL.out (by omega) _
theorem times_at (a b : Nat) (args : Array Value) (w : World) (h : args = #[rn a, rn b]) :
    Calls Tryd.prog 21 args w fun e w' => e = .returned (rn (a * b)) ∧ Below w.heap.size w w' := by
  subst h; exact times_any a b w
theorem top_start (a b i : Nat) (hi : i = m20) (ha : a < M20) (hb : b < M20) : a / 2 ^ (16 * i) = b / 2 ^ (16 * i) := by
  subst hi
  unfold M20 at *
  rw [Nat.div_eq_of_lt ha, Nat.div_eq_of_lt hb]
set_option maxRecDepth 100000 in
set_option maxHeartbeats 2000000 in
theorem above_any (a b : Nat) (w : World) (ha : a < M20) (hb : b < M20) :
    Calls Tryd.prog 22 #[rn a, rn b] w fun e w' => e = .returned (.bool (decide (b < a))) ∧ Below w.heap.size w w' := by
  have Ha := hide ha
  have Hb := hide hb
  clear ha hb
  unfold rn
  have B1 := hide ((Blk.new w (arr 20 (dgt a)) 54).alloc (.cells (arr 20 (dgt b)) 54))
  have B2 := hide (Blk.new' (w.alloc (.cells (arr 20 (dgt a)) 54)) (w.heap.size + 1) (by simp) (arr 20 (dgt b)) 54)
  have L1 := hide (((Below.refl _ w).alloc (Nat.le_refl _) (.cells (arr 20 (dgt a)) 54)).alloc (by simp) (.cells (arr 20 (dgt b)) 54))
  go_enter Tryd.func22, Tryd.ntmps22
  go_upto_region 1 with (fail)
  generalize (w.alloc (.cells (arr 20 (dgt a)) 54)).alloc (.cells (arr 20 (dgt b)) 54) = w1 at *
  go_wp2
  go_loopw [5] (fun iv wr => ∃ i : Nat, i ≤ 20 ∧ iv = .int .i64 ((i : Int) - 1) ∧ a / 2 ^ (16 * i) = b / 2 ^ (16 * i) ∧ Blk wr w.heap.size (arr 20 (dgt a)) 54 ∧ Blk wr (w.heap.size + 1) (arr 20 (dgt b)) 54 ∧ Below w.heap.size w wr) (fun i _ => (intOf i + 1).toNat)
  case atStart => exact ⟨20, by omega, rfl, top_start a b 20 rfl Ha.out Hb.out, B1.out, B2.out, L1.out⟩
  case round =>
    clear B1 B2 L1
    obtain ⟨i, hi, rfl, he, Ba, Bb, L⟩ := hrel
    rcases i with _ | i
    · have hlt0 : ¬ (0 : Int) ≤ ((0 : Nat) : Int) - 1 := by omega
      have Hab : Hid (decide (b < a) = false) := hide (by
        have : a = b := by simpa using he
        simp [this])
      have HL := hide L
      clear Ba Bb L he
      go_wp2
      go_ret
      exact ⟨by rw [Hab.out]; rfl, HL.out⟩
    · rw [show ((i + 1 : Nat) : Int) - 1 = (i : Int) by omega]
      have c1 := Ba.cell i
      rw [arr_get _ _ _ (by omega)] at c1
      have c2 := Bb.cell i
      rw [arr_get _ _ _ (by omega)] at c2
      have He := hide he
      have HBa := hide Ba
      have HBb := hide Bb
      have HL := hide L
      clear Ba Bb L he
      have hi0 : (0 : Int) ≤ (i : Int) := by omega
      have hi20 : (i : Int) < 20 := by omega
      by_cases hd : dgt a i = dgt b i
      · have Htop := hide (top_next a b i He.out hd)
        have hdi : ((dgt a i : Nat) : Int) = ((dgt b i : Nat) : Int) := by rw [hd]
        rw [hd] at c1
        clear hd hdi
        go_wp2
        go_quiet (fail)
        go_wp2
        go_roundw
        case rel => exact ⟨i, by omega, rfl, Htop.out, HBa.out.drewN _, HBb.out.drewN _, Below.drewN HL.out _⟩
        case measure => simp [intOf]
      · have hdi : ¬ ((dgt a i : Nat) : Int) = ((dgt b i : Nat) : Int) := by omega
        have hdb : (((dgt a i : Nat) : Int) == ((dgt b i : Nat) : Int)) = false := by rw [beq_eq_false_iff_ne]; exact hdi
        have hab := above_dec a b i He.out hd
        have Hab : Hid (decide (((dgt b i : Nat) : Int) < ((dgt a i : Nat) : Int)) = decide (b < a)) := hide (by
          rw [decide_eq_decide]
          constructor
          · intro h; exact hab.1 (by omega)
          · intro h; have := hab.2 h; omega)
        clear hab
        go_wp2
        go_quiet (fail)
        go_wp2
        have c1a : (wr.drewN nq).cell? ⟨w.heap.size, i, none⟩ = some (.int .u64 (dgt a i : Nat)) := c1
        have c2a : (wr.drewN nq).cell? ⟨w.heap.size + 1, i, none⟩ = some (.int .u64 (dgt b i : Nat)) := c2
        have HLa := hide (Below.drewN HL.out nq)
        clear c1 c2 HL HBa HBb
        generalize wr.drewN nq = wq at *
        go_quiet (fail)
        go_wp2
        go_ret
        exact ⟨by rw [← Hab.out]; simp, Below.drewN HLa.out _⟩
theorem above_at (a b : Nat) (args : Array Value) (w : World) (h : args = #[rn a, rn b]) (ha : a < M20) (hb : b < M20) :
    Calls Tryd.prog 22 args w fun e w' => e = .returned (.bool (decide (b < a))) ∧ Below w.heap.size w w' := by
  subst h; exact above_any a b w ha hb
end Go.Proofs.YtplckpmicoohnaaDoor

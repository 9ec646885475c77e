/- Walks of the reference: folded. -/
import Derived.Test.YtalnkcijebdpbaaVb
namespace Go.Proofs.Ytalnkcijebdpbaa.F
open Go.RowKit

theorem refP_at (args : Array Value) (w : World) (h : args = #[]) :
    Calls Try.prog 72 args w fun e w' => e = .returned (rn pP) ∧ Below w.heap.size w w' := by subst h; exact refP_any w
theorem refLess_at (a b : Nat) (args : Array Value) (w : World) (h : args = #[.agg (vals .u64 16 (dg a)), .agg (vals .u64 16 (dg b))]) (ha : a < 2 ^ 256) (hb : b < 2 ^ 256) :
    Calls Try.prog 82 args w fun e w' => e = .returned (.bool (decide (a < b))) ∧ Below w.heap.size w w' := by subst h; exact refLess_any a b w ha hb
theorem refless_at (a b : Nat) (args : Array Value) (w : World) (h : args = #[.agg (vals .u64 16 (dg a)), .agg (vals .u64 16 (dg b))]) (hle : b ≤ a) :
    Calls Try.prog 71 args w fun e w' => e = .returned (rn (a - b)) ∧ Below w.heap.size w w' := by subst h; exact refless_any a b w hle
theorem pP_lt : pP < 2 ^ 256 := by unfold pP; omega
/-- The number that lies in a block. -/
def numAt (w : World) (b : Nat) : Nat := match w.heap[b]? with
  | some (.cells c _ _) => pv (fun j => match c[j]? with | some v => (intOf v).toNat | none => 0) 16
  | _ => 0
theorem numAt_blk {w : World} {b x : Nat} {t : TypeId} (h : Blk w b (vals .u64 16 (dg x)) t) (hx : x < 2 ^ 256) : numAt w b = x := by
  unfold Blk at h
  unfold numAt
  rw [h]
  dsimp only
  rw [pv_congr _ (dg x) 16 fun j hj => by rw [vals_get _ _ _ _ hj]; rfl, pv_dg]
  exact Nat.mod_eq_of_lt hx
/-- A round's second half, so far. -/
def hb2 (v k j : Nat) : Nat := if j < 16 then (if j < k then dg v j + 38 * dg v (j + 16) else dg v j) else (if j < 16 + k then 0 else dg v j)
theorem hb2_zero (v j : Nat) : hb2 v 0 j = dg v j := by
  unfold hb2
  by_cases h : j < 16
  · rw [if_pos h, if_neg (by omega)]
  · rw [if_neg h, if_neg (by omega)]
theorem hb2_succ (v k j : Nat) (hk : k < 16) : (if j = k + 16 then 0 else (if j = k then dg v k + 38 * dg v (k + 16) else hb2 v k j)) = hb2 v (k + 1) j := by
  unfold hb2
  by_cases h1 : j = k + 16
  · subst h1; rw [if_pos rfl, if_neg (by omega), if_pos (by omega)]
  · rw [if_neg h1]
    by_cases h2 : j = k
    · subst h2; rw [if_pos rfl, if_pos hk, if_pos (by omega)]
    · rw [if_neg h2]
      by_cases h3 : j < 16
      · rw [if_pos h3, if_pos h3]
        by_cases h4 : j < k
        · rw [if_pos h4, if_pos (by omega)]
        · rw [if_neg h4, if_neg (by omega)]
      · rw [if_neg h3, if_neg h3]
        by_cases h4 : j < 16 + k
        · rw [if_pos h4, if_pos (by omega)]
        · rw [if_neg h4, if_neg (by omega)]
theorem hb2_last (v j : Nat) (hj : j < 32) : hb2 v 16 j = fdg v j := by
  unfold hb2 fdg
  by_cases h : j < 16
  · rw [if_pos h, if_pos h, if_pos h]
  · rw [if_neg h, if_neg h, if_pos (by omega)]
theorem hb2_at (v k : Nat) (hk : k < 16) : hb2 v k k = dg v k ∧ hb2 v k (k + 16) = dg v (k + 16) := by
  unfold hb2
  exact ⟨by rw [if_pos hk, if_neg (by omega)], by rw [if_neg (by omega), if_neg (by omega)]⟩

set_option maxHeartbeats 2000000 in
theorem folded_any (l : Nat → Nat) (w : World) (hl : ∀ j, l j < 2 ^ 40) (hv : pv l 32 < 2 ^ 256 * 2 ^ 256) :
    Calls Try.prog 70 #[.agg (vals .u64 32 l)] w fun e w' => e = .returned (rn (pv l 32 % pP)) ∧ Below w.heap.size w w' := by
  have Hl := hide hl
  have Hv := hide hv
  clear hl hv
  obtain ⟨V, hV⟩ : ∃ V, V = pv l 32 := ⟨_, rfl⟩
  rw [← hV] at Hv ⊢
  have HV := hide hV
  clear hV
  go_enter Try.func70, Try.ntmps70
  go_wp2
  go_loopw [3] (fun i wr => ∃ r : Nat, r ≤ 4 ∧ i = .int .i64 r ∧ (∃ m : Nat → Nat, (∀ j, m j < 2 ^ 40) ∧ pv m 32 = foN V r ∧ (r = 4 → ∀ j, j < 32 → 16 ≤ j → m j = 0) ∧ Blk wr w.heap.size (vals .u64 32 m) 103) ∧ (∃ z, z.size = 16 ∧ Blk wr (w.heap.size + 1) z 33) ∧ Below w.heap.size w wr) (fun i _ => 4 - (intOf i).toNat)
  case atStart =>
    refine ⟨0, by omega, rfl, ⟨l, Hl.out, HV.out.symm, by omega, ?_⟩, ⟨vals .u64 16 (fun _ => 0), vals_size _ _ _, ?_⟩, ?_⟩
    · exact (Blk.new w _ _).alloc _
    · exact Blk.new' (w.alloc _) (w.heap.size + 1) (by simp) _ _
    · exact ((Below.refl _ w).alloc (Nat.le_refl _) _).alloc (by simp) _
  case round =>
    obtain ⟨r, hr, rfl, ⟨m, hm, hpv, hz4, Bm⟩, ⟨z, hz, Bz⟩, L⟩ := hrel
    have Hm := hide hm
    have Hpv := hide hpv
    have Hz4 := hide hz4
    clear hm hpv hz4
    by_cases hlt : r < 4
    · have HBm := hide Bm
      have HBz := hide Bz
      have HL := hide L
      clear Bm Bz L Hz4
      have hr0 : (0 : Int) ≤ (r : Int) := by omega
      have hr4 : (r : Int) < 4 := by omega
      obtain ⟨u, hu⟩ : ∃ u, u = foN V r := ⟨_, rfl⟩
      have Hu2 : Hid (u < 2 ^ 256 * 2 ^ 256) := hide (by rw [hu]; exact foN_lt V Hv.out r)
      rw [← hu] at Hpv
      have Hu := hide hu
      clear hu
      go_wp2
      go_loopw [4, 5] (fun c i wr => ∃ k : Nat, k ≤ 32 ∧ i = .int .i64 k ∧ c = .int .u64 (ca m k : Nat) ∧ Blk wr w.heap.size (vals .u64 32 (fun j => if j < k then dg u j else m j)) 103 ∧ (∃ z, z.size = 16 ∧ Blk wr (w.heap.size + 1) z 33) ∧ Below w.heap.size w wr) (fun _ i _ => 32 - (intOf i).toNat)
      case atStart =>
        refine ⟨0, by omega, rfl, by rw [ca_zero]; rfl, ?_, ⟨z, hz, HBz.out⟩, HL.out⟩
        exact HBm.out.cast (vals_congr _ _ _ _ fun j _ => by simp)
      case round =>
        clear HBm HBz HL hz z
        obtain ⟨k, hk, rfl, rfl, Bm, ⟨z, hz, Bz⟩, L⟩ := hrel
        by_cases hlk : k < 32
        · have cm := Bm.cell k
          rw [vals_get _ _ _ _ (by omega), if_neg (by omega)] at cm
          have fm := Bm.frozen k
          have hb1 : m k + ca m k < 2 ^ 41 := by have h1 := Hm.out k; have h2 := ca_lt m Hm.out k; omega
          have hw : IntKind.u64.wrap (((m k : Nat) : Int) + ((ca m k : Nat) : Int)) = ((m k + ca m k : Nat) : Int) := by rw [wrap_u64']; omega
          have Hd : Hid (dg u k = (m k + ca m k) % 65536) := hide (by rw [← Hpv.out]; exact ca_low m k 32 hlk)
          have Hc := hide (ca_succ m k)
          have HB := hide (upd_vals .u64 32 m (dg u) k _ _ _ Bm)
          have HBz := hide Bz
          have HL := hide L
          clear Bm Bz L hb1
          obtain ⟨n, hn⟩ : ∃ n, n = m k + ca m k := ⟨_, rfl⟩
          rw [← hn] at hw Hd Hc
          clear hn
          have Hd2 : Hid ((n : Int) % 65536 = ((dg u k : Nat) : Int)) := hide (by rw [Hd.out]; rfl)
          have Hc2 : Hid ((n : Int) / 65536 = ((ca m (k + 1) : Nat) : Int)) := hide (by rw [Hc.out]; rfl)
          have hk0 : (0 : Int) ≤ (k : Int) := by omega
          have hk4 : (k : Int) < 32 := by omega
          have Hc3 : Hid (IntKind.u64.wrap ((ca m (k + 1) : Nat) : Int) = ((ca m (k + 1) : Nat) : Int)) := hide (by have := ca_lt m Hm.out (k + 1); rw [wrap_u64']; omega)
          go_wp2
          rw [Hd2.out, Hc2.out]
          try rw [Hc3.out]
          go_roundw
          case rel => exact ⟨k + 1, by omega, by go_num, rfl, HB.out, ⟨z, hz, HBz.out.setOther _ _ (by omega)⟩, HL.out.setCell (Nat.le_refl _) _⟩
          case measure => simp [intOf]; omega
        · have e32 : k = 32 := by omega
          subst e32
          rw [show ((32 : Nat) : Int) = 32 from rfl]
          have HB := hide (Bm.cast (vals_congr _ 32 _ (dg u) fun j hj => by simp [hj]))
          have HBz := hide Bz
          have HL := hide L
          clear Bm Bz L hlk hk
          go_wp2
          go_loopw [7] (fun i wr => ∃ k : Nat, k ≤ 16 ∧ i = .int .i64 k ∧ Blk wr w.heap.size (vals .u64 32 (hb2 u k)) 103 ∧ (∃ z, z.size = 16 ∧ Blk wr (w.heap.size + 1) z 33) ∧ Below w.heap.size w wr) (fun i _ => 16 - (intOf i).toNat)
          case atStart =>
            refine ⟨0, by omega, rfl, ?_, ⟨z, hz, HBz.out⟩, HL.out⟩
            exact HB.out.cast (vals_congr _ _ _ _ fun j _ => (hb2_zero u j).symm)
          case round =>
            clear HB HBz HL hz z
            obtain ⟨k, hk, rfl, Bm, ⟨z, hz, Bz⟩, L⟩ := hrel
            by_cases hlk : k < 16
            · have cm := Bm.cell k
              rw [vals_get _ _ _ _ (by omega), (hb2_at u k hlk).1] at cm
              have cm6 := Bm.cell (k + 16)
              rw [vals_get _ _ _ _ (by omega), (hb2_at u k hlk).2] at cm6
              have fm := Bm.frozen k
              have fm6 := Bm.frozen (k + 16)
              have h1 := dg_lt u k
              have h2 := dg_lt u (k + 16)
              have hw1 : IntKind.u64.wrap (38 * ((dg u (k + 16) : Nat) : Int)) = ((38 * dg u (k + 16) : Nat) : Int) := by rw [wrap_u64']; omega
              have hw2 : IntKind.u64.wrap (((dg u k : Nat) : Int) + ((38 * dg u (k + 16) : Nat) : Int)) = ((dg u k + 38 * dg u (k + 16) : Nat) : Int) := by rw [wrap_u64']; omega
              have hw3 : IntKind.u64.wrap (((dg u k : Nat) : Int) + 38 * ((dg u (k + 16) : Nat) : Int)) = ((dg u k + 38 * dg u (k + 16) : Nat) : Int) := by rw [wrap_u64']; omega
              have HB := hide (Blk.cast (c' := vals .u64 32 (hb2 u (k + 1))) ((Bm.set k (.int .u64 (IntKind.u64.wrap (((dg u k : Nat) : Int) + 38 * ((dg u (k + 16) : Nat) : Int))))).set (k + 16) (.int .u64 (0 : Nat))).drew (by
                rw [hw3, vals_set, vals_set]
                exact vals_congr _ _ _ _ fun j _ => hb2_succ u k j hlk))
              clear hw3
              have HBz := hide Bz
              have HL := hide L
              clear Bm Bz L h1 h2
              have hk0 : (0 : Int) ≤ (k : Int) := by omega
              have hk4 : (k : Int) < 16 := by omega
              have hk32 : (k : Int) < 32 := by omega
              have hkj0 : (0 : Int) ≤ (k : Int) + 16 := by omega
              have hkj8 : (k : Int) + 16 < 32 := by omega
              have hwr : IntKind.i64.wrap ((k : Int) + 16) = (k : Int) + 16 := wrap_i64_small _ hkj0 (by omega)
              have hkj : ((k : Int) + 16).toNat = k + 16 := by omega
              go_wp2
              go_region_with (fail)
              all_goals
                go_wp2
                go_roundw
                case rel => exact ⟨k + 1, by omega, by go_num, HB.out, ⟨z, hz, ((HBz.out.setOther _ _ (by omega)).setOther _ _ (by omega)).drew⟩, ((HL.out.setCell (Nat.le_refl _) _).setCell (Nat.le_refl _) _).drew⟩
                case measure => simp [intOf]; omega
            · have e16 : k = 16 := by omega
              subst e16
              have HB := hide (Bm.cast (vals_congr _ 32 _ (fdg u) fun j hj => hb2_last u j hj))
              have HBz := hide Bz
              have HL := hide L
              clear Bm Bz L hlk hk
              go_wp2
              go_roundw
              case rel =>
                refine ⟨r + 1, by omega, by go_num, ⟨fdg u, fdg_lt u, ?_, ?_, HB.out⟩, ⟨z, hz, HBz.out⟩, HL.out⟩
                · rw [pv_fdg u Hu2.out, Hu.out]; rfl
                · intro _ j _ hj; unfold fdg; rw [if_neg (by omega)]
              case measure => simp [intOf]; omega
    · have e4 : r = 4 := by omega
      subst e4
      rw [show ((4 : Nat) : Int) = 4 from rfl]
      obtain ⟨u, hu⟩ : ∃ u, u = foN V 4 := ⟨_, rfl⟩
      have Hu2 : Hid (u < 2 ^ 256) := hide (by rw [hu]; exact foN_four V Hv.out)
      have Hu3 : Hid (u % pP = V % pP) := hide (by rw [hu]; exact foN_val V 4)
      rw [← hu] at Hpv
      clear hu Hz4
      have HBm := hide Bm
      have HBz := hide Bz
      have HL := hide L
      have hsz := L.size
      have Hlt1 := hide Bm.lt
      have Hlt2 := hide Bz.lt
      clear Bm Bz L hlt
      go_wp2_with (first
        | (refine wpList_build rfl 33 #[] rfl (by simp [built31]) ?_; simp only [List.map_toArray, List.map_nil, built31, Option.getD_some])
        | (refine wpList_store_abs rfl 33 _ _ rfl wr.heap.size (vals .u64 16 (fun _ => 0)) rfl rfl 33 _ (Blk.new wr _ _) (by rw [vals_size]; exact cells31) (by rw [vals_size]; rfl) (vals_one _ _ _) ?_; intro y1 B1 S1; have F1 := hide (S1.other _ _ _ (by have := Hlt1.out; omega) (HBm.out.alloc _)); have Z1 := hide (S1.other _ _ _ (by have := Hlt2.out; omega) (HBz.out.alloc _)); have L1 := hide (S1.low _ _ (HL.out.alloc HL.out.size _) HL.out.size); have O1 := hide B1; clear B1 S1))
      obtain ⟨O, hO⟩ : ∃ O, O = wr.heap.size := ⟨_, rfl⟩
      have hO1 : w.heap.size + 1 < O := by rw [hO]; exact Hlt2.out
      rw [← hO] at O1 ⊢
      clear hO hsz
      go_loopw [8, 10] (fun c i ws => ∃ k : Nat, k ≤ 16 ∧ i = .int .i64 k ∧ c = .int .u64 (ca m k : Nat) ∧ Blk ws w.heap.size (vals .u64 32 m) 103 ∧ (∃ z, z.size = 16 ∧ Blk ws (w.heap.size + 1) z 33) ∧ Blk ws O (vals .u64 16 (fun j => if j < k then dg u j else 0)) 33 ∧ Below w.heap.size w ws) (fun _ i _ => 16 - (intOf i).toNat)
      case atStart =>
        refine ⟨0, by omega, rfl, by rw [ca_zero]; rfl, F1.out, ⟨z, hz, Z1.out⟩, ?_, L1.out⟩
        exact O1.out.cast (vals_congr _ _ _ _ fun j _ => by simp)
      case round =>
        clear F1 Z1 O1 L1 HBm HBz HL Hlt1 Hlt2 hz z
        obtain ⟨k, hk, rfl, rfl, Bm, ⟨z, hz, Bz⟩, Bo, L⟩ := hrel
        by_cases hlk : k < 16
        · have cm := Bm.cell k
          rw [vals_get _ _ _ _ (by omega)] at cm
          have fm := Bo.frozen k
          have hb1 : m k + ca m k < 2 ^ 41 := by have h1 := Hm.out k; have h2 := ca_lt m Hm.out k; omega
          have hw : IntKind.u64.wrap (((m k : Nat) : Int) + ((ca m k : Nat) : Int)) = ((m k + ca m k : Nat) : Int) := by rw [wrap_u64']; omega
          have Hd : Hid (dg u k = (m k + ca m k) % 65536) := hide (by rw [← Hpv.out]; exact ca_low m k 32 (by omega))
          have Hc := hide (ca_succ m k)
          have co := Bo.cell k
          rw [vals_get _ _ _ _ (by omega), if_neg (by omega)] at co
          have HB := hide (upd_vals .u64 16 (fun _ => 0) (dg u) k _ _ _ Bo)
          have HBm := hide Bm
          have HBz := hide Bz
          have HL := hide L
          clear Bm Bz Bo L hb1
          obtain ⟨n, hn⟩ : ∃ n, n = m k + ca m k := ⟨_, rfl⟩
          rw [← hn] at hw Hd Hc
          clear hn
          have Hd2 : Hid ((n : Int) % 65536 = ((dg u k : Nat) : Int)) := hide (by rw [Hd.out]; rfl)
          have Hc2 : Hid ((n : Int) / 65536 = ((ca m (k + 1) : Nat) : Int)) := hide (by rw [Hc.out]; rfl)
          have hk0 : (0 : Int) ≤ (k : Int) := by omega
          have hk4 : (k : Int) < 16 := by omega
          have hk5 : (k : Int) < 32 := by omega
          have Hc3 : Hid (IntKind.u64.wrap ((ca m (k + 1) : Nat) : Int) = ((ca m (k + 1) : Nat) : Int)) := hide (by have := ca_lt m Hm.out (k + 1); rw [wrap_u64']; omega)
          go_wp2
          rw [Hd2.out, Hc2.out]
          try rw [Hc3.out]
          go_roundw
          case rel => exact ⟨k + 1, by omega, by go_num, rfl, HBm.out.setOther _ _ (by omega), ⟨z, hz, HBz.out.setOther _ _ (by omega)⟩, HB.out, HL.out.setCell (show w.heap.size ≤ O by omega) _⟩
          case measure => simp [intOf]; omega
        · have e16 : k = 16 := by omega
          subst e16
          rw [show ((16 : Nat) : Int) = 16 from rfl]
          have HB := hide (Bo.cast (vals_congr _ 16 _ (dg u) fun j hj => by simp [hj]))
          have HBz := hide Bz
          have HL := hide L
          clear Bm Bz L Bo hlk hk Hm Hpv
          go_wp2_with (first
            | (go_at_call 72; refine (refP_at _ _ rfl).mono ?_; rintro e w1 ⟨rfl, hb1⟩; have HB1 := hide (HB.out.call hb1); have HBz1 := hide (HBz.out.call hb1); have HL1 := hide (HL.out.trans (hb1.mono HL.out.size)); clear hb1; unfold rn; dsimp only)
            | (refine wpList_store_abs rfl 33 _ _ rfl w1.heap.size (vals .u64 16 (dg pP)) rfl rfl 33 _ (Blk.new w1 _ _) (by exact cells31) (by rw [vals_size]; rfl) (vals_one _ _ _) ?_; intro y2 B2 S2; have F2 := hide (S2.other _ _ _ (Nat.ne_of_gt HB1.out.lt) (HB1.out.alloc _)); have Z2 := hide (S2.other _ _ _ (Nat.ne_of_gt HBz1.out.lt) (HBz1.out.alloc _)); have L2 := hide (S2.low _ _ (HL1.out.alloc HL1.out.size _) HL1.out.size); have O2 := hide B2; have hlt2 := HB1.out.lt; clear B2 S2))
          rw [show ∀ a : Act, a.put none undef = a from fun _ => rfl]
          go_loopw [] (fun ws => ∃ x : Nat, x % pP = V % pP ∧ x < 2 ^ 256 ∧ Blk ws O (vals .u64 16 (dg x)) 33 ∧ Blk ws w1.heap.size (vals .u64 16 (dg pP)) 33 ∧ (∃ z, z.size = 16 ∧ Blk ws (w.heap.size + 1) z 33) ∧ Below w.heap.size w ws) (fun ws => numAt ws O)
          case atStart => exact ⟨u, Hu3.out, Hu2.out, F2.out, O2.out, ⟨z, hz, Z2.out⟩, L2.out⟩
          case round =>
            clear F2 Z2 O2 L2 HB HBz HL HB1 HBz1 HL1 hz z
            obtain ⟨x, hx1, hx2, Bx, Bp, ⟨z, hz, Bz⟩, L⟩ := hrel
            have Hx1 := hide hx1
            have Hx2 := hide hx2
            have HBx := hide Bx
            have HBp := hide Bp
            have HBz := hide Bz
            have HL := hide L
            clear Bx Bp Bz L hx1 hx2
            by_cases hlt : x < pP
            · have hdc : decide (x < pP) = true := decide_eq_true hlt
              go_wp2_with (first
                | (refine wpList_load_row rfl 33 _ rfl O rfl 33 _ (0, 0) _ HBx.out Try.underlying33 rfl (by rw [vals_size]; exact cells31) ?_)
                | (refine wpList_load_row rfl 33 _ rfl w1.heap.size rfl 33 _ (0, 0) _ HBp.out Try.underlying33 rfl (by rw [vals_size]; exact cells31) ?_)
                | (go_at_call 82; refine (refLess_at x pP _ _ rfl Hx2.out pP_lt).mono ?_; rw [hdc]; rintro e w2 ⟨rfl, hb2⟩; have HBx2 := hide (HBx.out.call hb2); have HBz2 := hide (HBz.out.call hb2); have HL2 := hide (HL.out.trans (hb2.mono HL.out.size)); clear hb2; dsimp only)
                | (refine wpList_load_row rfl 33 _ rfl O rfl 33 _ (0, 0) _ HBx2.out Try.underlying33 rfl (by rw [vals_size]; exact cells31) ?_)
                | (refine wpList_store_row rfl 33 _ _ rfl (w.heap.size + 1) (vals .u64 16 (dg x)) rfl rfl 33 z HBz2.out (by rw [vals_size]; exact cells31) (by rw [vals_size]; exact hz) (vals_one _ _ _) ?_))
              rw [← Hx1.out, Nat.mod_eq_of_lt hlt]
              refine bodyPost_ret (v := .agg (vals .u64 16 (dg x))) (results_cell_row Try.results70 _ _ (w.heap.size + 1) 33 _ (0, 0) _ rfl (HBz2.out.row _) Try.underlying33 rfl (by rw [vals_size]; exact cells31)) rfl ⟨rfl, ?_⟩
              exact Below.row HL2.out (by omega) _
            · have hdc : decide (x < pP) = false := decide_eq_false hlt
              go_wp2_with (first
                | (refine wpList_load_row rfl 33 _ rfl O rfl 33 _ (0, 0) _ HBx.out Try.underlying33 rfl (by rw [vals_size]; exact cells31) ?_)
                | (refine wpList_load_row rfl 33 _ rfl w1.heap.size rfl 33 _ (0, 0) _ HBp.out Try.underlying33 rfl (by rw [vals_size]; exact cells31) ?_)
                | (go_at_call 82; refine (refLess_at x pP _ _ rfl Hx2.out pP_lt).mono ?_; rw [hdc]; rintro e w2 ⟨rfl, hb2⟩; have HBx2 := hide (HBx.out.call hb2); have HBp2 := hide (HBp.out.call hb2); have HBz2 := hide (HBz.out.call hb2); have HL2 := hide (HL.out.trans (hb2.mono HL.out.size)); clear hb2; dsimp only)
                | (refine wpList_load_row rfl 33 _ rfl O rfl 33 _ (0, 0) _ HBx2.out Try.underlying33 rfl (by rw [vals_size]; exact cells31) ?_)
                | (refine wpList_load_row rfl 33 _ rfl w1.heap.size rfl 33 _ (0, 0) _ HBp2.out Try.underlying33 rfl (by rw [vals_size]; exact cells31) ?_)
                | (go_at_call 71; refine (refless_at x pP _ _ rfl (by omega)).mono ?_; unfold rn; rintro e w3 ⟨rfl, hb3⟩; have HBx3 := hide (HBx2.out.call hb3); have HBp3 := hide (HBp2.out.call hb3); have HBz3 := hide (HBz2.out.call hb3); have HL3 := hide (HL2.out.trans (hb3.mono HL2.out.size)); clear hb3; dsimp only)
                | (refine wpList_store_abs rfl 33 _ _ rfl O (vals .u64 16 (dg (x - pP))) rfl rfl 33 _ HBx3.out (by rw [vals_size]; exact cells31) (by rw [vals_size, vals_size]) (vals_one _ _ _) ?_; intro y4 B4 S4; have F4 := hide (S4.other _ _ _ (by omega) HBp3.out); have Z4 := hide (S4.other _ _ _ (by omega) HBz3.out); have L4 := hide (S4.low _ _ HL3.out (by omega)); have O4 := hide B4; clear B4 S4))
              rw [show ∀ a : Act, a.put none undef = a from fun _ => rfl]
              go_roundw
              case rel => exact ⟨x - pP, by rw [← Hx1.out, ← Nat.mod_eq_sub_mod (by omega)], by have := Hx2.out; omega, O4.out, F4.out, ⟨z, hz, Z4.out⟩, L4.out⟩
              case measure =>
                have hp : 0 < pP := by unfold pP; omega
                rw [numAt_blk O4.out (by have := Hx2.out; omega), numAt_blk HBx.out Hx2.out]
                omega

end Go.Proofs.Ytalnkcijebdpbaa.F

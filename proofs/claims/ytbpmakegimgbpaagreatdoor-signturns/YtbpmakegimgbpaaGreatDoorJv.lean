/- Texts in one: Va Vb Vc Vd Vi Vo Vf Vh Vj Vg Vk Vm Ve. -/
import Derived.Test.YtbpmakegimgbpaaGreatDoorRf
import Derived.Test.YtbpmakegimgbpaaGreatDoorWt
import Derived.Test.YtbpmakegimgbpaaGreatDoorWi
import Derived.Test.YtbpmakegimgbpaaGreatDoorWk
import Derived.Test.YtbpmakegimgbpaaGreatDoorWh
namespace Go.Proofs.YtbpmakegimgbpaaGreatDoor.F
set_option maxRecDepth 100000
open Go.RowKit

/-- A number of sixteen digits, as the reference has it. -/
def rn (n : Nat) : Value := .agg (vals .u64 16 (dg n))
theorem cells31 : (Tryz.prog.info? 58).map (·.size) = some 16 := by kernel_rfl
theorem cells62 : (Tryz.prog.info? 148).map (·.size) = some 32 := by kernel_rfl
theorem built31 : Tryz.prog.built 58 [] = some (vals .u64 16 (fun _ => 0)) := by kernel_rfl
theorem built62 : Tryz.prog.built 148 [] = some (vals .u64 32 (fun _ => 0)) := by kernel_rfl
set_option maxHeartbeats 400000 in
theorem refP_any (w : World) :
    Calls Tryz.prog 108 #[] w fun e w' => e = .returned (rn pP) ∧ Below w.heap.size w w' := by
  unfold rn
  have E0 := Blk.new' (w.alloc (.cells (vals .u64 16 (fun _ => 0)) 58)) (w.heap.size + 1) (by simp) (vals .u64 16 (fun _ => 0)) 58
  have E1 := (Blk.new w (vals .u64 16 (fun _ => 0)) 58).alloc (.cells (vals .u64 16 (fun _ => 0)) 58)
  have L0 : Below w.heap.size w ((w.alloc (.cells (vals .u64 16 (fun _ => 0)) 58)).alloc (.cells (vals .u64 16 (fun _ => 0)) 58)) := ((Below.refl _ w).alloc (Nat.le_refl _) _).alloc (by simp) _
  have HE0 := hide E0
  have HE1 := hide E1
  have HL0 := hide L0
  clear E0 E1 L0
  go_enter Tryz.func108, Tryz.ntmps108
  go_wp2_with (first
    | (refine wpList_build rfl 58 #[] rfl (by simp [built31]) ?_; simp only [List.map_toArray, List.map_nil, built31, Option.getD_some])
    | (refine wpList_store_row rfl 58 _ _ rfl (w.heap.size + 1) (vals .u64 16 (fun _ => 0)) rfl rfl 58 _ (Blk.new' _ _ (by simp) _ _) (by rw [vals_size]; exact cells31) (by rw [vals_size]; rfl) (vals_one _ _ _) ?_))
  go_loopw [2] (fun i wr => ∃ k : Nat, k ≤ 16 ∧ i = .int .i64 k ∧ Blk wr (w.heap.size + 1) (vals .u64 16 (fun j => if j < k then 65535 else 0)) 58 ∧ (∃ z, z.size = 16 ∧ Blk wr w.heap.size z 58) ∧ Below w.heap.size w wr) (fun i _ => 16 - (intOf i).toNat)
  case atStart =>
    refine ⟨0, by omega, rfl, ?_, ⟨vals .u64 16 (fun _ => 0), vals_size _ _ _, ?_⟩, ?_⟩
    · exact (HE0.out.row _).cast (vals_congr _ _ _ _ fun j _ => by simp)
    · exact HE1.out.rowOther _ (by omega)
    · exact Below.row HL0.out (by omega) _
  case round =>
    clear HE0 HE1 HL0
    obtain ⟨k, hk, rfl, Bb, ⟨z, hz, Bz⟩, L⟩ := hrel
    by_cases hlt : k < 16
    · have cb := Bb.cell k
      rw [vals_get _ _ _ _ (by omega)] at cb
      have fb := Bb.frozen k
      have HB := hide (upd_vals .u64 16 (fun _ => 0) (fun _ => 65535) k _ _ _ Bb)
      have HBz := hide Bz
      have HL := hide L
      clear Bb Bz L
      have hk0 : (0 : Int) ≤ (k : Int) := by omega
      have hk4 : (k : Int) < 16 := by omega
      go_wp2
      go_roundw
      case rel => exact ⟨k + 1, by omega, by go_num, HB.out, ⟨z, hz, HBz.out.setOther _ _ (by omega)⟩, HL.out.setCell (by show w.heap.size ≤ w.heap.size + 1; omega) _⟩
      case measure => simp [intOf]; omega
    · have e4 : k = 16 := by omega
      subst e4
      have c0 := Bb.cell 0
      rw [vals_get _ _ _ _ (by omega)] at c0
      have c15 := Bb.cell 15
      rw [vals_get _ _ _ _ (by omega)] at c15
      have f0 := Bb.frozen 0
      have f15 := Bb.frozen 15
      have HB := hide (Blk.cast (c' := vals .u64 16 (dg pP)) ((Bb.set 0 (.int .u64 (65517 : Nat))).set 15 (.int .u64 (32767 : Nat))) (by
        rw [vals_set, vals_set]
        exact vals_congr _ _ _ _ fun j hj => by rw [dgP j hj]; simp [hj]))
      have HBz := hide ((Bz.setOther 0 (.int .u64 (65517 : Nat)) (show w.heap.size + 1 ≠ w.heap.size by omega)).setOther 15 (.int .u64 (32767 : Nat)) (show w.heap.size + 1 ≠ w.heap.size by omega))
      have HL := hide ((L.setCell (p := ⟨w.heap.size + 1, 0, none⟩) (by show w.heap.size ≤ w.heap.size + 1; omega) (.int .u64 (65517 : Nat))).setCell (p := ⟨w.heap.size + 1, 15, none⟩) (by show w.heap.size ≤ w.heap.size + 1; omega) (.int .u64 (32767 : Nat)))
      clear Bb Bz L
      go_wp2_with (first
        | (refine wpList_load_row rfl 58 _ rfl (w.heap.size + 1) rfl 58 _ (0, 0) _ HB.out Tryz.underlying58 rfl (by rw [vals_size]; exact cells31) ?_)
        | (refine wpList_store_row rfl 58 _ _ rfl w.heap.size (vals .u64 16 (dg pP)) rfl rfl 58 z HBz.out (by rw [vals_size]; exact cells31) (by rw [vals_size]; exact hz) (vals_one _ _ _) ?_))
      refine bodyPost_ret (v := .agg (vals .u64 16 (dg pP))) (results_cell_row Tryz.results108 _ _ w.heap.size 58 _ (0, 0) _ rfl (HBz.out.row _) Tryz.underlying58 rfl (by rw [vals_size]; exact cells31)) rfl ⟨rfl, ?_⟩
      exact Below.row HL.out (Nat.le_refl _) _

set_option maxHeartbeats 1000000 in
theorem refLess_any (a b : Nat) (w : World) (ha : a < 2 ^ 256) (hb : b < 2 ^ 256) :
    Calls Tryz.prog 118 #[rn a, rn b] w fun e w' => e = .returned (.bool (decide (a < b))) ∧ Below w.heap.size w w' := by
  have Ha := hide ha
  have Hb := hide hb
  clear ha hb
  unfold rn
  go_enter Tryz.func118, Tryz.ntmps118
  go_wp2
  go_loopw [5] (fun i wr => ∃ k : Nat, k ≤ 16 ∧ i = .int .i64 ((k : Int) - 1) ∧ a / 2 ^ (16 * k) = b / 2 ^ (16 * k) ∧ Blk wr w.heap.size (vals .u64 16 (dg a)) 58 ∧ Blk wr (w.heap.size + 1) (vals .u64 16 (dg b)) 58 ∧ Below w.heap.size w wr) (fun i _ => (intOf i + 1).toNat)
  case atStart =>
    refine ⟨16, by omega, rfl, ?_, ?_, ?_, ?_⟩
    · rw [Nat.div_eq_of_lt (show a < 2 ^ (16 * 16) from Ha.out), Nat.div_eq_of_lt (show b < 2 ^ (16 * 16) from Hb.out)]
    · exact (Blk.new w _ _).alloc _
    · exact Blk.new' (w.alloc _) (w.heap.size + 1) (by simp) _ _
    · exact ((Below.refl _ w).alloc (Nat.le_refl _) _).alloc (by simp) _
  case round =>
    obtain ⟨k, hk, rfl, hd, Ba, Bb, L⟩ := hrel
    have HL := hide L
    have Hd := hide hd
    clear L hd
    rcases Nat.eq_zero_or_pos k with h0 | h0
    · subst h0
      rw [show ((0 : Nat) : Int) - 1 = -1 from rfl]
      clear Ba Bb
      go_wp2
      go_ret
      have e : a = b := by have := Hd.out; simpa using this
      exact ⟨by subst e; simp, HL.out⟩
    · obtain ⟨m, rfl⟩ : ∃ m, k = m + 1 := ⟨k - 1, by omega⟩
      rw [show ((m + 1 : Nat) : Int) - 1 = (m : Int) by omega]
      have ca := Ba.cell m
      rw [vals_get _ _ _ _ (by omega)] at ca
      have cb := Bb.cell m
      rw [vals_get _ _ _ _ (by omega)] at cb
      have HBa := hide Ba
      have HBb := hide Bb
      clear Ba Bb
      have hk0 : (0 : Int) ≤ (m : Int) := by omega
      have hk4 : (m : Int) < 16 := by omega
      by_cases hne : dg a m = dg b m
      · have hbne : (((dg a m : Nat) : Int) != ((dg b m : Nat) : Int)) = false := by rw [hne]; simp
        have Hne := hide hne
        clear hne
        go_wp2
        go_region_with (fail)
        all_goals
          go_wp2
          go_roundw
          case rel => exact ⟨m, by omega, by go_num, same_up a b m Hd.out Hne.out, HBa.out.drew, HBb.out.drew, HL.out.drew⟩
          case measure => simp [intOf]
      · have hbne : (((dg a m : Nat) : Int) != ((dg b m : Nat) : Int)) = true := by rw [bne_iff_ne]; omega
        have Hr := hide (lt_up a b m Hd.out hne)
        clear hne
        go_wp2
        go_region_with (fail)
        all_goals
          go_wp2
          go_region_with (fail)
          all_goals
            go_wp2
            go_ret
            exact ⟨ret_bool Hr.out.symm, HL.out.drew.drew⟩

end Go.Proofs.YtbpmakegimgbpaaGreatDoor.F
namespace Go.Proofs.YtbpmakegimgbpaaGreatDoor.F
set_option maxRecDepth 100000
open Go.RowKit

theorem less_n (a b c : Nat) (ha : a < 65536) (hb : b < 65536) (hc : c ≤ 1) : IntKind.u64.wrap (IntKind.u64.wrap (IntKind.u64.wrap ((a : Int) + 65536) - (b : Int)) - (c : Int)) = ((a + 65536 - b - c : Nat) : Int) := by
  rw [wrap_u64', wrap_u64', wrap_u64']; omega
set_option maxHeartbeats 1000000 in
theorem refless_any (a b : Nat) (w : World) (h : b ≤ a) :
    Calls Tryz.prog 107 #[rn a, rn b] w fun e w' => e = .returned (rn (a - b)) ∧ Below w.heap.size w w' := by
  have Hle := hide h
  clear h
  unfold rn
  go_enter Tryz.func107, Tryz.ntmps107
  go_wp2_with (first
    | (refine wpList_build rfl 58 #[] rfl (by simp [built31]) ?_; simp only [List.map_toArray, List.map_nil, built31, Option.getD_some])
    | (refine wpList_store_row rfl 58 _ _ rfl (w.heap.size + 3) (vals .u64 16 (fun _ => 0)) rfl rfl 58 _ (Blk.new' _ _ (by simp) _ _) (by rw [vals_size]; exact cells31) (by rw [vals_size]; rfl) (vals_one _ _ _) ?_))
  go_loopw [5, 7] (fun c i wr => ∃ k : Nat, k ≤ 16 ∧ i = .int .i64 k ∧ c = .int .u64 (bw a b k : Nat) ∧ Blk wr w.heap.size (vals .u64 16 (dg a)) 58 ∧ Blk wr (w.heap.size + 1) (vals .u64 16 (dg b)) 58 ∧ (∃ z, z.size = 16 ∧ Blk wr (w.heap.size + 2) z 58) ∧ Blk wr (w.heap.size + 3) (vals .u64 16 (fun j => if j < k then dg (a - b) j else 0)) 58 ∧ Below w.heap.size w wr) (fun _ i _ => 16 - (intOf i).toNat)
  case atStart =>
    refine ⟨0, by omega, rfl, by rw [bw_zero]; rfl, ?_, ?_, ⟨vals .u64 16 (fun _ => 0), vals_size _ _ _, ?_⟩, ?_, ?_⟩
    · exact ((((Blk.new w _ _).alloc _).alloc _).alloc _).rowOther _ (by omega)
    · exact (((Blk.new' (w.alloc _) (w.heap.size + 1) (by simp) _ _).alloc _).alloc _).rowOther _ (by omega)
    · exact ((Blk.new' ((w.alloc _).alloc _) (w.heap.size + 2) (by simp) _ _).alloc _).rowOther _ (by omega)
    · exact ((Blk.new' (((w.alloc _).alloc _).alloc _) (w.heap.size + 3) (by simp) _ _).row _).cast (vals_congr _ _ _ _ fun j _ => by simp)
    · exact Below.row (((((Below.refl _ w).alloc (Nat.le_refl _) _).alloc (by simp) _).alloc (by simp; omega) _).alloc (by simp; omega) _) (by omega) _
  case round =>
    obtain ⟨k, hk, rfl, rfl, Ba, Bb, ⟨z, hz, Bz⟩, Bo, L⟩ := hrel
    by_cases hlt : k < 16
    · have ca := Ba.cell k
      rw [vals_get _ _ _ _ (by omega)] at ca
      have cb := Bb.cell k
      rw [vals_get _ _ _ _ (by omega)] at cb
      have co := Bo.cell k
      rw [vals_get _ _ _ _ (by omega)] at co
      have fo' := Bo.frozen k
      have Hs := hide (bw_succ a b k)
      have Hg := hide (dg_sub a b k Hle.out)
      have HBo := hide (upd_vals .u64 16 (fun _ => 0) (dg (a - b)) k _ _ _ Bo.drew)
      have HBa := hide Ba
      have HBb := hide Bb
      have HBz := hide Bz
      have HL := hide L
      have hn1 := less_n (dg a k) (dg b k) (bw a b k) (dg_lt _ _) (dg_lt _ _) (bw_le _ _ _)
      obtain ⟨n, hn⟩ : ∃ n, n = dg a k + 65536 - dg b k - bw a b k := ⟨_, rfl⟩
      have hn2 : n < 131072 := by have := dg_lt a k; omega
      rw [← hn] at hn1
      have Hs2 : Hid (bw a b (k + 1) = 1 - n / 65536) := hide (by rw [hn]; exact Hs.out)
      have Hg2 : Hid (dg (a - b) k = n % 65536) := hide (by rw [hn]; exact Hg.out)
      have Hm : Hid ((n : Int) % 65536 = ((dg (a - b) k : Nat) : Int)) := hide (by rw [Hg2.out]; rfl)
      have Hq : Hid (1 - (n : Int) / 65536 = ((bw a b (k + 1) : Nat) : Int)) := hide (by rw [Hs2.out]; omega)
      clear Ba Bb Bz Bo L hn Hs Hg
      have hk0 : (0 : Int) ≤ (k : Int) := by omega
      have hk4 : (k : Int) < 16 := by omega
      go_wp2
      go_region_with (fail)
      all_goals
        go_wp2
        rw [Hm.out, Hq.out]
        go_roundw
        case rel => exact ⟨k + 1, by omega, by go_num, rfl, (HBa.out.setOther _ _ (by omega)).drew, (HBb.out.setOther _ _ (by omega)).drew, ⟨z, hz, (HBz.out.setOther _ _ (by omega)).drew⟩, HBo.out, (HL.out.setCell (by show w.heap.size ≤ w.heap.size + 3; omega) _).drew⟩
        case measure => simp [intOf]; omega
    · have e4 : k = 16 := by omega
      subst e4
      have HB := hide (Bo.cast (vals_congr _ 16 _ (dg (a - b)) fun j hj => by simp [hj]))
      have HBz := hide Bz
      have HL := hide L
      clear Ba Bb Bz Bo L
      go_wp2_with (first
        | (refine wpList_load_row rfl 58 _ rfl (w.heap.size + 3) rfl 58 _ (0, 0) _ HB.out Tryz.underlying58 rfl (by rw [vals_size]; exact cells31) ?_)
        | (refine wpList_store_row rfl 58 _ _ rfl (w.heap.size + 2) (vals .u64 16 (dg (a - b))) rfl rfl 58 z HBz.out (by rw [vals_size]; exact cells31) (by rw [vals_size]; exact hz) (vals_one _ _ _) ?_))
      refine bodyPost_ret (v := .agg (vals .u64 16 (dg (a - b)))) (results_cell_row Tryz.results107 _ _ (w.heap.size + 2) 58 _ (0, 0) _ rfl (HBz.out.row _) Tryz.underlying58 rfl (by rw [vals_size]; exact cells31)) rfl ⟨rfl, ?_⟩
      exact Below.row HL.out (by omega) _

end Go.Proofs.YtbpmakegimgbpaaGreatDoor.F
namespace Go.Proofs.YtbpmakegimgbpaaGreatDoor.F
set_option maxRecDepth 100000
open Go.RowKit

theorem refP_at (args : Array Value) (w : World) (h : args = #[]) :
    Calls Tryz.prog 108 args w fun e w' => e = .returned (rn pP) ∧ Below w.heap.size w w' := by subst h; exact refP_any w
theorem refLess_at (a b : Nat) (args : Array Value) (w : World) (h : args = #[.agg (vals .u64 16 (dg a)), .agg (vals .u64 16 (dg b))]) (ha : a < 2 ^ 256) (hb : b < 2 ^ 256) :
    Calls Tryz.prog 118 args w fun e w' => e = .returned (.bool (decide (a < b))) ∧ Below w.heap.size w w' := by subst h; exact refLess_any a b w ha hb
theorem refless_at (a b : Nat) (args : Array Value) (w : World) (h : args = #[.agg (vals .u64 16 (dg a)), .agg (vals .u64 16 (dg b))]) (hle : b ≤ a) :
    Calls Tryz.prog 107 args w fun e w' => e = .returned (rn (a - b)) ∧ Below w.heap.size w w' := by subst h; exact refless_any a b w hle
theorem pP_lt : pP < 2 ^ 256 := by unfold pP; omega
/-- The number that lies in a block. -/
def numAt (w : World) (b : Nat) : Nat := match w.heap[b]? with
  | some (.cells c _ _) => pv (fun j => match c[j]? with | some v => (intOf v).toNat | none => 0) 16
  | _ => 0
theorem numAt_blk {w : World} {b x : Nat} {t : TypeId} (h : Blk w b (vals .u64 16 (dg x)) t) (hx : x < 2 ^ 256) : numAt w b = x := by
  unfold Blk at h
  unfold numAt
  rw [h]
  dsimp only
  rw [pv_congr _ (dg x) 16 fun j hj => by rw [vals_get _ _ _ _ hj]; rfl, pv_dg]
  exact Nat.mod_eq_of_lt hx
/-- A round's second half, so far. -/
def hb2 (v k j : Nat) : Nat := if j < 16 then (if j < k then dg v j + 38 * dg v (j + 16) else dg v j) else (if j < 16 + k then 0 else dg v j)
theorem hb2_zero (v j : Nat) : hb2 v 0 j = dg v j := by
  unfold hb2
  by_cases h : j < 16
  · rw [if_pos h, if_neg (by omega)]
  · rw [if_neg h, if_neg (by omega)]
theorem hb2_succ (v k j : Nat) (hk : k < 16) : (if j = k + 16 then 0 else (if j = k then dg v k + 38 * dg v (k + 16) else hb2 v k j)) = hb2 v (k + 1) j := by
  unfold hb2
  by_cases h1 : j = k + 16
  · subst h1; rw [if_pos rfl, if_neg (by omega), if_pos (by omega)]
  · rw [if_neg h1]
    by_cases h2 : j = k
    · subst h2; rw [if_pos rfl, if_pos hk, if_pos (by omega)]
    · rw [if_neg h2]
      by_cases h3 : j < 16
      · rw [if_pos h3, if_pos h3]
        by_cases h4 : j < k
        · rw [if_pos h4, if_pos (by omega)]
        · rw [if_neg h4, if_neg (by omega)]
      · rw [if_neg h3, if_neg h3]
        by_cases h4 : j < 16 + k
        · rw [if_pos h4, if_pos (by omega)]
        · rw [if_neg h4, if_neg (by omega)]
theorem hb2_last (v j : Nat) (hj : j < 32) : hb2 v 16 j = fdg v j := by
  unfold hb2 fdg
  by_cases h : j < 16
  · rw [if_pos h, if_pos h, if_pos h]
  · rw [if_neg h, if_neg h, if_pos (by omega)]
theorem hb2_at (v k : Nat) (hk : k < 16) : hb2 v k k = dg v k ∧ hb2 v k (k + 16) = dg v (k + 16) := by
  unfold hb2
  exact ⟨by rw [if_pos hk, if_neg (by omega)], by rw [if_neg (by omega), if_neg (by omega)]⟩

set_option maxHeartbeats 2000000 in
theorem folded_any (l : Nat → Nat) (w : World) (hl : ∀ j, l j < 2 ^ 40) (hv : pv l 32 < 2 ^ 256 * 2 ^ 256) :
    Calls Tryz.prog 106 #[.agg (vals .u64 32 l)] w fun e w' => e = .returned (rn (pv l 32 % pP)) ∧ Below w.heap.size w w' := by
  have Hl := hide hl
  have Hv := hide hv
  clear hl hv
  obtain ⟨V, hV⟩ : ∃ V, V = pv l 32 := ⟨_, rfl⟩
  rw [← hV] at Hv ⊢
  have HV := hide hV
  clear hV
  go_enter Tryz.func106, Tryz.ntmps106
  go_wp2
  go_loopw [3] (fun i wr => ∃ r : Nat, r ≤ 4 ∧ i = .int .i64 r ∧ (∃ m : Nat → Nat, (∀ j, m j < 2 ^ 40) ∧ pv m 32 = foN V r ∧ (r = 4 → ∀ j, j < 32 → 16 ≤ j → m j = 0) ∧ Blk wr w.heap.size (vals .u64 32 m) 148) ∧ (∃ z, z.size = 16 ∧ Blk wr (w.heap.size + 1) z 58) ∧ Below w.heap.size w wr) (fun i _ => 4 - (intOf i).toNat)
  case atStart =>
    refine ⟨0, by omega, rfl, ⟨l, Hl.out, HV.out.symm, by omega, ?_⟩, ⟨vals .u64 16 (fun _ => 0), vals_size _ _ _, ?_⟩, ?_⟩
    · exact (Blk.new w _ _).alloc _
    · exact Blk.new' (w.alloc _) (w.heap.size + 1) (by simp) _ _
    · exact ((Below.refl _ w).alloc (Nat.le_refl _) _).alloc (by simp) _
  case round =>
    obtain ⟨r, hr, rfl, ⟨m, hm, hpv, hz4, Bm⟩, ⟨z, hz, Bz⟩, L⟩ := hrel
    have Hm := hide hm
    have Hpv := hide hpv
    have Hz4 := hide hz4
    clear hm hpv hz4
    by_cases hlt : r < 4
    · have HBm := hide Bm
      have HBz := hide Bz
      have HL := hide L
      clear Bm Bz L Hz4
      have hr0 : (0 : Int) ≤ (r : Int) := by omega
      have hr4 : (r : Int) < 4 := by omega
      obtain ⟨u, hu⟩ : ∃ u, u = foN V r := ⟨_, rfl⟩
      have Hu2 : Hid (u < 2 ^ 256 * 2 ^ 256) := hide (by rw [hu]; exact foN_lt V Hv.out r)
      rw [← hu] at Hpv
      have Hu := hide hu
      clear hu
      go_wp2
      go_loopw [4, 5] (fun c i wr => ∃ k : Nat, k ≤ 32 ∧ i = .int .i64 k ∧ c = .int .u64 (ca m k : Nat) ∧ Blk wr w.heap.size (vals .u64 32 (fun j => if j < k then dg u j else m j)) 148 ∧ (∃ z, z.size = 16 ∧ Blk wr (w.heap.size + 1) z 58) ∧ Below w.heap.size w wr) (fun _ i _ => 32 - (intOf i).toNat)
      case atStart =>
        refine ⟨0, by omega, rfl, by rw [ca_zero]; rfl, ?_, ⟨z, hz, HBz.out⟩, HL.out⟩
        exact HBm.out.cast (vals_congr _ _ _ _ fun j _ => by simp)
      case round =>
        clear HBm HBz HL hz z
        obtain ⟨k, hk, rfl, rfl, Bm, ⟨z, hz, Bz⟩, L⟩ := hrel
        by_cases hlk : k < 32
        · have cm := Bm.cell k
          rw [vals_get _ _ _ _ (by omega), if_neg (by omega)] at cm
          have fm := Bm.frozen k
          have hb1 : m k + ca m k < 2 ^ 41 := by have h1 := Hm.out k; have h2 := ca_lt m Hm.out k; omega
          have hw : IntKind.u64.wrap (((m k : Nat) : Int) + ((ca m k : Nat) : Int)) = ((m k + ca m k : Nat) : Int) := by rw [wrap_u64']; omega
          have Hd : Hid (dg u k = (m k + ca m k) % 65536) := hide (by rw [← Hpv.out]; exact ca_low m k 32 hlk)
          have Hc := hide (ca_succ m k)
          have HB := hide (upd_vals .u64 32 m (dg u) k _ _ _ Bm)
          have HBz := hide Bz
          have HL := hide L
          clear Bm Bz L hb1
          obtain ⟨n, hn⟩ : ∃ n, n = m k + ca m k := ⟨_, rfl⟩
          rw [← hn] at hw Hd Hc
          clear hn
          have Hd2 : Hid ((n : Int) % 65536 = ((dg u k : Nat) : Int)) := hide (by rw [Hd.out]; rfl)
          have Hc2 : Hid ((n : Int) / 65536 = ((ca m (k + 1) : Nat) : Int)) := hide (by rw [Hc.out]; rfl)
          have hk0 : (0 : Int) ≤ (k : Int) := by omega
          have hk4 : (k : Int) < 32 := by omega
          have Hc3 : Hid (IntKind.u64.wrap ((ca m (k + 1) : Nat) : Int) = ((ca m (k + 1) : Nat) : Int)) := hide (by have := ca_lt m Hm.out (k + 1); rw [wrap_u64']; omega)
          go_wp2
          rw [Hd2.out, Hc2.out]
          try rw [Hc3.out]
          go_roundw
          case rel => exact ⟨k + 1, by omega, by go_num, rfl, HB.out, ⟨z, hz, HBz.out.setOther _ _ (by omega)⟩, HL.out.setCell (Nat.le_refl _) _⟩
          case measure => simp [intOf]; omega
        · have e32 : k = 32 := by omega
          subst e32
          rw [show ((32 : Nat) : Int) = 32 from rfl]
          have HB := hide (Bm.cast (vals_congr _ 32 _ (dg u) fun j hj => by simp [hj]))
          have HBz := hide Bz
          have HL := hide L
          clear Bm Bz L hlk hk
          go_wp2
          go_loopw [7] (fun i wr => ∃ k : Nat, k ≤ 16 ∧ i = .int .i64 k ∧ Blk wr w.heap.size (vals .u64 32 (hb2 u k)) 148 ∧ (∃ z, z.size = 16 ∧ Blk wr (w.heap.size + 1) z 58) ∧ Below w.heap.size w wr) (fun i _ => 16 - (intOf i).toNat)
          case atStart =>
            refine ⟨0, by omega, rfl, ?_, ⟨z, hz, HBz.out⟩, HL.out⟩
            exact HB.out.cast (vals_congr _ _ _ _ fun j _ => (hb2_zero u j).symm)
          case round =>
            clear HB HBz HL hz z
            obtain ⟨k, hk, rfl, Bm, ⟨z, hz, Bz⟩, L⟩ := hrel
            by_cases hlk : k < 16
            · have cm := Bm.cell k
              rw [vals_get _ _ _ _ (by omega), (hb2_at u k hlk).1] at cm
              have cm6 := Bm.cell (k + 16)
              rw [vals_get _ _ _ _ (by omega), (hb2_at u k hlk).2] at cm6
              have fm := Bm.frozen k
              have fm6 := Bm.frozen (k + 16)
              have h1 := dg_lt u k
              have h2 := dg_lt u (k + 16)
              have hw1 : IntKind.u64.wrap (38 * ((dg u (k + 16) : Nat) : Int)) = ((38 * dg u (k + 16) : Nat) : Int) := by rw [wrap_u64']; omega
              have hw2 : IntKind.u64.wrap (((dg u k : Nat) : Int) + ((38 * dg u (k + 16) : Nat) : Int)) = ((dg u k + 38 * dg u (k + 16) : Nat) : Int) := by rw [wrap_u64']; omega
              have hw3 : IntKind.u64.wrap (((dg u k : Nat) : Int) + 38 * ((dg u (k + 16) : Nat) : Int)) = ((dg u k + 38 * dg u (k + 16) : Nat) : Int) := by rw [wrap_u64']; omega
              have HB := hide (Blk.cast (c' := vals .u64 32 (hb2 u (k + 1))) ((Bm.set k (.int .u64 (IntKind.u64.wrap (((dg u k : Nat) : Int) + 38 * ((dg u (k + 16) : Nat) : Int))))).set (k + 16) (.int .u64 (0 : Nat))).drew (by
                rw [hw3, vals_set, vals_set]
                exact vals_congr _ _ _ _ fun j _ => hb2_succ u k j hlk))
              clear hw3
              have HBz := hide Bz
              have HL := hide L
              clear Bm Bz L h1 h2
              have hk0 : (0 : Int) ≤ (k : Int) := by omega
              have hk4 : (k : Int) < 16 := by omega
              have hk32 : (k : Int) < 32 := by omega
              have hkj0 : (0 : Int) ≤ (k : Int) + 16 := by omega
              have hkj8 : (k : Int) + 16 < 32 := by omega
              have hwr : IntKind.i64.wrap ((k : Int) + 16) = (k : Int) + 16 := wrap_i64_small _ hkj0 (by omega)
              have hkj : ((k : Int) + 16).toNat = k + 16 := by omega
              go_wp2
              go_region_with (fail)
              all_goals
                go_wp2
                go_roundw
                case rel => exact ⟨k + 1, by omega, by go_num, HB.out, ⟨z, hz, ((HBz.out.setOther _ _ (by omega)).setOther _ _ (by omega)).drew⟩, ((HL.out.setCell (Nat.le_refl _) _).setCell (Nat.le_refl _) _).drew⟩
                case measure => simp [intOf]; omega
            · have e16 : k = 16 := by omega
              subst e16
              have HB := hide (Bm.cast (vals_congr _ 32 _ (fdg u) fun j hj => hb2_last u j hj))
              have HBz := hide Bz
              have HL := hide L
              clear Bm Bz L hlk hk
              go_wp2
              go_roundw
              case rel =>
                refine ⟨r + 1, by omega, by go_num, ⟨fdg u, fdg_lt u, ?_, ?_, HB.out⟩, ⟨z, hz, HBz.out⟩, HL.out⟩
                · rw [pv_fdg u Hu2.out, Hu.out]; rfl
                · intro _ j _ hj; unfold fdg; rw [if_neg (by omega)]
              case measure => simp [intOf]; omega
    · have e4 : r = 4 := by omega
      subst e4
      rw [show ((4 : Nat) : Int) = 4 from rfl]
      obtain ⟨u, hu⟩ : ∃ u, u = foN V 4 := ⟨_, rfl⟩
      have Hu2 : Hid (u < 2 ^ 256) := hide (by rw [hu]; exact foN_four V Hv.out)
      have Hu3 : Hid (u % pP = V % pP) := hide (by rw [hu]; exact foN_val V 4)
      rw [← hu] at Hpv
      clear hu Hz4
      have HBm := hide Bm
      have HBz := hide Bz
      have HL := hide L
      have hsz := L.size
      have Hlt1 := hide Bm.lt
      have Hlt2 := hide Bz.lt
      clear Bm Bz L hlt
      go_wp2_with (first
        | (refine wpList_build rfl 58 #[] rfl (by simp [built31]) ?_; simp only [List.map_toArray, List.map_nil, built31, Option.getD_some])
        | (refine wpList_store_abs rfl 58 _ _ rfl wr.heap.size (vals .u64 16 (fun _ => 0)) rfl rfl 58 _ (Blk.new wr _ _) (by rw [vals_size]; exact cells31) (by rw [vals_size]; rfl) (vals_one _ _ _) ?_; intro y1 B1 S1; have F1 := hide (S1.other _ _ _ (by have := Hlt1.out; omega) (HBm.out.alloc _)); have Z1 := hide (S1.other _ _ _ (by have := Hlt2.out; omega) (HBz.out.alloc _)); have L1 := hide (S1.low _ _ (HL.out.alloc HL.out.size _) HL.out.size); have O1 := hide B1; clear B1 S1))
      obtain ⟨O, hO⟩ : ∃ O, O = wr.heap.size := ⟨_, rfl⟩
      have hO1 : w.heap.size + 1 < O := by rw [hO]; exact Hlt2.out
      rw [← hO] at O1 ⊢
      clear hO hsz
      go_loopw [8, 10] (fun c i ws => ∃ k : Nat, k ≤ 16 ∧ i = .int .i64 k ∧ c = .int .u64 (ca m k : Nat) ∧ Blk ws w.heap.size (vals .u64 32 m) 148 ∧ (∃ z, z.size = 16 ∧ Blk ws (w.heap.size + 1) z 58) ∧ Blk ws O (vals .u64 16 (fun j => if j < k then dg u j else 0)) 58 ∧ Below w.heap.size w ws) (fun _ i _ => 16 - (intOf i).toNat)
      case atStart =>
        refine ⟨0, by omega, rfl, by rw [ca_zero]; rfl, F1.out, ⟨z, hz, Z1.out⟩, ?_, L1.out⟩
        exact O1.out.cast (vals_congr _ _ _ _ fun j _ => by simp)
      case round =>
        clear F1 Z1 O1 L1 HBm HBz HL Hlt1 Hlt2 hz z
        obtain ⟨k, hk, rfl, rfl, Bm, ⟨z, hz, Bz⟩, Bo, L⟩ := hrel
        by_cases hlk : k < 16
        · have cm := Bm.cell k
          rw [vals_get _ _ _ _ (by omega)] at cm
          have fm := Bo.frozen k
          have hb1 : m k + ca m k < 2 ^ 41 := by have h1 := Hm.out k; have h2 := ca_lt m Hm.out k; omega
          have hw : IntKind.u64.wrap (((m k : Nat) : Int) + ((ca m k : Nat) : Int)) = ((m k + ca m k : Nat) : Int) := by rw [wrap_u64']; omega
          have Hd : Hid (dg u k = (m k + ca m k) % 65536) := hide (by rw [← Hpv.out]; exact ca_low m k 32 (by omega))
          have Hc := hide (ca_succ m k)
          have co := Bo.cell k
          rw [vals_get _ _ _ _ (by omega), if_neg (by omega)] at co
          have HB := hide (upd_vals .u64 16 (fun _ => 0) (dg u) k _ _ _ Bo)
          have HBm := hide Bm
          have HBz := hide Bz
          have HL := hide L
          clear Bm Bz Bo L hb1
          obtain ⟨n, hn⟩ : ∃ n, n = m k + ca m k := ⟨_, rfl⟩
          rw [← hn] at hw Hd Hc
          clear hn
          have Hd2 : Hid ((n : Int) % 65536 = ((dg u k : Nat) : Int)) := hide (by rw [Hd.out]; rfl)
          have Hc2 : Hid ((n : Int) / 65536 = ((ca m (k + 1) : Nat) : Int)) := hide (by rw [Hc.out]; rfl)
          have hk0 : (0 : Int) ≤ (k : Int) := by omega
          have hk4 : (k : Int) < 16 := by omega
          have hk5 : (k : Int) < 32 := by omega
          have Hc3 : Hid (IntKind.u64.wrap ((ca m (k + 1) : Nat) : Int) = ((ca m (k + 1) : Nat) : Int)) := hide (by have := ca_lt m Hm.out (k + 1); rw [wrap_u64']; omega)
          go_wp2
          rw [Hd2.out, Hc2.out]
          try rw [Hc3.out]
          go_roundw
          case rel => exact ⟨k + 1, by omega, by go_num, rfl, HBm.out.setOther _ _ (by omega), ⟨z, hz, HBz.out.setOther _ _ (by omega)⟩, HB.out, HL.out.setCell (show w.heap.size ≤ O by omega) _⟩
          case measure => simp [intOf]; omega
        · have e16 : k = 16 := by omega
          subst e16
          rw [show ((16 : Nat) : Int) = 16 from rfl]
          have HB := hide (Bo.cast (vals_congr _ 16 _ (dg u) fun j hj => by simp [hj]))
          have HBz := hide Bz
          have HL := hide L
          clear Bm Bz L Bo hlk hk Hm Hpv
          go_wp2_with (first
            | (go_at_call 108; refine (refP_at _ _ rfl).mono ?_; rintro e w1 ⟨rfl, hb1⟩; have HB1 := hide (HB.out.call hb1); have HBz1 := hide (HBz.out.call hb1); have HL1 := hide (HL.out.trans (hb1.mono HL.out.size)); clear hb1; unfold rn; dsimp only)
            | (refine wpList_store_abs rfl 58 _ _ rfl w1.heap.size (vals .u64 16 (dg pP)) rfl rfl 58 _ (Blk.new w1 _ _) (by exact cells31) (by rw [vals_size]; rfl) (vals_one _ _ _) ?_; intro y2 B2 S2; have F2 := hide (S2.other _ _ _ (Nat.ne_of_gt HB1.out.lt) (HB1.out.alloc _)); have Z2 := hide (S2.other _ _ _ (Nat.ne_of_gt HBz1.out.lt) (HBz1.out.alloc _)); have L2 := hide (S2.low _ _ (HL1.out.alloc HL1.out.size _) HL1.out.size); have O2 := hide B2; have hlt2 := HB1.out.lt; clear B2 S2))
          rw [show ∀ a : Act, a.put none undef = a from fun _ => rfl]
          go_loopw [] (fun ws => ∃ x : Nat, x % pP = V % pP ∧ x < 2 ^ 256 ∧ Blk ws O (vals .u64 16 (dg x)) 58 ∧ Blk ws w1.heap.size (vals .u64 16 (dg pP)) 58 ∧ (∃ z, z.size = 16 ∧ Blk ws (w.heap.size + 1) z 58) ∧ Below w.heap.size w ws) (fun ws => numAt ws O)
          case atStart => exact ⟨u, Hu3.out, Hu2.out, F2.out, O2.out, ⟨z, hz, Z2.out⟩, L2.out⟩
          case round =>
            clear F2 Z2 O2 L2 HB HBz HL HB1 HBz1 HL1 hz z
            obtain ⟨x, hx1, hx2, Bx, Bp, ⟨z, hz, Bz⟩, L⟩ := hrel
            have Hx1 := hide hx1
            have Hx2 := hide hx2
            have HBx := hide Bx
            have HBp := hide Bp
            have HBz := hide Bz
            have HL := hide L
            clear Bx Bp Bz L hx1 hx2
            by_cases hlt : x < pP
            · have hdc : decide (x < pP) = true := decide_eq_true hlt
              go_wp2_with (first
                | (refine wpList_load_row rfl 58 _ rfl O rfl 58 _ (0, 0) _ HBx.out Tryz.underlying58 rfl (by rw [vals_size]; exact cells31) ?_)
                | (refine wpList_load_row rfl 58 _ rfl w1.heap.size rfl 58 _ (0, 0) _ HBp.out Tryz.underlying58 rfl (by rw [vals_size]; exact cells31) ?_)
                | (go_at_call 118; refine (refLess_at x pP _ _ rfl Hx2.out pP_lt).mono ?_; rw [hdc]; rintro e w2 ⟨rfl, hb2⟩; have HBx2 := hide (HBx.out.call hb2); have HBz2 := hide (HBz.out.call hb2); have HL2 := hide (HL.out.trans (hb2.mono HL.out.size)); clear hb2; dsimp only)
                | (refine wpList_load_row rfl 58 _ rfl O rfl 58 _ (0, 0) _ HBx2.out Tryz.underlying58 rfl (by rw [vals_size]; exact cells31) ?_)
                | (refine wpList_store_row rfl 58 _ _ rfl (w.heap.size + 1) (vals .u64 16 (dg x)) rfl rfl 58 z HBz2.out (by rw [vals_size]; exact cells31) (by rw [vals_size]; exact hz) (vals_one _ _ _) ?_))
              rw [← Hx1.out, Nat.mod_eq_of_lt hlt]
              refine bodyPost_ret (v := .agg (vals .u64 16 (dg x))) (results_cell_row Tryz.results106 _ _ (w.heap.size + 1) 58 _ (0, 0) _ rfl (HBz2.out.row _) Tryz.underlying58 rfl (by rw [vals_size]; exact cells31)) rfl ⟨rfl, ?_⟩
              exact Below.row HL2.out (by omega) _
            · have hdc : decide (x < pP) = false := decide_eq_false hlt
              go_wp2_with (first
                | (refine wpList_load_row rfl 58 _ rfl O rfl 58 _ (0, 0) _ HBx.out Tryz.underlying58 rfl (by rw [vals_size]; exact cells31) ?_)
                | (refine wpList_load_row rfl 58 _ rfl w1.heap.size rfl 58 _ (0, 0) _ HBp.out Tryz.underlying58 rfl (by rw [vals_size]; exact cells31) ?_)
                | (go_at_call 118; refine (refLess_at x pP _ _ rfl Hx2.out pP_lt).mono ?_; rw [hdc]; rintro e w2 ⟨rfl, hb2⟩; have HBx2 := hide (HBx.out.call hb2); have HBp2 := hide (HBp.out.call hb2); have HBz2 := hide (HBz.out.call hb2); have HL2 := hide (HL.out.trans (hb2.mono HL.out.size)); clear hb2; dsimp only)
                | (refine wpList_load_row rfl 58 _ rfl O rfl 58 _ (0, 0) _ HBx2.out Tryz.underlying58 rfl (by rw [vals_size]; exact cells31) ?_)
                | (refine wpList_load_row rfl 58 _ rfl w1.heap.size rfl 58 _ (0, 0) _ HBp2.out Tryz.underlying58 rfl (by rw [vals_size]; exact cells31) ?_)
                | (go_at_call 107; refine (refless_at x pP _ _ rfl (by omega)).mono ?_; unfold rn; rintro e w3 ⟨rfl, hb3⟩; have HBx3 := hide (HBx2.out.call hb3); have HBp3 := hide (HBp2.out.call hb3); have HBz3 := hide (HBz2.out.call hb3); have HL3 := hide (HL2.out.trans (hb3.mono HL2.out.size)); clear hb3; dsimp only)
                | (refine wpList_store_abs rfl 58 _ _ rfl O (vals .u64 16 (dg (x - pP))) rfl rfl 58 _ HBx3.out (by rw [vals_size]; exact cells31) (by rw [vals_size, vals_size]) (vals_one _ _ _) ?_; intro y4 B4 S4; have F4 := hide (S4.other _ _ _ (by omega) HBp3.out); have Z4 := hide (S4.other _ _ _ (by omega) HBz3.out); have L4 := hide (S4.low _ _ HL3.out (by omega)); have O4 := hide B4; clear B4 S4))
              rw [show ∀ a : Act, a.put none undef = a from fun _ => rfl]
              go_roundw
              case rel => exact ⟨x - pP, by rw [← Hx1.out, ← Nat.mod_eq_sub_mod (by omega)], by have := Hx2.out; omega, O4.out, F4.out, ⟨z, hz, Z4.out⟩, L4.out⟩
              case measure =>
                have hp : 0 < pP := by unfold pP; omega
                rw [numAt_blk O4.out (by have := Hx2.out; omega), numAt_blk HBx.out Hx2.out]
                omega

end Go.Proofs.YtbpmakegimgbpaaGreatDoor.F
namespace Go.Proofs.YtbpmakegimgbpaaGreatDoor.F
set_option maxRecDepth 100000
open Go.RowKit

theorem folded_at (l : Nat → Nat) (args : Array Value) (w : World) (h : args = #[.agg (vals .u64 32 l)]) (hl : ∀ j, l j < 2 ^ 40) (hv : pv l 32 < 2 ^ 256 * 2 ^ 256) :
    Calls Tryz.prog 106 args w fun e w' => e = .returned (rn (pv l 32 % pP)) ∧ Below w.heap.size w w' := by subst h; exact folded_any l w hl hv
/-- The digits of bytes. -/
def bd (f : Nat → Nat) (j : Nat) : Nat := if j < 16 then f (2 * j) + 256 * f (2 * j + 1) else 0
theorem bd_lt (f : Nat → Nat) (hf : ∀ i, f i < 256) (j : Nat) : bd f j < 65536 := by
  unfold bd
  split
  · have h1 := hf (2 * j); have h2 := hf (2 * j + 1); omega
  · omega
theorem pv_bd (f : Nat → Nat) : ∀ k, k ≤ 16 → pv (bd f) k = nb f (2 * k)
  | 0, _ => rfl
  | k + 1, h => by
    have ih := pv_bd f k (by omega)
    have e1 : 2 ^ (8 * (2 * k)) = 2 ^ (16 * k) := by congr 1; omega
    have e2 : 2 ^ (8 * (2 * k + 1)) = 2 ^ (16 * k) * 256 := by rw [show 8 * (2 * k + 1) = 16 * k + 8 by omega, Nat.pow_add]
    rw [pv, ih, show 2 * (k + 1) = 2 * k + 1 + 1 by omega, nb, nb, e1, e2, bd, if_pos (by omega)]
    grind
theorem pv_bd32 (f : Nat → Nat) : pv (bd f) 32 = nb f 32 := by
  rw [show 32 = 16 + 16 from rfl, pv_stop (bd f) 16 16 fun j hj => by unfold bd; rw [if_neg (by omega)]]
  exact pv_bd f 16 (by omega)
/-- Digits, of which the first sixteen so far. -/
theorem stop16 (g : Nat → Nat) (hg : ∀ j, 16 ≤ j → g j = 0) (j : Nat) : (if j < 16 then g j else 0) = g j := by
  by_cases h : j < 16
  · rw [if_pos h]
  · rw [if_neg h, hg j (by omega)]

set_option maxHeartbeats 1000000 in
theorem refLoad_any (f : Nat → Nat) (w : World) (hf : ∀ i, f i < 256) :
    Calls Tryz.prog 64 #[ba f] w fun e w' => e = .returned (rn (nb f 32 % pP)) ∧ Below w.heap.size w w' := by
  have Hf := hide hf
  clear hf
  unfold ba
  go_enter Tryz.func64, Tryz.ntmps64
  go_wp2_with (first
    | (refine wpList_build rfl 148 #[] rfl (by simp [built62]) ?_; simp only [List.map_toArray, List.map_nil, built62, Option.getD_some])
    | (refine wpList_store_row rfl 148 _ _ rfl (w.heap.size + 2) (vals .u64 32 (fun _ => 0)) rfl rfl 148 _ (Blk.new' _ _ (by simp) _ _) (by rw [vals_size]; exact cells62) (by rw [vals_size]; rfl) (vals_one _ _ _) ?_))
  go_loopw [4] (fun i wr => ∃ k : Nat, k ≤ 16 ∧ i = .int .i64 k ∧ Blk wr w.heap.size (vals .u8 32 f) 22 ∧ (∃ z, z.size = 16 ∧ Blk wr (w.heap.size + 1) z 58) ∧ Blk wr (w.heap.size + 2) (vals .u64 32 (fun j => if j < k then bd f j else 0)) 148 ∧ Below w.heap.size w wr) (fun i _ => 16 - (intOf i).toNat)
  case atStart =>
    refine ⟨0, by omega, rfl, ?_, ⟨vals .u64 16 (fun _ => 0), vals_size _ _ _, ?_⟩, ?_, ?_⟩
    · exact (((Blk.new w _ _).alloc _).alloc _).rowOther _ (by omega)
    · exact ((Blk.new' (w.alloc _) (w.heap.size + 1) (by simp) _ _).alloc _).rowOther _ (by omega)
    · exact ((Blk.new' ((w.alloc _).alloc _) (w.heap.size + 2) (by simp) _ _).row _).cast (vals_congr _ _ _ _ fun j _ => by simp)
    · exact Below.row ((((Below.refl _ w).alloc (Nat.le_refl _) _).alloc (by simp) _).alloc (by simp; omega) _) (by omega) _
  case round =>
    obtain ⟨k, hk, rfl, Bx, ⟨z, hz, Bz⟩, Bo, L⟩ := hrel
    by_cases hlt : k < 16
    · have c1 := Bx.cell (2 * k)
      rw [vals_get _ _ _ _ (by omega)] at c1
      have c2 := Bx.cell (2 * k + 1)
      rw [vals_get _ _ _ _ (by omega)] at c2
      have co := Bo.cell k
      rw [vals_get _ _ _ _ (by omega)] at co
      have fo' := Bo.frozen k
      have hf1 := Hf.out (2 * k)
      have hf2 := Hf.out (2 * k + 1)
      have Hw : Hid (((f (2 * k) : Nat) : Int) + 256 * ((f (2 * k + 1) : Nat) : Int) = ((bd f k : Nat) : Int)) := hide (by unfold bd; rw [if_pos hlt]; omega)
      have HB := hide (upd_vals .u64 32 (fun _ => 0) (bd f) k _ _ _ Bo.drew)
      have HBx := hide Bx
      have HBz := hide Bz
      have HL := hide L
      clear Bx Bz Bo L
      have hk0 : (0 : Int) ≤ (k : Int) := by omega
      have hk4 : (k : Int) < 32 := by omega
      have hk5 : (k : Int) < 16 := by omega
      have h20 : (0 : Int) ≤ 2 * (k : Int) := by omega
      have h24 : 2 * (k : Int) < 32 := by omega
      have h2n : (2 * (k : Int)).toNat = 2 * k := by omega
      have h2w : IntKind.i64.wrap (2 * (k : Int)) = 2 * (k : Int) := wrap_i64_small _ h20 (by omega)
      have h30 : (0 : Int) ≤ 2 * (k : Int) + 1 := by omega
      have h34 : 2 * (k : Int) + 1 < 32 := by omega
      have h3n : (2 * (k : Int) + 1).toNat = 2 * k + 1 := by omega
      have h3w : IntKind.i64.wrap (2 * (k : Int) + 1) = 2 * (k : Int) + 1 := wrap_i64_small _ h30 (by omega)
      go_wp2
      go_region_with (fail)
      all_goals
        go_wp2
        rw [Hw.out]
        go_roundw
        case rel => exact ⟨k + 1, by omega, by go_num, (HBx.out.setOther _ _ (by omega)).drew, ⟨z, hz, (HBz.out.setOther _ _ (by omega)).drew⟩, HB.out, (HL.out.setCell (by show w.heap.size ≤ w.heap.size + 2; omega) _).drew⟩
        case measure => simp [intOf]; omega
    · have e16 : k = 16 := by omega
      subst e16
      have HB := hide (Bo.cast (vals_congr _ 32 _ (bd f) fun j _ => stop16 (bd f) (fun j hj => by unfold bd; rw [if_neg (by omega)]) j))
      have HBz := hide Bz
      have HL := hide L
      clear Bx Bz Bo L
      go_wp2_with (first
        | (refine wpList_load_row rfl 148 _ rfl (w.heap.size + 2) rfl 148 _ (0, 0) _ HB.out Tryz.underlying148 rfl (by rw [vals_size]; exact cells62) ?_)
        | (go_at_call 106; refine (folded_at (bd f) _ _ rfl (fun j => by have := bd_lt f Hf.out j; omega) (by rw [pv_bd32]; have := nb_lt f Hf.out 32; omega)).mono ?_; rw [pv_bd32]; unfold rn; rintro e w1 ⟨rfl, hb1⟩; have HBz1 := hide (HBz.out.call hb1); have HL1 := hide (HL.out.trans (hb1.mono HL.out.size)); clear hb1; dsimp only)
        | (refine wpList_store_row rfl 58 _ _ rfl (w.heap.size + 1) (vals .u64 16 (dg (nb f 32 % pP))) rfl rfl 58 z HBz1.out (by rw [vals_size]; exact cells31) (by rw [vals_size]; exact hz) (vals_one _ _ _) ?_))
      refine bodyPost_ret (v := .agg (vals .u64 16 (dg (nb f 32 % pP)))) (results_cell_row Tryz.results64 _ _ (w.heap.size + 1) 58 _ (0, 0) _ rfl (HBz1.out.row _) Tryz.underlying58 rfl (by rw [vals_size]; exact cells31)) rfl ⟨rfl, ?_⟩
      exact Below.row HL1.out (by omega) _
theorem refLoad_at (f : Nat → Nat) (args : Array Value) (w : World) (h : args = #[ba f]) (hf : ∀ i, f i < 256) :
    Calls Tryz.prog 64 args w fun e w' => e = .returned (rn (nb f 32 % pP)) ∧ Below w.heap.size w w' := by subst h; exact refLoad_any f w hf

end Go.Proofs.YtbpmakegimgbpaaGreatDoor.F
namespace Go.Proofs.YtbpmakegimgbpaaGreatDoor.F
set_option maxRecDepth 100000
open Go.RowKit

def od (n j : Nat) : Nat := if j = 0 then n else 0
theorem pv_od (n : Nat) : pv (od n) 32 = n := by
  rw [show 32 = 1 + 31 from rfl, pv_stop (od n) 1 31 fun j hj => by unfold od; rw [if_neg (by omega)]]
  simp [pv, od]
theorem od_two (n j : Nat) : (if j = 1 then 0 else (if j = 0 then n else 0)) = od n j := by
  unfold od
  by_cases h : j = 1
  · subst h; rfl
  · rw [if_neg h]
set_option maxHeartbeats 1000000 in
theorem refOf_any (n : Nat) (w : World) (hn : n < 65536) :
    Calls Tryz.prog 69 #[.int .u64 n] w fun e w' => e = .returned (rn (n % pP)) ∧ Below w.heap.size w w' := by
  have Hn := hide hn
  have h1 : (n : Int) % 65536 = (n : Int) := by omega
  have h2 : (n : Int) / 65536 = 0 := by omega
  have h0 : (n : Int) < 65536 := by omega
  unfold rn
  go_enter Tryz.func69, Tryz.ntmps69
  go_wp2_with (first
    | (refine wpList_build rfl 148 #[] rfl (by simp [built62]) ?_; simp only [List.map_toArray, List.map_nil, built62, Option.getD_some])
    | (refine wpList_store_abs rfl 148 _ _ rfl (w.heap.size + 1) (vals .u64 32 (fun _ => 0)) rfl rfl 148 _ (Blk.new' _ _ (by simp) _ _) (by rw [vals_size]; exact cells62) (by rw [vals_size]; rfl) (vals_one _ _ _) ?_; intro y1 B1 S1; have Z1 := hide (S1.other _ _ _ (by omega) ((Blk.new w (vals .u64 16 (fun _ => 0)) 58).alloc _)); have L1 := hide (S1.low _ _ (((Below.refl _ w).alloc (Nat.le_refl _) _).alloc (by simp) _) (Nat.le_succ _)); have O1 := hide B1; have c0 := B1.cell 0; rw [vals_get _ _ _ _ (by omega)] at c0; have c1 := B1.cell 1; rw [vals_get _ _ _ _ (by omega)] at c1; have f0 := B1.frozen 0; have f1 := B1.frozen 1; have HB := hide (Blk.cast (c' := vals .u64 32 (od n)) ((B1.set 0 (.int .u64 (n : Nat))).set 1 (.int .u64 (0 : Nat))) (by rw [vals_set, vals_set]; exact vals_congr _ _ _ _ fun j _ => od_two n j)); have Z2 : Hid (Blk ((y1.setCell ⟨w.heap.size + 1, 0, none⟩ (.int .u64 (n : Nat))).setCell ⟨w.heap.size + 1, 1, none⟩ (.int .u64 (0 : Nat))) w.heap.size (vals .u64 16 (fun _ => 0)) 58) := hide ((Z1.out.setOther _ _ (by omega)).setOther _ _ (by omega)); have L2 : Hid (Below w.heap.size w ((y1.setCell ⟨w.heap.size + 1, 0, none⟩ (.int .u64 (n : Nat))).setCell ⟨w.heap.size + 1, 1, none⟩ (.int .u64 (0 : Nat)))) := hide ((L1.out.setCell (by show w.heap.size ≤ w.heap.size + 1; omega) _).setCell (by show w.heap.size ≤ w.heap.size + 1; omega) _); clear B1 S1)
    | (refine wpList_load_row rfl 148 _ rfl (w.heap.size + 1) rfl 148 _ (0, 0) _ HB.out Tryz.underlying148 rfl (by rw [vals_size]; exact cells62) ?_)
    | (go_at_call 106; refine (folded_at (od n) _ _ rfl (fun j => by unfold od; split <;> omega) (by rw [pv_od]; have := Hn.out; omega)).mono ?_; rw [pv_od]; unfold rn; rintro e w1 ⟨rfl, hb1⟩; have HBz1 := hide (Z2.out.call hb1); have HL1 := hide (L2.out.trans (hb1.mono L2.out.size)); clear hb1; dsimp only)
    | (refine wpList_store_row rfl 58 _ _ rfl w.heap.size (vals .u64 16 (dg (n % pP))) rfl rfl 58 _ HBz1.out (by rw [vals_size]; exact cells31) (by rw [vals_size, vals_size]) (vals_one _ _ _) ?_))
  refine bodyPost_ret (v := .agg (vals .u64 16 (dg (n % pP)))) (results_cell_row Tryz.results69 _ _ w.heap.size 58 _ (0, 0) _ rfl (HBz1.out.row _) Tryz.underlying58 rfl (by rw [vals_size]; exact cells31)) rfl ⟨rfl, ?_⟩
  exact Below.row HL1.out (Nat.le_refl _) _
theorem refOf_at (n : Nat) (args : Array Value) (w : World) (h : args = #[.int .u64 n]) (hn : n < 65536) :
    Calls Tryz.prog 69 args w fun e w' => e = .returned (rn (n % pP)) ∧ Below w.heap.size w w' := by subst h; exact refOf_any n w hn

end Go.Proofs.YtbpmakegimgbpaaGreatDoor.F
namespace Go.Proofs.YtbpmakegimgbpaaGreatDoor.F
set_option maxRecDepth 100000
open Go.RowKit

def oe (a b j : Nat) : Nat := if j = 0 then a else if j = 1 then b else 0
theorem pv_oe (a b : Nat) : pv (oe a b) 32 = a + 65536 * b := by
  rw [show 32 = 2 + 30 from rfl, pv_stop (oe a b) 2 30 fun j hj => by unfold oe; rw [if_neg (by omega), if_neg (by omega)]]
  simp [pv, oe]
  omega
theorem oe_two (a b j : Nat) : (if j = 1 then b else (if j = 0 then a else 0)) = oe a b j := by
  unfold oe
  by_cases h : j = 1
  · subst h; rfl
  · rw [if_neg h, if_neg h]
set_option maxHeartbeats 1000000 in
theorem refOf2_any (n : Nat) (w : World) (hn : n < 2 ^ 32) :
    Calls Tryz.prog 69 #[.int .u64 n] w fun e w' => e = .returned (rn (n % pP)) ∧ Below w.heap.size w w' := by
  have Hn := hide hn
  obtain ⟨a, ha⟩ : ∃ a, a = n % 65536 := ⟨_, rfl⟩
  obtain ⟨b, hb⟩ : ∃ b, b = n / 65536 := ⟨_, rfl⟩
  have h1 : (n : Int) % 65536 = (a : Int) := by omega
  have h2 : (n : Int) / 65536 = (b : Int) := by omega
  have h3 : (b : Int) % 65536 = (b : Int) := by omega
  have Ha : Hid (a < 65536) := hide (by omega)
  have Hb : Hid (b < 65536) := hide (by omega)
  have Hv : Hid (pv (oe a b) 32 = n) := hide (by rw [pv_oe]; omega)
  clear ha hb hn
  unfold rn
  go_enter Tryz.func69, Tryz.ntmps69
  go_wp2_with (first
    | (refine wpList_build rfl 148 #[] rfl (by simp [built62]) ?_; simp only [List.map_toArray, List.map_nil, built62, Option.getD_some])
    | (refine wpList_store_abs rfl 148 _ _ rfl (w.heap.size + 1) (vals .u64 32 (fun _ => 0)) rfl rfl 148 _ (Blk.new' _ _ (by simp) _ _) (by rw [vals_size]; exact cells62) (by rw [vals_size]; rfl) (vals_one _ _ _) ?_; intro y1 B1 S1; have Z1 := hide (S1.other _ _ _ (by omega) ((Blk.new w (vals .u64 16 (fun _ => 0)) 58).alloc _)); have L1 := hide (S1.low _ _ (((Below.refl _ w).alloc (Nat.le_refl _) _).alloc (by simp) _) (Nat.le_succ _)); have O1 := hide B1; have c0 := B1.cell 0; rw [vals_get _ _ _ _ (by omega)] at c0; have c1 := B1.cell 1; rw [vals_get _ _ _ _ (by omega)] at c1; have f0 := B1.frozen 0; have f1 := B1.frozen 1; have HB := hide (Blk.cast (c' := vals .u64 32 (oe a b)) ((B1.set 0 (.int .u64 (a : Nat))).set 1 (.int .u64 (b : Nat))) (by rw [vals_set, vals_set]; exact vals_congr _ _ _ _ fun j _ => oe_two a b j)); have Z2 : Hid (Blk ((y1.setCell ⟨w.heap.size + 1, 0, none⟩ (.int .u64 (a : Nat))).setCell ⟨w.heap.size + 1, 1, none⟩ (.int .u64 (b : Nat))) w.heap.size (vals .u64 16 (fun _ => 0)) 58) := hide ((Z1.out.setOther _ _ (by omega)).setOther _ _ (by omega)); have L2 : Hid (Below w.heap.size w ((y1.setCell ⟨w.heap.size + 1, 0, none⟩ (.int .u64 (a : Nat))).setCell ⟨w.heap.size + 1, 1, none⟩ (.int .u64 (b : Nat)))) := hide ((L1.out.setCell (by show w.heap.size ≤ w.heap.size + 1; omega) _).setCell (by show w.heap.size ≤ w.heap.size + 1; omega) _); clear B1 S1)
    | (refine wpList_load_row rfl 148 _ rfl (w.heap.size + 1) rfl 148 _ (0, 0) _ HB.out Tryz.underlying148 rfl (by rw [vals_size]; exact cells62) ?_)
    | (go_at_call 106; refine (folded_at (oe a b) _ _ rfl (fun j => by have := Ha.out; have := Hb.out; unfold oe; split; omega; split <;> omega) (by rw [Hv.out]; have := Hn.out; omega)).mono ?_; rw [Hv.out]; unfold rn; rintro e w1 ⟨rfl, hb1⟩; have HBz1 := hide (Z2.out.call hb1); have HL1 := hide (L2.out.trans (hb1.mono L2.out.size)); clear hb1; dsimp only)
    | (refine wpList_store_row rfl 58 _ _ rfl w.heap.size (vals .u64 16 (dg (n % pP))) rfl rfl 58 _ HBz1.out (by rw [vals_size]; exact cells31) (by rw [vals_size, vals_size]) (vals_one _ _ _) ?_))
  refine bodyPost_ret (v := .agg (vals .u64 16 (dg (n % pP)))) (results_cell_row Tryz.results69 _ _ w.heap.size 58 _ (0, 0) _ rfl (HBz1.out.row _) Tryz.underlying58 rfl (by rw [vals_size]; exact cells31)) rfl ⟨rfl, ?_⟩
  exact Below.row HL1.out (Nat.le_refl _) _
theorem refOf2_at (n : Nat) (args : Array Value) (w : World) (h : args = #[.int .u64 n]) (hn : n < 2 ^ 32) :
    Calls Tryz.prog 69 args w fun e w' => e = .returned (rn (n % pP)) ∧ Below w.heap.size w w' := by subst h; exact refOf2_any n w hn

end Go.Proofs.YtbpmakegimgbpaaGreatDoor.F
namespace Go.Proofs.YtbpmakegimgbpaaGreatDoor.F
set_option maxRecDepth 100000
open Go.RowKit

/-- The digits of a sum, not yet carried. -/
def ad (a b j : Nat) : Nat := if j < 16 then dg a j + dg b j else 0
theorem ad_lt (a b j : Nat) : ad a b j < 131072 := by
  unfold ad
  split
  · have h1 := dg_lt a j; have h2 := dg_lt b j; omega
  · omega
theorem pv_ad (a b : Nat) : ∀ k, k ≤ 16 → pv (ad a b) k = a % 2 ^ (16 * k) + b % 2 ^ (16 * k)
  | 0, _ => by simp [pv, Nat.mod_one]
  | k + 1, h => by
    have ih := pv_ad a b k (by omega)
    rw [pv, ih, mod_split a k, mod_split b k, ad, if_pos (by omega)]
    grind
theorem pv_ad32 (a b : Nat) (ha : a < 2 ^ 256) (hb : b < 2 ^ 256) : pv (ad a b) 32 = a + b := by
  rw [show 32 = 16 + 16 from rfl, pv_stop (ad a b) 16 16 fun j hj => by unfold ad; rw [if_neg (by omega)], pv_ad a b 16 (by omega)]
  rw [Nat.mod_eq_of_lt ha, Nat.mod_eq_of_lt hb]

set_option maxHeartbeats 1000000 in
theorem refAdd_any (a b : Nat) (w : World) (ha : a < 2 ^ 256) (hb : b < 2 ^ 256) :
    Calls Tryz.prog 70 #[rn a, rn b] w fun e w' => e = .returned (rn ((a + b) % pP)) ∧ Below w.heap.size w w' := by
  have Ha := hide ha
  have Hb := hide hb
  clear ha hb
  unfold rn
  go_enter Tryz.func70, Tryz.ntmps70
  go_wp2_with (first
    | (refine wpList_build rfl 148 #[] rfl (by simp [built62]) ?_; simp only [List.map_toArray, List.map_nil, built62, Option.getD_some])
    | (refine wpList_store_row rfl 148 _ _ rfl (w.heap.size + 3) (vals .u64 32 (fun _ => 0)) rfl rfl 148 _ (Blk.new' _ _ (by simp) _ _) (by rw [vals_size]; exact cells62) (by rw [vals_size]; rfl) (vals_one _ _ _) ?_))
  go_loopw [6] (fun i wr => ∃ k : Nat, k ≤ 16 ∧ i = .int .i64 k ∧ Blk wr w.heap.size (vals .u64 16 (dg a)) 58 ∧ Blk wr (w.heap.size + 1) (vals .u64 16 (dg b)) 58 ∧ (∃ z, z.size = 16 ∧ Blk wr (w.heap.size + 2) z 58) ∧ Blk wr (w.heap.size + 3) (vals .u64 32 (fun j => if j < k then ad a b j else 0)) 148 ∧ Below w.heap.size w wr) (fun i _ => 16 - (intOf i).toNat)
  case atStart =>
    refine ⟨0, by omega, rfl, ?_, ?_, ⟨vals .u64 16 (fun _ => 0), vals_size _ _ _, ?_⟩, ?_, ?_⟩
    · exact ((((Blk.new w _ _).alloc _).alloc _).alloc _).rowOther _ (by omega)
    · exact (((Blk.new' (w.alloc _) (w.heap.size + 1) (by simp) _ _).alloc _).alloc _).rowOther _ (by omega)
    · exact ((Blk.new' ((w.alloc _).alloc _) (w.heap.size + 2) (by simp) _ _).alloc _).rowOther _ (by omega)
    · exact ((Blk.new' (((w.alloc _).alloc _).alloc _) (w.heap.size + 3) (by simp) _ _).row _).cast (vals_congr _ _ _ _ fun j _ => by simp)
    · exact Below.row (((((Below.refl _ w).alloc (Nat.le_refl _) _).alloc (by simp) _).alloc (by simp; omega) _).alloc (by simp; omega) _) (by omega) _
  case round =>
    obtain ⟨k, hk, rfl, Ba, Bb, ⟨z, hz, Bz⟩, Bo, L⟩ := hrel
    by_cases hlt : k < 16
    · have c1 := Ba.cell k
      rw [vals_get _ _ _ _ (by omega)] at c1
      have c2 := Bb.cell k
      rw [vals_get _ _ _ _ (by omega)] at c2
      have co := Bo.cell k
      rw [vals_get _ _ _ _ (by omega)] at co
      have fo' := Bo.frozen k
      have hd1 := dg_lt a k
      have hd2 := dg_lt b k
      have Hw : Hid (((dg a k : Nat) : Int) + ((dg b k : Nat) : Int) = ((ad a b k : Nat) : Int)) := hide (by unfold ad; rw [if_pos hlt]; omega)
      have HB := hide (upd_vals .u64 32 (fun _ => 0) (ad a b) k _ _ _ Bo.drew)
      have HBa := hide Ba
      have HBb := hide Bb
      have HBz := hide Bz
      have HL := hide L
      clear Ba Bb Bz Bo L
      have hk0 : (0 : Int) ≤ (k : Int) := by omega
      have hk4 : (k : Int) < 32 := by omega
      have hk5 : (k : Int) < 16 := by omega
      go_wp2
      go_region_with (fail)
      all_goals
        go_wp2
        rw [Hw.out]
        go_roundw
        case rel => exact ⟨k + 1, by omega, by go_num, (HBa.out.setOther _ _ (by omega)).drew, (HBb.out.setOther _ _ (by omega)).drew, ⟨z, hz, (HBz.out.setOther _ _ (by omega)).drew⟩, HB.out, (HL.out.setCell (by show w.heap.size ≤ w.heap.size + 3; omega) _).drew⟩
        case measure => simp [intOf]; omega
    · have e16 : k = 16 := by omega
      subst e16
      have HB := hide (Bo.cast (vals_congr _ 32 _ (ad a b) fun j _ => stop16 (ad a b) (fun j hj => by unfold ad; rw [if_neg (by omega)]) j))
      have HBz := hide Bz
      have HL := hide L
      clear Ba Bb Bz Bo L
      go_wp2_with (first
        | (refine wpList_load_row rfl 148 _ rfl (w.heap.size + 3) rfl 148 _ (0, 0) _ HB.out Tryz.underlying148 rfl (by rw [vals_size]; exact cells62) ?_)
        | (go_at_call 106; refine (folded_at (ad a b) _ _ rfl (fun j => by have := ad_lt a b j; omega) (by rw [pv_ad32 a b Ha.out Hb.out]; have := Ha.out; have := Hb.out; omega)).mono ?_; rw [pv_ad32 a b Ha.out Hb.out]; unfold rn; rintro e w1 ⟨rfl, hb1⟩; have HBz1 := hide (HBz.out.call hb1); have HL1 := hide (HL.out.trans (hb1.mono HL.out.size)); clear hb1; dsimp only)
        | (refine wpList_store_row rfl 58 _ _ rfl (w.heap.size + 2) (vals .u64 16 (dg ((a + b) % pP))) rfl rfl 58 z HBz1.out (by rw [vals_size]; exact cells31) (by rw [vals_size]; exact hz) (vals_one _ _ _) ?_))
      refine bodyPost_ret (v := .agg (vals .u64 16 (dg ((a + b) % pP)))) (results_cell_row Tryz.results70 _ _ (w.heap.size + 2) 58 _ (0, 0) _ rfl (HBz1.out.row _) Tryz.underlying58 rfl (by rw [vals_size]; exact cells31)) rfl ⟨rfl, ?_⟩
      exact Below.row HL1.out (by omega) _
theorem refAdd_at (a b : Nat) (args : Array Value) (w : World) (h : args = #[rn a, rn b]) (ha : a < 2 ^ 256) (hb : b < 2 ^ 256) :
    Calls Tryz.prog 70 args w fun e w' => e = .returned (rn ((a + b) % pP)) ∧ Below w.heap.size w w' := by subst h; exact refAdd_any a b w ha hb

end Go.Proofs.YtbpmakegimgbpaaGreatDoor.F
namespace Go.Proofs.YtbpmakegimgbpaaGreatDoor.F
set_option maxRecDepth 100000
open Go.RowKit

set_option maxHeartbeats 2000000 in
theorem refSub_any (a b : Nat) (w : World) (ha : a < 2 ^ 256) (hb : b ≤ pP) :
    Calls Tryz.prog 68 #[rn a, rn b] w fun e w' => e = .returned (rn ((a + (pP - b)) % pP)) ∧ Below w.heap.size w w' := by
  have Ha := hide ha
  have Hb := hide hb
  clear ha hb
  unfold rn
  go_enter Tryz.func68, Tryz.ntmps68
  have G_0 := hide (((Blk.new w (vals .u64 16 (dg a)) 58).alloc (.cells (vals .u64 16 (dg b)) 58)).alloc (.cells (vals .u64 16 (fun _ => 0)) 58))
  have F_0 := hide ((Blk.new' (w.alloc (.cells (vals .u64 16 (dg a)) 58)) (w.heap.size + 1) (by simp) (vals .u64 16 (dg b)) 58).alloc (.cells (vals .u64 16 (fun _ => 0)) 58))
  have Zs := hide (Blk.new' ((w.alloc (.cells (vals .u64 16 (dg a)) 58)).alloc (.cells (vals .u64 16 (dg b)) 58)) (w.heap.size + 2) (by simp) (vals .u64 16 (fun _ => 0)) 58)
  have L_0 : Hid (Below w.heap.size w (((w.alloc (.cells (vals .u64 16 (dg a)) 58)).alloc (.cells (vals .u64 16 (dg b)) 58)).alloc (.cells (vals .u64 16 (fun _ => 0)) 58))) := hide ((((Below.refl _ w).alloc (Nat.le_refl _) _).alloc (by simp) _).alloc (by simp; omega) _)
  go_wp2
  refine wp_region_held_drew (S := fun w' => Blk w' (w.heap.size) (vals .u64 16 (dg a)) 58 ∧ Blk w' (w.heap.size + 1) (vals .u64 16 (dg b)) 58 ∧ Below w.heap.size w w') (by kernel_rfl) ⟨G_0.out.drew, F_0.out.drew, L_0.out.drew⟩ (fun hHeld => ?_)
  have Z_0 := hide Zs.out.drew
  clear G_0 F_0 L_0 Zs
  refine wpAnyH_take (i := 0) (oi := { dst := some 5, op := Op.load 58 (Operand.tmp 2), type := 58, pos := "ref.go:108", after := #[], guard := none }) (v := .agg (vals .u64 16 (dg a))) rfl (by kernel_rfl) (by kernel_rfl) (by kernel_rfl) (fun _ _ _ h => h) (yields_S (fun _ h => h.1) (by rfl) 58 _ rfl rfl _ Tryz.underlying58 rfl (by rw [vals_size]; exact cells31)) hHeld ?_
  try simp only [Act.put, List.setIfInBounds_toArray, List.set_cons_zero, List.set_cons_succ]
  refine wpAnyH_take (i := 2) (oi := { dst := some 7, op := Op.load 58 (Operand.tmp 3), type := 58, pos := "ref.go:108", after := #[], guard := none }) (v := .agg (vals .u64 16 (dg b))) rfl (by kernel_rfl) (by kernel_rfl) (by kernel_rfl) (fun _ _ _ h => h) (yields_S (fun _ h => h.2.1) (by rfl) 58 _ rfl rfl _ Tryz.underlying58 rfl (by rw [vals_size]; exact cells31)) hHeld ?_
  try simp only [Act.put, List.setIfInBounds_toArray, List.set_cons_zero, List.set_cons_succ]
  refine wpAnyH_ready (rs := [1]) (by kernel_rfl) (by simp) ?_
  refine AllReadyH.cons (o := { dst := some 6, op := Op.call { callee := Callee.value (Operand.func 108), args := #[], argTypes := #[] }, type := 58, pos := "ref.go:108", after := #[], guard := none }) rfl (fun K hK => ?_) AllReadyH.nil
  go_simp
  refine (refP_at _ _ (by rfl)).mono ?_
  unfold rn
  rintro e u1 ⟨rfl, hb⟩
  have Z_1 := hide (Z_0.out.call hb)
  clear Z_0
  dsimp only
  refine hK.out _ _ ⟨hHeld.1.call hb, hHeld.2.1.call hb, hHeld.2.2.trans (hb.mono hHeld.2.2.size)⟩ (fun hHeld => ?_)
  clear hK K hb
  try simp only [Act.put, List.setIfInBounds_toArray, List.set_cons_zero, List.set_cons_succ]
  refine wpAnyH_ready (rs := [3]) (by kernel_rfl) (by simp) ?_
  refine AllReadyH.cons (o := { dst := some 8, op := Op.call { callee := Callee.value (Operand.func 107), args := #[Operand.tmp 6, Operand.tmp 7], argTypes := #[58, 58] }, type := 58, pos := "ref.go:108", after := #[{ on := 1, ground := Ground.data }, { on := 2, ground := Ground.data }, { on := 1, ground := Ground.chain }], guard := none }) rfl (fun K hK => ?_) AllReadyH.nil
  go_simp
  refine (refless_at pP b _ _ (by rfl) Hb.out).mono ?_
  unfold rn
  rintro e u2 ⟨rfl, hb⟩
  have Z_2 := hide (Z_1.out.call hb)
  clear Z_1
  dsimp only
  refine hK.out _ _ ⟨hHeld.1.call hb, hHeld.2.1.call hb, hHeld.2.2.trans (hb.mono hHeld.2.2.size)⟩ (fun hHeld => ?_)
  clear hK K hb
  try simp only [Act.put, List.setIfInBounds_toArray, List.set_cons_zero, List.set_cons_succ]
  refine wpAnyH_ready (rs := [4]) (by kernel_rfl) (by simp) ?_
  refine AllReadyH.cons (o := { dst := some 9, op := Op.call { callee := Callee.value (Operand.func 70), args := #[Operand.tmp 5, Operand.tmp 8], argTypes := #[58, 58] }, type := 58, pos := "ref.go:108", after := #[{ on := 0, ground := Ground.data }, { on := 3, ground := Ground.data }, { on := 3, ground := Ground.chain }], guard := none }) rfl (fun K hK => ?_) AllReadyH.nil
  go_simp
  refine (refAdd_at a (pP - b) _ _ (by rfl) Ha.out (Nat.lt_of_le_of_lt (Nat.sub_le _ _) pP_lt)).mono ?_
  unfold rn
  rintro e u3 ⟨rfl, hb⟩
  have Z_3 := hide (Z_2.out.call hb)
  clear Z_2
  dsimp only
  refine hK.out _ _ ⟨hHeld.1.call hb, hHeld.2.1.call hb, hHeld.2.2.trans (hb.mono hHeld.2.2.size)⟩ (fun hHeld => ?_)
  clear hK K hb
  try simp only [Act.put, List.setIfInBounds_toArray, List.set_cons_zero, List.set_cons_succ]
  refine wpAnyH_ready (rs := [5]) (by kernel_rfl) (by simp) ?_
  refine AllReadyH.cons (o := { dst := none, op := Op.store 58 (Operand.tmp 4) (Operand.tmp 9), type := 0, pos := "ref.go:108", after := #[{ on := 4, ground := Ground.data }, { on := 4, ground := Ground.chain }, { on := 0, ground := Ground.phase }, { on := 1, ground := Ground.phase }, { on := 2, ground := Ground.phase }, { on := 3, ground := Ground.phase }, { on := 4, ground := Ground.phase }], guard := none }) rfl (fun K hK => ?_) AllReadyH.nil
  rw [if_pos (by rfl)]
  refine wp_store_row 58 _ _ rfl (w.heap.size + 2) (vals .u64 16 (dg ((a + (pP - b)) % pP))) rfl rfl 58 _ Z_3.out (by rw [vals_size]; exact cells31) (by rw [vals_size, vals_size]) (vals_one _ _ _) ?_
  refine hK.out _ _ ⟨hHeld.1.rowOther _ (by omega), hHeld.2.1.rowOther _ (by omega), Below.row hHeld.2.2 (by omega) _⟩ (fun hHeld => ?_)
  clear hK K
  simp only [Act.put]
  refine wpAnyH_done (by kernel_rfl) ?_ _
  go_wp2
  refine bodyPost_ret (v := .agg (vals .u64 16 (dg ((a + (pP - b)) % pP)))) (results_cell_row Tryz.results68 _ _ (w.heap.size + 2) 58 _ (0, 0) _ rfl (Z_3.out.row _) Tryz.underlying58 rfl (by rw [vals_size]; exact cells31)) rfl ⟨rfl, ?_⟩
  exact hHeld.2.2
theorem refSub_at (a b : Nat) (args : Array Value) (w : World) (h : args = #[rn a, rn b]) (ha : a < 2 ^ 256) (hb : b ≤ pP) :
    Calls Tryz.prog 68 args w fun e w' => e = .returned (rn ((a + (pP - b)) % pP)) ∧ Below w.heap.size w w' := by subst h; exact refSub_any a b w ha hb

end Go.Proofs.YtbpmakegimgbpaaGreatDoor.F
namespace Go.Proofs.YtbpmakegimgbpaaGreatDoor.F
set_option maxRecDepth 100000
open Go.RowKit

theorem dg_half (a i : Nat) : dg (a / 2) i = dg a i / 2 + dg a (i + 1) % 2 * 32768 := by
  unfold dg
  rw [d_succ, ← Nat.div_div_eq_div_mul a (2 ^ (16 * i)) 65536, Nat.div_div_eq_div_mul a 2, Nat.mul_comm 2, ← Nat.div_div_eq_div_mul]
  generalize a / 2 ^ (16 * i) = A
  omega
theorem upd_one (n k v : Nat) (g : Nat → Nat) (h : v = g k) (j : Nat) : (if j = k then v else (if j < k then g j else n)) = if j < k + 1 then g j else n := by
  by_cases h1 : j = k
  · subst h1; rw [if_pos rfl, if_pos (by omega), h]
  · rw [if_neg h1]
    by_cases h2 : j < k
    · rw [if_pos h2, if_pos (by omega)]
    · rw [if_neg h2, if_neg (by omega)]
theorem upd_two (n k v v' : Nat) (g : Nat → Nat) (h : v = g k) (j : Nat) : (if j = k then v else (if j = k then v' else (if j < k then g j else n))) = if j < k + 1 then g j else n := by
  by_cases h1 : j = k
  · subst h1; rw [if_pos rfl, if_pos (by omega), h]
  · rw [if_neg h1, if_neg h1]
    by_cases h2 : j < k
    · rw [if_pos h2, if_pos (by omega)]
    · rw [if_neg h2, if_neg (by omega)]
set_option maxHeartbeats 1000000 in
theorem refHalf_any (a : Nat) (w : World) (ha : a < 2 ^ 256) :
    Calls Tryz.prog 111 #[rn a] w fun e w' => e = .returned (rn (a / 2)) ∧ Below w.heap.size w w' := by
  have Ha := hide ha
  clear ha
  unfold rn
  go_enter Tryz.func111, Tryz.ntmps111
  go_wp2_with (first
    | (refine wpList_build rfl 58 #[] rfl (by simp [built31]) ?_; simp only [List.map_toArray, List.map_nil, built31, Option.getD_some])
    | (refine wpList_store_row rfl 58 _ _ rfl (w.heap.size + 2) (vals .u64 16 (fun _ => 0)) rfl rfl 58 _ (Blk.new' _ _ (by simp) _ _) (by rw [vals_size]; exact cells31) (by rw [vals_size]; rfl) (vals_one _ _ _) ?_))
  go_loopw [4] (fun i wr => ∃ k : Nat, k ≤ 16 ∧ i = .int .i64 k ∧ Blk wr w.heap.size (vals .u64 16 (dg a)) 58 ∧ (∃ z, z.size = 16 ∧ Blk wr (w.heap.size + 1) z 58) ∧ Blk wr (w.heap.size + 2) (vals .u64 16 (fun j => if j < k then dg (a / 2) j else 0)) 58 ∧ Below w.heap.size w wr) (fun i _ => 16 - (intOf i).toNat)
  case atStart =>
    refine ⟨0, by omega, rfl, ?_, ⟨vals .u64 16 (fun _ => 0), vals_size _ _ _, ?_⟩, ?_, ?_⟩
    · exact (((Blk.new w _ _).alloc _).alloc _).rowOther _ (by omega)
    · exact ((Blk.new' (w.alloc _) (w.heap.size + 1) (by simp) _ _).alloc _).rowOther _ (by omega)
    · exact ((Blk.new' ((w.alloc _).alloc _) (w.heap.size + 2) (by simp) _ _).row _).cast (vals_congr _ _ _ _ fun j _ => by simp)
    · exact Below.row ((((Below.refl _ w).alloc (Nat.le_refl _) _).alloc (by simp) _).alloc (by simp; omega) _) (by omega) _
  case round =>
    obtain ⟨k, hk, rfl, Bx, ⟨z, hz, Bz⟩, Bo, L⟩ := hrel
    by_cases hlt : k < 16
    · have c1 := Bx.cell k
      rw [vals_get _ _ _ _ (by omega)] at c1
      have co := Bo.cell k
      rw [vals_get _ _ _ _ (by omega)] at co
      have fo' := Bo.frozen k
      have hd := dg_lt a k
      have hk0 : (0 : Int) ≤ (k : Int) := by omega
      have hk5 : (k : Int) < 16 := by omega
      have Hh := hide (dg_half a k)
      by_cases h15 : k < 15
      · have hk15 : (k : Int) < 15 := by omega
        have c2 := Bx.cell (k + 1)
        rw [vals_get _ _ _ _ (by omega)] at c2
        have hs0 : (0 : Int) ≤ (k : Int) + 1 := by omega
        have hs4 : (k : Int) + 1 < 16 := by omega
        have hsn : ((k : Int) + 1).toNat = k + 1 := by omega
        have hsw : IntKind.i64.wrap ((k : Int) + 1) = (k : Int) + 1 := wrap_i64_small _ hs0 (by omega)
        have hd2 := dg_lt a (k + 1)
        go_upto_region 7 with (fail)
        have e2 : ((dg a k : Nat) : Int) / 2 = ((dg a k / 2 : Nat) : Int) := by omega
        rw [e2]
        clear e2 co fo' c1 c2
        obtain ⟨w7, hw7⟩ : ∃ w7, w7 = wr.setCell ⟨w.heap.size + 1 + 1, k, none⟩ (.int .u64 (dg a k / 2 : Nat)) := ⟨_, rfl⟩
        rw [← hw7]
        have B7 : Blk w7 (w.heap.size + 2) (vals .u64 16 (fun j => if j = k then dg a k / 2 else (if j < k then dg (a / 2) j else 0))) 58 := by
          rw [hw7]
          exact (Bo.set k (.int .u64 (dg a k / 2 : Nat))).cast (vals_set _ _ _ _ _)
        have X7 : Blk w7 w.heap.size (vals .u64 16 (dg a)) 58 := by rw [hw7]; exact Bx.setOther _ _ (by omega)
        have Z7 : Blk w7 (w.heap.size + 1) z 58 := by rw [hw7]; exact Bz.setOther _ _ (by omega)
        have L7 : Below w.heap.size w w7 := by rw [hw7]; exact L.setCell (by show w.heap.size ≤ w.heap.size + 2; omega) _
        clear Bx Bz Bo L hw7
        have c7 := B7.cell k
        rw [vals_get _ _ _ _ (by omega), if_pos rfl] at c7
        have f7 := B7.frozen k
        have c8 := X7.cell (k + 1)
        rw [vals_get _ _ _ _ (by omega)] at c8
        obtain ⟨y, hy⟩ : ∃ y, y = dg a (k + 1) := ⟨_, rfl⟩
        obtain ⟨x, hx⟩ : ∃ x, x = dg a k / 2 := ⟨_, rfl⟩
        rw [← hx, ← hy] at Hh
        rw [← hy] at c8 hd2
        rw [← hx] at c7
        rw [← hx]
        have hx2 : x < 32768 := by omega
        have Hv : Hid ((x : Int) + (y : Int) % 2 * 65536 / 2 = ((dg (a / 2) k : Nat) : Int)) := hide (by rw [Hh.out]; omega)
        have HB := hide (Blk.cast (c' := vals .u64 16 (fun j => if j < k + 1 then dg (a / 2) j else 0)) ((B7.set k (.int .u64 (dg (a / 2) k : Nat))).drew) (by
          rw [vals_set]
          exact vals_congr _ _ _ _ fun j _ => upd_two 0 k _ _ (dg (a / 2)) rfl j))
        have HBx := hide X7
        have HBz := hide Z7
        have HL := hide L7
        clear B7 X7 Z7 L7 hx hy
        go_region_with (fail)
        all_goals
          go_wp2
          first | rw [Hv.out] | trace_state
          go_roundw
          case rel => exact ⟨k + 1, by omega, by go_num, (HBx.out.setOther _ _ (by omega)).drew, ⟨z, hz, (HBz.out.setOther _ _ (by omega)).drew⟩, HB.out, (HL.out.setCell (by show w.heap.size ≤ w.heap.size + 2; omega) _).drew⟩
          case measure => simp [intOf]; omega
      · have e15 : k = 15 := by omega
        subst e15
        have Hz : Hid (dg a 16 = 0) := hide (dg_zero a 16 16 Ha.out (by omega))
        have Hv : Hid (((dg a 15 : Nat) : Int) / 2 = ((dg (a / 2) 15 : Nat) : Int)) := hide (by rw [Hh.out, Hz.out]; omega)
        have HB := hide (Blk.cast (c' := vals .u64 16 (fun j => if j < 15 + 1 then dg (a / 2) j else 0)) (Bo.set 15 (.int .u64 (dg (a / 2) 15 : Nat))) (by
          rw [vals_set]
          exact vals_congr _ _ _ _ fun j _ => upd_one 0 15 _ (dg (a / 2)) rfl j))
        have HBx := hide Bx
        have HBz := hide Bz
        have HL := hide L
        clear Bx Bz Bo L
        rw [show ((15 : Nat) : Int) = 15 from rfl]
        go_wp2
        rw [Hv.out]
        go_roundw
        case rel => exact ⟨15 + 1, by omega, by go_num, HBx.out.setOther _ _ (by omega), ⟨z, hz, HBz.out.setOther _ _ (by omega)⟩, HB.out, HL.out.setCell (by show w.heap.size ≤ w.heap.size + 2; omega) _⟩
        case measure => simp [intOf]
    · have e16 : k = 16 := by omega
      subst e16
      have HB := hide (Bo.cast (vals_congr _ 16 _ (dg (a / 2)) fun j hj => by simp [hj]))
      have HBz := hide Bz
      have HL := hide L
      clear Bx Bz Bo L
      go_wp2_with (first
        | (refine wpList_load_row rfl 58 _ rfl (w.heap.size + 2) rfl 58 _ (0, 0) _ HB.out Tryz.underlying58 rfl (by rw [vals_size]; exact cells31) ?_)
        | (refine wpList_store_row rfl 58 _ _ rfl (w.heap.size + 1) (vals .u64 16 (dg (a / 2))) rfl rfl 58 z HBz.out (by rw [vals_size]; exact cells31) (by rw [vals_size]; exact hz) (vals_one _ _ _) ?_))
      refine bodyPost_ret (v := .agg (vals .u64 16 (dg (a / 2)))) (results_cell_row Tryz.results111 _ _ (w.heap.size + 1) 58 _ (0, 0) _ rfl (HBz.out.row _) Tryz.underlying58 rfl (by rw [vals_size]; exact cells31)) rfl ⟨rfl, ?_⟩
      exact Below.row HL.out (by omega) _
theorem refHalf_at (a : Nat) (args : Array Value) (w : World) (h : args = #[rn a]) (ha : a < 2 ^ 256) :
    Calls Tryz.prog 111 args w fun e w' => e = .returned (rn (a / 2)) ∧ Below w.heap.size w w' := by subst h; exact refHalf_any a w ha

end Go.Proofs.YtbpmakegimgbpaaGreatDoor.F
namespace Go.Proofs.YtbpmakegimgbpaaGreatDoor.F
set_option maxRecDepth 100000
open Go.RowKit

/-- Digits with one that is greater. -/
def up (l : Nat → Nat) (m v j : Nat) : Nat := if j = m then l m + v else l j
theorem pv_up (l : Nat → Nat) (m v : Nat) : ∀ n, pv (up l m v) n = pv l n + if m < n then v * 2 ^ (16 * m) else 0
  | 0 => by simp [pv]
  | n + 1 => by
    rw [pv, pv, pv_up l m v n, up]
    by_cases h1 : n = m
    · subst h1
      rw [if_pos rfl, if_neg (by omega), if_pos (by omega)]
      grind
    · rw [if_neg h1]
      by_cases h2 : m < n
      · rw [if_pos h2, if_pos (by omega)]; omega
      · rw [if_neg h2, if_neg (by omega)]; omega
theorem mul_step (l : Nat → Nat) (a b i k : Nat) (hik : i + k < 32) (h : pv l 32 = a % 2 ^ (16 * i) * b + 2 ^ (16 * i) * dg a i * (b % 2 ^ (16 * k))) :
    pv (up l (i + k) (dg a i * dg b k)) 32 = a % 2 ^ (16 * i) * b + 2 ^ (16 * i) * dg a i * (b % 2 ^ (16 * (k + 1))) := by
  rw [pv_up, if_pos hik, h, mod_split b k, d_add]
  grind
theorem mul_row (a b i : Nat) (hb : b < 2 ^ 256) : a % 2 ^ (16 * i) * b + 2 ^ (16 * i) * dg a i * (b % 2 ^ (16 * 16)) = a % 2 ^ (16 * (i + 1)) * b := by
  rw [mod_split a i, Nat.mod_eq_of_lt (show b < 2 ^ (16 * 16) from hb), Nat.add_mul]
theorem dd_le (a b i k : Nat) : dg a i * dg b k ≤ 4294836225 := by
  have h1 := dg_lt a i
  have h2 := dg_lt b k
  exact Nat.mul_le_mul (show dg a i ≤ 65535 by omega) (show dg b k ≤ 65535 by omega)
theorem up_le (l : Nat → Nat) (m v c : Nat) (hl : ∀ j, l j ≤ c * 4294836225) (hv : v ≤ 4294836225) (j : Nat) : up l m v j ≤ (c + 1) * 4294836225 := by
  have h1 := hl j
  have h2 := hl m
  rw [Nat.add_mul, Nat.one_mul]
  generalize c * 4294836225 = C at h1 h2 ⊢
  unfold up
  by_cases h : j = m
  · rw [if_pos h]; exact Nat.add_le_add h2 hv
  · rw [if_neg h]; exact Nat.le_trans h1 (Nat.le_add_right _ _)

set_option maxHeartbeats 2000000 in
theorem refMul_any (a b : Nat) (w : World) (ha : a < 2 ^ 256) (hb : b < 2 ^ 256) :
    Calls Tryz.prog 67 #[rn a, rn b] w fun e w' => e = .returned (rn (mm a b)) ∧ Below w.heap.size w w' := by
  have Ha := hide ha
  have Hb := hide hb
  clear ha hb
  unfold rn
  go_enter Tryz.func67, Tryz.ntmps67
  go_wp2_with (first
    | (refine wpList_build rfl 148 #[] rfl (by simp [built62]) ?_; simp only [List.map_toArray, List.map_nil, built62, Option.getD_some])
    | (refine wpList_store_row rfl 148 _ _ rfl (w.heap.size + 3) (vals .u64 32 (fun _ => 0)) rfl rfl 148 _ (Blk.new' _ _ (by simp) _ _) (by rw [vals_size]; exact cells62) (by rw [vals_size]; rfl) (vals_one _ _ _) ?_))
  go_loopw [6] (fun iv wr => ∃ i : Nat, i ≤ 16 ∧ iv = .int .i64 i ∧ Blk wr w.heap.size (vals .u64 16 (dg a)) 58 ∧ Blk wr (w.heap.size + 1) (vals .u64 16 (dg b)) 58 ∧ (∃ z, z.size = 16 ∧ Blk wr (w.heap.size + 2) z 58) ∧ (∃ l : Nat → Nat, (∀ j, l j ≤ (16 * i) * 4294836225) ∧ pv l 32 = a % 2 ^ (16 * i) * b ∧ Blk wr (w.heap.size + 3) (vals .u64 32 l) 148) ∧ Below w.heap.size w wr) (fun i _ => 16 - (intOf i).toNat)
  case atStart =>
    refine ⟨0, by omega, rfl, ?_, ?_, ⟨vals .u64 16 (fun _ => 0), vals_size _ _ _, ?_⟩, ⟨fun _ => 0, fun _ => Nat.zero_le _, ?_, ?_⟩, ?_⟩
    · exact ((((Blk.new w _ _).alloc _).alloc _).alloc _).rowOther _ (by omega)
    · exact (((Blk.new' (w.alloc _) (w.heap.size + 1) (by simp) _ _).alloc _).alloc _).rowOther _ (by omega)
    · exact ((Blk.new' ((w.alloc _).alloc _) (w.heap.size + 2) (by simp) _ _).alloc _).rowOther _ (by omega)
    · rw [show 32 = 0 + 32 from rfl, pv_stop (fun _ => 0) 0 32 fun _ _ => rfl]; simp [pv, Nat.mod_one]
    · exact (Blk.new' (((w.alloc _).alloc _).alloc _) (w.heap.size + 3) (by simp) _ _).row _
    · exact Below.row (((((Below.refl _ w).alloc (Nat.le_refl _) _).alloc (by simp) _).alloc (by simp; omega) _).alloc (by simp; omega) _) (by omega) _
  case round =>
    obtain ⟨i, hi, rfl, Ba, Bb, ⟨z, hz, Bz⟩, ⟨l, hl, hpv, Bl⟩, L⟩ := hrel
    have Hl := hide hl
    have Hpv := hide hpv
    have HBa := hide Ba
    have HBb := hide Bb
    have HBz := hide Bz
    have HBl := hide Bl
    have HL := hide L
    clear Ba Bb Bz Bl L hl hpv
    by_cases hlt : i < 16
    · have hi0 : (0 : Int) ≤ (i : Int) := by omega
      have hi4 : (i : Int) < 16 := by omega
      go_wp2
      go_loopw [7] (fun kv wr => ∃ k : Nat, k ≤ 16 ∧ kv = .int .i64 k ∧ Blk wr w.heap.size (vals .u64 16 (dg a)) 58 ∧ Blk wr (w.heap.size + 1) (vals .u64 16 (dg b)) 58 ∧ (∃ z, z.size = 16 ∧ Blk wr (w.heap.size + 2) z 58) ∧ (∃ l : Nat → Nat, (∀ j, l j ≤ (16 * i + k) * 4294836225) ∧ pv l 32 = a % 2 ^ (16 * i) * b + 2 ^ (16 * i) * dg a i * (b % 2 ^ (16 * k)) ∧ Blk wr (w.heap.size + 3) (vals .u64 32 l) 148) ∧ Below w.heap.size w wr) (fun i _ => 16 - (intOf i).toNat)
      case atStart => exact ⟨0, by omega, rfl, HBa.out, HBb.out, ⟨z, hz, HBz.out⟩, ⟨l, Hl.out, by rw [Hpv.out]; simp [Nat.mod_one], HBl.out⟩, HL.out⟩
      case round =>
        clear HBa HBb HBz HBl HL hz z Hl Hpv l
        obtain ⟨k, hk, rfl, Ba, Bb, ⟨z, hz, Bz⟩, ⟨l, hl, hpv, Bl⟩, L⟩ := hrel
        have Hl := hide hl
        have Hpv := hide hpv
        clear hl hpv
        by_cases hlk : k < 16
        · have c1 := Ba.cell i
          rw [vals_get _ _ _ _ (by omega)] at c1
          have c2 := Bb.cell k
          rw [vals_get _ _ _ _ (by omega)] at c2
          have co := Bl.cell (i + k)
          rw [vals_get _ _ _ _ (by omega)] at co
          have fo' := Bl.frozen (i + k)
          have hd := dd_le a b i k
          have hlb : l (i + k) ≤ 256 * 4294836225 := Nat.le_trans (Hl.out (i + k)) (Nat.mul_le_mul_right _ (by omega))
          obtain ⟨p, hp⟩ : ∃ p, p = dg a i * dg b k := ⟨_, rfl⟩
          have hpi : ((dg a i : Nat) : Int) * ((dg b k : Nat) : Int) = ((p : Nat) : Int) := by rw [hp]; simp
          rw [← hp] at hd
          have hw1 : IntKind.u64.wrap (((dg a i : Nat) : Int) * ((dg b k : Nat) : Int)) = ((p : Nat) : Int) := by rw [hpi, wrap_u64']; omega
          have hw2 : IntKind.u64.wrap (((l (i + k) : Nat) : Int) + ((p : Nat) : Int)) = ((l (i + k) + p : Nat) : Int) := by rw [wrap_u64']; omega
          have hw3 : IntKind.u64.wrap (((l (i + k) : Nat) : Int) + ((dg a i : Nat) : Int) * ((dg b k : Nat) : Int)) = ((l (i + k) + p : Nat) : Int) := by rw [hpi]; exact hw2
          have HB := hide (Blk.cast (c' := vals .u64 32 (up l (i + k) p)) ((Bl.set (i + k) (.int .u64 (l (i + k) + p : Nat))).drew) (by
            rw [vals_set]
            exact vals_congr _ _ _ _ fun j _ => by unfold up; rfl))
          have Hle := hide (up_le l (i + k) p (16 * i + k) Hl.out hd)
          have Hst := hide (mul_step l a b i k (by omega) Hpv.out)
          rw [← hp] at Hst
          have HBa := hide Ba
          have HBb := hide Bb
          have HBz := hide Bz
          have HL := hide L
          clear Ba Bb Bz Bl L hpi hp hd hlb Hl Hpv
          have hk0 : (0 : Int) ≤ (k : Int) := by omega
          have hk5 : (k : Int) < 16 := by omega
          have hs0 : (0 : Int) ≤ (i : Int) + (k : Int) := by omega
          have hs4 : (i : Int) + (k : Int) < 32 := by omega
          have hsn : ((i : Int) + (k : Int)).toNat = i + k := by omega
          have hsw : IntKind.i64.wrap ((i : Int) + (k : Int)) = (i : Int) + (k : Int) := wrap_i64_small _ hs0 (by omega)
          go_wp2
          go_region_with (fail)
          all_goals
            go_wp2
            first | rw [hw3] | rw [hw2] | skip
            go_roundw
            case rel => exact ⟨k + 1, by omega, by go_num, (HBa.out.setOther _ _ (by omega)).drew, (HBb.out.setOther _ _ (by omega)).drew, ⟨z, hz, (HBz.out.setOther _ _ (by omega)).drew⟩, ⟨up l (i + k) p, Hle.out, Hst.out, HB.out⟩, (HL.out.setCell (by show w.heap.size ≤ w.heap.size + 3; omega) _).drew⟩
            case measure => simp [intOf]; omega
        · have e16 : k = 16 := by omega
          subst e16
          have HBa := hide Ba
          have HBb := hide Bb
          have HBz := hide Bz
          have HBl := hide Bl
          have HL := hide L
          clear Ba Bb Bz Bl L hlk hk
          go_wp2
          go_roundw
          case rel => exact ⟨i + 1, by omega, by go_num, HBa.out, HBb.out, ⟨z, hz, HBz.out⟩, ⟨l, fun j => by rw [show 16 * (i + 1) = 16 * i + 16 by omega]; exact Hl.out j, by rw [Hpv.out]; exact mul_row a b i Hb.out, HBl.out⟩, HL.out⟩
          case measure => simp [intOf]; omega
    · have e16 : i = 16 := by omega
      subst e16
      have Hv : Hid (pv l 32 = a * b) := hide (by rw [Hpv.out, Nat.mod_eq_of_lt (show a < 2 ^ (16 * 16) from Ha.out)])
      have Hm : Hid (a * b < 2 ^ 256 * 2 ^ 256) := hide (Nat.mul_lt_mul'' Ha.out Hb.out)
      clear Hpv HBa HBb
      go_wp2_with (first
        | (refine wpList_load_row rfl 148 _ rfl (w.heap.size + 3) rfl 148 _ (0, 0) _ HBl.out Tryz.underlying148 rfl (by rw [vals_size]; exact cells62) ?_)
        | (go_at_call 106; refine (folded_at l _ _ rfl (fun j => by have := Hl.out j; omega) (by rw [Hv.out]; exact Hm.out)).mono ?_; rw [Hv.out]; unfold rn; rintro e w1 ⟨rfl, hb1⟩; have HBz1 := hide (HBz.out.call hb1); have HL1 := hide (HL.out.trans (hb1.mono HL.out.size)); clear hb1; dsimp only)
        | (refine wpList_store_row rfl 58 _ _ rfl (w.heap.size + 2) (vals .u64 16 (dg (a * b % pP))) rfl rfl 58 z HBz1.out (by rw [vals_size]; exact cells31) (by rw [vals_size]; exact hz) (vals_one _ _ _) ?_))
      refine bodyPost_ret (v := .agg (vals .u64 16 (dg (a * b % pP)))) (results_cell_row Tryz.results67 _ _ (w.heap.size + 2) 58 _ (0, 0) _ rfl (HBz1.out.row _) Tryz.underlying58 rfl (by rw [vals_size]; exact cells31)) rfl ⟨rfl, ?_⟩
      exact Below.row HL1.out (by omega) _
theorem refMul_at (a b : Nat) (args : Array Value) (w : World) (h : args = #[rn a, rn b]) (ha : a < 2 ^ 256) (hb : b < 2 ^ 256) :
    Calls Tryz.prog 67 args w fun e w' => e = .returned (rn (mm a b)) ∧ Below w.heap.size w w' := by subst h; exact refMul_any a b w ha hb

end Go.Proofs.YtbpmakegimgbpaaGreatDoor.F
namespace Go.Proofs.YtbpmakegimgbpaaGreatDoor.F
set_option maxRecDepth 100000
open Go.RowKit

theorem one_mod : 1 % pP = 1 := by unfold pP; omega
theorem pm_none (a : Nat) : pm a 0 = 1 := by unfold pm; rw [Nat.pow_zero]; exact one_mod
theorem mm_sq (a q : Nat) : mm (pm a q) (pm a q) = pm a (2 * q) := by rw [show 2 * q = q + q by omega]; exact pm_mul a q q
theorem mm_more (a q : Nat) : mm (pm a q) a = pm a (q + 1) := by unfold mm pm; rw [Nat.pow_succ, Nat.mod_mul_mod]
theorem pow_bit (e m : Nat) : dg e (m / 16) / 2 ^ (m % 16) % 2 = e / 2 ^ m % 2 := by
  unfold dg
  have h : 65536 = 2 ^ (m % 16) * (2 * 2 ^ (15 - m % 16)) := by rw [show 65536 = 2 ^ 16 from rfl, ← Nat.pow_succ', ← Nat.pow_add]; congr 1; omega
  rw [h, Nat.mod_mul_right_div_self, Nat.mod_mul_right_mod, Nat.div_div_eq_div_mul, ← Nat.pow_add]
  congr 3; omega
theorem next_bit (e m : Nat) : e / 2 ^ m = 2 * (e / 2 ^ (m + 1)) + e / 2 ^ m % 2 := by
  rw [Nat.pow_succ, ← Nat.div_div_eq_div_mul]; omega
theorem and_one (n : Nat) (h : n < 65536) : bits .and .u64 (n : Int) 1 = ((n % 2 : Nat) : Int) := by
  have := u64_and_nat n 1 (by omega) (by omega)
  rw [show ((1 : Nat) : Int) = 1 from rfl] at this
  rw [this, nat_mask1]
theorem quo16 (k : Nat) (h : k < 256) : IntKind.i64.wrap ((k : Int).tdiv 16) = (k : Int) / 16 := by
  rw [Int.tdiv_eq_ediv_of_nonneg (by omega), wrap_i64_small' _ (by omega) (by omega)]
theorem quo16' (k : Nat) (h : k < 256) : IntKind.i64.wrap ((k : Int) / 16) = (k : Int) / 16 := by
  rw [wrap_i64_small' _ (by omega) (by omega)]
theorem rem16 (k : Nat) : IntKind.i64.wrap ((k : Int).tmod 16) = (k : Int) % 16 := by
  rw [Int.tmod_eq_emod_of_nonneg (by omega), wrap_i64_small' _ (by omega) (by omega)]
set_option maxHeartbeats 2000000 in
theorem refPower_any (a e : Nat) (w : World) (ha : a < 2 ^ 256) (he : e < 2 ^ 256) :
    Calls Tryz.prog 110 #[rn a, rn e] w fun r w' => r = .returned (rn (pm a e)) ∧ Below w.heap.size w w' := by
  have Ha := hide ha
  have He := hide he
  clear ha he
  unfold rn
  have A0 := hide (((Blk.new w (vals .u64 16 (dg a)) 58).alloc (.cells (vals .u64 16 (dg e)) 58)).alloc (.cells (vals .u64 16 (fun _ => 0)) 58))
  have E0 := hide ((Blk.new' (w.alloc (.cells (vals .u64 16 (dg a)) 58)) (w.heap.size + 1) (by simp) (vals .u64 16 (dg e)) 58).alloc (.cells (vals .u64 16 (fun _ => 0)) 58))
  have Z0 := hide (Blk.new' ((w.alloc (.cells (vals .u64 16 (dg a)) 58)).alloc (.cells (vals .u64 16 (dg e)) 58)) (w.heap.size + 2) (by simp) (vals .u64 16 (fun _ => 0)) 58)
  have L0 : Hid (Below w.heap.size w (((w.alloc (.cells (vals .u64 16 (dg a)) 58)).alloc (.cells (vals .u64 16 (dg e)) 58)).alloc (.cells (vals .u64 16 (fun _ => 0)) 58))) := hide ((((Below.refl _ w).alloc (Nat.le_refl _) _).alloc (by simp) _).alloc (by simp; omega) _)
  go_enter Tryz.func110, Tryz.ntmps110
  go_wp2_with (first
    | (go_at_call 69; refine (refOf_at 1 _ _ rfl (by omega)).mono ?_; rw [one_mod]; unfold rn; rintro r w1 ⟨rfl, hb1⟩; have A1 := hide (A0.out.call hb1); have E1 := hide (E0.out.call hb1); have Z1 := hide (Z0.out.call hb1); have L1 := hide (L0.out.trans (hb1.mono L0.out.size)); clear hb1 A0 E0 Z0 L0; dsimp only)
    | (refine wpList_store_abs rfl 58 _ _ rfl w1.heap.size (vals .u64 16 (dg 1)) rfl rfl 58 _ (Blk.new w1 _ _) (by exact cells31) (by rw [vals_size]; rfl) (vals_one _ _ _) ?_; intro y2 B2 S2; have A2 := hide (S2.other _ _ _ (Nat.ne_of_gt A1.out.lt) (A1.out.alloc _)); have E2 := hide (S2.other _ _ _ (Nat.ne_of_gt E1.out.lt) (E1.out.alloc _)); have Z2 := hide (S2.other _ _ _ (Nat.ne_of_gt Z1.out.lt) (Z1.out.alloc _)); have L2 := hide (S2.low _ _ (L1.out.alloc L1.out.size _) L1.out.size); have O2 := hide B2; have hO : w.heap.size + 2 < w1.heap.size := Z1.out.lt; clear B2 S2 A1 E1 Z1 L1))
  obtain ⟨O, hOe⟩ : ∃ O, O = w1.heap.size := ⟨_, rfl⟩
  rw [← hOe] at O2 hO ⊢
  clear hOe
  go_loopw [6] (fun i ws => ∃ k : Nat, k ≤ 256 ∧ i = .int .i64 ((k : Int) - 1) ∧ Blk ws w.heap.size (vals .u64 16 (dg a)) 58 ∧ Blk ws (w.heap.size + 1) (vals .u64 16 (dg e)) 58 ∧ (∃ z, z.size = 16 ∧ Blk ws (w.heap.size + 2) z 58) ∧ Blk ws O (vals .u64 16 (dg (pm a (e / 2 ^ k)))) 58 ∧ Below w.heap.size w ws) (fun i _ => (intOf i + 1).toNat)
  case atStart =>
    refine ⟨256, by omega, rfl, A2.out, E2.out, ⟨_, vals_size _ _ _, Z2.out⟩, ?_, L2.out⟩
    rw [Nat.div_eq_of_lt He.out, pm_none]
    exact O2.out
  case round =>
    clear A2 E2 Z2 L2 O2
    obtain ⟨k, hk, rfl, Ba, Be, ⟨z, hz, Bz⟩, Bo, L⟩ := hrel
    have HA := hide Ba
    have HE := hide Be
    have HZ := hide Bz
    have HO := hide Bo
    have HL := hide L
    clear Ba Be Bz Bo L
    rcases Nat.eq_zero_or_pos k with h0 | h0
    · subst h0
      rw [show ((0 : Nat) : Int) - 1 = -1 from rfl]
      rw [show e / 2 ^ 0 = e by simp] at HO
      go_wp2_with (first
        | (refine wpList_load_row rfl 58 _ rfl O rfl 58 _ (0, 0) _ HO.out Tryz.underlying58 rfl (by rw [vals_size]; exact cells31) ?_)
        | (refine wpList_store_row rfl 58 _ _ rfl (w.heap.size + 2) (vals .u64 16 (dg (pm a e))) rfl rfl 58 z HZ.out (by rw [vals_size]; exact cells31) (by rw [vals_size]; exact hz) (vals_one _ _ _) ?_))
      refine bodyPost_ret (v := .agg (vals .u64 16 (dg (pm a e)))) (results_cell_row Tryz.results110 _ _ (w.heap.size + 2) 58 _ (0, 0) _ rfl (HZ.out.row _) Tryz.underlying58 rfl (by rw [vals_size]; exact cells31)) rfl ⟨rfl, ?_⟩
      exact Below.row HL.out (by omega) _
    · obtain ⟨m, rfl⟩ : ∃ m, k = m + 1 := ⟨k - 1, by omega⟩
      rw [show ((m + 1 : Nat) : Int) - 1 = (m : Int) by omega]
      have hm0 : (0 : Int) ≤ (m : Int) := by omega
      have hm4 : (m : Int) < 256 := by omega
      have hq0 : (0 : Int) ≤ (m : Int) / 16 := by omega
      have hq4 : (m : Int) / 16 < 16 := by omega
      have hq : IntKind.i64.wrap ((m : Int).tdiv 16) = (m : Int) / 16 := quo16 m (by omega)
      have hq' : IntKind.i64.wrap ((m : Int) / 16) = (m : Int) / 16 := quo16' m (by omega)
      have hr : IntKind.i64.wrap ((m : Int).tmod 16) = (m : Int) % 16 := rem16 m
      have hr' : (m : Int).tmod 16 = (m : Int) % 16 := by rw [Int.tmod_eq_emod_of_nonneg (by omega)]
      have hqn : ((m : Int) / 16).toNat = m / 16 := by omega
      have hrn : ((m : Int) % 16).toNat = m % 16 := by omega
      have hr0 : (0 : Int) ≤ (m : Int) % 16 := by omega
      have hr4 : (m : Int) % 16 < 16 := by omega
      have Hb := hide (pow_bit e m)
      have Hx := hide (next_bit e m)
      have hdl := dg_lt e (m / 16)
      obtain ⟨q, hqe⟩ : ∃ q, q = e / 2 ^ (m + 1) := ⟨_, rfl⟩
      rw [← hqe] at HO Hx
      clear hqe
      have Hsq := hide (mm_sq a q)
      have Hp := hide (Nat.lt_trans (pm_lt a q) pP_lt)
      have Hp2 := hide (Nat.lt_trans (pm_lt a (2 * q)) pP_lt)
      go_upto_region 6 with (first
        | (refine wpList_load_row rfl 58 _ rfl O rfl 58 _ (0, 0) _ HO.out Tryz.underlying58 rfl (by rw [vals_size]; exact cells31) ?_)
        | (go_at_call 67; refine (refMul_at (pm a q) (pm a q) _ _ rfl Hp.out Hp.out).mono ?_; rw [Hsq.out]; unfold rn; rintro r w3 ⟨rfl, hb3⟩; have A3 := hide (HA.out.call hb3); have E3 := hide (HE.out.call hb3); have Z3 := hide (HZ.out.call hb3); have O3 := hide (HO.out.call hb3); have L3 := hide (HL.out.trans (hb3.mono HL.out.size)); clear hb3 HA HE HZ HO HL; dsimp only)
        | (refine wpList_store_abs rfl 58 _ _ rfl O (vals .u64 16 (dg (pm a (2 * q)))) rfl rfl 58 _ O3.out (by rw [vals_size]; exact cells31) (by rw [vals_size, vals_size]) (vals_one _ _ _) ?_; intro y4 B4 S4; have A4 := hide (S4.other _ _ _ (by omega) A3.out); have E4 := hide (S4.other _ _ _ (by omega) E3.out); have Z4 := hide (S4.other _ _ _ (by omega) Z3.out); have L4 := hide (S4.low _ _ L3.out (by omega)); have O4 := hide B4; clear B4 S4 A3 E3 Z3 O3 L3))
      have ce := E4.out.cell (m / 16)
      rw [vals_get _ _ _ _ (by omega)] at ce
      have hdl2 : dg e (m / 16) / 2 ^ (m % 16) < 65536 := Nat.lt_of_le_of_lt (Nat.div_le_self _ _) hdl
      have hand0 := and_one _ hdl2
      rw [Hb.out, show ((dg e (m / 16) / 2 ^ (m % 16) : Nat) : Int) = ((dg e (m / 16) : Nat) : Int) / 2 ^ (m % 16) by simp] at hand0
      clear hdl2 Hb
      rcases Nat.mod_two_eq_zero_or_one (e / 2 ^ m) with hbit | hbit
      · rw [hbit] at hand0 Hx
        have hand : bits .and .u64 (((dg e (m / 16) : Nat) : Int) / 2 ^ (m % 16)) 1 = 0 := hand0
        clear hand0 hbit
        go_wp2
        go_roundw
        case rel => exact ⟨m, by omega, by go_num, A4.out, E4.out, ⟨z, hz, Z4.out⟩, by rw [Hx.out]; exact O4.out, L4.out⟩
        case measure => simp [intOf]
      · rw [hbit] at hand0 Hx
        have hand : bits .and .u64 (((dg e (m / 16) : Nat) : Int) / 2 ^ (m % 16)) 1 = 1 := hand0
        clear hand0 hbit
        have Hmo := hide (mm_more a (2 * q))
        go_wp2_with (first
          | (refine wpList_load_row rfl 58 _ rfl O rfl 58 _ (0, 0) _ O4.out Tryz.underlying58 rfl (by rw [vals_size]; exact cells31) ?_)
          | (refine wpList_load_row rfl 58 _ rfl w.heap.size rfl 58 _ (0, 0) _ A4.out Tryz.underlying58 rfl (by rw [vals_size]; exact cells31) ?_)
          | (go_at_call 67; refine (refMul_at (pm a (2 * q)) a _ _ rfl Hp2.out Ha.out).mono ?_; rw [Hmo.out]; unfold rn; rintro r w5 ⟨rfl, hb5⟩; have A5 := hide (A4.out.call hb5); have E5 := hide (E4.out.call hb5); have Z5 := hide (Z4.out.call hb5); have O5 := hide (O4.out.call hb5); have L5 := hide (L4.out.trans (hb5.mono L4.out.size)); clear hb5 A4 E4 Z4 O4 L4; dsimp only)
          | (refine wpList_store_abs rfl 58 _ _ rfl O (vals .u64 16 (dg (pm a (2 * q + 1)))) rfl rfl 58 _ O5.out (by rw [vals_size]; exact cells31) (by rw [vals_size, vals_size]) (vals_one _ _ _) ?_; intro y6 B6 S6; have A6 := hide (S6.other _ _ _ (by omega) A5.out); have E6 := hide (S6.other _ _ _ (by omega) E5.out); have Z6 := hide (S6.other _ _ _ (by omega) Z5.out); have L6 := hide (S6.low _ _ L5.out (by omega)); have O6 := hide B6; clear B6 S6 A5 E5 Z5 O5 L5))
        go_roundw
        case rel => exact ⟨m, by omega, by go_num, A6.out, E6.out, ⟨z, hz, Z6.out⟩, by rw [Hx.out]; exact O6.out, L6.out⟩
        case measure => simp [intOf]
theorem refPower_at (a e : Nat) (args : Array Value) (w : World) (h : args = #[rn a, rn e]) (ha : a < 2 ^ 256) (he : e < 2 ^ 256) :
    Calls Tryz.prog 110 args w fun r w' => r = .returned (rn (pm a e)) ∧ Below w.heap.size w w' := by subst h; exact refPower_any a e w ha he

end Go.Proofs.YtbpmakegimgbpaaGreatDoor.F
namespace Go.Proofs.YtbpmakegimgbpaaGreatDoor.F
set_option maxRecDepth 100000
open Go.RowKit

theorem yields_build {P : Program} {ops : Array Oper} {op : Oper} {a : Act} {S : World → Prop} {c : Array Value} (hw : Region.wanted op (yielded ops a.tmps) = true) (t : TypeId) (parts : Array (Nat × Operand)) (ho : op.op = .build t parts)
    (h : P.built t (parts.map fun (i, x) => (i, a.eval x)).toList = some c) : YieldsIf P ops S op (.agg c) a :=
  .inl ⟨hw, fun w _ => by
    unfold execOp
    simp only [ho, Sem.run_bind, run_build w t _ c h, Result.andThen_ok]
    rfl⟩
theorem built_two : Tryz.prog.built 58 [(0, .int .u64 2)] = some (vals .u64 16 (dg 2)) := by kernel_rfl
theorem two_le : 2 ≤ pP := by unfold pP; omega
set_option maxHeartbeats 2000000 in
theorem refInv_any (a : Nat) (w : World) (ha : a < 2 ^ 256) :
    Calls Tryz.prog 75 #[rn a] w fun e w' => e = .returned (rn (pm a (pP - 2))) ∧ Below w.heap.size w w' := by
  have Ha := hide ha
  clear ha
  unfold rn
  go_enter Tryz.func75, Tryz.ntmps75
  have G_0 := hide ((Blk.new w (vals .u64 16 (dg a)) 58).alloc (.cells (vals .u64 16 (fun _ => 0)) 58))
  have Zs := hide (Blk.new' (w.alloc (.cells (vals .u64 16 (dg a)) 58)) (w.heap.size + 1) (by simp) (vals .u64 16 (fun _ => 0)) 58)
  have L_0 : Hid (Below w.heap.size w ((w.alloc (.cells (vals .u64 16 (dg a)) 58)).alloc (.cells (vals .u64 16 (fun _ => 0)) 58))) := hide (((Below.refl _ w).alloc (Nat.le_refl _) _).alloc (by simp) _)
  obtain ⟨x, hx⟩ : ∃ x, x = pP - 2 := ⟨_, rfl⟩
  have Hx := hide hx
  have Hx2 : Hid (x < 2 ^ 256) := hide (by rw [hx]; exact Nat.lt_of_le_of_lt (Nat.sub_le _ _) pP_lt)
  rw [← hx]
  clear hx
  go_wp2
  refine wp_region_held_drew (S := fun w' => Blk w' (w.heap.size) (vals .u64 16 (dg a)) 58 ∧ Below w.heap.size w w') (by kernel_rfl) ⟨G_0.out.drew, L_0.out.drew⟩ (fun hHeld => ?_)
  have Z_0 := hide Zs.out.drew
  clear G_0 L_0 Zs
  refine wpAnyH_take (i := 0) (oi := { dst := some 3, op := Op.load 58 (Operand.tmp 1), type := 58, pos := "ref.go:135", after := #[], guard := none }) (v := .agg (vals .u64 16 (dg a))) rfl (by kernel_rfl) (by kernel_rfl) (by kernel_rfl) (fun _ _ _ h => h) (yields_S (fun _ h => h.1) (by rfl) 58 _ rfl rfl _ Tryz.underlying58 rfl (by rw [vals_size]; exact cells31)) hHeld ?_
  try simp only [Act.put, List.setIfInBounds_toArray, List.set_cons_zero, List.set_cons_succ]
  refine wpAnyH_take (i := 2) (oi := { dst := some 5, op := Op.build 58 #[(0, Operand.const (Value.int IntKind.u64 2))], type := 58, pos := "ref.go:135", after := #[], guard := none }) (v := .agg (vals .u64 16 (dg 2))) rfl (by kernel_rfl) (by kernel_rfl) (by kernel_rfl) (fun _ _ _ h => h) (yields_build (by rfl) 58 _ rfl (by simp only [List.map_toArray, List.map_cons, List.map_nil]; exact built_two)) hHeld ?_
  try simp only [Act.put, List.setIfInBounds_toArray, List.set_cons_zero, List.set_cons_succ]
  refine wpAnyH_ready (rs := [1]) (by kernel_rfl) (by simp) ?_
  refine AllReadyH.cons (o := { dst := some 4, op := Op.call { callee := Callee.value (Operand.func 108), args := #[], argTypes := #[] }, type := 58, pos := "ref.go:135", after := #[], guard := none }) rfl (fun K hK => ?_) AllReadyH.nil
  go_simp
  refine (refP_at _ _ (by rfl)).mono ?_
  unfold rn
  rintro e u1 ⟨rfl, hb⟩
  have Z_1 := hide (Z_0.out.call hb)
  clear Z_0
  dsimp only
  refine hK.out _ _ ⟨hHeld.1.call hb, hHeld.2.trans (hb.mono hHeld.2.size)⟩ (fun hHeld => ?_)
  clear hK K hb
  try simp only [Act.put, List.setIfInBounds_toArray, List.set_cons_zero, List.set_cons_succ]
  refine wpAnyH_ready (rs := [3]) (by kernel_rfl) (by simp) ?_
  refine AllReadyH.cons (o := { dst := some 6, op := Op.call { callee := Callee.value (Operand.func 107), args := #[Operand.tmp 4, Operand.tmp 5], argTypes := #[58, 58] }, type := 58, pos := "ref.go:135", after := #[{ on := 1, ground := Ground.data }, { on := 2, ground := Ground.data }, { on := 1, ground := Ground.chain }], guard := none }) rfl (fun K hK => ?_) AllReadyH.nil
  go_simp
  refine (refless_at pP 2 _ _ (by rfl) two_le).mono ?_
  rw [← Hx.out]
  unfold rn
  rintro e u2 ⟨rfl, hb⟩
  have Z_2 := hide (Z_1.out.call hb)
  clear Z_1
  dsimp only
  refine hK.out _ _ ⟨hHeld.1.call hb, hHeld.2.trans (hb.mono hHeld.2.size)⟩ (fun hHeld => ?_)
  clear hK K hb
  try simp only [Act.put, List.setIfInBounds_toArray, List.set_cons_zero, List.set_cons_succ]
  refine wpAnyH_ready (rs := [4]) (by kernel_rfl) (by simp) ?_
  refine AllReadyH.cons (o := { dst := some 7, op := Op.call { callee := Callee.value (Operand.func 110), args := #[Operand.tmp 3, Operand.tmp 6], argTypes := #[58, 58] }, type := 58, pos := "ref.go:135", after := #[{ on := 0, ground := Ground.data }, { on := 3, ground := Ground.data }, { on := 3, ground := Ground.chain }], guard := none }) rfl (fun K hK => ?_) AllReadyH.nil
  go_simp
  refine (refPower_at a x _ _ (by rfl) Ha.out Hx2.out).mono ?_
  unfold rn
  rintro e u3 ⟨rfl, hb⟩
  have Z_3 := hide (Z_2.out.call hb)
  clear Z_2
  dsimp only
  refine hK.out _ _ ⟨hHeld.1.call hb, hHeld.2.trans (hb.mono hHeld.2.size)⟩ (fun hHeld => ?_)
  clear hK K hb
  try simp only [Act.put, List.setIfInBounds_toArray, List.set_cons_zero, List.set_cons_succ]
  refine wpAnyH_ready (rs := [5]) (by kernel_rfl) (by simp) ?_
  refine AllReadyH.cons (o := { dst := none, op := Op.store 58 (Operand.tmp 2) (Operand.tmp 7), type := 0, pos := "ref.go:135", after := #[{ on := 4, ground := Ground.data }, { on := 4, ground := Ground.chain }, { on := 0, ground := Ground.phase }, { on := 1, ground := Ground.phase }, { on := 2, ground := Ground.phase }, { on := 3, ground := Ground.phase }, { on := 4, ground := Ground.phase }], guard := none }) rfl (fun K hK => ?_) AllReadyH.nil
  rw [if_pos (by rfl)]
  refine wp_store_row 58 _ _ rfl (w.heap.size + 1) (vals .u64 16 (dg (pm a x))) rfl rfl 58 _ Z_3.out (by rw [vals_size]; exact cells31) (by rw [vals_size, vals_size]) (vals_one _ _ _) ?_
  refine hK.out _ _ ⟨hHeld.1.rowOther _ (by omega), Below.row hHeld.2 (by omega) _⟩ (fun hHeld => ?_)
  clear hK K
  simp only [Act.put]
  refine wpAnyH_done (by kernel_rfl) ?_ _
  go_wp2
  refine bodyPost_ret (v := .agg (vals .u64 16 (dg (pm a x)))) (results_cell_row Tryz.results75 _ _ (w.heap.size + 1) 58 _ (0, 0) _ rfl (Z_3.out.row _) Tryz.underlying58 rfl (by rw [vals_size]; exact cells31)) rfl ⟨rfl, ?_⟩
  exact hHeld.2
theorem refInv_at (a : Nat) (args : Array Value) (w : World) (h : args = #[rn a]) (ha : a < 2 ^ 256) :
    Calls Tryz.prog 75 args w fun e w' => e = .returned (rn (pm a (pP - 2))) ∧ Below w.heap.size w w' := by subst h; exact refInv_any a w ha
theorem dgP3 : ∀ j, j < 16 → (if j = 0 then 65520 else dg pP j) = dg (pP + 3) j := by
  have h : ∀ j : Fin 16, (if j.val = 0 then 65520 else dg pP j.val) = dg (pP + 3) j.val := by decide +kernel
  intro j hj
  exact h ⟨j, hj⟩
theorem dgP0 : dg pP 0 = 65517 := by rw [dgP 0 (by omega)]; rfl
set_option maxHeartbeats 2000000 in
theorem refRoot_any (a : Nat) (w : World) (ha : a < 2 ^ 256) :
    Calls Tryz.prog 109 #[rn a] w fun e w' => e = .returned (rn (pm a ((pP + 3) / 2 ^ 3))) ∧ Below w.heap.size w w' := by
  have Ha := hide ha
  clear ha
  unfold rn
  have A0 := hide ((Blk.new w (vals .u64 16 (dg a)) 58).alloc (.cells (vals .u64 16 (fun _ => 0)) 58))
  have Z0 := hide (Blk.new' (w.alloc (.cells (vals .u64 16 (dg a)) 58)) (w.heap.size + 1) (by simp) (vals .u64 16 (fun _ => 0)) 58)
  have L0 : Hid (Below w.heap.size w ((w.alloc (.cells (vals .u64 16 (dg a)) 58)).alloc (.cells (vals .u64 16 (fun _ => 0)) 58))) := hide (((Below.refl _ w).alloc (Nat.le_refl _) _).alloc (by simp) _)
  obtain ⟨x, hx⟩ : ∃ x, x = pP + 3 := ⟨_, rfl⟩
  have Hx := hide hx
  have Hx2 : Hid (x < 2 ^ 256) := hide (by rw [hx]; unfold pP; omega)
  rw [← hx]
  clear hx
  go_enter Tryz.func109, Tryz.ntmps109
  go_upto_region 2 with (first
    | (go_at_call 108; refine (refP_at _ _ rfl).mono ?_; unfold rn; rintro r w1 ⟨rfl, hb1⟩; have A1 := hide (A0.out.call hb1); have Z1 := hide (Z0.out.call hb1); have L1 := hide (L0.out.trans (hb1.mono L0.out.size)); clear hb1 A0 Z0 L0; dsimp only)
    | (refine wpList_store_abs rfl 58 _ _ rfl w1.heap.size (vals .u64 16 (dg pP)) rfl rfl 58 _ (Blk.new w1 _ _) (by exact cells31) (by rw [vals_size]; rfl) (vals_one _ _ _) ?_; intro y2 B2 S2; have A2 := hide (S2.other _ _ _ (Nat.ne_of_gt A1.out.lt) (A1.out.alloc _)); have Z2 := hide (S2.other _ _ _ (Nat.ne_of_gt Z1.out.lt) (Z1.out.alloc _)); have L2 := hide (S2.low _ _ (L1.out.alloc L1.out.size _) L1.out.size); have O2 := hide B2; have hO : w.heap.size + 1 < w1.heap.size := Z1.out.lt; clear B2 S2 A1 Z1 L1))
  obtain ⟨O, hOe⟩ : ∃ O, O = w1.heap.size := ⟨_, rfl⟩
  rw [← hOe] at O2 hO ⊢
  clear hOe
  have c0 := O2.out.cell 0
  rw [vals_get _ _ _ _ (by omega), dgP0] at c0
  have f0 := O2.out.frozen 0
  have O3 := hide ((O2.out.set 0 (.int .u64 (65520 : Nat))).cast (c' := vals .u64 16 (dg x)) (by
    rw [vals_set, Hx.out]
    exact vals_congr _ _ _ _ fun j hj => dgP3 j hj))
  go_wp2
  go_loopw [4] (fun i ws => ∃ k : Nat, k ≤ 3 ∧ i = .int .i64 k ∧ Blk ws w.heap.size (vals .u64 16 (dg a)) 58 ∧ (∃ z, z.size = 16 ∧ Blk ws (w.heap.size + 1) z 58) ∧ Blk ws O (vals .u64 16 (dg (x / 2 ^ k))) 58 ∧ Below w.heap.size w ws) (fun i _ => 3 - (intOf i).toNat)
  case atStart =>
    refine ⟨0, by omega, rfl, A2.out.setOther _ _ (by omega), ⟨_, vals_size _ _ _, Z2.out.setOther _ _ (by omega)⟩, ?_, L2.out.setCell (show w.heap.size ≤ O by omega) _⟩
    rw [show x / 2 ^ 0 = x by simp]
    exact O3.out
  case round =>
    clear A2 Z2 L2 O2 O3 c0 f0
    obtain ⟨k, hk, rfl, Ba, ⟨z, hz, Bz⟩, Bo, L⟩ := hrel
    have HA := hide Ba
    have HZ := hide Bz
    have HO := hide Bo
    have HL := hide L
    clear Ba Bz Bo L
    by_cases hlt : k < 3
    · have hk0 : (0 : Int) ≤ (k : Int) := by omega
      have hk3 : (k : Int) < 3 := by omega
      have Hh : Hid (x / 2 ^ k / 2 = x / 2 ^ (k + 1)) := hide (by rw [Nat.div_div_eq_div_mul, Nat.pow_succ])
      have Hlt : Hid (x / 2 ^ k < 2 ^ 256) := hide (Nat.lt_of_le_of_lt (Nat.div_le_self _ _) Hx2.out)
      go_wp2_with (first
        | (refine wpList_load_row rfl 58 _ rfl O rfl 58 _ (0, 0) _ HO.out Tryz.underlying58 rfl (by rw [vals_size]; exact cells31) ?_)
        | (go_at_call 111; refine (refHalf_at (x / 2 ^ k) _ _ rfl Hlt.out).mono ?_; rw [Hh.out]; unfold rn; rintro r w3 ⟨rfl, hb3⟩; have A3 := hide (HA.out.call hb3); have Z3 := hide (HZ.out.call hb3); have O3 := hide (HO.out.call hb3); have L3 := hide (HL.out.trans (hb3.mono HL.out.size)); clear hb3 HA HZ HO HL; dsimp only)
        | (refine wpList_store_abs rfl 58 _ _ rfl O (vals .u64 16 (dg (x / 2 ^ (k + 1)))) rfl rfl 58 _ O3.out (by rw [vals_size]; exact cells31) (by rw [vals_size, vals_size]) (vals_one _ _ _) ?_; intro y4 B4 S4; have A4 := hide (S4.other _ _ _ (by omega) A3.out); have Z4 := hide (S4.other _ _ _ (by omega) Z3.out); have L4 := hide (S4.low _ _ L3.out (by omega)); have O4 := hide B4; clear B4 S4 A3 Z3 O3 L3))
      go_roundw
      case rel => exact ⟨k + 1, by omega, by go_num, A4.out, ⟨z, hz, Z4.out⟩, O4.out, L4.out⟩
      case measure => simp [intOf]; omega
    · have e3 : k = 3 := by omega
      subst e3
      have Hlt : Hid (x / 2 ^ 3 < 2 ^ 256) := hide (Nat.lt_of_le_of_lt (Nat.div_le_self _ _) Hx2.out)
      rw [show ((3 : Nat) : Int) = 3 from rfl]
      go_wp2_with (first
        | (refine wpList_load_row rfl 58 _ rfl O rfl 58 _ (0, 0) _ HO.out Tryz.underlying58 rfl (by rw [vals_size]; exact cells31) ?_)
        | (refine wpList_load_row rfl 58 _ rfl w.heap.size rfl 58 _ (0, 0) _ HA.out Tryz.underlying58 rfl (by rw [vals_size]; exact cells31) ?_)
        | (go_at_call 110; refine (refPower_at a (x / 2 ^ 3) _ _ rfl Ha.out Hlt.out).mono ?_; unfold rn; rintro r w5 ⟨rfl, hb5⟩; have Z5 := hide (HZ.out.call hb5); have L5 := hide (HL.out.trans (hb5.mono HL.out.size)); clear hb5; dsimp only)
        | (refine wpList_store_row rfl 58 _ _ rfl (w.heap.size + 1) (vals .u64 16 (dg (pm a (x / 2 ^ 3)))) rfl rfl 58 z Z5.out (by rw [vals_size]; exact cells31) (by rw [vals_size]; exact hz) (vals_one _ _ _) ?_))
      refine bodyPost_ret (v := .agg (vals .u64 16 (dg (pm a (x / 2 ^ 3))))) (results_cell_row Tryz.results109 _ _ (w.heap.size + 1) 58 _ (0, 0) _ rfl (Z5.out.row _) Tryz.underlying58 rfl (by rw [vals_size]; exact cells31)) rfl ⟨rfl, ?_⟩
      exact Below.row L5.out (by omega) _
theorem refRoot_at (a : Nat) (args : Array Value) (w : World) (h : args = #[rn a]) (ha : a < 2 ^ 256) :
    Calls Tryz.prog 109 args w fun e w' => e = .returned (rn (pm a ((pP + 3) / 2 ^ 3))) ∧ Below w.heap.size w w' := by subst h; exact refRoot_any a w ha

end Go.Proofs.YtbpmakegimgbpaaGreatDoor.F
namespace Go.Proofs.YtbpmakegimgbpaaGreatDoor.F
set_option maxRecDepth 100000
open Go.RowKit

theorem built22 : Tryz.prog.built 22 [] = some (vals .u8 32 (fun _ => 0)) := by kernel_rfl
theorem byt_even (n k : Nat) : dg n k % 256 = byt n (2 * k) := by
  unfold dg byt
  rw [show 8 * (2 * k) = 16 * k by omega]
  omega
theorem byt_odd (n k : Nat) : dg n k / 256 % 256 = byt n (2 * k + 1) := by
  unfold dg byt
  rw [show 8 * (2 * k + 1) = 16 * k + 8 by omega, Nat.pow_add, ← Nat.div_div_eq_div_mul]
  omega
theorem upd2 (n k j : Nat) : (if j = 2 * k + 1 then byt n (2 * k + 1) else (if j = 2 * k then byt n (2 * k) else (if j < 2 * k then byt n j else 0))) = if j < 2 * (k + 1) then byt n j else 0 := by
  by_cases h1 : j = 2 * k + 1
  · subst h1; rw [if_pos rfl, if_pos (by omega)]
  · rw [if_neg h1]
    by_cases h2 : j = 2 * k
    · subst h2; rw [if_pos rfl, if_pos (by omega)]
    · rw [if_neg h2]
      by_cases h3 : j < 2 * k
      · rw [if_pos h3, if_pos (by omega)]
      · rw [if_neg h3, if_neg (by omega)]

set_option maxHeartbeats 1000000 in
theorem refBytes_any (n : Nat) (w : World) :
    Calls Tryz.prog 65 #[rn n] w fun e w' => e = .returned (ba (byt n)) ∧ Below w.heap.size w w' := by
  unfold rn
  go_enter Tryz.func65, Tryz.ntmps65
  go_wp2_with (first
    | (refine wpList_build rfl 22 #[] rfl (by simp [built22]) ?_; simp only [List.map_toArray, List.map_nil, built22, Option.getD_some])
    | (refine wpList_store_row rfl 22 _ _ rfl (w.heap.size + 2) (vals .u8 32 (fun _ => 0)) rfl rfl 22 _ (Blk.new' _ _ (by simp) _ _) (by rw [vals_size]; exact cells22) (by rw [vals_size]; rfl) (vals_one _ _ _) ?_))
  go_loopw [4] (fun i wr => ∃ k : Nat, k ≤ 16 ∧ i = .int .i64 k ∧ Blk wr w.heap.size (vals .u64 16 (dg n)) 58 ∧ (∃ z, z.size = 32 ∧ Blk wr (w.heap.size + 1) z 22) ∧ Blk wr (w.heap.size + 2) (vals .u8 32 (fun j => if j < 2 * k then byt n j else 0)) 22 ∧ Below w.heap.size w wr) (fun i _ => 16 - (intOf i).toNat)
  case atStart =>
    refine ⟨0, by omega, rfl, ?_, ⟨vals .u8 32 (fun _ => 0), vals_size _ _ _, ?_⟩, ?_, ?_⟩
    · exact (((Blk.new w _ _).alloc _).alloc _).rowOther _ (by omega)
    · exact ((Blk.new' (w.alloc _) (w.heap.size + 1) (by simp) _ _).alloc _).rowOther _ (by omega)
    · exact ((Blk.new' ((w.alloc _).alloc _) (w.heap.size + 2) (by simp) _ _).row _).cast (vals_congr _ _ _ _ fun j _ => by simp)
    · exact Below.row ((((Below.refl _ w).alloc (Nat.le_refl _) _).alloc (by simp) _).alloc (by simp; omega) _) (by omega) _
  case round =>
    obtain ⟨k, hk, rfl, Bx, ⟨z, hz, Bz⟩, Bo, L⟩ := hrel
    by_cases hlt : k < 16
    · have c1 := Bx.cell k
      rw [vals_get _ _ _ _ (by omega)] at c1
      have co := Bo.cell (2 * k)
      rw [vals_get _ _ _ _ (by omega)] at co
      have co2 := Bo.cell (2 * k + 1)
      rw [vals_get _ _ _ _ (by omega)] at co2
      have fo1 := Bo.frozen (2 * k)
      have fo2 := Bo.frozen (2 * k + 1)
      have hd := dg_lt n k
      have He : Hid (((dg n k : Nat) : Int) % 256 = ((byt n (2 * k) : Nat) : Int)) := hide (by rw [← byt_even]; omega)
      have Hod : Hid (((dg n k : Nat) : Int) / 256 = ((byt n (2 * k + 1) : Nat) : Int)) := hide (by rw [← byt_odd]; omega)
      have HB := hide (Blk.cast (c' := vals .u8 32 (fun j => if j < 2 * (k + 1) then byt n j else 0)) ((Bo.set (2 * k) (.int .u8 (byt n (2 * k) : Nat))).set (2 * k + 1) (.int .u8 (byt n (2 * k + 1) : Nat))) (by
        rw [vals_set, vals_set]
        exact vals_congr _ _ _ _ fun j _ => upd2 n k j))
      have HBx := hide Bx
      have HBz := hide Bz
      have HL := hide L
      clear Bx Bz Bo L
      have hk0 : (0 : Int) ≤ (k : Int) := by omega
      have hk5 : (k : Int) < 16 := by omega
      have h20 : (0 : Int) ≤ 2 * (k : Int) := by omega
      have h24 : 2 * (k : Int) < 32 := by omega
      have h2n : (2 * (k : Int)).toNat = 2 * k := by omega
      have h2w : IntKind.i64.wrap (2 * (k : Int)) = 2 * (k : Int) := wrap_i64_small _ h20 (by omega)
      have h30 : (0 : Int) ≤ 2 * (k : Int) + 1 := by omega
      have h34 : 2 * (k : Int) + 1 < 32 := by omega
      have h3n : (2 * (k : Int) + 1).toNat = 2 * k + 1 := by omega
      have h3w : IntKind.i64.wrap (2 * (k : Int) + 1) = 2 * (k : Int) + 1 := wrap_i64_small _ h30 (by omega)
      go_wp2
      rw [He.out]
      rw [Hod.out]
      go_roundw
      case rel => exact ⟨k + 1, by omega, by go_num, (HBx.out.setOther _ _ (by omega)).setOther _ _ (by omega), ⟨z, hz, (HBz.out.setOther _ _ (by omega)).setOther _ _ (by omega)⟩, HB.out, (HL.out.setCell (by show w.heap.size ≤ w.heap.size + 2; omega) _).setCell (by show w.heap.size ≤ w.heap.size + 2; omega) _⟩
      case measure => simp [intOf]; omega
    · have e16 : k = 16 := by omega
      subst e16
      have HB := hide (Bo.cast (vals_congr _ 32 _ (byt n) fun j hj => by rw [if_pos (by omega)]))
      have HBz := hide Bz
      have HL := hide L
      clear Bx Bz Bo L
      go_wp2_with (first
        | (refine wpList_load_row rfl 22 _ rfl (w.heap.size + 2) rfl 22 _ (0, 0) _ HB.out Tryz.underlying22 rfl (by rw [vals_size]; exact cells22) ?_)
        | (refine wpList_store_row rfl 22 _ _ rfl (w.heap.size + 1) (vals .u8 32 (byt n)) rfl rfl 22 z HBz.out (by rw [vals_size]; exact cells22) (by rw [vals_size]; exact hz) (vals_one _ _ _) ?_))
      refine bodyPost_ret (v := ba (byt n)) (results_cell_row Tryz.results65 _ _ (w.heap.size + 1) 22 _ (0, 0) _ rfl (HBz.out.row _) Tryz.underlying22 rfl (by rw [vals_size]; exact cells22)) rfl ⟨rfl, ?_⟩
      exact Below.row HL.out (by omega) _
theorem refBytes_at (n : Nat) (args : Array Value) (w : World) (h : args = #[rn n]) :
    Calls Tryz.prog 65 args w fun e w' => e = .returned (ba (byt n)) ∧ Below w.heap.size w w' := by subst h; exact refBytes_any n w

end Go.Proofs.YtbpmakegimgbpaaGreatDoor.F

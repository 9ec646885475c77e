/- Texts in one: Ua Ub Uc Ud. -/
import Derived.Test.YtbpmakegimgbpaaGreatDoorTh
namespace Go.Proofs.YtbpmakegimgbpaaGreatDoor.T
set_option maxRecDepth 100000
open Go.RowKit

theorem built36 : Tryz.prog.built 132 [] = some (arr 80 (fun _ => 0)) := by kernel_rfl
/-- How many bytes of word j there are among k. -/
def pc (k j : Nat) : Nat := if k ≤ 8 * j then 0 else if 8 * j + 8 ≤ k then 8 else k - 8 * j
/-- The words so far. -/
def pw (f : Nat → Nat) (k j : Nat) : Nat := if j < 16 then be f (8 * j) (pc k j) else 0
theorem pw_zero (f : Nat → Nat) (j : Nat) : pw f 0 j = 0 := by
  unfold pw pc
  split
  · rw [if_pos (by omega)]; rfl
  · rfl
theorem pw_at (f : Nat → Nat) (k : Nat) (h : k < 128) : pw f k (k / 8) = be f (8 * (k / 8)) (k % 8) := by
  unfold pw pc
  rw [if_pos (by omega)]
  by_cases h1 : k ≤ 8 * (k / 8)
  · rw [if_pos h1, show k % 8 = 0 by omega]
  · rw [if_neg h1, if_neg (by omega), show k - 8 * (k / 8) = k % 8 by omega]
theorem pw_next (f : Nat → Nat) (k j : Nat) (h : k < 128) : (if j = k / 8 then be f (8 * (k / 8)) (k % 8 + 1) else pw f k j) = pw f (k + 1) j := by
  by_cases hj : j = k / 8
  · subst hj
    rw [if_pos rfl]
    unfold pw pc
    rw [if_pos (by omega), if_neg (by omega)]
    by_cases h2 : 8 * (k / 8) + 8 ≤ k + 1
    · rw [if_pos h2, show k % 8 + 1 = 8 by omega]
    · rw [if_neg h2, show k + 1 - 8 * (k / 8) = k % 8 + 1 by omega]
  · rw [if_neg hj]
    unfold pw
    have : pc k j = pc (k + 1) j := by
      unfold pc
      by_cases h1 : k ≤ 8 * j
      · rw [if_pos h1]
        by_cases h2 : k + 1 ≤ 8 * j
        · rw [if_pos h2]
        · exact absurd (show j = k / 8 by omega) hj
      · rw [if_neg h1, if_pos (show 8 * j + 8 ≤ k by omega), if_neg (show ¬ k + 1 ≤ 8 * j by omega), if_pos (show 8 * j + 8 ≤ k + 1 by omega)]
    rw [this]
theorem pw_full (f : Nat → Nat) (j : Nat) : pw f 128 j = spd f 16 j := by
  unfold pw spd
  by_cases h : j < 16
  · rw [if_pos h, if_pos h, wt_low f j h]
    unfold pc
    rw [if_neg (by omega), if_pos (by omega)]
  · rw [if_neg h, if_neg h]
theorem be_step2 (f : Nat → Nat) (hf : ∀ i, f i < 256) (k : Nat) : IntKind.u64.wrap (IntKind.u64.wrap ((be f (8 * (k / 8)) (k % 8) : Nat) * 256) + ((f k : Nat) : Int)) = ((be f (8 * (k / 8)) (k % 8 + 1) : Nat) : Int) := by
  have h1 := be_lt f hf (8 * (k / 8)) (k % 8)
  have h2 := hf k
  have h3 : be f (8 * (k / 8)) (k % 8) < 2 ^ 56 := Nat.lt_of_lt_of_le h1 (Nat.pow_le_pow_right (by omega) (by omega))
  rw [be, show 8 * (k / 8) + k % 8 = k by omega, wrap_u64', wrap_u64']
  generalize be f (8 * (k / 8)) (k % 8) = x at *
  omega
theorem quo8 (k : Nat) (h : k < 128) : IntKind.i64.wrap ((k : Int).tdiv 8) = (k : Int) / 8 := by
  rw [Int.tdiv_eq_ediv_of_nonneg (by omega), wrap_i64_small' _ (by omega) (by omega)]
theorem quo8' (k : Nat) (h : k < 128) : IntKind.i64.wrap ((k : Int) / 8) = (k : Int) / 8 := by
  rw [wrap_i64_small' _ (by omega) (by omega)]
theorem sg0_int (c : Nat) (hc : c < 2 ^ 64) : bits .xor .u64 (bits .xor .u64 (rotr c 1 : Nat) (rotr c 8 : Nat)) ((c : Int) / 128) = ((sg0 c : Nat) : Int) := by
  have h1 := rotr_lt c 1 hc
  have h2 := rotr_lt c 8 hc
  have h5 : rotr c 1 ^^^ rotr c 8 < 2 ^ 64 := Nat.xor_lt_two_pow h1 h2
  rw [u64_xor_nat _ _ (by omega) (by omega), show (c : Int) / 128 = ((c / 2 ^ 7 : Nat) : Int) by omega, u64_xor_nat _ _ (by omega) (by omega)]
  rfl
theorem sg1_int (d : Nat) (hd : d < 2 ^ 64) : bits .xor .u64 (bits .xor .u64 (rotr d 19 : Nat) (rotr d 61 : Nat)) ((d : Int) / 64) = ((sg1 d : Nat) : Int) := by
  have h3 := rotr_lt d 19 hd
  have h4 := rotr_lt d 61 hd
  have h6 : rotr d 19 ^^^ rotr d 61 < 2 ^ 64 := Nat.xor_lt_two_pow h3 h4
  rw [u64_xor_nat _ _ (by omega) (by omega), show (d : Int) / 64 = ((d / 2 ^ 6 : Nat) : Int) by omega, u64_xor_nat _ _ (by omega) (by omega)]
  rfl
theorem four_int (a b c d : Nat) : IntKind.u64.wrap (IntKind.u64.wrap (IntKind.u64.wrap ((a : Int) + (b : Int)) + (c : Int)) + (d : Int)) = (((a + b + c + d) % 2 ^ 64 : Nat) : Int) := by
  simp only [wrap_u64']; omega
set_option maxHeartbeats 2000000 in
theorem words_any (A : Option Addr) (l : List Nat) (cap : Nat) (w : World) (hA : Rds w A l) (hl : l.length = 128) (hx : ∀ x ∈ l, x < 256) :
    Calls Tryz.prog 121 #[.slice A 128 cap] w fun e w' => e = .returned (.agg (arr 80 (wt (fun j => l.getD j 0)))) ∧ Below w.heap.size w w' := by
  obtain ⟨a, rfl, hab, hac⟩ : ∃ a, A = some a ∧ a.block < w.heap.size ∧ ∀ (i : Nat) (x : Nat), l[i]? = some x → w.cell? (a.add i) = some (.int .u8 (x : Nat)) := by
    rcases hA with h | h
    · rw [h] at hl; cases hl
    · exact h
  obtain ⟨f, hf⟩ : ∃ f : Nat → Nat, f = fun j => l.getD j 0 := ⟨_, rfl⟩
  have Hf : Hid (∀ i, f i < 256) := hide (fun i => by
    rw [hf]
    show l.getD i 0 < 256
    rw [List.getD_eq_getElem?_getD]
    cases h : l[i]? with
    | none => simp
    | some x => exact hx x (List.mem_of_getElem? h))
  have Hac : Hid (∀ i, i < 128 → w.cell? (a.add i) = some (.int .u8 (f i : Nat))) := hide (fun i hi => by
    rw [hac i (l.getD i 0) (by rw [List.getD_eq_getElem?_getD, List.getElem?_eq_getElem (by omega)]; rfl), hf])
  have Hab := hide hab
  rw [← hf]
  clear hf hac hx hl hA hab
  have hz := zero36
  go_enter Tryz.func121, Tryz.ntmps121
  go_wp2_with (first
    | (refine wpList_build rfl 132 #[] rfl (by simp [built36]) ?_; simp only [List.map_toArray, List.map_nil, built36, Option.getD_some])
    | (refine wpList_store_row rfl 132 _ _ rfl (w.heap.size + 1) (arr 80 (fun _ => 0)) rfl rfl 132 _ (Blk.new' _ _ (by simp) _ _) (by rw [arr_size]; exact cells36) (by simp only [arr_size]) (arr_one _ _) ?_))
  clear hz
  go_loopw [4] (fun i wr => ∃ k : Nat, k ≤ 128 ∧ i = .int .i64 k ∧ Blk wr (w.heap.size + 1) (arr 80 (pw f k)) 132 ∧ Blk wr w.heap.size (arr 80 (fun _ => 0)) 132 ∧ Below w.heap.size w wr) (fun i _ => 128 - (intOf i).toNat)
  case atStart =>
    refine ⟨0, by omega, rfl, ?_, ?_, ?_⟩
    · exact ((Blk.new' (w.alloc _) (w.heap.size + 1) (by simp) _ _).row _).cast (arr_congr _ _ _ fun j _ => (pw_zero f j).symm)
    · exact ((Blk.new w _ _).alloc _).rowOther _ (by omega)
    · exact Below.row (((Below.refl _ w).alloc (Nat.le_refl _) _).alloc (by simp) _) (by omega) _
  case round =>
    obtain ⟨k, hk, rfl, B1, B2, L⟩ := hrel
    by_cases hlt : k < 128
    · have ca : wr.cell? (a.add k) = some (.int .u8 (f k : Nat)) := by
        rw [L.cell (p := a.add k) (by rw [add_block]; exact Hab.out)]; exact Hac.out k hlt
      have cw := B1.cell (k / 8)
      rw [arr_get _ _ _ (by omega), pw_at f k hlt] at cw
      have fw := B1.frozen (k / 8)
      have HB1 := hide B1
      have HB2 := hide B2
      have HL := hide L
      clear B1 B2 L
      have hk0 : (0 : Int) ≤ (k : Int) := by omega
      have hk8 : (k : Int) < 128 := by omega
      have hq0 : (0 : Int) ≤ (k : Int) / 8 := by omega
      have hq4 : (k : Int) / 8 < 80 := by omega
      have hq : IntKind.i64.wrap ((k : Int).tdiv 8) = (k : Int) / 8 := quo8 k hlt
      have hq' : IntKind.i64.wrap ((k : Int) / 8) = (k : Int) / 8 := quo8' k hlt
      have hqn : ((k : Int) / 8).toNat = k / 8 := by omega
      have hf8 := Hf.out k
      have Hs := hide (be_step2 f Hf.out k)
      go_wp2
      go_region_with (fail)
      all_goals
        go_wp2
        rw [Hs.out]
        go_roundw
        case rel =>
          refine ⟨k + 1, by omega, by go_num, ((HB1.out.set (k / 8) _).drew).cast ?_, (HB2.out.setOther _ _ (by omega)).drew, (HL.out.setCell (by show w.heap.size ≤ w.heap.size + 1; omega) _).drew⟩
          rw [arr_set]
          exact arr_congr _ _ _ fun j _ => pw_next f k j hlt
        case measure => simp [intOf]; omega
    · have e4 : k = 128 := by omega
      subst e4
      rw [show ((128 : Nat) : Int) = (128 : Int) from rfl]
      have HB1 := hide (B1.cast (arr_congr 80 _ (spd f 16) fun j _ => pw_full f j))
      have HB2 := hide B2
      have HL := hide L
      clear B1 B2 L
      go_wp2
      go_loopw [5] (fun i wr => ∃ k : Nat, 16 ≤ k ∧ k ≤ 80 ∧ i = .int .i64 k ∧ Blk wr (w.heap.size + 1) (arr 80 (spd f k)) 132 ∧ Blk wr w.heap.size (arr 80 (fun _ => 0)) 132 ∧ Below w.heap.size w wr) (fun i _ => 80 - (intOf i).toNat)
      case atStart => exact ⟨16, by omega, by omega, rfl, HB1.out, HB2.out, HL.out⟩
      case round =>
        clear HB1 HB2 HL
        obtain ⟨k, hk, hk2, rfl, B1, B2, L1⟩ := hrel
        by_cases hlt : k < 80
        · have c15 := B1.cell (k - 15)
          rw [arr_get _ _ _ (by omega), spd, if_pos (by omega)] at c15
          have c2 := B1.cell (k - 2)
          rw [arr_get _ _ _ (by omega), spd, if_pos (by omega)] at c2
          have c16 := B1.cell (k - 16)
          rw [arr_get _ _ _ (by omega), spd, if_pos (by omega)] at c16
          have c7 := B1.cell (k - 7)
          rw [arr_get _ _ _ (by omega), spd, if_pos (by omega)] at c7
          have cc := B1.cell k
          rw [arr_get _ _ _ hlt] at cc
          have fc := B1.frozen k
          have HB1 := hide B1
          have HB2 := hide B2
          have HL1 := hide L1
          clear B1 B2 L1
          have hk0 : (0 : Int) ≤ (k : Int) := by omega
          have hk8 : (k : Int) < 80 := by omega
          have s15 : IntKind.i64.wrap ((k : Int) - 15) = ((k - 15 : Nat) : Int) := i64_sub k 15 (by omega) (by omega)
          have s2 : IntKind.i64.wrap ((k : Int) - 2) = ((k - 2 : Nat) : Int) := i64_sub k 2 (by omega) (by omega)
          have s16 : IntKind.i64.wrap ((k : Int) - 16) = ((k - 16 : Nat) : Int) := i64_sub k 16 (by omega) (by omega)
          have s7 : IntKind.i64.wrap ((k : Int) - 7) = ((k - 7 : Nat) : Int) := i64_sub k 7 (by omega) (by omega)
          have b15 : ((k - 15 : Nat) : Int) < 80 := by omega
          have b2 : ((k - 2 : Nat) : Int) < 80 := by omega
          have b16 : ((k - 16 : Nat) : Int) < 80 := by omega
          have b7 : ((k - 7 : Nat) : Int) < 80 := by omega
          have Hn := hide (wt_next f k hk)
          have H15 := hide (wt_lt f Hf.out (k - 15))
          have H2 := hide (wt_lt f Hf.out (k - 2))
          obtain ⟨x15, e15⟩ : ∃ x, x = wt f (k - 15) := ⟨_, rfl⟩
          obtain ⟨x2, e2⟩ : ∃ x, x = wt f (k - 2) := ⟨_, rfl⟩
          obtain ⟨x16, e16⟩ : ∃ x, x = wt f (k - 16) := ⟨_, rfl⟩
          obtain ⟨x7, e7⟩ : ∃ x, x = wt f (k - 7) := ⟨_, rfl⟩
          rw [← e15] at c15 Hn H15
          rw [← e2] at c2 Hn H2
          rw [← e16] at c16 Hn
          rw [← e7] at c7 Hn
          clear e15 e2 e16 e7
          have Hg0 := hide (sg0_int x15 H15.out)
          have Hg1 := hide (sg1_int x2 H2.out)
          go_wp2
          go_quiet (first
            | (go_at_call_of 122 (Value.int IntKind.i64 1); exact Calls.quiet_of_same (turn_at x15 1 _ _ (by rfl) H15.out (by omega) (by omega)))
            | (go_at_call_of 122 (Value.int IntKind.i64 8); exact Calls.quiet_of_same (turn_at x15 8 _ _ (by rfl) H15.out (by omega) (by omega))))
          go_wp2
          rw [Hg0.out]
          clear c15 b15 s15 Hg0
          obtain ⟨y0, ey0⟩ : ∃ y, y = sg0 x15 := ⟨_, rfl⟩
          rw [← ey0]
          have Hy0 := hide ey0
          clear ey0
          have HB1a : Hid (Blk (wr.drewN nq) (w.heap.size + 1) (arr 80 (spd f k)) 132) := HB1
          have HB2a : Hid (Blk (wr.drewN nq) w.heap.size (arr 80 (fun _ => 0)) 132) := HB2
          have HL1a : Hid (Below w.heap.size w (wr.drewN nq)) := hide (Below.drewN HL1.out nq)
          have c2a : (wr.drewN nq).cell? ⟨w.heap.size + 1, k - 2, none⟩ = some (.int .u64 x2) := c2
          have c16a : (wr.drewN nq).cell? ⟨w.heap.size + 1, k - 16, none⟩ = some (.int .u64 x16) := c16
          have c7a : (wr.drewN nq).cell? ⟨w.heap.size + 1, k - 7, none⟩ = some (.int .u64 x7) := c7
          have cca : (wr.drewN nq).cell? ⟨w.heap.size + 1, k, none⟩ = some (.int .u64 (spd f k k : Nat)) := cc
          have fca : (wr.drewN nq).frozen? ⟨w.heap.size + 1, k, none⟩ = false := fc
          clear HB1 HB2 HL1 c2 c16 c7 cc fc
          generalize wr.drewN nq = wq at *
          go_quiet (first
            | (go_at_call_of 122 (Value.int IntKind.i64 19); exact Calls.quiet_of_same (turn_at x2 19 _ _ (by rfl) H2.out (by omega) (by omega)))
            | (go_at_call_of 122 (Value.int IntKind.i64 61); exact Calls.quiet_of_same (turn_at x2 61 _ _ (by rfl) H2.out (by omega) (by omega))))
          go_wp2
          rw [Hg1.out]
          clear Hg1
          obtain ⟨y1, ey1⟩ : ∃ y, y = sg1 x2 := ⟨_, rfl⟩
          rw [← ey1]
          have Hy1 := hide ey1
          clear ey1
          have HB1b : Hid (Blk (wq.drewN nq) (w.heap.size + 1) (arr 80 (spd f k)) 132) := HB1a
          have HB2b : Hid (Blk (wq.drewN nq) w.heap.size (arr 80 (fun _ => 0)) 132) := HB2a
          have HL1b : Hid (Below w.heap.size w (wq.drewN nq)) := hide (Below.drewN HL1a.out nq)
          have c2b : (wq.drewN nq).cell? ⟨w.heap.size + 1, k - 2, none⟩ = some (.int .u64 x2) := c2a
          have c16b : (wq.drewN nq).cell? ⟨w.heap.size + 1, k - 16, none⟩ = some (.int .u64 x16) := c16a
          have c7b : (wq.drewN nq).cell? ⟨w.heap.size + 1, k - 7, none⟩ = some (.int .u64 x7) := c7a
          have ccb : (wq.drewN nq).cell? ⟨w.heap.size + 1, k, none⟩ = some (.int .u64 (spd f k k : Nat)) := cca
          have fcb : (wq.drewN nq).frozen? ⟨w.heap.size + 1, k, none⟩ = false := fca
          clear HB1a HB2a HL1a c2a c16a c7a cca fca
          generalize wq.drewN nq = wz at *
          have n16 : ¬ (k : Nat) = k - 16 := by omega
          have n7 : ¬ (k : Nat) = k - 7 := by omega
          have Hk16 := hide (fun v => cell_ne wz (w.heap.size + 1) k (k - 16) v n16)
          have Hk7 := hide (fun v => cell_ne wz (w.heap.size + 1) k (k - 7) v n7)
          have Hsc := hide (four_int x16 x7 y0 y1)
          clear c2b s2 b2
          go_region_held3 (fun w' => w'.cell? ⟨w.heap.size + 1, k - 16, none⟩ = some (.int .u64 x16) ∧ w'.cell? ⟨w.heap.size + 1, k - 7, none⟩ = some (.int .u64 x7)) (first | exact ⟨c16b, c7b⟩ | exact ⟨(Hk16.out _).trans c16b, (Hk7.out _).trans c7b⟩) (fail)
          go_wp2
          rw [Hsc.out, Hy0.out, Hy1.out, ← Hn.out]
          go_roundw
          case rel =>
            refine ⟨k + 1, by omega, by omega, by go_num, ((HB1b.out.set k _).drew).cast ?_, (HB2b.out.setOther _ _ (by omega)).drew, (HL1b.out.setCell (by show w.heap.size ≤ w.heap.size + 1; omega) _).drew⟩
            rw [arr_set]
            refine arr_congr _ _ _ fun j _ => ?_
            unfold spd
            by_cases h1 : j = k
            · subst h1; simp
            · by_cases h2 : j < k
              · simp [h1, h2, show j < k + 1 by omega]
              · simp [h1, h2, show ¬ j < k + 1 by omega]
          case measure => simp [intOf]; omega
        · have e4 : k = 80 := by omega
          subst e4
          have HB1 := hide (B1.cast (arr_congr 80 _ (wt f) fun j hj => by simp [spd, hj]))
          have HB2 := hide B2
          have HL := hide L1
          clear B1 B2 L1
          go_wp2_with (first
            | (refine wpList_load_row rfl 132 _ rfl (w.heap.size + 1) rfl 132 _ (0, 0) _ HB1.out Tryz.underlying132 rfl (by rw [arr_size]; exact cells36) ?_)
            | (refine wpList_store_row rfl 132 _ _ rfl w.heap.size (arr 80 (wt f)) rfl rfl 132 _ HB2.out (by rw [arr_size]; exact cells36) (by rw [arr_size, arr_size]) (arr_one _ _) ?_))
          refine bodyPost_ret (v := .agg (arr 80 (wt f))) (results_cell_row Tryz.results121 _ _ w.heap.size 132 _ (0, 0) _ rfl (HB2.out.row _) Tryz.underlying132 rfl (by rw [arr_size]; exact cells36)) rfl ⟨rfl, ?_⟩
          exact Below.row HL.out (Nat.le_refl _) _
theorem words_at (A : Option Addr) (l : List Nat) (cap : Nat) (args : Array Value) (w : World) (h : args = #[.slice A 128 cap]) (hA : Rds w A l) (hl : l.length = 128) (hx : ∀ x ∈ l, x < 256) :
    Calls Tryz.prog 121 args w fun e w' => e = .returned (.agg (arr 80 (wt (fun j => l.getD j 0)))) ∧ Below w.heap.size w w' := by
  subst h; exact words_any A l cap w hA hl hx

end Go.Proofs.YtbpmakegimgbpaaGreatDoor.T
namespace Go.Proofs.YtbpmakegimgbpaaGreatDoor.T
set_option maxRecDepth 100000
open Go.RowKit

theorem vof_at (H : Nat → Nat) (j : Nat) (h : j < 8) : (vof H).at j = H j := by
  have : j = 0 ∨ j = 1 ∨ j = 2 ∨ j = 3 ∨ j = 4 ∨ j = 5 ∨ j = 6 ∨ j = 7 := by omega
  rcases this with rfl | rfl | rfl | rfl | rfl | rfl | rfl | rfl <;> rfl
set_option maxHeartbeats 8000000 in
theorem block_any (H : Nat → Nat) (A : Option Addr) (l : List Nat) (cap : Nat) (w : World) (hH : ∀ i, H i < 2 ^ 64) (hA : Rds w A l) (hl : l.length = 128) (hx : ∀ x ∈ l, x < 256) :
    Calls Tryz.prog 114 #[.agg (arr 8 H), .slice A 128 cap, .agg (arr 80 kc)] w fun e w' => e = .returned (.agg (arr 8 (fun i => (H i + out H (fun j => l.getD j 0) i) % 2 ^ 64))) ∧ Below w.heap.size w w' := by
  have HH := hide hH
  have HA := hide hA
  have Hl := hide hl
  have Hx := hide hx
  clear hH hA hl hx
  obtain ⟨f, hf⟩ : ∃ f : Nat → Nat, f = fun j => l.getD j 0 := ⟨_, rfl⟩
  rw [← hf]
  have Hfe := hide hf
  clear hf
  have hz := zero36
  have B1 := hide ((((Blk.new w (arr 8 H) 72).alloc (.cells (arr 80 kc) 132)).alloc (.cells (arr 8 (fun _ => 0)) 72)))
  have B2 := hide ((Blk.new' (w.alloc (.cells (arr 8 H) 72)) (w.heap.size + 1) (by simp) (arr 80 kc) 132).alloc (.cells (arr 8 (fun _ => 0)) 72))
  have B3 := hide (Blk.new' ((w.alloc (.cells (arr 8 H) 72)).alloc (.cells (arr 80 kc) 132)) (w.heap.size + 1 + 1) (by simp) (arr 8 (fun _ => 0)) 72)
  have L1 : Hid (Below w.heap.size w (((w.alloc (.cells (arr 8 H) 72)).alloc (.cells (arr 80 kc) 132)).alloc (.cells (arr 8 (fun _ => 0)) 72))) := hide ((((Below.refl _ w).alloc (Nat.le_refl _) _).alloc (by simp) _).alloc (by simp; omega) _)
  go_enter Tryz.func114, Tryz.ntmps114
  go_upto_region 1 with (fail)
  rw [arr8_zero]
  generalize (((w.alloc (.cells (arr 8 H) 72)).alloc (.cells (arr 80 kc) 132)).alloc (.cells (arr 8 (fun _ => 0)) 72)) = w1 at *
  go_upto_region 3 with (first
    | (go_at_call 121; refine (words_at A l cap _ _ rfl (HA.out.low L1.out) Hl.out Hx.out).mono ?_; rw [← Hfe.out]; rintro e k1 ⟨rfl, hb⟩; have B4 := hide (B1.out.call hb); have B5 := hide (B2.out.call hb); have B6 := hide (B3.out.call hb); have L2 := hide (keepLow2 L1.out hb); clear hb B1 B2 B3 L1; dsimp only)
    | (refine wpList_store_abs rfl 132 _ _ rfl k1.heap.size (arr 80 (wt f)) rfl rfl 132 _ (Blk.new k1 _ _) (by rw [arr_size]; exact cells36) (by simp only [arr_size]) (arr_one _ _) ?_; intro k2 Bn Sn; have B7 := hide (Sn.other _ _ _ (Nat.ne_of_gt B4.out.lt) (B4.out.alloc _)); have B8 := hide (Sn.other _ _ _ (Nat.ne_of_gt B5.out.lt) (B5.out.alloc _)); have B9 := hide (Sn.other _ _ _ (Nat.ne_of_gt B6.out.lt) (B6.out.alloc _)); have L3 := hide (Sn.low _ _ (L2.out.alloc L2.out.size _) L2.out.size); have D0 := hide Bn; clear Bn Sn B4 B5 B6 L2)
    | (refine wpList_load_row rfl 72 _ rfl w.heap.size rfl 72 _ (0, 0) _ B7.out Tryz.underlying72 rfl (by rw [arr_size]; exact cells28) ?_)
    | (refine wpList_store_abs rfl 72 _ _ rfl k2.heap.size (arr 8 H) rfl rfl 72 _ (Blk.new k2 _ _) (by rw [arr_size]; exact cells28) (by rw [arr_size]; rfl) (arr_one _ _) ?_; intro k3 Bn Sn; have E1 := hide (Sn.other _ _ _ (Nat.ne_of_gt B7.out.lt) (B7.out.alloc _)); have E2 := hide (Sn.other _ _ _ (Nat.ne_of_gt B8.out.lt) (B8.out.alloc _)); have E3 := hide (Sn.other _ _ _ (Nat.ne_of_gt B9.out.lt) (B9.out.alloc _)); have E4 := hide (Sn.other _ _ _ (Nat.ne_of_gt D0.out.lt) (D0.out.alloc _)); have L4 := hide (Sn.low _ _ (L3.out.alloc L3.out.size _) L3.out.size); have E5 := hide Bn; have Hd : Hid (w.heap.size < k2.heap.size ∧ w.heap.size + 1 < k2.heap.size ∧ w.heap.size + 1 + 1 < k2.heap.size ∧ k1.heap.size < k2.heap.size) := hide ⟨B7.out.lt, B8.out.lt, B9.out.lt, D0.out.lt⟩; clear Bn Sn B7 B8 B9 D0 L3))
  clear hz
  generalize k1.heap.size = bw at *
  generalize k2.heap.size = bv at *
  simp only [Act.put]
  go_wp2
  go_loopw [9] (fun i wr => ∃ (k : Nat) (v : V), k ≤ 80 ∧ i = .int .i64 k ∧ v = rnd (wt f) (vof H) k ∧ Blk wr bv (arr 8 v.at) 72 ∧ Blk wr w.heap.size (arr 8 H) 72 ∧ Blk wr (w.heap.size + 1) (arr 80 kc) 132 ∧ Blk wr (w.heap.size + 1 + 1) (arr 8 (fun _ => 0)) 72 ∧ Blk wr bw (arr 80 (wt f)) 132 ∧ Below w.heap.size w wr) (fun i _ => 80 - (intOf i).toNat)
  case atStart => exact ⟨0, _, by omega, rfl, rfl, E5.out.cast (arr_congr _ _ _ fun j hj => (vof_at H j hj).symm), E1.out, E2.out, E3.out, E4.out, L4.out⟩
  case round =>
    clear E1 E2 E3 E4 E5 L4
    obtain ⟨k, v, hk, rfl, hv, Bv, Bh, Bk, Bz, Bw, L⟩ := hrel
    have Hok := hide (hv ▸ rnd_ok (wt f) _ (vof_ok _ HH.out) k : v.ok)
    have Hv := hide hv
    clear hv
    by_cases hlt : k < 80
    · obtain ⟨va, vb, vc, vd, ve, vf, vg, vh⟩ := v
      have ck := Bk.cell k
      rw [arr_get _ _ _ hlt] at ck
      have cw := Bw.cell k
      rw [arr_get _ _ _ hlt] at cw
      have c0 : wr.cell? ⟨bv, 0, none⟩ = some (.int .u64 (va : Nat)) := Bv.cell 0
      have c1 : wr.cell? ⟨bv, 1, none⟩ = some (.int .u64 (vb : Nat)) := Bv.cell 1
      have c2 : wr.cell? ⟨bv, 2, none⟩ = some (.int .u64 (vc : Nat)) := Bv.cell 2
      have c3 : wr.cell? ⟨bv, 3, none⟩ = some (.int .u64 (vd : Nat)) := Bv.cell 3
      have c4 : wr.cell? ⟨bv, 4, none⟩ = some (.int .u64 (ve : Nat)) := Bv.cell 4
      have c5 : wr.cell? ⟨bv, 5, none⟩ = some (.int .u64 (vf : Nat)) := Bv.cell 5
      have c6 : wr.cell? ⟨bv, 6, none⟩ = some (.int .u64 (vg : Nat)) := Bv.cell 6
      have c7 : wr.cell? ⟨bv, 7, none⟩ = some (.int .u64 (vh : Nat)) := Bv.cell 7
      have HBv := hide Bv
      have HBh := hide Bh
      have HBk := hide Bk
      have HBz := hide Bz
      have HBw := hide Bw
      have HL := hide L
      clear Bv Bh Bk Bz Bw L
      have hk0 : (0 : Int) ≤ (k : Int) := by omega
      have hk8 : (k : Int) < 80 := by omega
      have hxx := vx_int ⟨va, vb, vc, vd, ve, vf, vg, vh⟩ Hok.out (kc k) (wt f k)
      have hyy := vy_int ⟨va, vb, vc, vd, ve, vf, vg, vh⟩ Hok.out
      obtain ⟨x, ex⟩ : ∃ x, x = vx (kc k) (wt f k) ⟨va, vb, vc, vd, ve, vf, vg, vh⟩ := ⟨_, rfl⟩
      obtain ⟨y, ey⟩ : ∃ y, y = vy ⟨va, vb, vc, vd, ve, vf, vg, vh⟩ := ⟨_, rfl⟩
      rw [← ex] at hxx
      rw [← ey] at hyy
      dsimp only at hxx hyy
      rw [if_neg (show ¬ IntKind.u64.signed = true by decide)] at hxx
      have Hxx := hide hxx
      have Hyy := hide hyy
      have Hx := hide ex
      have Hy := hide ey
      clear ex ey hxx hyy
      go_wp2
      go_quiet (first
        | (go_at_call_of 122 (Value.int IntKind.i64 14); exact Calls.quiet_of_same (turn_at ve 14 _ _ (by rfl) Hok.out.e (by omega) (by omega)))
        | (go_at_call_of 122 (Value.int IntKind.i64 18); exact Calls.quiet_of_same (turn_at ve 18 _ _ (by rfl) Hok.out.e (by omega) (by omega)))
        | (go_at_call_of 122 (Value.int IntKind.i64 41); exact Calls.quiet_of_same (turn_at ve 41 _ _ (by rfl) Hok.out.e (by omega) (by omega))))
      go_wp2
      rw [Hxx.out]
      clear Hxx ck cw
      have HBva := hide (HBv.out.drewN nq)
      have HBha := hide (HBh.out.drewN nq)
      have HBka := hide (HBk.out.drewN nq)
      have HBza := hide (HBz.out.drewN nq)
      have HBwa := hide (HBw.out.drewN nq)
      have HLa := hide (Below.drewN HL.out nq)
      have c0a : (wr.drewN nq).cell? ⟨bv, 0, none⟩ = some (.int .u64 (va : Nat)) := c0
      have c1a : (wr.drewN nq).cell? ⟨bv, 1, none⟩ = some (.int .u64 (vb : Nat)) := c1
      have c2a : (wr.drewN nq).cell? ⟨bv, 2, none⟩ = some (.int .u64 (vc : Nat)) := c2
      have c3a : (wr.drewN nq).cell? ⟨bv, 3, none⟩ = some (.int .u64 (vd : Nat)) := c3
      have c4a : (wr.drewN nq).cell? ⟨bv, 4, none⟩ = some (.int .u64 (ve : Nat)) := c4
      have c5a : (wr.drewN nq).cell? ⟨bv, 5, none⟩ = some (.int .u64 (vf : Nat)) := c5
      have c6a : (wr.drewN nq).cell? ⟨bv, 6, none⟩ = some (.int .u64 (vg : Nat)) := c6
      have c7a : (wr.drewN nq).cell? ⟨bv, 7, none⟩ = some (.int .u64 (vh : Nat)) := c7
      clear HBv HBh HBk HBz HBw HL c0 c1 c2 c3 c4 c5 c6 c7
      generalize wr.drewN nq = wq at *
      go_quiet (first
        | (go_at_call_of 122 (Value.int IntKind.i64 28); exact Calls.quiet_of_same (turn_at va 28 _ _ (by rfl) Hok.out.a (by omega) (by omega)))
        | (go_at_call_of 122 (Value.int IntKind.i64 34); exact Calls.quiet_of_same (turn_at va 34 _ _ (by rfl) Hok.out.a (by omega) (by omega)))
        | (go_at_call_of 122 (Value.int IntKind.i64 39); exact Calls.quiet_of_same (turn_at va 39 _ _ (by rfl) Hok.out.a (by omega) (by omega))))
      go_upto_region 8 with (fail)
      rw [Hyy.out]
      clear Hyy
      have HBvb := hide (HBva.out.drewN nq)
      have HBhb := hide (HBha.out.drewN nq)
      have HBkb := hide (HBka.out.drewN nq)
      have HBzb := hide (HBza.out.drewN nq)
      have HBwb := hide (HBwa.out.drewN nq)
      have HLb := hide (Below.drewN HLa.out nq)
      have c0b : (wq.drewN nq).cell? ⟨bv, 0, none⟩ = some (.int .u64 (va : Nat)) := c0a
      have c1b : (wq.drewN nq).cell? ⟨bv, 1, none⟩ = some (.int .u64 (vb : Nat)) := c1a
      have c2b : (wq.drewN nq).cell? ⟨bv, 2, none⟩ = some (.int .u64 (vc : Nat)) := c2a
      have c3b : (wq.drewN nq).cell? ⟨bv, 3, none⟩ = some (.int .u64 (vd : Nat)) := c3a
      have c4b : (wq.drewN nq).cell? ⟨bv, 4, none⟩ = some (.int .u64 (ve : Nat)) := c4a
      have c5b : (wq.drewN nq).cell? ⟨bv, 5, none⟩ = some (.int .u64 (vf : Nat)) := c5a
      have c6b : (wq.drewN nq).cell? ⟨bv, 6, none⟩ = some (.int .u64 (vg : Nat)) := c6a
      have c7b : (wq.drewN nq).cell? ⟨bv, 7, none⟩ = some (.int .u64 (vh : Nat)) := c7a
      clear HBva HBha HBka HBza HBwa HLa c0a c1a c2a c3a c4a c5a c6a c7a
      generalize wq.drewN nq = wz at *
      obtain ⟨p, ep⟩ : ∃ p, p = (x + y) % 2 ^ 64 := ⟨_, rfl⟩
      obtain ⟨q, eq⟩ : ∃ q, q = (vd + x) % 2 ^ 64 := ⟨_, rfl⟩
      have hs1 : IntKind.u64.wrap ((x : Int) + (y : Int)) = (p : Int) := by rw [sum_int, ep]
      have hs2 : IntKind.u64.wrap ((vd : Int) + (x : Int)) = (q : Int) := by rw [sum_int, eq]
      have h8 := eight ⟨p, va, vb, vc, q, ve, vf, vg⟩
      dsimp only at h8
      have Hst : Hid ((⟨p, va, vb, vc, q, ve, vf, vg⟩ : V) = rnd (wt f) (vof H) (k + 1)) := hide (by rw [ep, eq, Hx.out, Hy.out, rnd, ← Hv.out]; rfl)
      clear ep eq
      obtain ⟨vn, hvn⟩ : ∃ vn : V, vn = ⟨p, va, vb, vc, q, ve, vf, vg⟩ := ⟨_, rfl⟩
      rw [← hvn] at h8 Hst
      clear hvn
      go_wp2_with (refine wpList_store_row rfl 72 _ _ rfl bv (arr 8 vn.at) rfl rfl 72 _ HBvb.out (by rw [arr_size]; exact cells28) (by rw [arr_size, arr_size]) (arr_one _ _) ?_)
      go_roundw
      case rel =>
        exact ⟨k + 1, vn, by omega, by go_num, Hst.out, HBvb.out.row _, HBhb.out.rowOther _ (by have := Hd.out; omega), HBkb.out.rowOther _ (by have := Hd.out; omega), HBzb.out.rowOther _ (by have := Hd.out; omega), HBwb.out.rowOther _ (by have := Hd.out; omega), Below.row HLb.out (by have := Hd.out; omega) _⟩
      case measure => simp [intOf]; omega
    · have e4 : k = 80 := by omega
      subst e4
      rw [show ((80 : Nat) : Int) = (80 : Int) from rfl]
      have HBv := hide Bv
      have HBh := hide Bh
      have HBz := hide Bz
      have HL := hide L
      clear Bv Bh Bk Bz Bw L
      go_wp2
      go_loopw [12] (fun i wr => ∃ k : Nat, k ≤ 8 ∧ i = .int .i64 k ∧ Blk wr w.heap.size (arr 8 (fin H v k)) 72 ∧ Blk wr bv (arr 8 v.at) 72 ∧ Blk wr (w.heap.size + 1 + 1) (arr 8 (fun _ => 0)) 72 ∧ Below w.heap.size w wr) (fun i _ => 8 - (intOf i).toNat)
      case atStart => exact ⟨0, by omega, rfl, HBh.out.cast (arr_congr _ _ _ fun j _ => by simp [fin]), HBv.out, HBz.out, HL.out⟩
      case round =>
        clear HBh HBv HBz HL
        obtain ⟨k, hk, rfl, Br, Bv, Bz, L⟩ := hrel
        by_cases hl8 : k < 8
        · have cr := Br.cell k
          rw [arr_get _ _ _ hl8, fin, if_neg (by omega)] at cr
          have fr := Br.frozen k
          have cv := Bv.cell k
          rw [arr_get _ _ _ hl8] at cv
          have hk0 : (0 : Int) ≤ (k : Int) := by omega
          have hk8 : (k : Int) < 8 := by omega
          have HBr := hide Br
          have HBv := hide Bv
          have HBz := hide Bz
          have HL := hide L
          clear Br Bz Bv L
          have Hs := hide (sum_int (H k) (v.at k))
          go_wp2
          go_region_with (fail)
          all_goals
            go_wp2
            rw [Hs.out]
            go_roundw
            case rel =>
              refine ⟨k + 1, by omega, by go_num, ((HBr.out.set k _).drew).cast ?_, (HBv.out.setOther _ _ (by have := Hd.out; omega)).drew, (HBz.out.setOther _ _ (by omega)).drew, (HL.out.setCell (Nat.le_refl _) _).drew⟩
              rw [arr_set]
              exact arr_congr _ _ _ fun j _ => fin_next H v k j
            case measure => simp [intOf]; omega
        · have e8 : k = 8 := by omega
          subst e8
          have HBr := hide (Br.cast (arr_congr 8 _ (fun i => (H i + out H f i) % 2 ^ 64) fun j hj => by rw [fin, if_pos hj, Hv.out]; rfl))
          have HBz := hide Bz
          have HL := hide L
          clear Br Bz Bv L
          go_wp2_with (first
            | (refine wpList_load_row rfl 72 _ rfl w.heap.size rfl 72 _ (0, 0) _ HBr.out Tryz.underlying72 rfl (by rw [arr_size]; exact cells28) ?_)
            | (refine wpList_store_row rfl 72 _ _ rfl (w.heap.size + 1 + 1) (arr 8 (fun i => (H i + out H f i) % 2 ^ 64)) rfl rfl 72 _ HBz.out (by rw [arr_size]; exact cells28) (by rw [arr_size, arr_size]) (arr_one _ _) ?_))
          refine bodyPost_ret (v := .agg (arr 8 (fun i => (H i + out H f i) % 2 ^ 64))) (results_cell_row Tryz.results114 _ _ (w.heap.size + 1 + 1) 72 _ (0, 0) _ rfl (HBz.out.row _) Tryz.underlying72 rfl (by rw [arr_size]; exact cells28)) rfl ⟨rfl, ?_⟩
          exact Below.row HL.out (by omega) _
theorem block_at (H : Nat → Nat) (A : Option Addr) (l : List Nat) (cap : Nat) (args : Array Value) (w : World) (h : args = #[.agg (arr 8 H), .slice A 128 cap, .agg (arr 80 kc)]) (hH : ∀ i, H i < 2 ^ 64) (hA : Rds w A l) (hl : l.length = 128) (hx : ∀ x ∈ l, x < 256) :
    Calls Tryz.prog 114 args w fun e w' => e = .returned (.agg (arr 8 (fun i => (H i + out H (fun j => l.getD j 0) i) % 2 ^ 64))) ∧ Below w.heap.size w w' := by
  subst h; exact block_any H A l cap w hH hA hl hx

end Go.Proofs.YtbpmakegimgbpaaGreatDoor.T
namespace Go.Proofs.YtbpmakegimgbpaaGreatDoor.T
set_option maxRecDepth 100000
open Go.RowKit

theorem app_bytes {B : Nat} {w : World} {A : Option Addr} {cap : Nat} {vs : List Nat} (h : Own w B 5 (.slice A vs.length cap) (bv8 vs)) (hBw : B ≤ w.heap.size) (A2 : Option Addr) (l : List Nat) (cap2 : Nat) (hs : Rds w A2 l) (hn : 0 < l.length ∨ A.isSome = true) (hl : vs.length + l.length ≤ 2 ^ 40) :
    ∃ A' cap' w', (∀ ty, (Builtin.append_ #[23, 23] ty #[.slice A vs.length cap, .slice A2 l.length cap2]).run Tryz.prog w = .ok (.slice A' (vs.length + l.length) cap') w') ∧ Own w' B 5 (.slice A' (vs ++ l).length cap') (bv8 (vs ++ l)) ∧ w.heap.size ≤ w'.heap.size ∧ ∀ a, Below B a w → Below B a w' := by
  obtain ⟨v', w', hr, ho, hsz, hlo⟩ := own_append Tryz.underlying23 (by kernel_rfl) (by kernel_rfl) (by kernel_rfl) h hBw (.slice A2 l.length cap2) (bv8 l) (src_rds cap2 hs) (by
    rcases hn with hn | hn
    · left; rw [bv8_len]; exact hn
    · right
      cases A with
      | none => cases hn
      | some a => exact ⟨a, _, _, rfl⟩) (by rw [bv8_len, bv8_len]; exact hl)
  rw [← bv8_app] at ho
  obtain ⟨A', cap', rfl, _⟩ := own_rds ho
  rw [List.length_append] at hr
  exact ⟨A', cap', w', hr, ho, hsz, hlo⟩
theorem rds_lit {w : World} {x : Nat} : Rds (w.alloc (.cells #[.int .u8 (x : Nat)] 5)) (some ⟨w.heap.size, 0, none⟩) [x] := rds_blk (Blk.new w _ _) _ fun i y hy => by
  rcases i with _ | i
  · obtain rfl := Option.some.inj hy; rfl
  · cases hy
theorem run_head (A : Option Addr) (len cap : Nat) (hc : 128 ≤ cap) (w : World) : (Instr.slice 23 (.slice A len cap) none (some (.int .i64 128)) none).run Tryz.prog w = .ok (.slice A 128 cap) w := by
  rw [run_slice_h w 23 A len cap (by kernel_rfl) .i64 128 (by omega) (by omega), show (sizeOf (Tryz.prog.elem 23)).run Tryz.prog w = .ok 1 w by rfl]
  have e : A.map (fun a => a.add 0) = A := by cases A <;> simp [Addr.add]
  simp [Result.andThen, sliced, e]
theorem take_succ' (l : List Nat) (c x : Nat) (h : l[c]? = some x) : l.take (c + 1) = l.take c ++ [x] := by rw [List.take_add_one, h]; rfl
theorem pd_zero (n c : Nat) (h0 : 1 ≤ c) (h1 : c < 1 + pz n + 8) : (pd n)[c]? = some 0 := by
  obtain ⟨d, rfl⟩ : ∃ d, c = d + 1 := ⟨c - 1, by omega⟩
  unfold pd
  rw [List.getElem?_cons_succ, List.getElem?_append_left (by simp; omega), List.getElem?_replicate, if_pos (by omega)]
theorem pd_word (n j : Nat) (h : j < 8) : (pd n)[1 + pz n + 8 + j]? = some (wb (8 * n) j) := by
  unfold pd
  rw [show 1 + pz n + 8 + j = (pz n + 8 + j) + 1 by omega, List.getElem?_cons_succ, List.getElem?_append_right (by simp), List.length_replicate, List.getElem?_map, show pz n + 8 + j - (pz n + 8) = j by omega, List.getElem?_range h]
  rfl
theorem pd_eight (n : Nat) : (pd n).take (1 + pz n + 8) = (pd n).take (1 + pz n) ++ [0, 0, 0, 0, 0, 0, 0, 0] := by
  have h := fun c h0 h1 => take_succ' (pd n) c 0 (pd_zero n c h0 h1)
  rw [show 1 + pz n + 8 = (1 + pz n + 7) + 1 from rfl, h _ (by omega) (by omega), show 1 + pz n + 7 = (1 + pz n + 6) + 1 from rfl, h _ (by omega) (by omega), show 1 + pz n + 6 = (1 + pz n + 5) + 1 from rfl, h _ (by omega) (by omega), show 1 + pz n + 5 = (1 + pz n + 4) + 1 from rfl, h _ (by omega) (by omega),
    show 1 + pz n + 4 = (1 + pz n + 3) + 1 from rfl, h _ (by omega) (by omega), show 1 + pz n + 3 = (1 + pz n + 2) + 1 from rfl, h _ (by omega) (by omega), show 1 + pz n + 2 = (1 + pz n + 1) + 1 from rfl, h _ (by omega) (by omega), h (1 + pz n) (by omega) (by omega)]
  simp
theorem wpList_app1 {P : Program} {w : World} {ops : Array Oper} {rest : List Oper} {o : Oper} {a : Act} {Q : Exit → Act → World → Prop} (hgd : o.guard = none) (d s : Operand) (t : TypeId) (ho : o.op = .call { callee := .builtin .append, args := #[d, s], argTypes := #[t, t] })
    {v x v' : Value} {w' : World} (hd : a.eval d = v) (hs : a.eval s = x) (hrun : ∀ ty, (Builtin.append_ #[t, t] ty #[v, x]).run P w = .ok v' w') (h : wpList P ops Q rest (a.put o.dst v') w') : wpList P ops Q (o :: rest) a w := by
  refine wpList_plain hgd fun K hK => ?_
  unfold Oper.wp
  simp [execOp, ho, resolve, invoke, builtin, hd, hs, hrun, Result.andThen]
  exact hK _ _ h
/-- The text, and c bytes of what is laid behind it, appended so far. -/
structure Txt (w1 w : World) (l : List Nat) (c : Nat) (A : Option Addr) (cap : Nat) : Prop where
  own : Own w w1.heap.size 5 (.slice A (l.length + c) cap) (bv8 (l ++ (pd l.length).take c))
  low : Below w1.heap.size w1 w
theorem txt_len (l : List Nat) (c : Nat) (hc : c ≤ 1 + pz l.length + 16) : (l ++ (pd l.length).take c).length = l.length + c := by
  rw [List.length_append, List.length_take, pd_len]; omega
theorem Txt.push {w1 w : World} {l : List Nat} {c : Nat} {A : Option Addr} {cap : Nat} (h : Txt w1 w l c A cap) (x : Nat) (hx : (pd l.length)[c]? = some x) (hn : l.length < 2 ^ 30) :
    ∃ A' cap' w', (∀ ty, (Builtin.append_ #[23, 23] ty #[.slice A (l.length + c) cap, .slice (some ⟨w.heap.size, 0, none⟩) 1 1]).run Tryz.prog (w.alloc (.cells #[.int .u8 (x : Nat)] 5)) = .ok (.slice A' (l.length + (c + 1)) cap') w') ∧ Txt w1 w' l (c + 1) A' cap' := by
  have hc : c < 1 + pz l.length + 16 := by rw [← pd_len]; exact (List.getElem?_eq_some_iff.1 hx).1
  have hz := pz_lt l.length
  have ho := h.own
  rw [← txt_len l c (by omega)] at ho
  obtain ⟨A', cap', w', hr, ho', hs, hlo⟩ := app_bytes (ho.alloc (.cells #[.int .u8 (x : Nat)] 5)) (by have := h.low.size; simp; omega) _ [x] 1 rds_lit (Or.inl (by simp)) (by rw [txt_len l c (by omega)]; simp; omega)
  rw [List.append_assoc, ← take_succ' _ c x hx] at ho'
  rw [txt_len l c (by omega)] at hr
  rw [txt_len l (c + 1) (by omega)] at ho'
  exact ⟨A', cap', w', hr, ho', hlo _ (h.low.alloc h.low.size _)⟩
theorem Txt.eight {w1 w : World} {l : List Nat} {A : Option Addr} {cap : Nat} (h : Txt w1 w l (1 + pz l.length) A cap) (hn : l.length < 2 ^ 30) :
    ∃ A' cap' w', (∀ ty, (Builtin.append_ #[23, 23] ty #[.slice A (l.length + (1 + pz l.length)) cap, .slice (some ⟨w.heap.size, 0, none⟩) 8 8]).run Tryz.prog (w.alloc (.cells #[.int .u8 0, .int .u8 0, .int .u8 0, .int .u8 0, .int .u8 0, .int .u8 0, .int .u8 0, .int .u8 0] 5)) = .ok (.slice A' (l.length + (1 + pz l.length + 8)) cap') w') ∧ Txt w1 w' l (1 + pz l.length + 8) A' cap' := by
  have hz := pz_lt l.length
  have ho := h.own
  rw [← txt_len l _ (by omega)] at ho
  obtain ⟨A', cap', w', hr, ho', hs, hlo⟩ := app_bytes (ho.alloc (.cells #[.int .u8 0, .int .u8 0, .int .u8 0, .int .u8 0, .int .u8 0, .int .u8 0, .int .u8 0, .int .u8 0] 5)) (by have := h.low.size; simp; omega) _ [0, 0, 0, 0, 0, 0, 0, 0] 8 (rds_blk (Blk.new w _ _) _ fun i y hy => by
    rcases i with _ | _ | _ | _ | _ | _ | _ | _ | i
    all_goals first | (obtain rfl := Option.some.inj hy; rfl) | cases hy) (Or.inl (by simp)) (by rw [txt_len l _ (by omega)]; simp; omega)
  rw [List.append_assoc, ← pd_eight] at ho'
  rw [txt_len l _ (by omega)] at hr
  rw [txt_len l (1 + pz l.length + 8) (by omega)] at ho'
  exact ⟨A', cap', w', hr, ho', hlo _ (h.low.alloc h.low.size _)⟩
theorem mod_stop (n z : Nat) (h : z ≤ pz n) : (n + (1 + z)) % 128 = 112 ↔ z = pz n := by
  unfold pz at *; omega
/-- Read as bytes, from a block that is B or behind it. -/
def RdF (B : Nat) (w : World) (A : Option Addr) (l : List Nat) : Prop := Rds w A l ∧ ∀ a, A = some a → B ≤ a.block
theorem RdF.mono {B C : Nat} {w : World} {A : Option Addr} {l : List Nat} (h : RdF B w A l) (hc : C ≤ B) : RdF C w A l := ⟨h.1, fun a ha => Nat.le_trans hc (h.2 a ha)⟩
theorem RdF.low {B : Nat} {w w' : World} {A : Option Addr} {l : List Nat} (h : RdF B w A l) (hb : Below w.heap.size w w') : RdF B w' A l := ⟨h.1.low hb, h.2⟩
theorem RdF.cut {B : Nat} {w : World} {A : Option Addr} {l : List Nat} (h : RdF B w A l) (c cap : Nat) (hc : l.length ≤ cap) : RdF B w (cutA A c cap) (l.drop c) := ⟨h.1.cut c cap hc, fun a ha => by
  unfold cutA at ha
  split at ha
  · exact h.2 a ha
  · cases A with
    | none => cases ha
    | some x =>
      obtain rfl := Option.some.inj ha
      rw [add_block]; exact h.2 x rfl⟩
theorem RdF.row {B b : Nat} {w : World} {A : Option Addr} {l : List Nat} (h : RdF B w A l) (cs : Array Value) (hb : b < B) : RdF B (w.setRow b cs) A l := by
  refine ⟨?_, h.2⟩
  rcases h.1 with h1 | ⟨a, ha, hlt, hc⟩
  · exact Or.inl h1
  · refine Or.inr ⟨a, ha, by rw [setRow_size]; exact hlt, fun i x hx => ?_⟩
    rw [← hc i x hx]
    have hne : (a.add i).block ≠ b := by rw [add_block]; have := h.2 a ha; omega
    exact World.cell?_of_block (a := a.add i) (setRow_other w b _ cs hne)
theorem own_rdf {w : World} {B : Nat} {v : Value} {l : List Nat} (h : Own w B 5 v (bv8 l)) : ∃ A cap, v = .slice A l.length cap ∧ l.length ≤ cap ∧ RdF B w A l := by
  obtain ⟨A, cap, cells, rfl, h2, h3, h4, h5⟩ := h
  rw [bv8_len] at h2 ⊢
  refine ⟨A, cap, rfl, h2, ?_, ?_⟩
  · rcases h5 with ⟨g, rfl, hg, hB⟩ | ⟨rfl, rfl⟩
    · exact rds_blk hB l (fun i x hx => h4 i _ (by unfold bv8; rw [List.getElem?_map, hx]; rfl))
    · left; exact List.eq_nil_of_length_eq_zero (by omega)
  · intro a ha
    rcases h5 with ⟨g, rfl, hg, _⟩ | ⟨rfl, _⟩
    · obtain rfl := Option.some.inj ha; exact hg
    · cases ha
theorem blk_get (all : List Nat) (b j : Nat) (hj : j < 128) : ((all.drop (128 * b)).take 128).getD j 0 = bk all b j := by
  unfold bk
  rw [List.getD_eq_getElem?_getD, List.getD_eq_getElem?_getD, List.getElem?_take, if_pos hj, List.getElem?_drop]
theorem built24 : Tryz.prog.built 24 [] = some (vals .u8 64 (fun _ => 0)) := by kernel_rfl
set_option maxHeartbeats 4000000 in
theorem sumBy_any (A : Option Addr) (l : List Nat) (cap : Nat) (w : World) (hA : Rds w A l) (hcap : l.length ≤ cap) (hl : ∀ x ∈ l, x < 256) (hn : l.length < 2 ^ 30) :
    Calls Tryz.prog 90 #[.slice A l.length cap, .agg (arr 8 hc), .agg (arr 80 kc)] w fun e w' => e = .returned (.agg (vals .u8 64 (dg l))) ∧ Below w.heap.size w w' := by
  have HA := hide hA
  have Hcap := hide hcap
  have Hl := hide hl
  have Hn := hide hn
  clear hA hcap hl hn
  have hz := zero24
  have B1 := hide ((((Blk.new w (arr 8 hc) 72).alloc (.cells (arr 80 kc) 132)).alloc (.cells (vals .u8 64 (fun _ => 0)) 24)))
  have B2 := hide ((Blk.new' (w.alloc (.cells (arr 8 hc) 72)) (w.heap.size + 1) (by simp) (arr 80 kc) 132).alloc (.cells (vals .u8 64 (fun _ => 0)) 24))
  have B3 := hide (Blk.new' ((w.alloc (.cells (arr 8 hc) 72)).alloc (.cells (arr 80 kc) 132)) (w.heap.size + 1 + 1) (by simp) (vals .u8 64 (fun _ => 0)) 24)
  have L1 : Hid (Below w.heap.size w (((w.alloc (.cells (arr 8 hc) 72)).alloc (.cells (arr 80 kc) 132)).alloc (.cells (vals .u8 64 (fun _ => 0)) 24))) := hide ((((Below.refl _ w).alloc (Nat.le_refl _) _).alloc (by simp) _).alloc (by simp; omega) _)
  go_enter Tryz.func90, Tryz.ntmps90
  go_upto_region 1 with (fail)
  clear hz
  generalize (((w.alloc (.cells (arr 8 hc) 72)).alloc (.cells (arr 80 kc) 132)).alloc (.cells (vals .u8 64 (fun _ => 0)) 24)) = w1 at *
  obtain ⟨A1, c1, w2, r1, o1, s1, l1⟩ := app_bytes (w := w1.alloc (.cells #[] 5)) (B := w1.heap.size) (vs := []) (own_lit (Blk.new w1 #[] 5) (Nat.le_refl _)) (by simp) A l cap (HA.out.low (L1.out.alloc L1.out.size _)) (Or.inr rfl) (by have := Hn.out; simp; omega)
  have L2 := l1 w1 ((Below.refl _ w1).alloc (Nat.le_refl _) _)
  simp only [List.nil_append, List.length_nil, Nat.zero_add] at r1 o1
  have T0 : Txt w1 w2 l 0 A1 c1 := ⟨by rw [Nat.add_zero, List.take_zero, List.append_nil]; exact o1, L2⟩
  obtain ⟨A2, c2, w3, r2, T1⟩ := T0.push 128 rfl Hn.out
  simp only [Nat.add_zero, Nat.zero_add] at r2 T1
  rw [show ((128 : Nat) : Int) = 128 from rfl] at r2
  have HT := hide T1
  clear o1 s1 l1 L2 T0 T1
  have R1 := hide r1
  have R2 := hide r2
  clear r1 r2
  go_upto_region 2 with (first
    | (at_builtin; refine wpList_app1 rfl _ _ 23 rfl rfl rfl R1.out ?_)
    | (at_builtin; refine wpList_app1 rfl _ _ 23 rfl rfl rfl R2.out ?_))
  clear R1 R2
  go_loopw [7] (fun v wr => ∃ (z : Nat) (A' : Option Addr) (c' : Nat), z ≤ pz l.length ∧ v = .slice A' (l.length + (1 + z)) c' ∧ Txt w1 wr l (1 + z) A' c') (fun v _ => match v with | .slice _ len _ => l.length + 200 - len | _ => 0)
  case atStart => exact ⟨0, A2, c2, Nat.zero_le _, rfl, HT.out⟩
  case round =>
    clear HT
    obtain ⟨z, A3, c3, hz, rfl, T3⟩ := hrel
    have HT := hide T3
    clear T3
    by_cases hlt : z = pz l.length
    · subst hlt
      have hne : (l.length + (1 + pz l.length)) % 128 = 112 := (mod_stop _ _ (Nat.le_refl _)).2 rfl
      obtain ⟨A4, c4, w4, r4, T4⟩ := HT.out.eight Hn.out
      have R4 := hide r4
      have HT4 := hide T4
      clear r4 T4 HT
      obtain ⟨ln, hln⟩ : ∃ ln, ln = l.length + (1 + pz l.length) := ⟨_, rfl⟩
      rw [← hln] at hne R4
      rw [← hln]
      clear hln
      have hm1 : (ln : Int).tmod 128 = 112 := by rw [rem128]; omega
      have hm2 : (ln : Int) % 128 = 112 := by omega
      obtain ⟨n8, hn8⟩ : ∃ n8, n8 = 8 * l.length := ⟨_, rfl⟩
      have hcv : IntKind.u64.wrap (l.length : Int) = (l.length : Int) := by have := Hn.out; rw [wrap_u64']; omega
      have hmul : IntKind.u64.wrap ((l.length : Int) * 8) = (n8 : Int) := by have := Hn.out; rw [wrap_u64']; omega
      have Hn8 := hide hn8
      clear hne hn8
      go_upto_region 6 with (at_builtin; refine wpList_app1 rfl _ _ 23 rfl rfl rfl R4.out ?_)
      clear hm1 hm2 hcv hmul R4
      obtain ⟨m0, hm0⟩ : ∃ m0, m0 = l.length + (1 + pz l.length + 8) := ⟨_, rfl⟩
      rw [← hm0]
      have Hm0 := hide hm0
      clear hm0
      go_wp2
      go_loopw [7, 9] (fun v i wr => ∃ (j : Nat) (A' : Option Addr) (c' : Nat), j ≤ 8 ∧ i = .int .i64 ((7 : Int) - (j : Int)) ∧ v = .slice A' (m0 + j) c' ∧ Txt w1 wr l (1 + pz l.length + 8 + j) A' c') (fun v _ _ => match v with | .slice _ len _ => m0 + 8 - len | _ => 0)
      case atStart => exact ⟨0, A4, c4, Nat.zero_le _, rfl, rfl, HT4.out⟩
      case round =>
        clear HT4
        obtain ⟨j, A5, c5, hj, rfl, rfl, T5⟩ := hrel
        have HT := hide T5
        clear T5
        by_cases hlt : j < 8
        · obtain ⟨A6, c6, w6, r6, T6⟩ := HT.out.push (wb (8 * l.length) j) (pd_word _ j hlt) Hn.out
          rw [← Hn8.out] at r6
          obtain ⟨bt, hbt⟩ : ∃ bt, bt = wb n8 j := ⟨_, rfl⟩
          rw [← hbt, show l.length + (1 + pz l.length + 8 + j) = m0 + j by rw [Hm0.out]; omega, show l.length + (1 + pz l.length + 8 + j + 1) = m0 + (j + 1) by rw [Hm0.out]; omega] at r6
          have R6 := hide r6
          have HT6 := hide T6
          clear r6 T6 HT
          obtain ⟨s, hs⟩ : ∃ s, s = 7 - j := ⟨_, rfl⟩
          have hs7 : (7 : Int) - (j : Int) = (s : Int) := by omega
          rw [hs7]
          have hs0 : (0 : Int) ≤ (s : Int) := by omega
          have hsm : IntKind.i64.wrap (8 * (s : Int)) = 8 * (s : Int) := wrap_i64_small' _ (by omega) (by omega)
          have hsu : IntKind.u64.wrap (8 * (s : Int)) = 8 * (s : Int) := by rw [wrap_u64']; omega
          have hs8 : (0 : Int) ≤ 8 * (s : Int) := by omega
          have hs9 : 8 * (s : Int) < 64 := by omega
          have hsn : (8 * (s : Int)).toNat = 8 * s := by omega
          have hby : (n8 : Int) / 2 ^ (8 * s) % 256 = (bt : Int) := by
            rw [hbt, show 8 * s = 56 - 8 * j by omega]; unfold wb; simp
          have hsw : IntKind.i64.wrap ((s : Int) - 1) = (s : Int) - 1 := by simp [IntKind.wrap, IntKind.bits, IntKind.signed]; omega
          have Hsj := hide hs7
          clear hbt hs hs7
          go_wp2_with (at_builtin; refine wpList_app1 rfl _ _ 23 rfl rfl rfl R6.out ?_)
          refine ⟨⟨j + 1, A6, c6, by omega, ?_, rfl, HT6.out⟩, ?_⟩
          · congr 1; have := Hsj.out; omega
          · show m0 + 8 - (m0 + (j + 1)) < m0 + 8 - (m0 + j)
            omega
        · have e8 : j = 8 := by omega
          subst e8
          rw [show (7 : Int) - ((8 : Nat) : Int) = -1 from rfl]
          obtain ⟨all, hall⟩ : ∃ all, all = l ++ pd l.length := ⟨_, rfl⟩
          have ht : (pd l.length).take (1 + pz l.length + 8 + 8) = pd l.length := by rw [List.take_of_length_le]; rw [pd_len]; omega
          have hlen : m0 + 8 = all.length := by rw [hall, List.length_append, pd_len, Hm0.out]; omega
          have ho := HT.out.own
          rw [ht, ← hall, show l.length + (1 + pz l.length + 8 + 8) = all.length by rw [← hlen, Hm0.out]; omega] at ho
          have hlow := HT.out.low
          obtain ⟨A6, c6, e6, hc6, hr6⟩ := own_rdf ho
          injection e6 with e1 _ e3
          subst e1 e3
          have Hall := hide hall
          have Hmod : Hid (all.length % 128 = 0) := hide (by rw [← hlen, Hm0.out]; have := pd_mod l.length; omega)
          have Hbig : Hid (all.length < 2 ^ 31) := hide (by rw [← hlen, Hm0.out]; have := pz_lt l.length; have := Hn.out; omega)
          have Hb : Hid (∀ x ∈ all, x < 256) := hide (fun x hx => by
            rw [Hall.out] at hx
            rcases List.mem_append.1 hx with h | h
            · exact Hl.out x h
            · exact pd_lt _ x h)
          have Hq : Hid (all.length / 128 = (l.length + (1 + pz l.length + 16)) / 128) := hide (by have := Hm0.out; omega)
          rw [hlen]
          have HR := hide (hr6.mono (show w.heap.size + 1 ≤ w1.heap.size by have := B2.out.lt; omega))
          have Hc6 := hide hc6
          have K1 := hide (B1.out.below hlow B1.out.lt)
          have K2 := hide (B2.out.below hlow B2.out.lt)
          have K3 := hide (B3.out.below hlow B3.out.lt)
          have KL := hide (L1.out.trans (hlow.mono L1.out.size))
          clear HT ho hlow hr6 hc6 hlen ht hall B1 B2 B3 L1
          go_wp2
          go_loopw [7] (fun v wv => ∃ (b : Nat) (A' : Option Addr) (c' : Nat), 128 * b ≤ all.length ∧ v = .slice A' (all.length - 128 * b) c' ∧ all.length - 128 * b ≤ c' ∧ RdF (w.heap.size + 1) wv A' (all.drop (128 * b)) ∧ Blk wv w.heap.size (arr 8 (hs all b)) 72 ∧ Blk wv (w.heap.size + 1) (arr 80 kc) 132 ∧ Blk wv (w.heap.size + 1 + 1) (vals .u8 64 (fun _ => 0)) 24 ∧ Below w.heap.size w wv) (fun v _ => match v with | .slice _ len _ => len | _ => 0)
          case atStart => exact ⟨0, A5, c5, Nat.zero_le _, rfl, Hc6.out, HR.out, K1.out, K2.out, K3.out, KL.out⟩
          case round =>
            clear HR Hc6 K1 K2 K3 KL
            obtain ⟨b, A7, c7, hb, rfl, hc7, hr7, K1, K2, K3, KL⟩ := hrel
            by_cases hpos : 0 < all.length - 128 * b
            · have h128 : 128 ≤ all.length - 128 * b := by have := Hmod.out; omega
              obtain ⟨ln, hln⟩ : ∃ ln, ln = all.length - 128 * b := ⟨_, rfl⟩
              rw [← hln] at hpos hc7 h128
              rw [← hln]
              have hhd := run_head A7 ln c7 (by omega)
              have hct := run_cut A7 ln c7 128 h128
              rw [show ((128 : Nat) : Int) = 128 from rfl] at hct
              have hp0 : (0 : Int) < (ln : Int) := by omega
              have Hln := hide hln
              have Hc7 := hide hc7
              have Hh := hide h128
              have HR7 := hide hr7
              have G1 := hide K1
              have G2 := hide K2
              have G3 := hide K3
              have GL := hide KL
              have Hb2 := hide hb
              clear hln hc7 h128 hr7 K1 K2 K3 KL hpos hb
              go_wp2
              refine wp_region_held_drew (S := fun w' => Blk w' (w.heap.size + 1) (arr 80 kc) 132) (by kernel_rfl) G2.out.drew (fun hHeld => ?_)
              refine wpAnyH_take (i := 1) (oi := { dst := some 48, op := Op.move (Operand.tmp 7), type := 23, pos := "ref.go:128", after := #[], guard := none }) (v := .slice A7 ln c7) rfl (by kernel_rfl) (by kernel_rfl) (by kernel_rfl) (fun _ _ _ h => h) (Or.inl ⟨by rfl, fun w hSw => by go_simp⟩) hHeld ?_
              try simp only [Act.put, List.setIfInBounds_toArray, List.set_cons_zero, List.set_cons_succ]
              refine wpAnyH_take (i := 2) (oi := { dst := some 49, op := Op.slice 23 (Operand.tmp 48) none (some (Operand.const (Value.int IntKind.i64 128))) none, type := 23, pos := "ref.go:128", after := #[{ on := 1, ground := Ground.data }], guard := none }) (v := .slice A7 128 c7) rfl (by kernel_rfl) (by kernel_rfl) (by kernel_rfl) (fun _ _ _ h => h) (Or.inl ⟨by rfl, fun w hSw => by go_simp⟩) hHeld ?_
              try simp only [Act.put, List.setIfInBounds_toArray, List.set_cons_zero, List.set_cons_succ]
              refine wpAnyH_take (i := 3) (oi := { dst := some 50, op := Op.load 132 (Operand.tmp 5), type := 132, pos := "ref.go:128", after := #[], guard := none }) (v := .agg (arr 80 kc)) rfl (by kernel_rfl) (by kernel_rfl) (by kernel_rfl) (fun _ _ _ h => h) (yields_S (fun _ h => h) (by rfl) 132 _ rfl rfl _ Tryz.underlying132 rfl (by rw [arr_size]; exact cells36)) hHeld ?_
              try simp only [Act.put, List.setIfInBounds_toArray, List.set_cons_zero, List.set_cons_succ]
              refine wpAnyH_ready (rs := [0]) (by kernel_rfl) (by simp) ?_
              refine AllReadyH.cons (o := { dst := some 47, op := Op.load 72 (Operand.tmp 4), type := 72, pos := "ref.go:128", after := #[], guard := none }) rfl (fun K hK => ?_) AllReadyH.nil
              rw [if_pos (by rfl)]
              refine wp_load_row 72 _ rfl w.heap.size rfl 72 _ (0, 0) _ G1.out.drew Tryz.underlying72 rfl (by rw [arr_size]; exact cells28) ?_
              refine hK.out _ _ hHeld (fun hHeld => ?_)
              clear hK K
              try simp only [Act.put, List.setIfInBounds_toArray, List.set_cons_zero, List.set_cons_succ]
              refine wpAnyH_ready (rs := [4]) (by kernel_rfl) (by simp) ?_
              refine AllReadyH.cons (o := { dst := some 51, op := Op.call { callee := Callee.value (Operand.func 114), args := #[Operand.tmp 47, Operand.tmp 49, Operand.tmp 50], argTypes := #[72, 23, 132] }, type := 72, pos := "ref.go:128", after := #[{ on := 0, ground := Ground.data }, { on := 2, ground := Ground.data }, { on := 3, ground := Ground.data }], guard := none }) rfl (fun K hK => ?_) AllReadyH.nil
              go_simp
              refine (block_at (hs all b) A7 ((all.drop (128 * b)).take 128) c7 _ _ (by rfl) (hs_lt all b) (rds_take (HR7.out.1.low (Below.refl _ wr).drew) 128) (by rw [List.length_take, List.length_drop]; have := Hh.out; have := Hln.out; omega) (fun x hx => Hb.out x (List.mem_of_mem_drop (List.mem_of_mem_take hx)))).mono ?_
              rintro e w8 ⟨rfl, hb8⟩
              have F1 := hide (G1.out.drew.call hb8)
              have F2 := hide (G2.out.drew.call hb8)
              have F3 := hide (G3.out.drew.call hb8)
              have FL := hide (keepLow2 GL.out.drew hb8)
              have HR8 : Hid (RdF (w.heap.size + 1) w8 A7 (all.drop (128 * b))) := hide (HR7.out.low ((Below.refl _ wr).drew.trans hb8))
              have Hnx : Hid (arr 8 (fun i => (hs all b i + out (hs all b) (fun j => ((all.drop (128 * b)).take 128).getD j 0) i) % 2 ^ 64) = arr 8 (hs all (b + 1))) := hide (arr_congr _ _ _ fun i _ => by
                show _ = (hs all b i + out (hs all b) (bk all b) i) % 2 ^ 64
                rw [out_congr (hs all b) _ (bk all b) fun j hj => blk_get all b j hj])
              rw [Hnx.out]
              dsimp only
              refine hK.out _ _ (hHeld.call hb8) (fun hHeld => ?_)
              clear hK K hb8
              try simp only [Act.put, List.setIfInBounds_toArray, List.set_cons_zero, List.set_cons_succ]
              refine wpAnyH_ready (rs := [5]) (by kernel_rfl) (by simp) ?_
              refine AllReadyH.cons (o := { dst := none, op := Op.store 72 (Operand.tmp 4) (Operand.tmp 51), type := 0, pos := "ref.go:128", after := #[{ on := 4, ground := Ground.data }, { on := 4, ground := Ground.chain }, { on := 0, ground := Ground.phase }, { on := 1, ground := Ground.phase }, { on := 2, ground := Ground.phase }, { on := 3, ground := Ground.phase }, { on := 4, ground := Ground.phase }], guard := none }) rfl (fun K hK => ?_) AllReadyH.nil
              rw [if_pos (by rfl)]
              refine wp_store_row 72 _ _ rfl w.heap.size (arr 8 (hs all (b + 1))) rfl rfl 72 _ F1.out (by rw [arr_size]; exact cells28) (by rw [arr_size, arr_size]) (arr_one _ _) ?_
              refine hK.out _ _ (hHeld.rowOther _ (by omega)) (fun hHeld => ?_)
              clear hK K
              simp only [Act.put]
              refine wpAnyH_done (by kernel_rfl) ?_ _
              go_wp2
              refine ⟨⟨b + 1, cutA A7 128 c7, c7 - 128, ?_, ?_, ?_, ?_, F1.out.row _, F2.out.rowOther _ (by omega), F3.out.rowOther _ (by omega), Below.row FL.out (Nat.le_refl _) _⟩, ?_⟩
              · have := Hh.out; have := Hln.out; omega
              · congr 1; have := Hh.out; have := Hln.out; omega
              · have := Hh.out; have := Hln.out; have := Hc7.out; omega
              · have h1 := (HR8.out.cut 128 c7 (by rw [List.length_drop]; have := Hln.out; have := Hc7.out; omega)).row (arr 8 (hs all (b + 1))) (show w.heap.size < w.heap.size + 1 by omega)
                rw [List.drop_drop] at h1
                rw [show 128 * (b + 1) = 128 * b + 128 by omega]
                exact h1
              · show ln - 128 < ln
                have := Hh.out; omega
            · have hb0 : all.length = 128 * b := by omega
              have Heq : Hid (∀ i, i < 64 → wb (hs all b (i / 8)) (i % 8) = dg l i) := hide (fun i hi => by
                have h1 : b = (l.length + (1 + pz l.length + 16)) / 128 := by rw [← Hq.out, hb0]; omega
                unfold dg
                rw [← Hall.out, ← h1]; rfl)
              have G1 := hide K1
              have G3 := hide K3
              have GL := hide KL
              have Hlt := hide (hs_lt all b)
              have hln0 : all.length - 128 * b = 0 := by omega
              rw [hln0]
              clear hr7 K1 K2 K3 KL hpos hb hb0 hc7 hln0
              have hz := zero24
              go_upto_region 14 with (first
                | (refine wpList_build rfl 24 #[] rfl (by simp [built24]) ?_; simp only [List.map_toArray, List.map_nil, built24, Option.getD_some])
                | (refine wpList_store_abs rfl 24 _ _ rfl wr.heap.size (vals .u8 64 (fun _ => 0)) rfl rfl 24 _ (Blk.new wr _ _) (by rw [vals_size]; exact cells24) (by simp only [vals_size]) (vals_one _ _ _) ?_; intro k2 Bn Sn; have F1 := hide (Sn.other _ _ _ (Nat.ne_of_gt G1.out.lt) (G1.out.alloc _)); have F3 := hide (Sn.other _ _ _ (Nat.ne_of_gt G3.out.lt) (G3.out.alloc _)); have FL := hide (Sn.low _ _ (GL.out.alloc GL.out.size _) GL.out.size); have FD := hide Bn; have Hdd : Hid (w.heap.size < wr.heap.size ∧ w.heap.size + 1 + 1 < wr.heap.size) := hide ⟨G1.out.lt, G3.out.lt⟩; clear Bn Sn G1 G3 GL))
              clear hz
              generalize wr.heap.size = bd at *
              simp only [Act.put]
              go_wp2
              go_loopw [11] (fun i wr => ∃ k : Nat, k ≤ 64 ∧ i = .int .i64 k ∧ Blk wr bd (vals .u8 64 (fun j => if j < k then wb (hs all b (j / 8)) (j % 8) else 0)) 24 ∧ Blk wr w.heap.size (arr 8 (hs all b)) 72 ∧ Blk wr (w.heap.size + 1 + 1) (vals .u8 64 (fun _ => 0)) 24 ∧ Below w.heap.size w wr) (fun i _ => 64 - (intOf i).toNat)
              case atStart => exact ⟨0, by omega, rfl, FD.out.cast (vals_congr _ _ _ _ fun j _ => by simp), F1.out, F3.out, FL.out⟩
              case round =>
                clear FD F1 F3 FL
                obtain ⟨k, hk, rfl, Bd, Bh, Bz, L⟩ := hrel
                by_cases hlt : k < 64
                · have ch := Bh.cell (k / 8)
                  rw [arr_get _ _ _ (by omega)] at ch
                  have cd := Bd.cell k
                  rw [vals_get _ _ _ _ hlt] at cd
                  have fd := Bd.frozen k
                  have HB := hide (upd_vals .u8 64 (fun _ => 0) (fun j => wb (hs all b (j / 8)) (j % 8)) k _ _ _ Bd)
                  have HBh := hide Bh
                  have HBz := hide Bz
                  have HL := hide L
                  clear Bd Bh Bz L
                  have hk0 : (0 : Int) ≤ (k : Int) := by omega
                  have hk6 : (k : Int) < 64 := by omega
                  have hq0 : (0 : Int) ≤ (k : Int) / 8 := by omega
                  have hq4 : (k : Int) / 8 < 8 := by omega
                  have hq : IntKind.i64.wrap ((k : Int).tdiv 8) = (k : Int) / 8 := quo8 k (by omega)
                  have hq' : IntKind.i64.wrap ((k : Int) / 8) = (k : Int) / 8 := quo8' k (by omega)
                  have hqn : ((k : Int) / 8).toNat = k / 8 := by omega
                  have hr1 : (k : Int).tmod 8 = ((k % 8 : Nat) : Int) := by rw [Int.tmod_eq_emod_of_nonneg (by omega)]; omega
                  have hr2 : (k : Int) % 8 = ((k % 8 : Nat) : Int) := by omega
                  obtain ⟨y, hy⟩ : ∃ y, y = k % 8 := ⟨_, rfl⟩
                  rw [← hy] at hr1 hr2
                  have hy8 : y < 8 := by omega
                  have hr3 : IntKind.i64.wrap (8 * (y : Int)) = 8 * (y : Int) := wrap_i64_small' _ (by omega) (by omega)
                  have hr4 : IntKind.i64.wrap (56 - 8 * (y : Int)) = 56 - 8 * (y : Int) := wrap_i64_small' _ (by omega) (by omega)
                  have hr5 : IntKind.u64.wrap (56 - 8 * (y : Int)) = 56 - 8 * (y : Int) := by rw [wrap_u64']; omega
                  have hr6 : (0 : Int) ≤ 56 - 8 * (y : Int) := by omega
                  have hr7 : 56 - 8 * (y : Int) < 64 := by omega
                  have hr8 : (56 - 8 * (y : Int)).toNat = 56 - 8 * y := by omega
                  have Hw : Hid (((hs all b (k / 8) : Nat) : Int) / 2 ^ (56 - 8 * y) % 256 = ((wb (hs all b (k / 8)) (k % 8) : Nat) : Int)) := hide (by rw [← hy]; unfold wb; simp)
                  clear hy
                  go_wp2
                  rw [Hw.out]
                  go_roundw
                  case rel => exact ⟨k + 1, by omega, by go_num, HB.out, HBh.out.setOther _ _ (by have := Hdd.out; omega), HBz.out.setOther _ _ (by have := Hdd.out; omega), HL.out.setCell (by show w.heap.size ≤ bd; have := Hdd.out; omega) _⟩
                  case measure => simp [intOf]; omega
                · have e6 : k = 64 := by omega
                  subst e6
                  have HB := hide (Bd.cast (vals_congr _ 64 _ (dg l) fun j hj => by rw [if_pos hj]; exact Heq.out j hj))
                  have HBz := hide Bz
                  have HL := hide L
                  clear Bd Bh Bz L
                  go_wp2_with (first
                    | (refine wpList_load_row rfl 24 _ rfl bd rfl 24 _ (0, 0) _ HB.out Tryz.underlying24 rfl (by rw [vals_size]; exact cells24) ?_)
                    | (refine wpList_store_row rfl 24 _ _ rfl (w.heap.size + 1 + 1) (vals .u8 64 (dg l)) rfl rfl 24 _ HBz.out (by rw [vals_size]; exact cells24) (by rw [vals_size, vals_size]) (vals_one _ _ _) ?_))
                  refine bodyPost_ret (v := .agg (vals .u8 64 (dg l))) (results_cell_row Tryz.results90 _ _ (w.heap.size + 1 + 1) 24 _ (0, 0) _ rfl (HBz.out.row _) Tryz.underlying24 rfl (by rw [vals_size]; exact cells24)) rfl ⟨rfl, ?_⟩
                  exact Below.row HL.out (by omega) _
    · have hz' : z < pz l.length := by omega
      have hne : ¬ (l.length + (1 + z)) % 128 = 112 := fun h => hlt ((mod_stop _ _ hz).1 h)
      obtain ⟨A4, c4, w4, r4, T4⟩ := HT.out.push 0 (pd_zero _ _ (by omega) (by omega)) Hn.out
      rw [show ((0 : Nat) : Int) = 0 from rfl] at r4
      have R4 := hide r4
      have HT4 := hide T4
      clear r4 T4
      obtain ⟨ln, hln⟩ : ∃ ln, ln = l.length + (1 + z) := ⟨_, rfl⟩
      rw [← hln] at hne R4
      rw [← hln]
      have Hln := hide hln
      clear hln
      have hm1 : (ln : Int).tmod 128 = ((ln % 128 : Nat) : Int) := rem128 ln
      have hm2 : (ln : Int) % 128 = ((ln % 128 : Nat) : Int) := by omega
      obtain ⟨y, hy⟩ : ∃ y, y = ln % 128 := ⟨_, rfl⟩
      rw [← hy] at hm1 hm2 hne
      have hq : ¬ (y : Int) = 112 := by omega
      have hq2 : ((y : Int) == 112) = false := by rw [beq_eq_false_iff_ne]; exact hq
      clear hy hne
      go_wp2_with (at_builtin; refine wpList_app1 rfl _ _ 23 rfl rfl rfl R4.out ?_)
      refine ⟨⟨z + 1, A4, c4, by omega, rfl, HT4.out⟩, ?_⟩
      show l.length + 200 - (l.length + (1 + z + 1)) < l.length + 200 - ln
      have := Hln.out
      have := pz_lt l.length
      omega

end Go.Proofs.YtbpmakegimgbpaaGreatDoor.T
namespace Go.Proofs.YtbpmakegimgbpaaGreatDoor.T
set_option maxRecDepth 100000
open Go.RowKit

set_option maxHeartbeats 1000000 in
theorem rK_any (w : World) : Calls Tryz.prog 91 #[] w fun e w' => e = .returned (.agg (arr 80 kc)) ∧ Below w.heap.size w w' := by
  have hz := zero36
  have B0 := hide (Blk.new w (arr 80 (fun _ => 0)) 132)
  go_enter Tryz.func91, Tryz.ntmps91
  go_wp2_with (first
    | (refine wpList_build_w (by rfl) 132 _ rfl (arr 80 kc) (by kernel_rfl) ?_)
    | (refine wpList_store_row rfl 132 _ _ rfl w.heap.size (arr 80 kc) rfl rfl 132 _ B0.out (by rw [arr_size]; exact cells36) (by rw [arr_size, arr_size]) (arr_one _ _) ?_))
  refine bodyPost_ret (v := .agg (arr 80 kc)) (results_cell_row Tryz.results91 _ _ w.heap.size 132 _ (0, 0) _ rfl (B0.out.row _) Tryz.underlying132 rfl (by rw [arr_size]; exact cells36)) rfl ⟨rfl, ?_⟩
  exact Below.row ((Below.refl _ w).alloc (Nat.le_refl _) _) (Nat.le_refl _) _
theorem sumBy_at (A : Option Addr) (l : List Nat) (cap : Nat) (args : Array Value) (w : World) (h : args = #[.slice A l.length cap, .agg (arr 8 hc), .agg (arr 80 kc)]) (hA : Rds w A l) (hcap : l.length ≤ cap) (hl : ∀ x ∈ l, x < 256) (hn : l.length < 2 ^ 30) :
    Calls Tryz.prog 90 args w fun e w' => e = .returned (.agg (vals .u8 64 (dg l))) ∧ Below w.heap.size w w' := by
  subst h; exact sumBy_any A l cap w hA hcap hl hn
set_option maxHeartbeats 1000000 in
theorem rSum_any (A : Option Addr) (l : List Nat) (cap : Nat) (w : World) (hA : Rds w A l) (hcap : l.length ≤ cap) (hl : ∀ x ∈ l, x < 256) (hn : l.length < 2 ^ 30) :
    Calls Tryz.prog 43 #[.slice A l.length cap] w fun e w' => e = .returned (.agg (vals .u8 64 (dg l))) ∧ Below w.heap.size w w' := by
  have HA := hide hA
  have Hcap := hide hcap
  have Hl := hide hl
  have Hn := hide hn
  clear hA hcap hl hn
  have hz := zero24
  have B0 := hide (Blk.new w (vals .u8 64 (fun _ => 0)) 24)
  have L0 := hide ((Below.refl w.heap.size w).alloc (Nat.le_refl _) (.cells (vals .u8 64 (fun _ => 0)) 24))
  go_enter Tryz.func43, Tryz.ntmps43
  go_wp2_with (first
    | (refine wpList_build_w (by rfl) 72 _ rfl (arr 8 hc) (by kernel_rfl) ?_)
    | (go_at_call 91; refine (rK_any _).mono ?_; rintro e k1 ⟨rfl, hb⟩; have B1 := hide (B0.out.call hb); have L1 := hide (keepLow2 L0.out hb); clear hb; dsimp only)
    | (go_at_call 90; refine (sumBy_at A l cap _ _ rfl (HA.out.low L1.out) Hcap.out Hl.out Hn.out).mono ?_; rintro e k2 ⟨rfl, hb⟩; have B2 := hide (B1.out.call hb); have L2 := hide (keepLow2 L1.out hb); clear hb; dsimp only)
    | (refine wpList_store_row rfl 24 _ _ rfl w.heap.size (vals .u8 64 (dg l)) rfl rfl 24 _ B2.out (by rw [vals_size]; exact cells24) (by rw [vals_size, vals_size]) (vals_one _ _ _) ?_))
  refine bodyPost_ret (v := .agg (vals .u8 64 (dg l))) (results_cell_row Tryz.results43 _ _ w.heap.size 24 _ (0, 0) _ rfl (B2.out.row _) Tryz.underlying24 rfl (by rw [vals_size]; exact cells24)) rfl ⟨rfl, ?_⟩
  exact Below.row L2.out (Nat.le_refl _) _
theorem rSum_at (A : Option Addr) (l : List Nat) (cap : Nat) (args : Array Value) (w : World) (h : args = #[.slice A l.length cap]) (hA : Rds w A l) (hcap : l.length ≤ cap) (hl : ∀ x ∈ l, x < 256) (hn : l.length < 2 ^ 30) :
    Calls Tryz.prog 43 args w fun e w' => e = .returned (.agg (vals .u8 64 (dg l))) ∧ Below w.heap.size w w' := by
  subst h; exact rSum_any A l cap w hA hcap hl hn

end Go.Proofs.YtbpmakegimgbpaaGreatDoor.T

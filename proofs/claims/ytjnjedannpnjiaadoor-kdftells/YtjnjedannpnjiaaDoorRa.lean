/- Walks of the reference: words. -/
import Derived.Test.YtjnjedannpnjiaaDoorCj
namespace Go.Proofs.YtjnjedannpnjiaaDoor
open Go.RowKit

theorem built36 : Tryd.prog.built 52 [] = some (arr 80 (fun _ => 0)) := by kernel_rfl
/-- How many bytes of word j there are among k. -/
def pc (k j : Nat) : Nat := if k ≤ 8 * j then 0 else if 8 * j + 8 ≤ k then 8 else k - 8 * j
/-- The words so far. -/
def pw (f : Nat → Nat) (k j : Nat) : Nat := if j < 16 then be f (8 * j) (pc k j) else 0
theorem pw_zero (f : Nat → Nat) (j : Nat) : pw f 0 j = 0 := by
  unfold pw pc
  split
  · rw [if_pos (by omega)]; rfl
  · rfl
theorem pw_at (f : Nat → Nat) (k : Nat) (h : k < 128) : pw f k (k / 8) = be f (8 * (k / 8)) (k % 8) := by
  unfold pw pc
  rw [if_pos (by omega)]
  by_cases h1 : k ≤ 8 * (k / 8)
  · rw [if_pos h1, show k % 8 = 0 by omega]
  · rw [if_neg h1, if_neg (by omega), show k - 8 * (k / 8) = k % 8 by omega]
theorem pw_next (f : Nat → Nat) (k j : Nat) (h : k < 128) : (if j = k / 8 then be f (8 * (k / 8)) (k % 8 + 1) else pw f k j) = pw f (k + 1) j := by
  by_cases hj : j = k / 8
  · subst hj
    rw [if_pos rfl]
    unfold pw pc
    rw [if_pos (by omega), if_neg (by omega)]
    by_cases h2 : 8 * (k / 8) + 8 ≤ k + 1
    · rw [if_pos h2, show k % 8 + 1 = 8 by omega]
    · rw [if_neg h2, show k + 1 - 8 * (k / 8) = k % 8 + 1 by omega]
  · rw [if_neg hj]
    unfold pw
    have : pc k j = pc (k + 1) j := by
      unfold pc
      by_cases h1 : k ≤ 8 * j
      · rw [if_pos h1]
        by_cases h2 : k + 1 ≤ 8 * j
        · rw [if_pos h2]
        · exact absurd (show j = k / 8 by omega) hj
      · rw [if_neg h1, if_pos (show 8 * j + 8 ≤ k by omega), if_neg (show ¬ k + 1 ≤ 8 * j by omega), if_pos (show 8 * j + 8 ≤ k + 1 by omega)]
    rw [this]
theorem pw_full (f : Nat → Nat) (j : Nat) : pw f 128 j = spd f 16 j := by
  unfold pw spd
  by_cases h : j < 16
  · rw [if_pos h, if_pos h, wt_low f j h]
    unfold pc
    rw [if_neg (by omega), if_pos (by omega)]
  · rw [if_neg h, if_neg h]
theorem be_step2 (f : Nat → Nat) (hf : ∀ i, f i < 256) (k : Nat) : IntKind.u64.wrap (IntKind.u64.wrap ((be f (8 * (k / 8)) (k % 8) : Nat) * 256) + ((f k : Nat) : Int)) = ((be f (8 * (k / 8)) (k % 8 + 1) : Nat) : Int) := by
  have h1 := be_lt f hf (8 * (k / 8)) (k % 8)
  have h2 := hf k
  have h3 : be f (8 * (k / 8)) (k % 8) < 2 ^ 56 := Nat.lt_of_lt_of_le h1 (Nat.pow_le_pow_right (by omega) (by omega))
  rw [be, show 8 * (k / 8) + k % 8 = k by omega, wrap_u64', wrap_u64']
  generalize be f (8 * (k / 8)) (k % 8) = x at *
  omega
theorem quo8 (k : Nat) (h : k < 128) : IntKind.i64.wrap ((k : Int).tdiv 8) = (k : Int) / 8 := by
  rw [Int.tdiv_eq_ediv_of_nonneg (by omega), wrap_i64_small' _ (by omega) (by omega)]
theorem quo8' (k : Nat) (h : k < 128) : IntKind.i64.wrap ((k : Int) / 8) = (k : Int) / 8 := by
  rw [wrap_i64_small' _ (by omega) (by omega)]
theorem sg0_int (c : Nat) (hc : c < 2 ^ 64) : bits .xor .u64 (bits .xor .u64 (rotr c 1 : Nat) (rotr c 8 : Nat)) ((c : Int) / 128) = ((sg0 c : Nat) : Int) := by
  have h1 := rotr_lt c 1 hc
  have h2 := rotr_lt c 8 hc
  have h5 : rotr c 1 ^^^ rotr c 8 < 2 ^ 64 := Nat.xor_lt_two_pow h1 h2
  rw [u64_xor_nat _ _ (by omega) (by omega), show (c : Int) / 128 = ((c / 2 ^ 7 : Nat) : Int) by omega, u64_xor_nat _ _ (by omega) (by omega)]
  rfl
theorem sg1_int (d : Nat) (hd : d < 2 ^ 64) : bits .xor .u64 (bits .xor .u64 (rotr d 19 : Nat) (rotr d 61 : Nat)) ((d : Int) / 64) = ((sg1 d : Nat) : Int) := by
  have h3 := rotr_lt d 19 hd
  have h4 := rotr_lt d 61 hd
  have h6 : rotr d 19 ^^^ rotr d 61 < 2 ^ 64 := Nat.xor_lt_two_pow h3 h4
  rw [u64_xor_nat _ _ (by omega) (by omega), show (d : Int) / 64 = ((d / 2 ^ 6 : Nat) : Int) by omega, u64_xor_nat _ _ (by omega) (by omega)]
  rfl
theorem four_int (a b c d : Nat) : IntKind.u64.wrap (IntKind.u64.wrap (IntKind.u64.wrap ((a : Int) + (b : Int)) + (c : Int)) + (d : Int)) = (((a + b + c + d) % 2 ^ 64 : Nat) : Int) := by
  simp only [wrap_u64']; omega
set_option maxRecDepth 100000 in
set_option maxHeartbeats 2000000 in
theorem words_any (A : Option Addr) (l : List Nat) (cap : Nat) (w : World) (hA : Rds w A l) (hl : l.length = 128) (hx : ∀ x ∈ l, x < 256) :
    Calls Tryd.prog 33 #[.slice A 128 cap] w fun e w' => e = .returned (.agg (arr 80 (wt (fun j => l.getD j 0)))) ∧ Below w.heap.size w w' := by
  obtain ⟨a, rfl, hab, hac⟩ : ∃ a, A = some a ∧ a.block < w.heap.size ∧ ∀ (i : Nat) (x : Nat), l[i]? = some x → w.cell? (a.add i) = some (.int .u8 (x : Nat)) := by
    rcases hA with h | h
    · rw [h] at hl; cases hl
    · exact h
  obtain ⟨f, hf⟩ : ∃ f : Nat → Nat, f = fun j => l.getD j 0 := ⟨_, rfl⟩
  have Hf : Hid (∀ i, f i < 256) := hide (fun i => by
    rw [hf]
    show l.getD i 0 < 256
    rw [List.getD_eq_getElem?_getD]
    cases h : l[i]? with
    | none => simp
    | some x => exact hx x (List.mem_of_getElem? h))
  have Hac : Hid (∀ i, i < 128 → w.cell? (a.add i) = some (.int .u8 (f i : Nat))) := hide (fun i hi => by
    rw [hac i (l.getD i 0) (by rw [List.getD_eq_getElem?_getD, List.getElem?_eq_getElem (by omega)]; rfl), hf])
  have Hab := hide hab
  rw [← hf]
  clear hf hac hx hl hA hab
  have hz := zero36
  go_enter Tryd.func33, Tryd.ntmps33
  go_wp2_with (first
    | (refine wpList_build rfl 52 #[] rfl (by simp [built36]) ?_; simp only [List.map_toArray, List.map_nil, built36, Option.getD_some])
    | (refine wpList_store_row rfl 52 _ _ rfl (w.heap.size + 1) (arr 80 (fun _ => 0)) rfl rfl 52 _ (Blk.new' _ _ (by simp) _ _) (by rw [arr_size]; exact cells36) (by simp only [arr_size]) (arr_one _ _) ?_))
  clear hz
  go_loopw [4] (fun i wr => ∃ k : Nat, k ≤ 128 ∧ i = .int .i64 k ∧ Blk wr (w.heap.size + 1) (arr 80 (pw f k)) 52 ∧ Blk wr w.heap.size (arr 80 (fun _ => 0)) 52 ∧ Below w.heap.size w wr) (fun i _ => 128 - (intOf i).toNat)
  case atStart =>
    refine ⟨0, by omega, rfl, ?_, ?_, ?_⟩
    · exact ((Blk.new' (w.alloc _) (w.heap.size + 1) (by simp) _ _).row _).cast (arr_congr _ _ _ fun j _ => (pw_zero f j).symm)
    · exact ((Blk.new w _ _).alloc _).rowOther _ (by omega)
    · exact Below.row (((Below.refl _ w).alloc (Nat.le_refl _) _).alloc (by simp) _) (by omega) _
  case round =>
    obtain ⟨k, hk, rfl, B1, B2, L⟩ := hrel
    by_cases hlt : k < 128
    · have ca : wr.cell? (a.add k) = some (.int .u8 (f k : Nat)) := by
        rw [L.cell (p := a.add k) (by rw [add_block]; exact Hab.out)]; exact Hac.out k hlt
      have cw := B1.cell (k / 8)
      rw [arr_get _ _ _ (by omega), pw_at f k hlt] at cw
      have fw := B1.frozen (k / 8)
      have HB1 := hide B1
      have HB2 := hide B2
      have HL := hide L
      clear B1 B2 L
      have hk0 : (0 : Int) ≤ (k : Int) := by omega
      have hk8 : (k : Int) < 128 := by omega
      have hq0 : (0 : Int) ≤ (k : Int) / 8 := by omega
      have hq4 : (k : Int) / 8 < 80 := by omega
      have hq : IntKind.i64.wrap ((k : Int).tdiv 8) = (k : Int) / 8 := quo8 k hlt
      have hq' : IntKind.i64.wrap ((k : Int) / 8) = (k : Int) / 8 := quo8' k hlt
      have hqn : ((k : Int) / 8).toNat = k / 8 := by omega
      have hf8 := Hf.out k
      have Hs := hide (be_step2 f Hf.out k)
      go_wp2
      go_region_with (fail)
      all_goals
        go_wp2
        rw [Hs.out]
        go_roundw
        case rel =>
          refine ⟨k + 1, by omega, by go_num, ((HB1.out.set (k / 8) _).drew).cast ?_, (HB2.out.setOther _ _ (by omega)).drew, (HL.out.setCell (by show w.heap.size ≤ w.heap.size + 1; omega) _).drew⟩
          rw [arr_set]
          exact arr_congr _ _ _ fun j _ => pw_next f k j hlt
        case measure => simp [intOf]; omega
    · have e4 : k = 128 := by omega
      subst e4
      rw [show ((128 : Nat) : Int) = (128 : Int) from rfl]
      have HB1 := hide (B1.cast (arr_congr 80 _ (spd f 16) fun j _ => pw_full f j))
      have HB2 := hide B2
      have HL := hide L
      clear B1 B2 L
      go_wp2
      go_loopw [5] (fun i wr => ∃ k : Nat, 16 ≤ k ∧ k ≤ 80 ∧ i = .int .i64 k ∧ Blk wr (w.heap.size + 1) (arr 80 (spd f k)) 52 ∧ Blk wr w.heap.size (arr 80 (fun _ => 0)) 52 ∧ Below w.heap.size w wr) (fun i _ => 80 - (intOf i).toNat)
      case atStart => exact ⟨16, by omega, by omega, rfl, HB1.out, HB2.out, HL.out⟩
      case round =>
        clear HB1 HB2 HL
        obtain ⟨k, hk, hk2, rfl, B1, B2, L1⟩ := hrel
        by_cases hlt : k < 80
        · have c15 := B1.cell (k - 15)
          rw [arr_get _ _ _ (by omega), spd, if_pos (by omega)] at c15
          have c2 := B1.cell (k - 2)
          rw [arr_get _ _ _ (by omega), spd, if_pos (by omega)] at c2
          have c16 := B1.cell (k - 16)
          rw [arr_get _ _ _ (by omega), spd, if_pos (by omega)] at c16
          have c7 := B1.cell (k - 7)
          rw [arr_get _ _ _ (by omega), spd, if_pos (by omega)] at c7
          have cc := B1.cell k
          rw [arr_get _ _ _ hlt] at cc
          have fc := B1.frozen k
          have HB1 := hide B1
          have HB2 := hide B2
          have HL1 := hide L1
          clear B1 B2 L1
          have hk0 : (0 : Int) ≤ (k : Int) := by omega
          have hk8 : (k : Int) < 80 := by omega
          have s15 : IntKind.i64.wrap ((k : Int) - 15) = ((k - 15 : Nat) : Int) := i64_sub k 15 (by omega) (by omega)
          have s2 : IntKind.i64.wrap ((k : Int) - 2) = ((k - 2 : Nat) : Int) := i64_sub k 2 (by omega) (by omega)
          have s16 : IntKind.i64.wrap ((k : Int) - 16) = ((k - 16 : Nat) : Int) := i64_sub k 16 (by omega) (by omega)
          have s7 : IntKind.i64.wrap ((k : Int) - 7) = ((k - 7 : Nat) : Int) := i64_sub k 7 (by omega) (by omega)
          have b15 : ((k - 15 : Nat) : Int) < 80 := by omega
          have b2 : ((k - 2 : Nat) : Int) < 80 := by omega
          have b16 : ((k - 16 : Nat) : Int) < 80 := by omega
          have b7 : ((k - 7 : Nat) : Int) < 80 := by omega
          have Hn := hide (wt_next f k hk)
          have H15 := hide (wt_lt f Hf.out (k - 15))
          have H2 := hide (wt_lt f Hf.out (k - 2))
          obtain ⟨x15, e15⟩ : ∃ x, x = wt f (k - 15) := ⟨_, rfl⟩
          obtain ⟨x2, e2⟩ : ∃ x, x = wt f (k - 2) := ⟨_, rfl⟩
          obtain ⟨x16, e16⟩ : ∃ x, x = wt f (k - 16) := ⟨_, rfl⟩
          obtain ⟨x7, e7⟩ : ∃ x, x = wt f (k - 7) := ⟨_, rfl⟩
          rw [← e15] at c15 Hn H15
          rw [← e2] at c2 Hn H2
          rw [← e16] at c16 Hn
          rw [← e7] at c7 Hn
          clear e15 e2 e16 e7
          have Hg0 := hide (sg0_int x15 H15.out)
          have Hg1 := hide (sg1_int x2 H2.out)
          go_wp2
          go_quiet (first
            | (go_at_call_of 34 (Value.int IntKind.i64 1); exact Calls.quiet_of_same (turn_at x15 1 _ _ (by rfl) H15.out (by omega) (by omega)))
            | (go_at_call_of 34 (Value.int IntKind.i64 8); exact Calls.quiet_of_same (turn_at x15 8 _ _ (by rfl) H15.out (by omega) (by omega))))
          go_wp2
          rw [Hg0.out]
          clear c15 b15 s15 Hg0
          obtain ⟨y0, ey0⟩ : ∃ y, y = sg0 x15 := ⟨_, rfl⟩
          rw [← ey0]
          have Hy0 := hide ey0
          clear ey0
          have HB1a : Hid (Blk (wr.drewN nq) (w.heap.size + 1) (arr 80 (spd f k)) 52) := HB1
          have HB2a : Hid (Blk (wr.drewN nq) w.heap.size (arr 80 (fun _ => 0)) 52) := HB2
          have HL1a : Hid (Below w.heap.size w (wr.drewN nq)) := hide (Below.drewN HL1.out nq)
          have c2a : (wr.drewN nq).cell? ⟨w.heap.size + 1, k - 2, none⟩ = some (.int .u64 x2) := c2
          have c16a : (wr.drewN nq).cell? ⟨w.heap.size + 1, k - 16, none⟩ = some (.int .u64 x16) := c16
          have c7a : (wr.drewN nq).cell? ⟨w.heap.size + 1, k - 7, none⟩ = some (.int .u64 x7) := c7
          have cca : (wr.drewN nq).cell? ⟨w.heap.size + 1, k, none⟩ = some (.int .u64 (spd f k k : Nat)) := cc
          have fca : (wr.drewN nq).frozen? ⟨w.heap.size + 1, k, none⟩ = false := fc
          clear HB1 HB2 HL1 c2 c16 c7 cc fc
          generalize wr.drewN nq = wq at *
          go_quiet (first
            | (go_at_call_of 34 (Value.int IntKind.i64 19); exact Calls.quiet_of_same (turn_at x2 19 _ _ (by rfl) H2.out (by omega) (by omega)))
            | (go_at_call_of 34 (Value.int IntKind.i64 61); exact Calls.quiet_of_same (turn_at x2 61 _ _ (by rfl) H2.out (by omega) (by omega))))
          go_wp2
          rw [Hg1.out]
          clear Hg1
          obtain ⟨y1, ey1⟩ : ∃ y, y = sg1 x2 := ⟨_, rfl⟩
          rw [← ey1]
          have Hy1 := hide ey1
          clear ey1
          have HB1b : Hid (Blk (wq.drewN nq) (w.heap.size + 1) (arr 80 (spd f k)) 52) := HB1a
          have HB2b : Hid (Blk (wq.drewN nq) w.heap.size (arr 80 (fun _ => 0)) 52) := HB2a
          have HL1b : Hid (Below w.heap.size w (wq.drewN nq)) := hide (Below.drewN HL1a.out nq)
          have c2b : (wq.drewN nq).cell? ⟨w.heap.size + 1, k - 2, none⟩ = some (.int .u64 x2) := c2a
          have c16b : (wq.drewN nq).cell? ⟨w.heap.size + 1, k - 16, none⟩ = some (.int .u64 x16) := c16a
          have c7b : (wq.drewN nq).cell? ⟨w.heap.size + 1, k - 7, none⟩ = some (.int .u64 x7) := c7a
          have ccb : (wq.drewN nq).cell? ⟨w.heap.size + 1, k, none⟩ = some (.int .u64 (spd f k k : Nat)) := cca
          have fcb : (wq.drewN nq).frozen? ⟨w.heap.size + 1, k, none⟩ = false := fca
          clear HB1a HB2a HL1a c2a c16a c7a cca fca
          generalize wq.drewN nq = wz at *
          have n16 : ¬ (k : Nat) = k - 16 := by omega
          have n7 : ¬ (k : Nat) = k - 7 := by omega
          have Hk16 := hide (fun v => cell_ne wz (w.heap.size + 1) k (k - 16) v n16)
          have Hk7 := hide (fun v => cell_ne wz (w.heap.size + 1) k (k - 7) v n7)
          have Hsc := hide (four_int x16 x7 y0 y1)
          clear c2b s2 b2
          go_region_held3 (fun w' => w'.cell? ⟨w.heap.size + 1, k - 16, none⟩ = some (.int .u64 x16) ∧ w'.cell? ⟨w.heap.size + 1, k - 7, none⟩ = some (.int .u64 x7)) (first | exact ⟨c16b, c7b⟩ | exact ⟨(Hk16.out _).trans c16b, (Hk7.out _).trans c7b⟩) (fail)
          go_wp2
          rw [Hsc.out, Hy0.out, Hy1.out, ← Hn.out]
          go_roundw
          case rel =>
            refine ⟨k + 1, by omega, by omega, by go_num, ((HB1b.out.set k _).drew).cast ?_, (HB2b.out.setOther _ _ (by omega)).drew, (HL1b.out.setCell (by show w.heap.size ≤ w.heap.size + 1; omega) _).drew⟩
            rw [arr_set]
            refine arr_congr _ _ _ fun j _ => ?_
            unfold spd
            by_cases h1 : j = k
            · subst h1; simp
            · by_cases h2 : j < k
              · simp [h1, h2, show j < k + 1 by omega]
              · simp [h1, h2, show ¬ j < k + 1 by omega]
          case measure => simp [intOf]; omega
        · have e4 : k = 80 := by omega
          subst e4
          have HB1 := hide (B1.cast (arr_congr 80 _ (wt f) fun j hj => by simp [spd, hj]))
          have HB2 := hide B2
          have HL := hide L1
          clear B1 B2 L1
          go_wp2_with (first
            | (refine wpList_load_row rfl 52 _ rfl (w.heap.size + 1) rfl 52 _ (0, 0) _ HB1.out Tryd.underlying52 rfl (by rw [arr_size]; exact cells36) ?_)
            | (refine wpList_store_row rfl 52 _ _ rfl w.heap.size (arr 80 (wt f)) rfl rfl 52 _ HB2.out (by rw [arr_size]; exact cells36) (by rw [arr_size, arr_size]) (arr_one _ _) ?_))
          refine bodyPost_ret (v := .agg (arr 80 (wt f))) (results_cell_row Tryd.results33 _ _ w.heap.size 52 _ (0, 0) _ rfl (HB2.out.row _) Tryd.underlying52 rfl (by rw [arr_size]; exact cells36)) rfl ⟨rfl, ?_⟩
          exact Below.row HL.out (Nat.le_refl _) _
theorem words_at (A : Option Addr) (l : List Nat) (cap : Nat) (args : Array Value) (w : World) (h : args = #[.slice A 128 cap]) (hA : Rds w A l) (hl : l.length = 128) (hx : ∀ x ∈ l, x < 256) :
    Calls Tryd.prog 33 args w fun e w' => e = .returned (.agg (arr 80 (wt (fun j => l.getD j 0)))) ∧ Below w.heap.size w w' := by
  subst h; exact words_any A l cap w hA hl hx
end Go.Proofs.YtjnjedannpnjiaaDoor

/- Texts in one: Sa Sb Sc Sd. -/
import Derived.Deep.DeepCutAuto
import Derived.Test.YtbpmakegimgbpaaGreatDoorSh
namespace Go.Proofs.YtbpmakegimgbpaaGreatDoor.S

theorem byt0 (i : Nat) : byt 0 i = 0 := by unfold byt; simp
theorem d_pos (i : Nat) : 0 < 2 ^ (8 * i) := Nat.two_pow_pos _
theorem d_succ (i : Nat) : 2 ^ (8 * (i + 1)) = 2 ^ (8 * i) * 256 := by rw [Nat.mul_add, Nat.mul_one, Nat.pow_add]
theorem d_split (A k : Nat) : A / 2 ^ (8 * k) = 256 * (A / 2 ^ (8 * (k + 1))) + byt A k := by
  rw [d_succ, ← Nat.div_div_eq_div_mul]; unfold byt; omega
theorem mod_split (A k : Nat) : A % 2 ^ (8 * (k + 1)) = A % 2 ^ (8 * k) + 2 ^ (8 * k) * byt A k := by
  rw [d_succ, Nat.mod_mul]; rfl
theorem lex_lt (M x y x0 y0 : Nat) (hx : x0 < M) (hy : y0 < M) : (x0 + M * x < y0 + M * y) ↔ (x < y ∨ (x = y ∧ x0 < y0)) := by
  constructor
  · intro h
    by_cases h1 : x < y
    · exact .inl h1
    · right
      by_cases h2 : x = y
      · subst h2; exact ⟨rfl, by omega⟩
      · exfalso
        have : M * (y + 1) ≤ M * x := Nat.mul_le_mul_left M (by omega)
        rw [Nat.mul_add] at this
        omega
  · rintro (h | ⟨rfl, h⟩)
    · have : M * (x + 1) ≤ M * y := Nat.mul_le_mul_left M (by omega)
      rw [Nat.mul_add] at this
      omega
    · omega
/-- The borrow into place k. -/
def bw (A B k : Nat) : Nat := if A % 2 ^ (8 * k) < B % 2 ^ (8 * k) then 1 else 0
theorem bw_le (A B k : Nat) : bw A B k ≤ 1 := by unfold bw; split <;> omega
theorem bw_zero (A B : Nat) : bw A B 0 = 0 := by unfold bw; simp [Nat.mod_one]
theorem bw_succ (A B k : Nat) : bw A B (k + 1) = 1 - (byt A k + 256 - byt B k - bw A B k) / 256 := by
  have ha := byt_lt A k
  have hb := byt_lt B k
  have hA := Nat.mod_lt A (d_pos k)
  have hB := Nat.mod_lt B (d_pos k)
  have key := lex_lt (2 ^ (8 * k)) (byt A k) (byt B k) _ _ hA hB
  unfold bw
  rw [mod_split, mod_split]
  by_cases h0 : A % 2 ^ (8 * k) < B % 2 ^ (8 * k)
  · rw [if_pos h0]
    by_cases h1 : A % 2 ^ (8 * k) + 2 ^ (8 * k) * byt A k < B % 2 ^ (8 * k) + 2 ^ (8 * k) * byt B k
    · rw [if_pos h1]
      have := key.1 h1
      omega
    · rw [if_neg h1]
      have : ¬ (byt A k < byt B k ∨ (byt A k = byt B k ∧ A % 2 ^ (8 * k) < B % 2 ^ (8 * k))) := fun h => h1 (key.2 h)
      omega
  · rw [if_neg h0]
    by_cases h1 : A % 2 ^ (8 * k) + 2 ^ (8 * k) * byt A k < B % 2 ^ (8 * k) + 2 ^ (8 * k) * byt B k
    · rw [if_pos h1]
      have := key.1 h1
      omega
    · rw [if_neg h1]
      have : ¬ (byt A k < byt B k ∨ (byt A k = byt B k ∧ A % 2 ^ (8 * k) < B % 2 ^ (8 * k))) := fun h => h1 (key.2 h)
      omega
theorem sub_div (M a1 b1 a0 b0 : Nat) (ha : a0 < M) (hb : b0 < M) (h : M * b1 + b0 ≤ M * a1 + a0) : (M * a1 + a0 - (M * b1 + b0)) / M = a1 - b1 - (if a0 < b0 then 1 else 0) ∧ b1 + (if a0 < b0 then 1 else 0) ≤ a1 := by
  by_cases h0 : a0 < b0
  · rw [if_pos h0]
    have h1 : b1 + 1 ≤ a1 := by
      apply Classical.byContradiction
      intro hc
      have : M * a1 ≤ M * b1 := Nat.mul_le_mul_left M (by omega)
      omega
    refine ⟨?_, h1⟩
    obtain ⟨c, rfl⟩ : ∃ c, a1 = b1 + 1 + c := ⟨a1 - b1 - 1, by omega⟩
    rw [show M * (b1 + 1 + c) + a0 - (M * b1 + b0) = (M + a0 - b0) + M * c by rw [Nat.mul_add, Nat.mul_add]; omega, Nat.add_mul_div_left _ _ (by omega), Nat.div_eq_of_lt (by omega)]
    omega
  · rw [if_neg h0]
    have h1 : b1 ≤ a1 := by
      apply Classical.byContradiction
      intro hc
      have : M * (a1 + 1) ≤ M * b1 := Nat.mul_le_mul_left M (by omega)
      rw [Nat.mul_add] at this
      omega
    refine ⟨?_, by omega⟩
    obtain ⟨c, rfl⟩ : ∃ c, a1 = b1 + c := ⟨a1 - b1, by omega⟩
    rw [show M * (b1 + c) + a0 - (M * b1 + b0) = (a0 - b0) + M * c by rw [Nat.mul_add]; omega, Nat.add_mul_div_left _ _ (by omega), Nat.div_eq_of_lt (by omega)]
    omega
theorem byt_sub (A B k : Nat) (h : B ≤ A) : byt (A - B) k = (byt A k + 256 - byt B k - bw A B k) % 256 := by
  have hA := Nat.mod_lt A (d_pos k)
  have hB := Nat.mod_lt B (d_pos k)
  have eA := Nat.div_add_mod A (2 ^ (8 * k))
  have eB := Nat.div_add_mod B (2 ^ (8 * k))
  have hs := sub_div (2 ^ (8 * k)) (A / 2 ^ (8 * k)) (B / 2 ^ (8 * k)) _ _ hA hB (by rw [eA, eB]; exact h)
  rw [eA, eB] at hs
  have hb := bw_le A B k
  unfold byt
  rw [hs.1]
  have h2 := hs.2
  unfold bw at hb ⊢
  generalize (if A % 2 ^ (8 * k) < B % 2 ^ (8 * k) then 1 else 0) = b at *
  generalize A / 2 ^ (8 * k) = a1 at *
  generalize B / 2 ^ (8 * k) = b1 at *
  omega
theorem same_up (A B k : Nat) (h : A / 2 ^ (8 * (k + 1)) = B / 2 ^ (8 * (k + 1))) (hd : byt A k = byt B k) : A / 2 ^ (8 * k) = B / 2 ^ (8 * k) := by
  rw [d_split A k, d_split B k, h, hd]
theorem lt_up (A B k : Nat) (h : A / 2 ^ (8 * (k + 1)) = B / 2 ^ (8 * (k + 1))) (hd : byt A k ≠ byt B k) : decide (A < B) = decide (byt A k < byt B k) := by
  have e1 := d_split A k
  have e2 := d_split B k
  rw [h] at e1
  rw [Bool.eq_iff_iff, decide_eq_true_eq, decide_eq_true_eq]
  constructor
  · intro hl
    have : A / 2 ^ (8 * k) ≤ B / 2 ^ (8 * k) := Nat.div_le_div_right (Nat.le_of_lt hl)
    omega
  · intro hl
    apply Classical.byContradiction
    intro hc
    have : B / 2 ^ (8 * k) ≤ A / 2 ^ (8 * k) := Nat.div_le_div_right (by omega)
    omega
/-- The bit that goes into place k. -/
def tb (n b k : Nat) : Nat := if k = 0 then b else byt n (k - 1) / 128
theorem tb_next (n b k : Nat) : tb n b (k + 1) = byt n k / 128 := by
  unfold tb; rw [if_neg (by omega)]; rfl
theorem twice_div (M q r b : Nat) (hr : r < 256 * M) (hb : b ≤ 1) : (2 * (256 * M * q + r) + b) / (256 * M) = 2 * q + r / M / 128 := by
  have hM : 0 < M := by rcases Nat.eq_zero_or_pos M with h | h; subst h; omega; exact h
  have e1 : r / M / 128 = r / (M * 128) := Nat.div_div_eq_div_mul _ _ _
  rw [e1, show 2 * (256 * M * q + r) + b = (2 * r + b) + 256 * M * (2 * q) by rw [Nat.mul_left_comm (256 * M) 2 q, Nat.mul_add]; omega, Nat.add_mul_div_left _ _ (by omega)]
  by_cases h : r < M * 128
  · rw [Nat.div_eq_of_lt h, Nat.div_eq_of_lt (by omega)]; omega
  · have e2 : r / (M * 128) = 1 := by
      exact Nat.div_eq_of_lt_le (k := 1) (by omega) (by omega)
    have e3 : (2 * r + b) / (256 * M) = 1 := by
      exact Nat.div_eq_of_lt_le (k := 1) (by omega) (by omega)
    omega
theorem byt_twice (n b k : Nat) (hb : b ≤ 1) : byt (2 * n + b) k = byt n k * 2 % 256 + tb n b k := by
  rcases Nat.eq_zero_or_pos k with h | h
  · subst h; unfold tb byt; simp; omega
  · obtain ⟨j, rfl⟩ : ∃ j, k = j + 1 := ⟨k - 1, by omega⟩
    rw [tb_next]
    have hM := d_pos j
    have e := Nat.div_add_mod n (256 * 2 ^ (8 * j))
    have hr := Nat.mod_lt n (show 0 < 256 * 2 ^ (8 * j) by omega)
    have hk := twice_div (2 ^ (8 * j)) (n / (256 * 2 ^ (8 * j))) (n % (256 * 2 ^ (8 * j))) b hr hb
    rw [e] at hk
    have e1 : 2 ^ (8 * (j + 1)) = 256 * 2 ^ (8 * j) := by rw [d_succ, Nat.mul_comm]
    have e2 : n % (256 * 2 ^ (8 * j)) / 2 ^ (8 * j) = byt n j := by
      rw [Nat.mul_comm, Nat.mod_mul_right_div_self]; rfl
    rw [e2] at hk
    have h3 := byt_lt n j
    unfold byt at hk h3 ⊢
    rw [e1, hk]
    generalize n / (256 * 2 ^ (8 * j)) = q
    generalize n / 2 ^ (8 * j) % 256 = c at *
    omega
theorem bit_byt (m i : Nat) : byt m (i / 8) / 2 ^ (i % 8) % 2 = m / 2 ^ i % 2 := by
  unfold byt
  have h8 : 256 = 2 ^ (i % 8) * (2 * 2 ^ (8 - i % 8 - 1)) := by
    rw [show 2 ^ (i % 8) * (2 * 2 ^ (8 - i % 8 - 1)) = 2 ^ (i % 8) * (2 ^ 1 * 2 ^ (8 - i % 8 - 1)) from rfl, ← Nat.pow_add, ← Nat.pow_add, show 256 = 2 ^ 8 from rfl]; congr 1; omega
  rw [h8, Nat.mod_mul_right_div_self, Nat.mod_mul_right_mod, Nat.div_div_eq_div_mul, ← Nat.pow_add]
  congr 3; omega
end Go.Proofs.YtbpmakegimgbpaaGreatDoor.S
namespace Go.Proofs.YtbpmakegimgbpaaGreatDoor.S
set_option maxRecDepth 100000
open Go.RowKit

set_option maxHeartbeats 1000000 in
theorem rOrder_any (w : World) :
    Calls Tryz.prog 74 #[] w fun e w' => e = .returned (ba (byt qL)) ∧ Below w.heap.size w w' := by
  have HZ := hide (Blk.new w (vals .u8 32 (fun _ => 0)) 22)
  have L0 := hide ((Below.refl w.heap.size w).alloc (Nat.le_refl _) (.cells (vals .u8 32 (fun _ => 0)) 22))
  go_enter Tryz.func74, Tryz.ntmps74
  go_wp2_with (first
    | (refine wpList_build_w (by rfl) 22 _ rfl (vals .u8 32 (byt qL)) (by kernel_rfl) ?_)
    | (refine wpList_store_row rfl 22 _ _ rfl w.heap.size (vals .u8 32 (byt qL)) rfl (by first | rfl | (rw [← ordB]; rfl)) 22 _ HZ.out (by rw [vals_size]; exact cells23) (by rw [vals_size, vals_size]) (vals_one _ _ _) ?_))
  refine bodyPost_ret (v := .agg (vals .u8 32 (byt qL))) (results_cell_row Tryz.results74 _ _ w.heap.size 22 _ (0, 0) _ rfl (HZ.out.row _) Tryz.underlying22 rfl (by rw [vals_size]; exact cells23)) rfl ⟨rfl, ?_⟩
  exact Below.row L0.out (Nat.le_refl _) _
theorem rOrder_at (args : Array Value) (w : World) (h : args = #[]) :
    Calls Tryz.prog 74 args w fun e w' => e = .returned (ba (byt qL)) ∧ Below w.heap.size w w' := by
  subst h; exact rOrder_any w

set_option maxHeartbeats 1000000 in
theorem rBelow_any (a b : Nat) (w : World) (ha : a < 2 ^ 256) (hb : b < 2 ^ 256) :
    Calls Tryz.prog 73 #[ba (byt a), ba (byt b)] w fun e w' => e = .returned (.bool (decide (a < b))) ∧ Below w.heap.size w w' := by
  have Ha := hide ha
  have Hb := hide hb
  clear ha hb
  unfold ba
  go_enter Tryz.func73, Tryz.ntmps73
  go_wp2
  go_loopw [5] (fun i wr => ∃ k : Nat, k ≤ 32 ∧ i = .int .i64 ((k : Int) - 1) ∧ a / 2 ^ (8 * k) = b / 2 ^ (8 * k) ∧ Blk wr w.heap.size (vals .u8 32 (byt a)) 22 ∧ Blk wr (w.heap.size + 1) (vals .u8 32 (byt b)) 22 ∧ Below w.heap.size w wr) (fun i _ => (intOf i + 1).toNat)
  case atStart =>
    refine ⟨32, by omega, rfl, ?_, ?_, ?_, ?_⟩
    · rw [Nat.div_eq_of_lt (show a < 2 ^ (8 * 32) from Ha.out), Nat.div_eq_of_lt (show b < 2 ^ (8 * 32) from Hb.out)]
    · exact (Blk.new w _ _).alloc _
    · exact Blk.new' (w.alloc _) (w.heap.size + 1) (by simp) _ _
    · exact ((Below.refl _ w).alloc (Nat.le_refl _) _).alloc (by simp) _
  case round =>
    obtain ⟨k, hk, rfl, hd, Ba, Bb, L⟩ := hrel
    have HL := hide L
    have Hd := hide hd
    clear L hd
    rcases Nat.eq_zero_or_pos k with h0 | h0
    · subst h0
      rw [show ((0 : Nat) : Int) - 1 = -1 from rfl]
      clear Ba Bb
      go_wp2
      go_ret
      have e : a = b := by have := Hd.out; simpa using this
      exact ⟨by subst e; simp, HL.out⟩
    · obtain ⟨m, rfl⟩ : ∃ m, k = m + 1 := ⟨k - 1, by omega⟩
      rw [show ((m + 1 : Nat) : Int) - 1 = (m : Int) by omega]
      have ca := Ba.cell m
      rw [vals_get _ _ _ _ (by omega)] at ca
      have cb := Bb.cell m
      rw [vals_get _ _ _ _ (by omega)] at cb
      have HBa := hide Ba
      have HBb := hide Bb
      clear Ba Bb
      have hk0 : (0 : Int) ≤ (m : Int) := by omega
      have hk4 : (m : Int) < 32 := by omega
      by_cases hne : byt a m = byt b m
      · have hbne : (((byt a m : Nat) : Int) != ((byt b m : Nat) : Int)) = false := by rw [hne]; simp
        have Hne := hide hne
        clear hne
        go_wp2
        go_region_with (fail)
        all_goals
          go_wp2
          go_roundw
          case rel => exact ⟨m, by omega, by go_num, same_up a b m Hd.out Hne.out, HBa.out.drew, HBb.out.drew, HL.out.drew⟩
          case measure => simp [intOf]
      · have hbne : (((byt a m : Nat) : Int) != ((byt b m : Nat) : Int)) = true := by rw [bne_iff_ne]; omega
        have Hr := hide (lt_up a b m Hd.out hne)
        clear hne
        go_wp2
        go_region_with (fail)
        all_goals
          go_wp2
          go_region_with (fail)
          all_goals
            go_wp2
            go_ret
            exact ⟨ret_bool (by rw [Hr.out]), HL.out.drew.drew⟩
theorem rBelow_at (a b : Nat) (r : Bool) (args : Array Value) (w : World) (h : args = #[ba (byt a), ba (byt b)]) (ha : a < 2 ^ 256) (hb : b < 2 ^ 256) (hr : decide (a < b) = r) :
    Calls Tryz.prog 73 args w fun e w' => e = .returned (.bool r) ∧ Below w.heap.size w w' := by subst h hr; exact rBelow_any a b w ha hb

theorem twice_sum (n b k : Nat) (hb : b ≤ 1) : (((byt n k : Nat) : Int) * 2 + ((tb n b k : Nat) : Int)) % 256 = ((byt (2 * n + b) k : Nat) : Int) := by
  have h1 := byt_twice n b k hb
  have h2 := byt_lt (2 * n + b) k
  omega
set_option maxHeartbeats 1000000 in
theorem rTwice_any (n b : Nat) (w : World) (hb : b ≤ 1) :
    Calls Tryz.prog 92 #[ba (byt n), .int .u8 b] w fun e w' => e = .returned (ba (byt (2 * n + b))) ∧ Below w.heap.size w w' := by
  have Hb := hide hb
  clear hb
  unfold ba
  go_enter Tryz.func92, Tryz.ntmps92
  go_wp2_with (first
    | (refine wpList_build rfl 22 #[] rfl (by simp [built23]) ?_; simp only [List.map_toArray, List.map_nil, built23, Option.getD_some])
    | (refine wpList_store_row rfl 22 _ _ rfl (w.heap.size + 2) (vals .u8 32 (fun _ => 0)) rfl rfl 22 _ (Blk.new' _ _ (by simp) _ _) (by rw [vals_size]; exact cells23) (by rw [vals_size]; rfl) (vals_one _ _ _) ?_))
  go_loopw [6, 7] (fun c i wr => ∃ k : Nat, k ≤ 32 ∧ i = .int .i64 k ∧ c = .int .u8 (tb n b k : Nat) ∧ Blk wr w.heap.size (vals .u8 32 (byt n)) 22 ∧ (∃ z, z.size = 32 ∧ Blk wr (w.heap.size + 1) z 22) ∧ Blk wr (w.heap.size + 2) (vals .u8 32 (fun j => if j < k then byt (2 * n + b) j else 0)) 22 ∧ Below w.heap.size w wr) (fun _ i _ => 32 - (intOf i).toNat)
  case atStart =>
    refine ⟨0, by omega, rfl, rfl, ?_, ⟨vals .u8 32 (fun _ => 0), vals_size _ _ _, ?_⟩, ?_, ?_⟩
    · exact (((Blk.new w _ _).alloc _).alloc _).rowOther _ (by omega)
    · exact ((Blk.new' (w.alloc _) (w.heap.size + 1) (by simp) _ _).alloc _).rowOther _ (by omega)
    · exact ((Blk.new' ((w.alloc _).alloc _) (w.heap.size + 2) (by simp) _ _).row _).cast (vals_congr _ _ _ _ fun j _ => by simp)
    · exact Below.row ((((Below.refl _ w).alloc (Nat.le_refl _) _).alloc (by simp) _).alloc (by simp; omega) _) (by omega) _
  case round =>
    obtain ⟨k, hk, rfl, rfl, Bx, ⟨z, hz, Bz⟩, Bo, L⟩ := hrel
    by_cases hlt : k < 32
    · have cx := Bx.cell k
      rw [vals_get _ _ _ _ hlt] at cx
      have cb := Bo.cell k
      rw [vals_get _ _ _ _ (by omega)] at cb
      have fb := Bo.frozen k
      have HX := hide (Bx.setOther (b' := w.heap.size + 2) k (.int .u8 (byt (2 * n + b) k : Nat)) (by omega))
      have cx2 := HX.out.cell k
      rw [vals_get _ _ _ _ hlt] at cx2
      have Hw := hide (twice_sum n b k Hb.out)
      have Hn : Hid (((byt n k : Nat) : Int) / 128 = ((tb n b (k + 1) : Nat) : Int)) := hide (by rw [tb_next]; rfl)
      have HBz := hide Bz
      have HB := hide (upd_vals .u8 32 (fun _ => 0) (byt (2 * n + b)) k _ _ _ Bo)
      have HL := hide L
      clear Bx Bz Bo L
      have hk0 : (0 : Int) ≤ (k : Int) := by omega
      have hk4 : (k : Int) < 32 := by omega
      go_wp2
      rw [Hn.out, Hw.out]
      go_roundw
      case rel => exact ⟨k + 1, by omega, by go_num, rfl, HX.out, ⟨z, hz, HBz.out.setOther _ _ (by omega)⟩, HB.out, HL.out.setCell (by show w.heap.size ≤ w.heap.size + 2; omega) _⟩
      case measure => simp [intOf]; omega
    · have e4 : k = 32 := by omega
      subst e4
      have HB := hide (Bo.cast (vals_congr _ 32 _ (byt (2 * n + b)) fun j hj => by simp [hj]))
      have HBz := hide Bz
      have HL := hide L
      clear Bx Bz Bo L
      go_wp2_with (first
        | (refine wpList_load_row rfl 22 _ rfl (w.heap.size + 2) rfl 22 _ (0, 0) _ HB.out Tryz.underlying22 rfl (by rw [vals_size]; exact cells23) ?_)
        | (refine wpList_store_row rfl 22 _ _ rfl (w.heap.size + 1) (vals .u8 32 (byt (2 * n + b))) rfl rfl 22 z HBz.out (by rw [vals_size]; exact cells23) (by rw [vals_size]; exact hz) (vals_one _ _ _) ?_))
      refine bodyPost_ret (v := .agg (vals .u8 32 (byt (2 * n + b)))) (results_cell_row Tryz.results92 _ _ (w.heap.size + 1) 22 _ (0, 0) _ rfl (HBz.out.row _) Tryz.underlying22 rfl (by rw [vals_size]; exact cells23)) rfl ⟨rfl, ?_⟩
      exact Below.row HL.out (by omega) _
theorem rTwice_at (n b : Nat) (args : Array Value) (w : World) (h : args = #[ba (byt n), .int .u8 b]) (hb : b ≤ 1) :
    Calls Tryz.prog 92 args w fun e w' => e = .returned (ba (byt (2 * n + b))) ∧ Below w.heap.size w w' := by subst h; exact rTwice_any n b w hb

theorem less_dif (a b k : Nat) (h : byt a k < byt b k + bw a b k) (hle : b ≤ a) : ((byt a k : Nat) : Int) - ((byt b k : Nat) : Int) - ((bw a b k : Nat) : Int) < 0 ∧ bw a b (k + 1) = 1 ∧ ((byt a k : Nat) : Int) - ((byt b k : Nat) : Int) - ((bw a b k : Nat) : Int) + 256 = ((byt (a - b) k : Nat) : Int) := by
  have h1 := byt_lt a k
  have h2 := byt_lt b k
  have h3 := bw_le a b k
  have h4 := bw_succ a b k
  have h5 := byt_sub a b k hle
  generalize byt (a - b) k = d at *
  generalize byt a k = x at *
  generalize byt b k = y at *
  generalize bw a b k = c at *
  generalize bw a b (k + 1) = c' at *
  omega
theorem less_not (a b k : Nat) (h : ¬ byt a k < byt b k + bw a b k) (hle : b ≤ a) : ¬ ((byt a k : Nat) : Int) - ((byt b k : Nat) : Int) - ((bw a b k : Nat) : Int) < 0 ∧ bw a b (k + 1) = 0 ∧ ((byt a k : Nat) : Int) - ((byt b k : Nat) : Int) - ((bw a b k : Nat) : Int) = ((byt (a - b) k : Nat) : Int) := by
  have h1 := byt_lt a k
  have h2 := byt_lt b k
  have h3 := bw_le a b k
  have h4 := bw_succ a b k
  have h5 := byt_sub a b k hle
  generalize byt (a - b) k = d at *
  generalize byt a k = x at *
  generalize byt b k = y at *
  generalize bw a b k = c at *
  generalize bw a b (k + 1) = c' at *
  omega
set_option maxHeartbeats 1000000 in
theorem rLess_any (a b : Nat) (w : World) (h : b ≤ a) :
    Calls Tryz.prog 93 #[ba (byt a), ba (byt b)] w fun e w' => e = .returned (ba (byt (a - b))) ∧ Below w.heap.size w w' := by
  have Hle := hide h
  clear h
  unfold ba
  go_enter Tryz.func93, Tryz.ntmps93
  go_wp2_with (first
    | (refine wpList_build rfl 22 #[] rfl (by simp [built23]) ?_; simp only [List.map_toArray, List.map_nil, built23, Option.getD_some])
    | (refine wpList_store_row rfl 22 _ _ rfl (w.heap.size + 3) (vals .u8 32 (fun _ => 0)) rfl rfl 22 _ (Blk.new' _ _ (by simp) _ _) (by rw [vals_size]; exact cells23) (by rw [vals_size]; rfl) (vals_one _ _ _) ?_))
  go_loopw [6, 7] (fun c i wr => ∃ k : Nat, k ≤ 32 ∧ i = .int .i64 k ∧ c = .int .i64 (bw a b k : Nat) ∧ Blk wr w.heap.size (vals .u8 32 (byt a)) 22 ∧ Blk wr (w.heap.size + 1) (vals .u8 32 (byt b)) 22 ∧ (∃ z, z.size = 32 ∧ Blk wr (w.heap.size + 2) z 22) ∧ Blk wr (w.heap.size + 3) (vals .u8 32 (fun j => if j < k then byt (a - b) j else 0)) 22 ∧ Below w.heap.size w wr) (fun _ i _ => 32 - (intOf i).toNat)
  case atStart =>
    refine ⟨0, by omega, rfl, by rw [bw_zero]; rfl, ?_, ?_, ⟨vals .u8 32 (fun _ => 0), vals_size _ _ _, ?_⟩, ?_, ?_⟩
    · exact ((((Blk.new w _ _).alloc _).alloc _).alloc _).rowOther _ (by omega)
    · exact (((Blk.new' (w.alloc _) (w.heap.size + 1) (by simp) _ _).alloc _).alloc _).rowOther _ (by omega)
    · exact ((Blk.new' ((w.alloc _).alloc _) (w.heap.size + 2) (by simp) _ _).alloc _).rowOther _ (by omega)
    · exact ((Blk.new' (((w.alloc _).alloc _).alloc _) (w.heap.size + 3) (by simp) _ _).row _).cast (vals_congr _ _ _ _ fun j _ => by simp)
    · exact Below.row (((((Below.refl _ w).alloc (Nat.le_refl _) _).alloc (by simp) _).alloc (by simp; omega) _).alloc (by simp; omega) _) (by omega) _
  case round =>
    obtain ⟨k, hk, rfl, rfl, Ba, Bb, ⟨z, hz, Bz⟩, Bo, L⟩ := hrel
    by_cases hlt : k < 32
    · have ca := Ba.cell k
      rw [vals_get _ _ _ _ (by omega)] at ca
      have cb := Bb.cell k
      rw [vals_get _ _ _ _ (by omega)] at cb
      have co := Bo.cell k
      rw [vals_get _ _ _ _ (by omega)] at co
      have fo' := Bo.frozen k
      have HBo := hide (upd_vals .u8 32 (fun _ => 0) (byt (a - b)) k _ _ _ Bo.drew)
      have HBa := hide Ba
      have HBb := hide Bb
      have HBz := hide Bz
      have HL := hide L
      have hba := byt_lt a k
      have hbb := byt_lt b k
      have hbw := bw_le a b k
      have hk0 : (0 : Int) ≤ (k : Int) := by omega
      have hk4 : (k : Int) < 32 := by omega
      clear Ba Bb Bz Bo L
      by_cases hn : byt a k < byt b k + bw a b k
      · obtain ⟨d1, d2, d3⟩ := less_dif a b k hn Hle.out
        obtain ⟨n, hne⟩ : ∃ n : Int, n = ((byt a k : Nat) : Int) - ((byt b k : Nat) : Int) - ((bw a b k : Nat) : Int) := ⟨_, rfl⟩
        rw [← hne] at d1 d3
        have w1 : IntKind.i64.wrap (IntKind.i64.wrap (((byt a k : Nat) : Int) - ((byt b k : Nat) : Int)) - ((bw a b k : Nat) : Int)) = n := by
          simp only [IntKind.wrap, IntKind.bits, IntKind.signed]; simp; omega
        have w2 : ((byt a k : Nat) : Int) - ((byt b k : Nat) : Int) - ((bw a b k : Nat) : Int) = n := hne.symm
        have hnl : -512 ≤ n := by omega
        have D2 := hide d2
        have D3 := hide d3
        clear d2 d3 hn hne
        go_wp2
        go_region_with (fail)
        all_goals
          go_wp2
          rw [D3.out]
          go_roundw
          case rel => exact ⟨k + 1, by omega, by go_num, by rw [D2.out]; rfl, (HBa.out.setOther _ _ (by omega)).drew, (HBb.out.setOther _ _ (by omega)).drew, ⟨z, hz, (HBz.out.setOther _ _ (by omega)).drew⟩, HBo.out, (HL.out.setCell (by show w.heap.size ≤ w.heap.size + 3; omega) _).drew⟩
          case measure => simp [intOf]; omega
      · obtain ⟨d1, d2, d3⟩ := less_not a b k hn Hle.out
        obtain ⟨n, hne⟩ : ∃ n : Int, n = ((byt a k : Nat) : Int) - ((byt b k : Nat) : Int) - ((bw a b k : Nat) : Int) := ⟨_, rfl⟩
        rw [← hne] at d1 d3
        have w1 : IntKind.i64.wrap (IntKind.i64.wrap (((byt a k : Nat) : Int) - ((byt b k : Nat) : Int)) - ((bw a b k : Nat) : Int)) = n := by
          simp only [IntKind.wrap, IntKind.bits, IntKind.signed]; simp; omega
        have w2 : ((byt a k : Nat) : Int) - ((byt b k : Nat) : Int) - ((bw a b k : Nat) : Int) = n := hne.symm
        have hnl : n < 256 := by omega
        have hnz : 0 ≤ n := by omega
        have D2 := hide d2
        have D3 := hide d3
        clear d2 d3 hn hne
        go_wp2
        go_region_with (fail)
        all_goals
          go_wp2
          rw [D3.out]
          go_roundw
          case rel => exact ⟨k + 1, by omega, by go_num, by rw [D2.out]; rfl, (HBa.out.setOther _ _ (by omega)).drew, (HBb.out.setOther _ _ (by omega)).drew, ⟨z, hz, (HBz.out.setOther _ _ (by omega)).drew⟩, HBo.out, (HL.out.setCell (by show w.heap.size ≤ w.heap.size + 3; omega) _).drew⟩
          case measure => simp [intOf]; omega
    · have e4 : k = 32 := by omega
      subst e4
      have HB := hide (Bo.cast (vals_congr _ 32 _ (byt (a - b)) fun j hj => by simp [hj]))
      have HBz := hide Bz
      have HL := hide L
      clear Ba Bb Bz Bo L
      go_wp2_with (first
        | (refine wpList_load_row rfl 22 _ rfl (w.heap.size + 3) rfl 22 _ (0, 0) _ HB.out Tryz.underlying22 rfl (by rw [vals_size]; exact cells23) ?_)
        | (refine wpList_store_row rfl 22 _ _ rfl (w.heap.size + 2) (vals .u8 32 (byt (a - b))) rfl rfl 22 z HBz.out (by rw [vals_size]; exact cells23) (by rw [vals_size]; exact hz) (vals_one _ _ _) ?_))
      refine bodyPost_ret (v := .agg (vals .u8 32 (byt (a - b)))) (results_cell_row Tryz.results93 _ _ (w.heap.size + 2) 22 _ (0, 0) _ rfl (HBz.out.row _) Tryz.underlying22 rfl (by rw [vals_size]; exact cells23)) rfl ⟨rfl, ?_⟩
      exact Below.row HL.out (by omega) _
theorem rLess_at (a b : Nat) (args : Array Value) (w : World) (h : args = #[ba (byt a), ba (byt b)]) (hle : b ≤ a) :
    Calls Tryz.prog 93 args w fun e w' => e = .returned (ba (byt (a - b))) ∧ Below w.heap.size w w' := by subst h; exact rLess_any a b w hle

end Go.Proofs.YtbpmakegimgbpaaGreatDoor.S
namespace Go.Proofs.YtbpmakegimgbpaaGreatDoor.S
set_option maxRecDepth 100000
open Go.RowKit

/-- What stays through a round: the bytes that are divided, and the answer's place. -/
def rS (N p : Nat) (f : Nat → Nat) (t : TypeId) (w w' : World) : Prop := Blk w' p (vals .u8 N f) t ∧ Blk w' w.heap.size (vals .u8 32 (fun _ => 0)) 22 ∧ Below w.heap.size w w'
theorem rS.call {N p : Nat} {f : Nat → Nat} {t : TypeId} {w u v : World} (s : rS N p f t w u) (hb : Below u.heap.size u v) : rS N p f t w v := ⟨s.1.call hb, s.2.1.call hb, s.2.2.trans (hb.mono s.2.2.size)⟩
theorem rS.row {N p : Nat} {f : Nat → Nat} {t : TypeId} {w u : World} (s : rS N p f t w u) (hp : p < w.heap.size) (cs : Array Value) : rS N p f t w (u.setRow (w.heap.size + 1) cs) := ⟨s.1.rowOther cs (by omega), s.2.1.rowOther cs (by omega), Below.row s.2.2 (by omega) cs⟩
theorem bit_u8 (m q n : Nat) (hn : n = byt m (q / 8)) : bits .and .u8 ((n : Int) / 2 ^ (q % 8)) 1 = ((m / 2 ^ q % 2 : Nat) : Int) := by
  have h1 := byt_lt m (q / 8)
  rw [show (n : Int) / 2 ^ (q % 8) = ((n / 2 ^ (q % 8) : Nat) : Int) by simp]
  have h2 : n / 2 ^ (q % 8) < 256 := Nat.lt_of_le_of_lt (Nat.div_le_self _ _) (by omega)
  have := u8_and_nat (n / 2 ^ (q % 8)) 1 (by omega) (by omega)
  rw [show ((1 : Nat) : Int) = 1 from rfl] at this
  rw [this, show 1 = 2 ^ 1 - 1 from rfl, Nat.and_two_pow_sub_one_eq_mod, hn, show 2 ^ 1 = 2 from rfl, bit_byt]
theorem rp_start (m N : Nat) (h : m < 2 ^ (8 * N)) : rp m (8 * N) = 0 := by unfold rp; rw [Nat.div_eq_of_lt h, Nat.zero_mod]

set_option maxHeartbeats 4000000 in
theorem rMod_any (N p : Nat) (f : Nat → Nat) (t : TypeId) (w : World) (hB : Blk w p (vals .u8 N f) t) (hf : ∀ i, f i < 256) (hN : N ≤ 100) :
    Calls Tryz.prog 46 #[.slice (some ⟨p, 0, none⟩) N N] w fun e w' => e = .returned (ba (byt (nb f N % qL))) ∧ Below w.heap.size w w' := by
  have HB := hide hB
  have Hp := hide hB.lt
  have Hm := hide (nb_lt f hf N)
  have Hby : Hid (∀ i, i < N → f i = byt (nb f N) i) := hide fun i hi => (byt_nb f hf N i hi).symm
  obtain ⟨m, hm⟩ : ∃ m, m = nb f N := ⟨_, rfl⟩
  rw [← hm] at Hm Hby
  have HM := hide hm
  have w1 : IntKind.i64.wrap (8 * (N : Int)) = 8 * (N : Int) := wrap_i64_small' _ (by omega) (by omega)
  have w2 : IntKind.i64.wrap (8 * (N : Int) - 1) = 8 * (N : Int) - 1 := by simp only [IntKind.wrap, IntKind.bits, IntKind.signed]; simp; omega
  clear hB hm
  have Hf := hide hf
  clear hf
  go_enter Tryz.func46, Tryz.ntmps46
  go_wp2_with (first
    | (refine wpList_build rfl 22 #[] rfl (by simp [built23]) ?_; simp only [List.map_toArray, List.map_nil, built23, Option.getD_some])
    | (refine wpList_store_row rfl 22 _ _ rfl (w.heap.size + 1) (vals .u8 32 (fun _ => 0)) rfl rfl 22 _ (Blk.new' _ _ (by simp) _ _) (by rw [vals_size]; exact cells23) (by rw [vals_size]; rfl) (vals_one _ _ _) ?_))
  clear w1 w2
  go_loopw [4] (fun i wr => ∃ k : Nat, k ≤ 8 * N ∧ i = .int .i64 ((k : Int) - 1) ∧ Blk wr (w.heap.size + 1) (vals .u8 32 (byt (rp m k))) 22 ∧ rS N p f t w wr) (fun i _ => (intOf i + 1).toNat)
  case atStart =>
    refine ⟨8 * N, by omega, by go_num, ?_, ?_, ?_, ?_⟩
    · exact ((Blk.new' (w.alloc _) (w.heap.size + 1) (by simp) _ _).row _).cast (vals_congr _ _ _ _ fun j _ => by rw [rp_start m N Hm.out, byt0])
    · exact ((HB.out.alloc _).alloc _).rowOther _ (by have := Hp.out; omega)
    · exact ((Blk.new w _ _).alloc _).rowOther _ (by omega)
    · exact Below.row (((Below.refl _ w).alloc (Nat.le_refl _) _).alloc (by simp) _) (by omega) _
  case round =>
    obtain ⟨k, hk, rfl, Bo, hS⟩ := hrel
    have HO := hide Bo
    have HS := hide hS
    clear Bo hS
    rcases Nat.eq_zero_or_pos k with h0 | h0
    · subst h0
      rw [show ((0 : Nat) : Int) - 1 = -1 from rfl]
      go_wp2_with (first
        | (refine wpList_load_row rfl 22 _ rfl (w.heap.size + 1) rfl 22 _ (0, 0) _ HO.out Tryz.underlying22 rfl (by rw [vals_size]; exact cells23) ?_)
        | (refine wpList_store_row rfl 22 _ _ rfl w.heap.size (vals .u8 32 (byt (rp m 0))) rfl rfl 22 _ HS.out.2.1 (by rw [vals_size]; exact cells23) (by rw [vals_size, vals_size]) (vals_one _ _ _) ?_))
      refine bodyPost_ret (v := .agg (vals .u8 32 (byt (rp m 0)))) (results_cell_row Tryz.results46 _ _ w.heap.size 22 _ (0, 0) _ rfl (HS.out.2.1.row _) Tryz.underlying22 rfl (by rw [vals_size]; exact cells23)) rfl ⟨by rw [rp_zero, HM.out]; rfl, ?_⟩
      exact Below.row HS.out.2.2 (Nat.le_refl _) _
    · obtain ⟨q, rfl⟩ : ∃ q, k = q + 1 := ⟨k - 1, by omega⟩
      rw [show ((q + 1 : Nat) : Int) - 1 = (q : Int) by omega]
      have Hqn := hide (show q / 8 < N by omega)
      have Hbit := bit_u8 m q (f (q / 8)) (Hby.out _ Hqn.out)
      have Hsq : sq (2 * rp m (q + 1) + m / 2 ^ q % 2) = rp m q := sq_next m q
      have Hlt : 2 * rp m (q + 1) + m / 2 ^ q % 2 < 2 ^ 256 := next_lt m q
      obtain ⟨b, hbe⟩ : ∃ b, b = m / 2 ^ q % 2 := ⟨_, rfl⟩
      have HHb : Hid (b ≤ 1) := hide (by omega)
      rw [← hbe] at Hbit Hsq Hlt
      obtain ⟨r, hre⟩ : ∃ r, r = rp m (q + 1) := ⟨_, rfl⟩
      rw [← hre] at HO Hsq Hlt
      obtain ⟨s, hse⟩ : ∃ s, s = rp m q := ⟨_, rfl⟩
      rw [← hse] at Hsq
      have HSE := hide hse
      obtain ⟨n2, hn2⟩ : ∃ n2, n2 = 2 * r + b := ⟨_, rfl⟩
      rw [← hn2] at Hsq Hlt
      have HN2 := hide hn2
      have HHsq := hide Hsq
      have HHlt := hide Hlt
      clear hbe hre hse hn2 Hsq Hlt
      have hq0 : (0 : Int) ≤ (q : Int) := by omega
      have hd0 : (0 : Int) ≤ (q : Int) / 8 := by omega
      have hd4 : (q : Int) / 8 < (N : Int) := by have := Hqn.out; omega
      have hdw : IntKind.i64.wrap ((q : Int).tdiv 8) = (q : Int) / 8 := by rw [Int.tdiv_eq_ediv_of_nonneg (by omega), wrap_i64_small' _ (by omega) (by omega)]
      have hdw' : IntKind.i64.wrap ((q : Int) / 8) = (q : Int) / 8 := wrap_i64_small' _ (by omega) (by omega)
      have hdn : ((q : Int) / 8).toNat = q / 8 := by omega
      have hr : IntKind.i64.wrap ((q : Int).tmod 8) = (q : Int) % 8 := by rw [Int.tmod_eq_emod_of_nonneg (by omega), wrap_i64_small' _ (by omega) (by omega)]
      have hr' : (q : Int).tmod 8 = (q : Int) % 8 := by rw [Int.tmod_eq_emod_of_nonneg (by omega)]
      have hr0 : (0 : Int) ≤ (q : Int) % 8 := by omega
      have hr4 : (q : Int) % 8 < 8 := by omega
      have hrw : IntKind.u64.wrap ((q : Int) % 8) = (q : Int) % 8 := by rw [wrap_u64']; omega
      have hrn : ((q : Int) % 8).toNat = q % 8 := by omega
      have hf8 := Hf.out (q / 8)
      go_upto_region 5 with (fail)
      obtain ⟨wr0, hwr0⟩ : ∃ wr0, wr0 = wr := ⟨_, rfl⟩
      rw [← hwr0]
      rw [← hwr0] at HO HS
      clear hwr0
      refine wp_region_held_drew (S := rS N p f t w) (by kernel_rfl) ⟨HS.out.1.drew, HS.out.2.1.drew, HS.out.2.2.drew⟩ (fun hHeld => ?_)
      have O_0 := hide HO.out.drew
      clear HO HS
      refine wpAnyH_take (i := 1) (oi := { dst := some 15, op := Op.move (Operand.tmp 0), type := 23, pos := "ref.go:53", after := #[], guard := none }) (v := .slice (some ⟨p, 0, none⟩) N N) rfl (by kernel_rfl) (by kernel_rfl) (by kernel_rfl) (fun _ _ _ h => h) (Or.inl ⟨by rfl, fun w hSw => by go_simp⟩) hHeld ?_
      try simp only [Act.put, List.setIfInBounds_toArray, List.set_cons_zero, List.set_cons_succ]
      refine wpAnyH_take (i := 2) (oi := { dst := some 16, op := Op.move (Operand.tmp 4), type := 3, pos := "ref.go:53", after := #[], guard := none }) (v := .int .i64 (q : Int)) rfl (by kernel_rfl) (by kernel_rfl) (by kernel_rfl) (fun _ _ _ h => h) (Or.inl ⟨by rfl, fun w hSw => by go_simp⟩) hHeld ?_
      try simp only [Act.put, List.setIfInBounds_toArray, List.set_cons_zero, List.set_cons_succ]
      refine wpAnyH_take (i := 3) (oi := { dst := some 17, op := Op.binOp BinOp.quo 3 (Operand.tmp 16) (Operand.const (Value.int IntKind.i64 8)) 3, type := 3, pos := "ref.go:53", after := #[{ on := 2, ground := Ground.data }], guard := none }) (v := .int .i64 ((q : Int) / 8)) rfl (by kernel_rfl) (by kernel_rfl) (by kernel_rfl) (fun _ _ _ h => h) (Or.inl ⟨by rfl, fun w hSw => by go_simp⟩) hHeld ?_
      try simp only [Act.put, List.setIfInBounds_toArray, List.set_cons_zero, List.set_cons_succ]
      refine wpAnyH_take (i := 4) (oi := { dst := some 18, op := Op.indexAddr 23 (Operand.tmp 15) (Operand.tmp 17), type := 0, pos := "ref.go:53", after := #[{ on := 1, ground := Ground.data }, { on := 3, ground := Ground.data }], guard := none }) (v := .pointer (some ⟨p, q / 8, none⟩)) rfl (by kernel_rfl) (by kernel_rfl) (by kernel_rfl) (fun _ _ _ h => h) (Or.inl ⟨by rfl, fun w hSw => by go_simp⟩) hHeld ?_
      try simp only [Act.put, List.setIfInBounds_toArray, List.set_cons_zero, List.set_cons_succ]
      refine wpAnyH_take (i := 5) (oi := { dst := some 19, op := Op.load 5 (Operand.tmp 18), type := 5, pos := "ref.go:53", after := #[{ on := 4, ground := Ground.data }], guard := none }) (v := .int .u8 (f (q / 8) : Nat)) rfl (by kernel_rfl) (by kernel_rfl) (by kernel_rfl) (fun _ _ _ h => h) (Or.inl ⟨by rfl, fun w hSw => by have cc := hSw.1.cell (q / 8); rw [vals_get _ _ _ _ Hqn.out] at cc; go_simp⟩) hHeld ?_
      try simp only [Act.put, List.setIfInBounds_toArray, List.set_cons_zero, List.set_cons_succ]
      refine wpAnyH_take (i := 6) (oi := { dst := some 20, op := Op.move (Operand.tmp 4), type := 3, pos := "ref.go:53", after := #[], guard := none }) (v := .int .i64 (q : Int)) rfl (by kernel_rfl) (by kernel_rfl) (by kernel_rfl) (fun _ _ _ h => h) (Or.inl ⟨by rfl, fun w hSw => by go_simp⟩) hHeld ?_
      try simp only [Act.put, List.setIfInBounds_toArray, List.set_cons_zero, List.set_cons_succ]
      refine wpAnyH_take (i := 7) (oi := { dst := some 21, op := Op.binOp BinOp.rem 3 (Operand.tmp 20) (Operand.const (Value.int IntKind.i64 8)) 3, type := 3, pos := "ref.go:53", after := #[{ on := 6, ground := Ground.data }], guard := none }) (v := .int .i64 ((q : Int) % 8)) rfl (by kernel_rfl) (by kernel_rfl) (by kernel_rfl) (fun _ _ _ h => h) (Or.inl ⟨by rfl, fun w hSw => by go_simp⟩) hHeld ?_
      try simp only [Act.put, List.setIfInBounds_toArray, List.set_cons_zero, List.set_cons_succ]
      refine wpAnyH_take (i := 8) (oi := { dst := some 22, op := Op.convert 3 113 (Operand.tmp 21), type := 113, pos := "ref.go:53", after := #[{ on := 7, ground := Ground.data }], guard := none }) (v := .int .u64 ((q : Int) % 8)) rfl (by kernel_rfl) (by kernel_rfl) (by kernel_rfl) (fun _ _ _ h => h) (Or.inl ⟨by rfl, fun w hSw => by go_simp⟩) hHeld ?_
      try simp only [Act.put, List.setIfInBounds_toArray, List.set_cons_zero, List.set_cons_succ]
      refine wpAnyH_take (i := 9) (oi := { dst := some 23, op := Op.binOp BinOp.shr 5 (Operand.tmp 19) (Operand.tmp 22) 113, type := 5, pos := "ref.go:53", after := #[{ on := 5, ground := Ground.data }, { on := 8, ground := Ground.data }], guard := none }) (v := .int .u8 (((f (q / 8) : Nat) : Int) / 2 ^ (q % 8))) rfl (by kernel_rfl) (by kernel_rfl) (by kernel_rfl) (fun _ _ _ h => h) (Or.inl ⟨by rfl, fun w hSw => by go_simp⟩) hHeld ?_
      try simp only [Act.put, List.setIfInBounds_toArray, List.set_cons_zero, List.set_cons_succ]
      refine wpAnyH_take (i := 10) (oi := { dst := some 24, op := Op.binOp BinOp.and 5 (Operand.tmp 23) (Operand.const (Value.int IntKind.u8 1)) 5, type := 5, pos := "ref.go:53", after := #[{ on := 9, ground := Ground.data }], guard := none }) (v := .int .u8 (b : Nat)) rfl (by kernel_rfl) (by kernel_rfl) (by kernel_rfl) (fun _ _ _ h => h) (Or.inl ⟨by rfl, fun w hSw => by go_simp⟩) hHeld ?_
      try simp only [Act.put, List.setIfInBounds_toArray, List.set_cons_zero, List.set_cons_succ]
      refine wpAnyH_ready (rs := [0]) (by kernel_rfl) (by simp) ?_
      refine AllReadyH.cons (o := { dst := some 14, op := Op.load 22 (Operand.tmp 3), type := 22, pos := "ref.go:53", after := #[], guard := none }) rfl (fun K hK => ?_) AllReadyH.nil
      rw [if_pos (by rfl)]
      refine wp_load_row 22 _ rfl (w.heap.size + 1) rfl 22 (vals .u8 32 (byt r)) (0, 0) _ O_0.out Tryz.underlying22 rfl (by rw [vals_size]; exact cells23) ?_
      refine hK.out _ _ hHeld (fun hHeld => ?_)
      clear hK K
      try simp only [Act.put, List.setIfInBounds_toArray, List.set_cons_zero, List.set_cons_succ]
      refine wpAnyH_ready (rs := [11]) (by kernel_rfl) (by simp) ?_
      refine AllReadyH.cons (o := { dst := some 25, op := Op.call { callee := Callee.value (Operand.func 92), args := #[Operand.tmp 14, Operand.tmp 24], argTypes := #[22, 5] }, type := 22, pos := "ref.go:53", after := #[{ on := 0, ground := Ground.data }, { on := 10, ground := Ground.data }], guard := none }) rfl (fun K hK => ?_) AllReadyH.nil
      go_simp
      refine (rTwice_at r b _ _ (by rfl) HHb.out).mono ?_
      rw [← HN2.out]
      unfold ba
      rintro e x1 ⟨rfl, hb⟩
      have O_1 := hide (O_0.out.call hb)
      dsimp only
      refine hK.out _ _ (hHeld.call hb) (fun hHeld => ?_)
      clear hK K hb
      try simp only [Act.put, List.setIfInBounds_toArray, List.set_cons_zero, List.set_cons_succ]
      refine wpAnyH_ready (rs := [12]) (by kernel_rfl) (by simp) ?_
      refine AllReadyH.cons (o := { dst := none, op := Op.store 22 (Operand.tmp 3) (Operand.tmp 25), type := 0, pos := "ref.go:53", after := #[{ on := 11, ground := Ground.data }, { on := 11, ground := Ground.chain }, { on := 0, ground := Ground.phase }, { on := 1, ground := Ground.phase }, { on := 2, ground := Ground.phase }, { on := 3, ground := Ground.phase }, { on := 4, ground := Ground.phase }, { on := 5, ground := Ground.phase }, { on := 6, ground := Ground.phase }, { on := 7, ground := Ground.phase }, { on := 8, ground := Ground.phase }, { on := 9, ground := Ground.phase }, { on := 10, ground := Ground.phase }, { on := 11, ground := Ground.phase }], guard := none }) rfl (fun K hK => ?_) AllReadyH.nil
      rw [if_pos (by rfl)]
      refine wp_store_row 22 _ _ rfl (w.heap.size + 1) (vals .u8 32 (byt n2)) rfl rfl 22 _ O_1.out (by rw [vals_size]; exact cells23) (by rw [vals_size, vals_size]) (vals_one _ _ _) ?_
      refine hK.out _ _ (hHeld.row Hp.out _) (fun hHeld => ?_)
      clear hK K
      simp only [Act.put]
      refine wpAnyH_done (by kernel_rfl) ?_ _
      have O_2 := hide (O_1.out.row (vals .u8 32 (byt n2)))
      have S_2 := hide hHeld
      clear O_0 O_1 hHeld Hbit hq0 hd0 hd4 hdw hdw' hdn hr hr' hr0 hr4 hrw hrn hf8
      obtain ⟨x2, hx2⟩ : ∃ x2, x2 = x1.setRow (w.heap.size + 1) (vals .u8 32 (byt n2)) := ⟨_, rfl⟩
      rw [← hx2]
      rw [← hx2] at O_2 S_2
      clear hx2
      go_upto_region 6 with (fail)
      obtain ⟨c, hc⟩ : ∃ c, decide (n2 < qL) = c := ⟨_, rfl⟩
      have Hc := hide hc
      clear hc
      refine wp_region_held_drew (S := fun w' => Below x2.heap.size x2 w') (by kernel_rfl) (Below.refl _ _).drew (fun hHeld => ?_)
      refine wpAnyH_take (i := 0) (oi := { dst := some 26, op := Op.load 22 (Operand.tmp 3), type := 22, pos := "ref.go:54", after := #[], guard := none }) (v := .agg (vals .u8 32 (byt n2))) rfl (by kernel_rfl) (by kernel_rfl) (by kernel_rfl) (fun _ _ _ h => h) (yields_blk O_2.out (by rfl) 22 _ rfl rfl _ Tryz.underlying22 rfl (by rw [vals_size]; exact cells23)) hHeld ?_
      try simp only [Act.put, List.setIfInBounds_toArray, List.set_cons_zero, List.set_cons_succ]
      refine wpAnyH_ready (rs := [1]) (by kernel_rfl) (by simp) ?_
      refine AllReadyH.cons (o := { dst := some 27, op := Op.call { callee := Callee.value (Operand.func 74), args := #[], argTypes := #[] }, type := 22, pos := "ref.go:54", after := #[], guard := none }) rfl (fun K hK => ?_) AllReadyH.nil
      go_simp
      refine (rOrder_at _ _ (by rfl)).mono ?_
      unfold ba
      rintro e x3 ⟨rfl, hb⟩
      have HTx3 := hide (hHeld.trans (hb.mono hHeld.size))
      dsimp only
      refine hK.out _ _ HTx3.out (fun hHeld => ?_)
      clear hK K hb
      try simp only [Act.put, List.setIfInBounds_toArray, List.set_cons_zero, List.set_cons_succ]
      refine wpAnyH_ready (rs := [2]) (by kernel_rfl) (by simp) ?_
      refine AllReadyH.cons (o := { dst := some 28, op := Op.call { callee := Callee.value (Operand.func 73), args := #[Operand.tmp 26, Operand.tmp 27], argTypes := #[22, 22] }, type := 4, pos := "ref.go:54", after := #[{ on := 0, ground := Ground.data }, { on := 1, ground := Ground.data }, { on := 1, ground := Ground.chain }], guard := none }) rfl (fun K hK => ?_) AllReadyH.nil
      go_simp
      refine (rBelow_at n2 qL c _ _ (by rfl) HHlt.out qL_lt256 Hc.out).mono ?_
      rintro e x4 ⟨rfl, hb⟩
      have HTx4 := hide (hHeld.trans (hb.mono hHeld.size))
      dsimp only
      refine hK.out _ _ HTx4.out (fun hHeld => ?_)
      clear hK K hb
      try simp only [Act.put, List.setIfInBounds_toArray, List.set_cons_zero, List.set_cons_succ]
      refine wpAnyH_take (i := 3) (oi := { dst := some 29, op := Op.unOp UnOp.not 4 (Operand.tmp 28), type := 4, pos := "ref.go:54", after := #[{ on := 2, ground := Ground.data }], guard := none }) (v := .bool (!c)) rfl (by kernel_rfl) (by kernel_rfl) (by kernel_rfl) (fun _ _ _ h => h) (Or.inl ⟨by rfl, fun w hSw => by go_simp⟩) hHeld ?_
      try simp only [Act.put, List.setIfInBounds_toArray, List.set_cons_zero, List.set_cons_succ]
      refine wpAnyH_done (by kernel_rfl) ?_ _
      have O_4 := hide (O_2.out.call HTx4.out)
      have S_4 := hide (S_2.out.call HTx4.out)
      clear O_2 S_2 HTx3 HTx4 hHeld
      rcases c with _ | _
      · skip
        have hge : qL ≤ n2 := by have := Hc.out; simp at this; omega
        have Hge := hide hge
        have Hs : Hid (n2 - qL = s) := hide (by rw [← HHsq.out]; unfold sq; rw [if_neg (by omega)])
        clear hge
        simp only [Bool.not_false]
        go_upto_region 7 with (fail)
        refine wp_region_held_drew (S := rS N p f t w) (by kernel_rfl) ⟨S_4.out.1.drew, S_4.out.2.1.drew, S_4.out.2.2.drew⟩ (fun hHeld => ?_)
        have O_5 := hide O_4.out.drew
        clear O_4 S_4
        refine wpAnyH_ready (rs := [0, 1]) (by kernel_rfl) (by simp) ?_
        refine AllReadyH.cons (o := { dst := some 30, op := Op.load 22 (Operand.tmp 3), type := 22, pos := "ref.go:55", after := #[], guard := none }) rfl (fun K hK => ?_) ?_
        · skip
          rw [if_pos (by rfl)]
          refine wp_load_row 22 _ rfl (w.heap.size + 1) rfl 22 (vals .u8 32 (byt n2)) (0, 0) _ O_5.out Tryz.underlying22 rfl (by rw [vals_size]; exact cells23) ?_
          refine hK.out _ _ hHeld (fun hHeld => ?_)
          clear hK K
          try simp only [Act.put, List.setIfInBounds_toArray, List.set_cons_zero, List.set_cons_succ]
          refine wpAnyH_ready (rs := [1]) (by kernel_rfl) (by simp) ?_
          refine AllReadyH.cons (o := { dst := some 31, op := Op.call { callee := Callee.value (Operand.func 74), args := #[], argTypes := #[] }, type := 22, pos := "ref.go:55", after := #[], guard := none }) rfl (fun K hK => ?_) AllReadyH.nil
          go_simp
          refine (rOrder_at _ _ (by rfl)).mono ?_
          unfold ba
          rintro e x5 ⟨rfl, hb⟩
          have O_6 := hide (O_5.out.call hb)
          dsimp only
          refine hK.out _ _ (hHeld.call hb) (fun hHeld => ?_)
          clear hK K hb
          try simp only [Act.put, List.setIfInBounds_toArray, List.set_cons_zero, List.set_cons_succ]
          refine wpAnyH_ready (rs := [2]) (by kernel_rfl) (by simp) ?_
          refine AllReadyH.cons (o := { dst := some 32, op := Op.call { callee := Callee.value (Operand.func 93), args := #[Operand.tmp 30, Operand.tmp 31], argTypes := #[22, 22] }, type := 22, pos := "ref.go:55", after := #[{ on := 0, ground := Ground.data }, { on := 1, ground := Ground.data }, { on := 1, ground := Ground.chain }], guard := none }) rfl (fun K hK => ?_) AllReadyH.nil
          go_simp
          refine (rLess_at n2 qL _ _ (by rfl) Hge.out).mono ?_
          rw [Hs.out]
          unfold ba
          rintro e x6 ⟨rfl, hb⟩
          have O_7 := hide (O_6.out.call hb)
          dsimp only
          refine hK.out _ _ (hHeld.call hb) (fun hHeld => ?_)
          clear hK K hb
          try simp only [Act.put, List.setIfInBounds_toArray, List.set_cons_zero, List.set_cons_succ]
          refine wpAnyH_ready (rs := [3]) (by kernel_rfl) (by simp) ?_
          refine AllReadyH.cons (o := { dst := none, op := Op.store 22 (Operand.tmp 3) (Operand.tmp 32), type := 0, pos := "ref.go:55", after := #[{ on := 2, ground := Ground.data }, { on := 2, ground := Ground.chain }, { on := 0, ground := Ground.phase }, { on := 1, ground := Ground.phase }, { on := 2, ground := Ground.phase }], guard := none }) rfl (fun K hK => ?_) AllReadyH.nil
          rw [if_pos (by rfl)]
          refine wp_store_row 22 _ _ rfl (w.heap.size + 1) (vals .u8 32 (byt s)) rfl rfl 22 _ O_7.out (by rw [vals_size]; exact cells23) (by rw [vals_size, vals_size]) (vals_one _ _ _) ?_
          refine hK.out _ _ (hHeld.row Hp.out _) (fun hHeld => ?_)
          clear hK K
          simp only [Act.put]
          refine wpAnyH_done (by kernel_rfl) ?_ _
          have O_9 := hide (O_7.out.row (vals .u8 32 (byt s)))
          have S_9 := hide hHeld
          clear hHeld
          go_wp2
          go_roundw
          case rel => exact ⟨q, by omega, by go_num, O_9.out.cast (by rw [HSE.out]), S_9.out⟩
          case measure => simp [intOf]
        · refine AllReadyH.cons (o := { dst := some 31, op := Op.call { callee := Callee.value (Operand.func 74), args := #[], argTypes := #[] }, type := 22, pos := "ref.go:55", after := #[], guard := none }) rfl (fun K hK => ?_) AllReadyH.nil
          go_simp
          refine (rOrder_at _ _ (by rfl)).mono ?_
          unfold ba
          rintro e x5 ⟨rfl, hb⟩
          have O_6 := hide (O_5.out.call hb)
          dsimp only
          refine hK.out _ _ (hHeld.call hb) (fun hHeld => ?_)
          clear hK K hb
          try simp only [Act.put, List.setIfInBounds_toArray, List.set_cons_zero, List.set_cons_succ]
          refine wpAnyH_ready (rs := [0]) (by kernel_rfl) (by simp) ?_
          refine AllReadyH.cons (o := { dst := some 30, op := Op.load 22 (Operand.tmp 3), type := 22, pos := "ref.go:55", after := #[], guard := none }) rfl (fun K hK => ?_) AllReadyH.nil
          rw [if_pos (by rfl)]
          refine wp_load_row 22 _ rfl (w.heap.size + 1) rfl 22 (vals .u8 32 (byt n2)) (0, 0) _ O_6.out Tryz.underlying22 rfl (by rw [vals_size]; exact cells23) ?_
          refine hK.out _ _ hHeld (fun hHeld => ?_)
          clear hK K
          try simp only [Act.put, List.setIfInBounds_toArray, List.set_cons_zero, List.set_cons_succ]
          refine wpAnyH_ready (rs := [2]) (by kernel_rfl) (by simp) ?_
          refine AllReadyH.cons (o := { dst := some 32, op := Op.call { callee := Callee.value (Operand.func 93), args := #[Operand.tmp 30, Operand.tmp 31], argTypes := #[22, 22] }, type := 22, pos := "ref.go:55", after := #[{ on := 0, ground := Ground.data }, { on := 1, ground := Ground.data }, { on := 1, ground := Ground.chain }], guard := none }) rfl (fun K hK => ?_) AllReadyH.nil
          go_simp
          refine (rLess_at n2 qL _ _ (by rfl) Hge.out).mono ?_
          rw [Hs.out]
          unfold ba
          rintro e x6 ⟨rfl, hb⟩
          have O_7 := hide (O_6.out.call hb)
          dsimp only
          refine hK.out _ _ (hHeld.call hb) (fun hHeld => ?_)
          clear hK K hb
          try simp only [Act.put, List.setIfInBounds_toArray, List.set_cons_zero, List.set_cons_succ]
          refine wpAnyH_ready (rs := [3]) (by kernel_rfl) (by simp) ?_
          refine AllReadyH.cons (o := { dst := none, op := Op.store 22 (Operand.tmp 3) (Operand.tmp 32), type := 0, pos := "ref.go:55", after := #[{ on := 2, ground := Ground.data }, { on := 2, ground := Ground.chain }, { on := 0, ground := Ground.phase }, { on := 1, ground := Ground.phase }, { on := 2, ground := Ground.phase }], guard := none }) rfl (fun K hK => ?_) AllReadyH.nil
          rw [if_pos (by rfl)]
          refine wp_store_row 22 _ _ rfl (w.heap.size + 1) (vals .u8 32 (byt s)) rfl rfl 22 _ O_7.out (by rw [vals_size]; exact cells23) (by rw [vals_size, vals_size]) (vals_one _ _ _) ?_
          refine hK.out _ _ (hHeld.row Hp.out _) (fun hHeld => ?_)
          clear hK K
          simp only [Act.put]
          refine wpAnyH_done (by kernel_rfl) ?_ _
          have O_9 := hide (O_7.out.row (vals .u8 32 (byt s)))
          have S_9 := hide hHeld
          clear hHeld
          go_wp2
          go_roundw
          case rel => exact ⟨q, by omega, by go_num, O_9.out.cast (by rw [HSE.out]), S_9.out⟩
          case measure => simp [intOf]
      · skip
        have Hs : Hid (n2 = s) := hide (by have := Hc.out; simp at this; rw [← HHsq.out]; unfold sq; rw [if_pos this])
        simp only [Bool.not_true]
        go_wp2
        go_roundw
        case rel => exact ⟨q, by omega, by go_num, O_4.out.cast (by rw [Hs.out, HSE.out]), S_4.out⟩
        case measure => simp [intOf]
theorem rMod_at (N p : Nat) (f : Nat → Nat) (t : TypeId) (args : Array Value) (w : World) (h : args = #[.slice (some ⟨p, 0, none⟩) N N]) (hB : Blk w p (vals .u8 N f) t) (hf : ∀ i, f i < 256) (hN : N ≤ 100) :
    Calls Tryz.prog 46 args w fun e w' => e = .returned (ba (byt (nb f N % qL))) ∧ Below w.heap.size w w' := by subst h; exact rMod_any N p f t w hB hf hN

end Go.Proofs.YtbpmakegimgbpaaGreatDoor.S
namespace Go.Proofs.YtbpmakegimgbpaaGreatDoor.S
set_option maxRecDepth 100000
open Go.RowKit

theorem vals_nb (f : Nat → Nat) (hf : ∀ i, f i < 256) : vals .u8 32 f = vals .u8 32 (byt (nb f 32)) := vals_congr _ _ _ _ fun i hi => (byt_nb f hf 32 i hi).symm
set_option maxHeartbeats 1000000 in
theorem rReduce_any (f : Nat → Nat) (w : World) (hf : ∀ i, f i < 256) :
    Calls Tryz.prog 45 #[bb f] w fun e w' => e = .returned (ba (byt (nb f 64 % qL))) ∧ Below w.heap.size w w' := by
  have Hf := hide hf
  clear hf
  unfold bb
  have F0 := hide ((Blk.new w (vals .u8 64 f) 24).alloc (.cells (vals .u8 32 (fun _ => 0)) 22))
  have HZ := hide (Blk.new' (w.alloc (.cells (vals .u8 64 f) 24)) (w.heap.size + 1) (by simp) (vals .u8 32 (fun _ => 0)) 22)
  have L0 : Hid (Below w.heap.size w ((w.alloc (.cells (vals .u8 64 f) 24)).alloc (.cells (vals .u8 32 (fun _ => 0)) 22))) := hide (((Below.refl _ w).alloc (Nat.le_refl _) _).alloc (by simp) _)
  go_enter Tryz.func45, Tryz.ntmps45
  go_wp2_with (first
    | (go_at_call 46; refine (rMod_at 64 w.heap.size f 24 _ _ rfl F0.out Hf.out (by omega)).mono ?_; unfold ba; rintro e w1 ⟨rfl, hb1⟩; have HZ1 := hide (HZ.out.call hb1); have HL1 := hide (L0.out.trans (hb1.mono L0.out.size)); clear hb1; dsimp only)
    | (refine wpList_store_row rfl 22 _ _ rfl (w.heap.size + 1) (vals .u8 32 (byt (nb f 64 % qL))) rfl rfl 22 _ HZ1.out (by rw [vals_size]; exact cells23) (by rw [vals_size, vals_size]) (vals_one _ _ _) ?_))
  refine bodyPost_ret (v := .agg (vals .u8 32 (byt (nb f 64 % qL)))) (results_cell_row Tryz.results45 _ _ (w.heap.size + 1) 22 _ (0, 0) _ rfl (HZ1.out.row _) Tryz.underlying22 rfl (by rw [vals_size]; exact cells23)) rfl ⟨rfl, ?_⟩
  exact Below.row HL1.out (by omega) _
theorem rReduce_n (f : Nat → Nat) (n : Nat) (args : Array Value) (w : World) (h : args = #[bb f]) (hf : ∀ i, f i < 256) (hn : nb f 64 % qL = n) :
    Calls Tryz.prog 45 args w fun e w' => e = .returned (ba (byt n)) ∧ Below w.heap.size w w' := by subst h hn; exact rReduce_any f w hf

set_option maxHeartbeats 1000000 in
theorem rFine_any (f : Nat → Nat) (w : World) (hf : ∀ i, f i < 256) :
    Calls Tryz.prog 29 #[ba f] w fun e w' => e = .returned (.bool (decide (nb f 32 < qL))) ∧ Below w.heap.size w w' := by
  have Ha := hide (nb_lt f hf 32)
  unfold ba
  rw [vals_nb f hf]
  clear hf
  obtain ⟨a, ha⟩ : ∃ a, a = nb f 32 := ⟨_, rfl⟩
  rw [← ha] at Ha
  rw [← ha]
  clear ha
  have F0 := hide (Blk.new w (vals .u8 32 (byt a)) 22)
  have L0 := hide ((Below.refl w.heap.size w).alloc (Nat.le_refl _) (.cells (vals .u8 32 (byt a)) 22))
  go_enter Tryz.func29, Tryz.ntmps29
  go_upto_region 1 with (fail)
  obtain ⟨x0, hx0⟩ : ∃ x0, x0 = w.alloc (.cells (vals .u8 32 (byt a)) 22) := ⟨_, rfl⟩
  rw [← hx0]
  rw [← hx0] at F0 L0
  clear hx0
  refine wp_region_held_drew (S := fun w' => Below x0.heap.size x0 w') (by kernel_rfl) (Below.refl _ _).drew (fun hHeld => ?_)
  refine wpAnyH_take (i := 0) (oi := { dst := some 3, op := Op.load 22 (Operand.tmp 1), type := 22, pos := "ref.go:20", after := #[], guard := none }) (v := .agg (vals .u8 32 (byt a))) rfl (by kernel_rfl) (by kernel_rfl) (by kernel_rfl) (fun _ _ _ h => h) (yields_blk F0.out (by rfl) 22 _ rfl rfl _ Tryz.underlying22 rfl (by rw [vals_size]; exact cells23)) hHeld ?_
  try simp only [Act.put, List.setIfInBounds_toArray, List.set_cons_zero, List.set_cons_succ]
  refine wpAnyH_ready (rs := [1]) (by kernel_rfl) (by simp) ?_
  refine AllReadyH.cons (o := { dst := some 4, op := Op.call { callee := Callee.value (Operand.func 74), args := #[], argTypes := #[] }, type := 22, pos := "ref.go:20", after := #[], guard := none }) rfl (fun K hK => ?_) AllReadyH.nil
  go_simp
  refine (rOrder_at _ _ (by rfl)).mono ?_
  unfold ba
  rintro e x1 ⟨rfl, hb⟩
  have HTx1 := hide (hHeld.trans (hb.mono hHeld.size))
  dsimp only
  refine hK.out _ _ HTx1.out (fun hHeld => ?_)
  clear hK K hb
  try simp only [Act.put, List.setIfInBounds_toArray, List.set_cons_zero, List.set_cons_succ]
  refine wpAnyH_ready (rs := [2]) (by kernel_rfl) (by simp) ?_
  refine AllReadyH.cons (o := { dst := some 5, op := Op.call { callee := Callee.value (Operand.func 73), args := #[Operand.tmp 3, Operand.tmp 4], argTypes := #[22, 22] }, type := 4, pos := "ref.go:20", after := #[{ on := 0, ground := Ground.data }, { on := 1, ground := Ground.data }, { on := 1, ground := Ground.chain }], guard := none }) rfl (fun K hK => ?_) AllReadyH.nil
  go_simp
  refine (rBelow_at a qL (decide (a < qL)) _ _ (by rfl) Ha.out qL_lt256 rfl).mono ?_
  rintro e x2 ⟨rfl, hb⟩
  have HTx2 := hide (hHeld.trans (hb.mono hHeld.size))
  dsimp only
  refine hK.out _ _ HTx2.out (fun hHeld => ?_)
  clear hK K hb
  try simp only [Act.put, List.setIfInBounds_toArray, List.set_cons_zero, List.set_cons_succ]
  refine wpAnyH_take (i := 3) (oi := { dst := some 2, op := Op.assign (Operand.tmp 5), type := 4, pos := "ref.go:20", after := #[{ on := 2, ground := Ground.data }, { on := 2, ground := Ground.chain }, { on := 0, ground := Ground.phase }, { on := 1, ground := Ground.phase }, { on := 2, ground := Ground.phase }], guard := none }) (v := .bool (decide (a < qL))) rfl (by kernel_rfl) (by kernel_rfl) (by kernel_rfl) (fun _ _ _ h => h) (Or.inl ⟨by rfl, fun w hSw => by go_simp⟩) hHeld ?_
  try simp only [Act.put, List.setIfInBounds_toArray, List.set_cons_zero, List.set_cons_succ]
  refine wpAnyH_done (by kernel_rfl) ?_ _
  go_wp2
  go_ret
  exact ⟨rfl, L0.out.trans (HTx2.out.mono L0.out.size)⟩
theorem rFine_n (f : Nat → Nat) (b : Bool) (args : Array Value) (w : World) (h : args = #[ba f]) (hf : ∀ i, f i < 256) (hb : decide (nb f 32 < qL) = b) :
    Calls Tryz.prog 29 args w fun e w' => e = .returned (.bool b) ∧ Below w.heap.size w w' := by subst h hb; exact rFine_any f w hf

end Go.Proofs.YtbpmakegimgbpaaGreatDoor.S

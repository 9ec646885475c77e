/- FieldBytes' walk: for all 32 bytes the law returns true. -/
import Derived.Test.YtbjcfibpiiplaaaWq
import Derived.Test.YtbjcfibpiiplaaaWt
namespace Go.Proofs.Ytbjcfibpiiplaaa
open Go.RowKit

theorem nb_shift (f : Nat → Nat) : ∀ k, nb f (k + 1) = f 0 + 256 * nb (fun i => f (i + 1)) k
  | 0 => by simp [nb]
  | k + 1 => by
    rw [nb, nb_shift f k, nb, show 8 * (k + 1) = 8 + 8 * k by omega, Nat.pow_add, Nat.mul_add, Nat.mul_left_comm (f (k + 1)), Nat.add_assoc]
theorem nb_max (g : Nat → Nat) (hg : ∀ i, g i < 256) : ∀ k, (nb g k = 2 ^ (8 * k) - 1 ↔ ∀ i, i < k → g i = 255)
  | 0 => by simp [nb]
  | k + 1 => by
    have ih := nb_max g hg k
    have hl := nb_lt g hg k
    have hp : 0 < 2 ^ (8 * k) := Nat.two_pow_pos _
    have e : 2 ^ (8 * (k + 1)) = 256 * 2 ^ (8 * k) := by rw [show 8 * (k + 1) = 8 + 8 * k by omega, Nat.pow_add]
    have hk := hg k
    rw [nb, e]
    constructor
    · intro h
      have hgk : g k = 255 := by
        apply Classical.byContradiction
        intro hne
        have : g k * 2 ^ (8 * k) ≤ 254 * 2 ^ (8 * k) := Nat.mul_le_mul_right _ (by omega)
        omega
      rw [hgk] at h
      have := ih.1 (by omega)
      intro i hi
      by_cases hik : i = k
      · subst hik; exact hgk
      · exact this i (by omega)
    · intro h
      have h1 := ih.2 (fun i hi => h i (by omega))
      rw [h k (by omega), h1]
      omega
/-- Below, so far: the bytes from 1 to k - 1 have been looked at. -/
def bl (f : Nat → Nat) : Nat → Bool
  | 0 => decide (f 31 < 127)
  | 1 => decide (f 31 < 127)
  | k + 2 => bl f (k + 1) || (decide (f 31 = 127) && decide (f (k + 1) ≠ 255))
theorem bl_succ (f : Nat → Nat) (k : Nat) (h : 1 ≤ k) : bl f (k + 1) = (bl f k || (decide (f 31 = 127) && decide (f k ≠ 255))) := by
  obtain ⟨j, rfl⟩ : ∃ j, k = j + 1 := ⟨k - 1, by omega⟩
  rfl
def blf (f : Nat → Nat) : Bool := bl f 31 || (decide (f 31 = 127) && decide (f 0 < 237))
theorem bl_iff (f : Nat → Nat) : ∀ k, 1 ≤ k → (bl f k = true ↔ (f 31 < 127 ∨ (f 31 = 127 ∧ ∃ i, 1 ≤ i ∧ i < k ∧ f i ≠ 255))) := by
  intro k hk
  induction k with
  | zero => omega
  | succ k ih =>
    by_cases hk0 : k = 0
    · subst hk0
      constructor
      · intro h; left; simpa [bl] using h
      · rintro (h | ⟨_, i, h1, h2, _⟩)
        · simpa [bl] using h
        · omega
    · rw [bl_succ f k (by omega)]
      simp only [Bool.or_eq_true, ih (by omega), Bool.and_eq_true, decide_eq_true_eq]
      constructor
      · rintro ((h | ⟨h, i, h1, h2, h3⟩) | ⟨h, h2⟩)
        · exact .inl h
        · exact .inr ⟨h, i, h1, by omega, h3⟩
        · exact .inr ⟨h, k, by omega, by omega, h2⟩
      · rintro (h | ⟨h, i, h1, h2, h3⟩)
        · exact .inl (.inl h)
        · by_cases hik : i = k
          · subst hik; exact .inr ⟨h, h3⟩
          · exact .inl (.inr ⟨h, i, h1, by omega, h3⟩)
theorem blf_iff (f : Nat → Nat) (hf : ∀ i, f i < 256) : blf f = decide (nb f 32 < pP) := by
  rw [Bool.eq_iff_iff, decide_eq_true_eq]
  unfold blf
  simp only [Bool.or_eq_true, bl_iff f 31 (by omega), Bool.and_eq_true, decide_eq_true_eq]
  have e1 : nb f 32 = nb f 31 + f 31 * 2 ^ 248 := rfl
  have e2 := nb_shift f 30
  have hM := nb_lt (fun i => f (i + 1)) (fun i => hf _) 30
  have hmx := nb_max (fun i => f (i + 1)) (fun i => hf _) 30
  have h0 := hf 0
  have h31 := hf 31
  rw [e1, e2]
  simp only [show 8 * 30 = 240 from rfl] at hM hmx
  generalize nb (fun i => f (i + 1)) 30 = M at *
  unfold pP
  constructor
  · rintro ((h | ⟨h, i, h1, h2, h3⟩) | ⟨h, h2⟩)
    · have : f 31 * 2 ^ 248 ≤ 126 * 2 ^ 248 := Nat.mul_le_mul_right _ (by omega)
      omega
    · have hne : M ≠ 2 ^ 240 - 1 := by
        intro e
        have := hmx.1 e (i - 1) (by omega)
        simp only [show i - 1 + 1 = i by omega] at this
        exact h3 this
      rw [h]; omega
    · rw [h]; omega
  · intro h
    by_cases h1 : f 31 < 127
    · exact .inl (.inl h1)
    · have h2 : f 31 = 127 := by
        apply Classical.byContradiction
        intro hne
        have : 128 * 2 ^ 248 ≤ f 31 * 2 ^ 248 := Nat.mul_le_mul_right _ (by omega)
        omega
      rw [h2] at h
      by_cases hx : M = 2 ^ 240 - 1
      · right; exact ⟨h2, by omega⟩
      · left; right
        refine ⟨h2, ?_⟩
        apply Classical.byContradiction
        intro hno
        apply hx
        apply hmx.2
        intro i hi
        apply Classical.byContradiction
        intro hne
        exact hno ⟨i + 1, by omega, by omega, hne⟩

theorem byt_nb (f : Nat → Nat) (hf : ∀ i, f i < 256) : ∀ k i, i < k → byt (nb f k) i = f i
  | 0, i, h => by omega
  | k + 1, i, h => by
    have hl := nb_lt f hf k
    have hi := hf i
    unfold byt
    rw [nb]
    by_cases hik : i = k
    · subst hik
      rw [Nat.mul_comm, Nat.add_mul_div_left _ _ (Nat.two_pow_pos _), Nat.div_eq_of_lt hl, Nat.zero_add, Nat.mod_eq_of_lt hi]
    · have ih := byt_nb f hf k i (by omega)
      unfold byt at ih
      have e : 2 ^ (8 * k) = 2 ^ (8 * i) * (256 * 2 ^ (8 * k - 8 * i - 8)) := by
        rw [show 256 = 2 ^ 8 from rfl, ← Nat.pow_add, ← Nat.pow_add]; congr 1; omega
      rw [e, Nat.mul_left_comm, Nat.add_mul_div_left _ _ (Nat.two_pow_pos _), Nat.mul_left_comm, Nat.add_mul_mod_self_left]
      exact ih
/-- The loaded number's bytes are those that were loaded just if these are below the modulus. -/
theorem bytes_eq (f : Nat → Nat) (hf : ∀ i, f i < 256) : ((List.range 32).all fun i => byt (nb f 32 % pP) i == f i) = blf f := by
  rw [blf_iff f hf, Bool.eq_iff_iff, decide_eq_true_eq, List.all_eq_true]
  constructor
  · intro h
    have e : nb (byt (nb f 32 % pP)) 32 = nb f 32 := nb_congr _ _ 32 fun j hj => by simpa using h j (by simpa using hj)
    rw [nb_byt] at e
    have h1 := Nat.mod_lt (nb f 32) pP_pos
    have h2 : (nb f 32 % pP) % 2 ^ (8 * 32) ≤ nb f 32 % pP := Nat.mod_le _ _
    omega
  · intro h i hi
    rw [Nat.mod_eq_of_lt h, byt_nb f hf 32 i (by simpa using hi)]
    simp
theorem nb_back (x : Nat) (hx : x < pP) : nb (byt x) 32 % pP = x := by
  rw [nb_byt, Nat.mod_eq_of_lt (show x < 2 ^ (8 * 32) by unfold pP at hx; omega), Nat.mod_eq_of_lt hx]
theorem least_true (x : Nat) (hx : x < pP) : blf (byt x) = true := by
  rw [blf_iff _ (byt_lt x), decide_eq_true_eq, nb_byt, Nat.mod_eq_of_lt (show x < 2 ^ (8 * 32) by unfold pP at hx; omega)]
  exact hx
set_option maxRecDepth 100000 in
set_option maxHeartbeats 2000000 in
theorem bytes_walk (f : Nat → Nat) (w : World) (hf : ∀ i, f i < 256) :
    Calls Try.prog 8 #[ba f] w fun e w' => e = .returned (.bool true) ∧ Below w.heap.size w w' := by
  have Hf := hide hf
  clear hf
  unfold ba
  have F_0 := hide (Blk.new w (vals .u8 32 f) 22)
  have L0 := hide ((Below.refl w.heap.size w).alloc (Nat.le_refl _) (.cells (vals .u8 32 f) 22))
  go_enter Try.func8, Try.ntmps8
  go_wp2_with fail
  refine (awake_at _ _ (by rfl)).mono ?_
  rintro e k1 ⟨rfl, hb⟩
  have F_1 := hide (F_0.out.call hb)
  have Lw_1 := hide (L0.out.trans (hb.mono L0.out.size))
  clear F_0 L0 hb
  dsimp only
  go_wp2_with (first | (refine wpList_load_row rfl 22 _ rfl w.heap.size rfl 22 _ (0, 0) _ F_1.out Try.underlying22 rfl (by rw [vals_size]; exact cells22) ?_))
  refine (load_at f _ _ (by rfl) Hf.out).mono ?_
  rw [fe_def (nb f 32 % pP)]
  rintro e k2 ⟨rfl, hb⟩
  have F_2 := hide (F_1.out.call hb)
  have Lw_2 := hide (Lw_1.out.trans (hb.mono Lw_1.out.size))
  clear F_1 Lw_1 hb
  dsimp only
  obtain ⟨x, hx⟩ : ∃ x, x = nb f 32 % pP := ⟨_, rfl⟩
  rw [← hx]
  have Hx := hide hx
  clear hx
  go_wp2_with fail
  have X_3 := hide (Blk.new k2 (lits x) 27)
  have F_3 := hide (F_2.out.alloc (.cells (lits x) 27))
  have Lw_3 := hide (Lw_2.out.alloc Lw_2.out.size (.cells (lits x) 27))
  clear F_2 Lw_2
  refine (bytes_at x _ _ (by simp only [fe_def])).mono ?_
  rintro e k4 ⟨rfl, hb⟩
  have F_4 := hide (F_3.out.call hb)
  have X_4 := hide (X_3.out.call hb)
  have Lw_4 := hide (Lw_3.out.trans (hb.mono Lw_3.out.size))
  clear F_3 X_3 Lw_3 hb
  unfold ba
  dsimp only
  have hneF : k4.heap.size ≠ w.heap.size := by have := F_4.out.lt; omega
  have HnF := hide hneF
  clear hneF
  have Hf31 := hide (Hf.out 31)
  go_wp2_with (first | (refine wpList_store_abs rfl 22 _ _ rfl k4.heap.size (vals .u8 32 (byt x)) rfl rfl 22 _ (Blk.new k4 _ _) (by rw [vals_size]; exact cells22) (by rw [vals_size]; rfl) (vals_one _ _ _) ?_; intro k5 B5 S5; have F5 := hide (S5.other _ _ _ HnF.out (F_4.out.alloc _)); have L5 := hide (S5.low _ _ (Lw_4.out.alloc Lw_4.out.size _) Lw_4.out.size); have C5 := hide B5; clear B5 S5 F_4 Lw_4; have c31 := F5.out.cell 31; rw [vals_get _ _ _ _ (by omega)] at c31))
  clear c31
  generalize k4.heap.size = bc at *
  simp only [lt127]
  go_loopw [6, 7] (fun s i wr => ∃ k : Nat, 1 ≤ k ∧ k ≤ 31 ∧ i = .int .i64 k ∧ s = .bool (bl f k) ∧ Blk wr w.heap.size (vals .u8 32 f) 22 ∧ Blk wr bc (vals .u8 32 (byt x)) 22 ∧ Below w.heap.size w wr) (fun _ i _ => 31 - (intOf i).toNat)
  case atStart => exact ⟨1, by omega, by omega, rfl, rfl, F5.out, C5.out, L5.out⟩
  case round =>
    clear F5 C5 L5
    obtain ⟨k, hk1, hk, rfl, rfl, Ff, Fc, L⟩ := hrel
    have c31 := Ff.cell 31
    rw [vals_get _ _ _ _ (by omega)] at c31
    by_cases hlt : k < 31
    · have ck := Ff.cell k
      rw [vals_get _ _ _ _ (by omega)] at ck
      have HF := hide Ff
      have HC := hide Fc
      have HL := hide L
      clear Ff Fc L
      have hk0 : (0 : Int) ≤ (k : Int) := by omega
      have hk4 : (k : Int) < 31 := by omega
      have Hs := hide (bl_succ f k hk1)
      cases hb : bl f k
      · rw [hb] at Hs
        clear hb
        by_cases h31 : f 31 = 127
        · have hb31 : (((f 31 : Nat) : Int) == 127) = true := by rw [beq_iff_eq]; omega
          have H31 := hide h31
          clear h31
          go_wp2
          go_roundw
          case rel => exact ⟨k + 1, by omega, by omega, by go_num, by rw [Hs.out, neq255, H31.out]; simp, HF.out, HC.out, HL.out⟩
          case measure => simp [intOf]; omega
        · have hb31 : (((f 31 : Nat) : Int) == 127) = false := by rw [beq_eq_false_iff_ne]; omega
          go_wp2
          go_roundw
          case rel => exact ⟨k + 1, by omega, by omega, by go_num, by rw [Hs.out]; simp [h31], HF.out, HC.out, HL.out⟩
          case measure => simp [intOf]; omega
      · rw [hb] at Hs
        clear hb
        go_wp2
        go_roundw
        case rel => exact ⟨k + 1, by omega, by omega, by go_num, by rw [Hs.out]; rfl, HF.out, HC.out, HL.out⟩
        case measure => simp [intOf]; omega
    · have e4 : k = 31 := by omega
      subst e4
      rw [show ((31 : Nat) : Int) = 31 from rfl]
      have c0 := Ff.cell 0
      rw [vals_get _ _ _ _ (by omega)] at c0
      have HF := hide Ff
      have HC := hide Fc
      have HL := hide L
      clear Ff Fc L hlt
      go_upto_region 9 with (fail)
      go_cut [6] (fun s wx => s = .bool (blf f) ∧ wx = wr)
      case first =>
        cases hb : bl f 31
        · have Hb := hide hb
          clear hb
          by_cases h31 : f 31 = 127
          · have hb31 : (((f 31 : Nat) : Int) == 127) = true := by rw [beq_iff_eq]; omega
            have H31 := hide h31
            clear h31
            go_wp2
            go_meet
            case rel => exact ⟨by rw [lt237]; unfold blf; rw [Hb.out, H31.out]; simp, rfl⟩
          · have hb31 : (((f 31 : Nat) : Int) == 127) = false := by rw [beq_eq_false_iff_ne]; omega
            go_wp2
            go_meet
            case rel => exact ⟨by unfold blf; rw [Hb.out]; simp [h31], rfl⟩
        · have Hb := hide hb
          clear hb
          go_wp2
          go_meet
          case rel => exact ⟨by unfold blf; rw [Hb.out]; rfl, rfl⟩
      case rest =>
        obtain ⟨rfl, hw⟩ := hcut
        rw [hw]
        clear hw c0 c31
        have F5 := HF
        have C5 := HC
        have L5 := HL
        clear HF HC HL
        have c31 := C5.out.cell 31
        rw [vals_get _ _ _ _ (by omega)] at c31
        go_wp2
        clear c31
        simp only [lt127]
        go_loopw [8, 9] (fun s i wr => ∃ k : Nat, 1 ≤ k ∧ k ≤ 31 ∧ i = .int .i64 k ∧ s = .bool (bl (byt x) k) ∧ Blk wr w.heap.size (vals .u8 32 f) 22 ∧ Blk wr bc (vals .u8 32 (byt x)) 22 ∧ Below w.heap.size w wr) (fun _ i _ => 31 - (intOf i).toNat)
        case atStart => exact ⟨1, by omega, by omega, rfl, rfl, F5.out, C5.out, L5.out⟩
        case round =>
          clear F5 C5 L5
          obtain ⟨k, hk1, hk, rfl, rfl, Ff, Fc, L⟩ := hrel
          have c31 := Fc.cell 31
          rw [vals_get _ _ _ _ (by omega)] at c31
          by_cases hlt : k < 31
          · have ck := Fc.cell k
            rw [vals_get _ _ _ _ (by omega)] at ck
            have HF := hide Ff
            have HC := hide Fc
            have HL := hide L
            clear Ff Fc L
            have hk0 : (0 : Int) ≤ (k : Int) := by omega
            have hk4 : (k : Int) < 31 := by omega
            have Hs := hide (bl_succ (byt x) k hk1)
            cases hb : bl (byt x) k
            · rw [hb] at Hs
              clear hb
              by_cases h31 : (byt x) 31 = 127
              · have hb31 : ((((byt x) 31 : Nat) : Int) == 127) = true := by rw [beq_iff_eq]; omega
                have H31 := hide h31
                clear h31
                go_wp2
                go_roundw
                case rel => exact ⟨k + 1, by omega, by omega, by go_num, by rw [Hs.out, neq255, H31.out]; simp, HF.out, HC.out, HL.out⟩
                case measure => simp [intOf]; omega
              · have hb31 : ((((byt x) 31 : Nat) : Int) == 127) = false := by rw [beq_eq_false_iff_ne]; omega
                go_wp2
                go_roundw
                case rel => exact ⟨k + 1, by omega, by omega, by go_num, by rw [Hs.out]; simp [h31], HF.out, HC.out, HL.out⟩
                case measure => simp [intOf]; omega
            · rw [hb] at Hs
              clear hb
              go_wp2
              go_roundw
              case rel => exact ⟨k + 1, by omega, by omega, by go_num, by rw [Hs.out]; rfl, HF.out, HC.out, HL.out⟩
              case measure => simp [intOf]; omega
          · have e4 : k = 31 := by omega
            subst e4
            rw [show ((31 : Nat) : Int) = 31 from rfl]
            have c0 := Fc.cell 0
            rw [vals_get _ _ _ _ (by omega)] at c0
            have HF := hide Ff
            have HC := hide Fc
            have HL := hide L
            clear Ff Fc L hlt
            go_upto_region 15 with (fail)
            go_cut [8] (fun s wx => s = .bool (blf (byt x)) ∧ wx = wr)
            case first =>
              cases hb : bl (byt x) 31
              · have Hb := hide hb
                clear hb
                by_cases h31 : (byt x) 31 = 127
                · have hb31 : ((((byt x) 31 : Nat) : Int) == 127) = true := by rw [beq_iff_eq]; omega
                  have H31 := hide h31
                  clear h31
                  go_wp2
                  go_meet
                  case rel => exact ⟨by rw [lt237]; unfold blf; rw [Hb.out, H31.out]; simp, rfl⟩
                · have hb31 : ((((byt x) 31 : Nat) : Int) == 127) = false := by rw [beq_eq_false_iff_ne]; omega
                  go_wp2
                  go_meet
                  case rel => exact ⟨by unfold blf; rw [Hb.out]; simp [h31], rfl⟩
              · have Hb := hide hb
                clear hb
                go_wp2
                go_meet
                case rel => exact ⟨by unfold blf; rw [Hb.out]; rfl, rfl⟩
            case rest =>
              obtain ⟨rfl, hw⟩ := hcut
              rw [hw]
              clear hw c0 c31
              have hxp : x < pP := by rw [Hx.out]; exact Nat.mod_lt _ pP_pos
              rw [least_true x hxp]
              have Hxp := hide hxp
              clear hxp
              have he1 := eq_vals' (byt x) f (blf f) (by rw [Hx.out]; exact bytes_eq f Hf.out)
              have he2 := eq_vals' (byt x) (byt x) true (all_self _)
              go_wp2
              refine wp_region_held_drew (S := fun w' => Below wr.heap.size wr w') (by kernel_rfl) (Below.refl _ _).drew (fun hHeld => ?_)
              refine wpAnyH_take (i := 0) (oi := { dst := some 75, op := Op.move (Operand.tmp 3), type := 4, pos := "law.go:149", after := #[], guard := none }) (v := .bool true) rfl (by kernel_rfl) (by kernel_rfl) (by kernel_rfl) (fun _ _ _ h => h) (Or.inl ⟨by rfl, fun w hSw => by go_simp⟩) hHeld ?_
              try simp only [Act.put, List.setIfInBounds_toArray, List.set_cons_zero, List.set_cons_succ]
              refine wpAnyH_take (i := 1) (oi := { dst := some 76, op := Op.move (Operand.tmp 75), type := 4, pos := "law.go:149", after := #[{ on := 0, ground := Ground.data }], guard := none }) (v := .bool true) rfl (by kernel_rfl) (by kernel_rfl) (by kernel_rfl) (fun _ _ _ h => h) (Or.inl ⟨by rfl, fun w hSw => by go_simp⟩) hHeld ?_
              try simp only [Act.put, List.setIfInBounds_toArray, List.set_cons_zero, List.set_cons_succ]
              refine wpAnyH_take (i := 2) (oi := { dst := some 77, op := Op.load 22 (Operand.tmp 5), type := 22, pos := "law.go:149", after := #[{ on := 1, ground := Ground.guard }], guard := some (1, true) }) (v := .agg (vals .u8 32 (byt x))) rfl (by kernel_rfl) (by kernel_rfl) (by kernel_rfl) (fun _ _ _ h => h) (yields_blk HC.out (by rfl) 22 _ rfl rfl _ Try.underlying22 rfl (by rw [vals_size]; exact cells22)) hHeld ?_
              try simp only [Act.put, List.setIfInBounds_toArray, List.set_cons_zero, List.set_cons_succ]
              refine wpAnyH_take (i := 3) (oi := { dst := some 78, op := Op.load 22 (Operand.tmp 1), type := 22, pos := "law.go:149", after := #[{ on := 1, ground := Ground.guard }], guard := some (1, true) }) (v := .agg (vals .u8 32 f)) rfl (by kernel_rfl) (by kernel_rfl) (by kernel_rfl) (fun _ _ _ h => h) (yields_blk HF.out (by rfl) 22 _ rfl rfl _ Try.underlying22 rfl (by rw [vals_size]; exact cells22)) hHeld ?_
              try simp only [Act.put, List.setIfInBounds_toArray, List.set_cons_zero, List.set_cons_succ]
              refine wpAnyH_take (i := 4) (oi := { dst := some 79, op := Op.binOp BinOp.eql 22 (Operand.tmp 77) (Operand.tmp 78) 22, type := 4, pos := "law.go:149", after := #[{ on := 2, ground := Ground.data }, { on := 3, ground := Ground.data }, { on := 1, ground := Ground.guard }], guard := some (1, true) }) (v := .bool (blf f)) rfl (by kernel_rfl) (by kernel_rfl) (by kernel_rfl) (fun _ _ _ h => h) (Or.inl ⟨by rfl, fun w hSw => by go_simp⟩) hHeld ?_
              try simp only [Act.put, List.setIfInBounds_toArray, List.set_cons_zero, List.set_cons_succ]
              refine wpAnyH_take (i := 5) (oi := { dst := some 80, op := Op.move (Operand.tmp 6), type := 4, pos := "law.go:149", after := #[{ on := 1, ground := Ground.guard }], guard := some (1, true) }) (v := .bool (blf f)) rfl (by kernel_rfl) (by kernel_rfl) (by kernel_rfl) (fun _ _ _ h => h) (Or.inl ⟨by rfl, fun w hSw => by go_simp⟩) hHeld ?_
              try simp only [Act.put, List.setIfInBounds_toArray, List.set_cons_zero, List.set_cons_succ]
              refine wpAnyH_take (i := 6) (oi := { dst := some 81, op := Op.binOp BinOp.eql 4 (Operand.tmp 79) (Operand.tmp 80) 4, type := 4, pos := "law.go:149", after := #[{ on := 4, ground := Ground.data }, { on := 5, ground := Ground.data }, { on := 1, ground := Ground.guard }], guard := some (1, true) }) (v := .bool true) rfl (by kernel_rfl) (by kernel_rfl) (by kernel_rfl) (fun _ _ _ h => h) (Or.inl ⟨by rfl, fun w hSw => by go_simp⟩) hHeld ?_
              try simp only [Act.put, List.setIfInBounds_toArray, List.set_cons_zero, List.set_cons_succ]
              refine wpAnyH_take (i := 7) (oi := { dst := some 82, op := Op.pick (Operand.tmp 76) (Operand.tmp 81) (Operand.const (Value.bool false)), type := 4, pos := "law.go:149", after := #[{ on := 1, ground := Ground.data }, { on := 6, ground := Ground.data }], guard := none }) (v := .bool true) rfl (by kernel_rfl) (by kernel_rfl) (by kernel_rfl) (fun _ _ _ h => h) (Or.inl ⟨by rfl, fun w hSw => by go_simp⟩) hHeld ?_
              try simp only [Act.put, List.setIfInBounds_toArray, List.set_cons_zero, List.set_cons_succ]
              refine wpAnyH_take (i := 8) (oi := { dst := some 83, op := Op.move (Operand.tmp 82), type := 4, pos := "law.go:149", after := #[{ on := 7, ground := Ground.data }, { on := 1, ground := Ground.chain }], guard := none }) (v := .bool true) rfl (by kernel_rfl) (by kernel_rfl) (by kernel_rfl) (fun _ _ _ h => h) (Or.inl ⟨by rfl, fun w hSw => by go_simp⟩) hHeld ?_
              try simp only [Act.put, List.setIfInBounds_toArray, List.set_cons_zero, List.set_cons_succ]
              refine wpAnyH_take (i := 9) (oi := { dst := some 84, op := Op.move (Operand.tmp 8), type := 4, pos := "law.go:149", after := #[{ on := 8, ground := Ground.guard }], guard := some (8, true) }) (v := .bool true) rfl (by kernel_rfl) (by kernel_rfl) (by kernel_rfl) (fun _ _ _ h => h) (Or.inl ⟨by rfl, fun w hSw => by go_simp⟩) hHeld ?_
              try simp only [Act.put, List.setIfInBounds_toArray, List.set_cons_zero, List.set_cons_succ]
              refine wpAnyH_take (i := 10) (oi := { dst := some 85, op := Op.pick (Operand.tmp 83) (Operand.tmp 84) (Operand.const (Value.bool false)), type := 4, pos := "law.go:149", after := #[{ on := 8, ground := Ground.data }, { on := 9, ground := Ground.data }], guard := none }) (v := .bool true) rfl (by kernel_rfl) (by kernel_rfl) (by kernel_rfl) (fun _ _ _ h => h) (Or.inl ⟨by rfl, fun w hSw => by go_simp⟩) hHeld ?_
              try simp only [Act.put, List.setIfInBounds_toArray, List.set_cons_zero, List.set_cons_succ]
              refine wpAnyH_take (i := 11) (oi := { dst := some 86, op := Op.move (Operand.tmp 85), type := 4, pos := "law.go:149", after := #[{ on := 10, ground := Ground.data }, { on := 8, ground := Ground.chain }], guard := none }) (v := .bool true) rfl (by kernel_rfl) (by kernel_rfl) (by kernel_rfl) (fun _ _ _ h => h) (Or.inl ⟨by rfl, fun w hSw => by go_simp⟩) hHeld ?_
              try simp only [Act.put, List.setIfInBounds_toArray, List.set_cons_zero, List.set_cons_succ]
              refine wpAnyH_take (i := 12) (oi := { dst := some 87, op := Op.load 22 (Operand.tmp 5), type := 22, pos := "law.go:149", after := #[{ on := 11, ground := Ground.guard }], guard := some (11, true) }) (v := .agg (vals .u8 32 (byt x))) rfl (by kernel_rfl) (by kernel_rfl) (by kernel_rfl) (fun _ _ _ h => h) (yields_blk HC.out (by rfl) 22 _ rfl rfl _ Try.underlying22 rfl (by rw [vals_size]; exact cells22)) hHeld ?_
              try simp only [Act.put, List.setIfInBounds_toArray, List.set_cons_zero, List.set_cons_succ]
              refine wpAnyH_take (i := 15) (oi := { dst := some 90, op := Op.load 22 (Operand.tmp 5), type := 22, pos := "law.go:149", after := #[{ on := 11, ground := Ground.guard }], guard := some (11, true) }) (v := .agg (vals .u8 32 (byt x))) rfl (by kernel_rfl) (by kernel_rfl) (by kernel_rfl) (fun _ _ _ h => h) (yields_blk HC.out (by rfl) 22 _ rfl rfl _ Try.underlying22 rfl (by rw [vals_size]; exact cells22)) hHeld ?_
              try simp only [Act.put, List.setIfInBounds_toArray, List.set_cons_zero, List.set_cons_succ]
              refine wpAnyH_ready (rs := [13]) (by kernel_rfl) (by simp) ?_
              refine AllReadyH.cons (o := { dst := some 88, op := Op.call { callee := Callee.value (Operand.func 11), args := #[Operand.tmp 87], argTypes := #[22] }, type := 27, pos := "law.go:149", after := #[{ on := 12, ground := Ground.data }, { on := 11, ground := Ground.chain }, { on := 11, ground := Ground.guard }], guard := some (11, true) }) rfl (fun K hK => ?_) AllReadyH.nil
              go_simp
              refine (load_at (byt x) _ _ (by rfl) (byt_lt x)).mono ?_
              rw [nb_back x Hxp.out]
              rintro e w1 ⟨rfl, hb⟩
              have HT1 := hide (keepCall hb rfl hHeld)
              dsimp only
              refine hK.out _ _ HT1.out (fun hHeld => ?_)
              clear hK K hb
              try simp only [Act.put, List.setIfInBounds_toArray, List.set_cons_zero, List.set_cons_succ]
              refine wpAnyH_ready (rs := [14]) (by kernel_rfl) (by simp) ?_
              refine AllReadyH.cons (o := { dst := some 89, op := Op.call { callee := Callee.value (Operand.func 14), args := #[Operand.tmp 88], argTypes := #[27] }, type := 22, pos := "law.go:149", after := #[{ on := 13, ground := Ground.data }, { on := 13, ground := Ground.chain }, { on := 11, ground := Ground.guard }], guard := some (11, true) }) rfl (fun K hK => ?_) AllReadyH.nil
              go_simp
              refine (bytes_at x _ _ (by rfl)).mono ?_
              unfold ba
              rintro e w2 ⟨rfl, hb⟩
              have HT2 := hide (keepCall hb rfl hHeld)
              dsimp only
              refine hK.out _ _ HT2.out (fun hHeld => ?_)
              clear hK K hb
              try simp only [Act.put, List.setIfInBounds_toArray, List.set_cons_zero, List.set_cons_succ]
              refine wpAnyH_take (i := 16) (oi := { dst := some 91, op := Op.binOp BinOp.eql 22 (Operand.tmp 89) (Operand.tmp 90) 22, type := 4, pos := "law.go:149", after := #[{ on := 14, ground := Ground.data }, { on := 15, ground := Ground.data }, { on := 11, ground := Ground.guard }], guard := some (11, true) }) (v := .bool true) rfl (by kernel_rfl) (by kernel_rfl) (by kernel_rfl) (fun _ _ _ h => h) (Or.inl ⟨by rfl, fun w hSw => by go_simp⟩) hHeld ?_
              try simp only [Act.put, List.setIfInBounds_toArray, List.set_cons_zero, List.set_cons_succ]
              refine wpAnyH_take (i := 17) (oi := { dst := some 92, op := Op.pick (Operand.tmp 86) (Operand.tmp 91) (Operand.const (Value.bool false)), type := 4, pos := "law.go:149", after := #[{ on := 11, ground := Ground.data }, { on := 16, ground := Ground.data }], guard := none }) (v := .bool true) rfl (by kernel_rfl) (by kernel_rfl) (by kernel_rfl) (fun _ _ _ h => h) (Or.inl ⟨by rfl, fun w hSw => by go_simp⟩) hHeld ?_
              try simp only [Act.put, List.setIfInBounds_toArray, List.set_cons_zero, List.set_cons_succ]
              refine wpAnyH_take (i := 18) (oi := { dst := some 2, op := Op.assign (Operand.tmp 92), type := 4, pos := "law.go:149", after := #[{ on := 17, ground := Ground.data }, { on := 14, ground := Ground.chain }, { on := 0, ground := Ground.phase }, { on := 1, ground := Ground.phase }, { on := 2, ground := Ground.phase }, { on := 3, ground := Ground.phase }, { on := 4, ground := Ground.phase }, { on := 5, ground := Ground.phase }, { on := 6, ground := Ground.phase }, { on := 7, ground := Ground.phase }, { on := 8, ground := Ground.phase }, { on := 9, ground := Ground.phase }, { on := 10, ground := Ground.phase }, { on := 11, ground := Ground.phase }, { on := 12, ground := Ground.phase }, { on := 13, ground := Ground.phase }, { on := 14, ground := Ground.phase }, { on := 15, ground := Ground.phase }, { on := 16, ground := Ground.phase }, { on := 17, ground := Ground.phase }], guard := none }) (v := .bool true) rfl (by kernel_rfl) (by kernel_rfl) (by kernel_rfl) (fun _ _ _ h => h) (Or.inl ⟨by rfl, fun w hSw => by go_simp⟩) hHeld ?_
              try simp only [Act.put, List.setIfInBounds_toArray, List.set_cons_zero, List.set_cons_succ]
              refine wpAnyH_done (by kernel_rfl) ?_ _
              go_wp2
              go_ret
              exact ⟨rfl, keepLow HL.out HT2.out⟩
end Go.Proofs.Ytbjcfibpiiplaaa

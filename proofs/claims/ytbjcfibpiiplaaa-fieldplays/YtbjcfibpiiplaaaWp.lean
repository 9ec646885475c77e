/- awake: the calls whose answers the document fixes, told. -/
import Derived.Test.YtbjcfibpiiplaaaWo
namespace Go.Proofs.Ytbjcfibpiiplaaa
open Go.RowKit

theorem o41 : ones 4 250 = 22961221025933304929473883566500786080839636259902234537901881337279050793515 := ones_pw 4 250 _ (by decide +kernel) (by decide +kernel)
theorem o21 : ones 2 250 = 57692109581687170544952182944730090749826224675958039702824471609347838771772 := ones_pw 2 250 _ (by decide +kernel) (by decide +kernel)
theorem root41 : rRoot 4 1 = 39362322753415011913614158609977084030892133031847780325488042146247659569504 := by
  unfold rRoot
  rw [show rBase 4 1 = 4 by decide +kernel, o41]
  decide +kernel
theorem root21 : rRoot 2 1 = 19681161376707505956807079304988542015446066515923890162744021073123829784753 := by
  unfold rRoot
  rw [show rBase 2 1 = 2 by decide +kernel, o21]
  decide +kernel
theorem flip41 : rFlip 4 1 = true := by unfold rFlip rFound; rw [root41]; decide +kernel
theorem flip21 : rFlip 2 1 = false := by unfold rFlip rFound; rw [root21]; decide +kernel
theorem ok41 : rOk 4 1 = true := by unfold rOk rFound1 rFound; rw [flip41, root41]; decide +kernel
theorem ok21 : rOk 2 1 = false := by unfold rOk rFound1 rFound; rw [flip21, root21]; decide +kernel
theorem val41 : rVal 4 1 = 2 := by unfold rVal rPick rRoot1; rw [ok41, flip41, root41]; decide +kernel

theorem nb_big : nb bigB 32 % pP = 1 := by decide +kernel
theorem bigB_lt (i : Nat) : bigB i < 256 := by unfold bigB; split; omega; split; omega; split <;> omega

theorem eq_one (n : Nat) (hn : n < 256) (w : World) : (Op.equalIn 10000 22 (ba (byt n)) (.agg #[.int .u8 (n : Nat), .int .u8 0, .int .u8 0, .int .u8 0, .int .u8 0, .int .u8 0, .int .u8 0, .int .u8 0, .int .u8 0, .int .u8 0, .int .u8 0, .int .u8 0, .int .u8 0, .int .u8 0, .int .u8 0, .int .u8 0, .int .u8 0, .int .u8 0, .int .u8 0, .int .u8 0, .int .u8 0, .int .u8 0, .int .u8 0, .int .u8 0, .int .u8 0, .int .u8 0, .int .u8 0, .int .u8 0, .int .u8 0, .int .u8 0, .int .u8 0, .int .u8 0])).run Try.prog w = .ok true w := by
  have := run_equal_vals (P := Try.prog) w 9998 22 5 32 .u8 Try.underlying22 Try.underlying5 size5 (byt n) (oneB n)
  rw [one_lits]
  rw [show ((List.range 32).all fun i => byt n i == oneB n i) = true from by
    rw [List.all_eq_true]
    intro i _
    rw [beq_iff_eq]
    unfold byt oneB
    by_cases h : i = 0
    · subst h; simp; omega
    · rw [if_neg h]
      have : n / 2 ^ (8 * i) = 0 := Nat.div_eq_of_lt (Nat.lt_of_lt_of_le hn (by rw [show 256 = 2 ^ 8 from rfl]; exact Nat.pow_le_pow_right (by omega) (by omega)))
      rw [this]] at this
  exact this

theorem eq_1 (w : World) : (Op.equalIn 10000 22 (.agg (vals .u8 32 (byt 1))) (.agg #[.int .u8 1, .int .u8 0, .int .u8 0, .int .u8 0, .int .u8 0, .int .u8 0, .int .u8 0, .int .u8 0, .int .u8 0, .int .u8 0, .int .u8 0, .int .u8 0, .int .u8 0, .int .u8 0, .int .u8 0, .int .u8 0, .int .u8 0, .int .u8 0, .int .u8 0, .int .u8 0, .int .u8 0, .int .u8 0, .int .u8 0, .int .u8 0, .int .u8 0, .int .u8 0, .int .u8 0, .int .u8 0, .int .u8 0, .int .u8 0, .int .u8 0, .int .u8 0])).run Try.prog w = .ok true w := eq_one 1 (by omega) w
theorem eq_2 (w : World) : (Op.equalIn 10000 22 (.agg (vals .u8 32 (byt 2))) (.agg #[.int .u8 2, .int .u8 0, .int .u8 0, .int .u8 0, .int .u8 0, .int .u8 0, .int .u8 0, .int .u8 0, .int .u8 0, .int .u8 0, .int .u8 0, .int .u8 0, .int .u8 0, .int .u8 0, .int .u8 0, .int .u8 0, .int .u8 0, .int .u8 0, .int .u8 0, .int .u8 0, .int .u8 0, .int .u8 0, .int .u8 0, .int .u8 0, .int .u8 0, .int .u8 0, .int .u8 0, .int .u8 0, .int .u8 0, .int .u8 0, .int .u8 0, .int .u8 0])).run Try.prog w = .ok true w := eq_one 2 (by omega) w
def bigK (k i : Nat) : Nat := if i = 0 then 238 else if i < k then 255 else 0
theorem bigK_succ (k i : Nat) (hk : 1 ≤ k) : (if i = k then 255 else bigK k i) = bigK (k + 1) i := by
  unfold bigK
  by_cases h : i = k
  · subst h; rw [if_pos rfl, if_neg (by omega), if_pos (by omega)]
  · rw [if_neg h]
    by_cases h0 : i = 0
    · rw [if_pos h0, if_pos h0]
    · rw [if_neg h0, if_neg h0]
      by_cases h1 : i < k
      · rw [if_pos h1, if_pos (by omega)]
      · rw [if_neg h1, if_neg (by omega)]
theorem bigK_last (i : Nat) : (if i = 31 then 127 else bigK 31 i) = bigB i := by
  unfold bigK bigB
  by_cases h : i = 31
  · subst h; simp
  · rw [if_neg h]
    by_cases h0 : i = 0
    · rw [if_pos h0, if_pos h0]
    · rw [if_neg h0, if_neg h0]
      by_cases h1 : i < 31
      · rw [if_pos h1, if_pos h1]
      · rw [if_neg h1, if_neg h1, if_neg h]
theorem byt_m0 : byt ((0 + pP - 1) % pP) 0 = 236 := by decide +kernel
theorem byt_m1 : byt ((0 + pP - 1) % pP) 1 = 255 := by decide +kernel
theorem byt_m31 : byt ((0 + pP - 1) % pP) 31 = 127 := by decide +kernel
def mOne : Nat := (0 + pP - 1) % pP
theorem sub_m (args : Array Value) (w : World) (h : args = #[fe 0, fe 1]) :
    Calls Try.prog 20 args w fun e w' => e = .returned (fe mOne) ∧ Below w.heap.size w w' := by
  subst h; exact sub_any 0 1 w (n_lt 0 (by omega)) (n_lt 1 (by omega))

set_option maxHeartbeats 2000000 in
theorem awake_any (w : World) :
    Calls Try.prog 10 #[] w fun e w' => e = .returned (.bool true) ∧ Below w.heap.size w w' := by
  go_enter Try.func10, Try.ntmps10
  go_wp2_with (first
    | (refine wpList_store_row rfl 22 _ _ rfl w.heap.size (vals .u8 32 (oneB 238)) rfl rfl 22 (vals .u8 32 (fun _ => 0)) (Blk.new w _ _) (by rw [vals_size]; exact cells22) (by rw [vals_size, vals_size]) (vals_one _ _ _) ?_))
  go_loopw [2] (fun i wr => ∃ k : Nat, 1 ≤ k ∧ k ≤ 31 ∧ i = .int .i64 k ∧ Blk wr w.heap.size (vals .u8 32 (bigK k)) 22 ∧ Below w.heap.size w wr) (fun i _ => 31 - (intOf i).toNat)
  case atStart =>
    refine ⟨1, by omega, by omega, rfl, ?_, ?_⟩
    · exact ((Blk.new w _ _).row _).cast (vals_congr _ _ _ _ fun j _ => by
        unfold oneB bigK
        by_cases h : j = 0
        · rw [if_pos h, if_pos h]
        · rw [if_neg h, if_neg h, if_neg (by omega)])
    · exact Below.row ((Below.refl _ w).alloc (Nat.le_refl _) _) (Nat.le_refl _) _
  case round =>
    obtain ⟨k, hk1, hk, rfl, Bb, L⟩ := hrel
    by_cases hlt : k < 31
    · have cb := Bb.cell k
      rw [vals_get _ _ _ _ (by omega)] at cb
      have fb := Bb.frozen k
      have HB := hide Bb
      have HL := hide L
      clear Bb L
      have hk0 : (0 : Int) ≤ (k : Int) := by omega
      have hk4 : (k : Int) < 31 := by omega
      go_wp2
      go_roundw
      case rel =>
        refine ⟨k + 1, by omega, by omega, by go_num, ?_, HL.out.setCell (Nat.le_refl _) _⟩
        exact (HB.out.set k (.int .u8 (255 : Nat))).cast (by rw [vals_set]; exact vals_congr _ _ _ _ fun j _ => bigK_succ k j hk1)
      case measure => simp [intOf]; omega
    · have e4 : k = 31 := by omega
      subst e4
      have cb := Bb.cell 31
      rw [vals_get _ _ _ _ (by omega)] at cb
      have fb := Bb.frozen 31
      have HB := hide (Blk.cast (c' := vals .u8 32 bigB) (Bb.set 31 (.int .u8 (127 : Nat))) (by rw [vals_set]; exact vals_congr _ _ _ _ fun j _ => bigK_last j))
      have HL := hide (L.setCell (p := ⟨w.heap.size, 31, none⟩) (Nat.le_refl _) (.int .u8 (127 : Nat)))
      clear Bb L
      go_wp2_with fail
      refine (of_at 0 _ _ (by rfl) (by omega)).mono ?_
      rintro e w1 ⟨rfl, hb1⟩
      have HB1 := hide (HB.out.call hb1)
      have HL1 := hide (HL.out.trans (hb1.mono HL.out.size))
      clear HB HL hb1 cb fb
      dsimp only
      go_wp2_with fail
      refine (of_at 1 _ _ (by rfl) (by omega)).mono ?_
      rintro e w2 ⟨rfl, hb1⟩
      have HB2 := hide (HB1.out.call hb1)
      have HL2 := hide (HL1.out.trans (hb1.mono HL1.out.size))
      clear HB1 HL1 hb1
      dsimp only
      go_wp2_with fail
      refine (sub_m _ _ (by rfl)).mono ?_
      rintro e w3 ⟨rfl, hb1⟩
      have HB3 := hide (HB2.out.call hb1)
      have HL3 := hide (HL2.out.trans (hb1.mono HL2.out.size))
      clear HB2 HL2 hb1
      dsimp only
      go_wp2_with fail
      refine (bytes_at mOne _ _ (by rfl)).mono ?_
      rintro e w4 ⟨rfl, hb1⟩
      have HB4 := hide (HB3.out.call hb1)
      have HL4 := hide (HL3.out.trans (hb1.mono HL3.out.size))
      clear HB3 HL3 hb1
      unfold ba
      dsimp only
      go_wp2_with (first
        | (refine wpList_store_row rfl 22 _ _ rfl w4.heap.size (vals .u8 32 (byt mOne)) rfl rfl 22 (vals .u8 32 (fun _ => 0)) (Blk.new w4 _ _) (by rw [vals_size]; exact cells22) (by rw [vals_size, vals_size]) (vals_one _ _ _) ?_))
      --GEN
      have HM4b := hide ((Blk.new w4 (vals .u8 32 (fun _ => 0)) 22).row (vals .u8 32 (byt mOne)))
      have hlt4 := HB4.out.lt
      have HN4 := hide hlt4
      clear hlt4
      have HB4b := hide ((HB4.out.alloc (.cells (vals .u8 32 (fun _ => 0)) 22)).rowOther (vals .u8 32 (byt mOne)) (show w4.heap.size ≠ w.heap.size by have := HN4.out; omega))
      have HL4b := hide (Below.row (HL4.out.alloc HL4.out.size (.cells (vals .u8 32 (fun _ => 0)) 22)) (b := w4.heap.size) HL4.out.size (vals .u8 32 (byt mOne)))
      clear HB4 HL4
      refine (of_at 4 _ _ (by rfl) (by omega)).mono ?_
      rintro e w5 ⟨rfl, hb1⟩
      have HB5 := hide (HB4b.out.call hb1)
      have HM5 := hide (HM4b.out.call hb1)
      have HL5 := hide (HL4b.out.trans (hb1.mono HL4b.out.size))
      clear HB4b HM4b HL4b hb1
      dsimp only
      go_wp2_with fail
      refine (of_at 1 _ _ (by rfl) (by omega)).mono ?_
      rintro e w6 ⟨rfl, hb1⟩
      have HB6 := hide (HB5.out.call hb1)
      have HM6 := hide (HM5.out.call hb1)
      have HL6 := hide (HL5.out.trans (hb1.mono HL5.out.size))
      clear HB5 HM5 HL5 hb1
      dsimp only
      go_wp2_with fail
      refine (ratio_at 4 1 _ _ (by rfl) (n_lt 4 (by omega)) (n_lt 1 (by omega))).mono ?_
      rw [val41, ok41, fe_def 2]
      rintro e w7 ⟨rfl, hb1⟩
      have HB7 := hide (HB6.out.call hb1)
      have HM7 := hide (HM6.out.call hb1)
      have HL7 := hide (HL6.out.trans (hb1.mono HL6.out.size))
      clear HB6 HM6 HL6 hb1
      dsimp only
      go_wp2_with fail
      have HR7b := hide (Blk.new w7 (lits 2) 27)
      have HB7b := hide (HB7.out.alloc (.cells (lits 2) 27))
      have HM7b := hide (HM7.out.alloc (.cells (lits 2) 27))
      have HL7b := hide (HL7.out.alloc HL7.out.size (.cells (lits 2) 27))
      clear HB7 HM7 HL7
      refine (of_at 2 _ _ (by rfl) (by omega)).mono ?_
      rintro e w8 ⟨rfl, hb1⟩
      have HB8 := hide (HB7b.out.call hb1)
      have HM8 := hide (HM7b.out.call hb1)
      have HR8 := hide (HR7b.out.call hb1)
      have HL8 := hide (HL7b.out.trans (hb1.mono HL7b.out.size))
      clear HB7b HM7b HR7b HL7b hb1
      dsimp only
      go_wp2_with fail
      refine (of_at 1 _ _ (by rfl) (by omega)).mono ?_
      rintro e w9 ⟨rfl, hb1⟩
      have HB9 := hide (HB8.out.call hb1)
      have HM9 := hide (HM8.out.call hb1)
      have HR9 := hide (HR8.out.call hb1)
      have HL9 := hide (HL8.out.trans (hb1.mono HL8.out.size))
      clear HB8 HM8 HR8 HL8 hb1
      dsimp only
      go_wp2_with fail
      refine (ratio_at 2 1 _ _ (by rfl) (n_lt 2 (by omega)) (n_lt 1 (by omega))).mono ?_
      rw [ok21, fe_def (rVal 2 1)]; generalize rVal 2 1 = rv
      rintro e w10 ⟨rfl, hb1⟩
      have HB10 := hide (HB9.out.call hb1)
      have HM10 := hide (HM9.out.call hb1)
      have HR10 := hide (HR9.out.call hb1)
      have HL10 := hide (HL9.out.trans (hb1.mono HL9.out.size))
      clear HB9 HM9 HR9 HL9 hb1
      dsimp only
      have HB10b := hide (HB10.out.alloc (.cells (lits rv) 27))
      have HM10b := hide (HM10.out.alloc (.cells (lits rv) 27))
      have HR10b := hide (HR10.out.alloc (.cells (lits rv) 27))
      have HL10b := hide (HL10.out.alloc HL10.out.size (.cells (lits rv) 27))
      clear HB10 HM10 HR10 HL10
      go_wp2_with (first
        | (refine wpList_load_row rfl 22 _ rfl w.heap.size rfl 22 _ (0, 0) _ HB10b.out Try.underlying22 rfl (by rw [vals_size]; exact cells22) ?_))
      have he1 := eq_1
      have he2 := eq_2
      refine (load_at bigB _ _ (by rfl) bigB_lt).mono ?_
      rw [nb_big]
      rintro e w11 ⟨rfl, hb1⟩
      have HM11 := hide (HM10b.out.call hb1)
      have HR11 := hide (HR10b.out.call hb1)
      have HL11 := hide (HL10b.out.trans (hb1.mono HL10b.out.size))
      clear HM10b HR10b HL10b hb1
      dsimp only
      go_wp2_with fail
      refine (bytes_at 1 _ _ (by rfl)).mono ?_
      rintro e w12 ⟨rfl, hb1⟩
      have HM12 := hide (HM11.out.call hb1)
      have HR12 := hide (HR11.out.call hb1)
      have HL12 := hide (HL11.out.trans (hb1.mono HL11.out.size))
      clear HM11 HR11 HL11 hb1
      unfold ba
      dsimp only
      have cm0 := HM12.out.cell 0
      rw [vals_get _ _ _ _ (by omega), show byt mOne 0 = 236 from byt_m0] at cm0
      have cm1 := HM12.out.cell 1
      rw [vals_get _ _ _ _ (by omega), show byt mOne 1 = 255 from byt_m1] at cm1
      have cm31 := HM12.out.cell 31
      rw [vals_get _ _ _ _ (by omega), show byt mOne 31 = 127 from byt_m31] at cm31
      obtain ⟨cr, fr⟩ := HR12.out.rules
      go_wp2_with fail
      clear cm0 cm1 cm31 cr fr
      refine (bytes_at 2 _ _ (by rfl)).mono ?_
      rintro e w13 ⟨rfl, hb1⟩
      have HM13 := hide (HM12.out.call hb1)
      have HR13 := hide (HR12.out.call hb1)
      have HL13 := hide (HL12.out.trans (hb1.mono HL12.out.size))
      clear HM12 HR12 HL12 hb1
      unfold ba
      dsimp only
      go_wp2_with fail
      refine (of_at 3 _ _ (by rfl) (by omega)).mono ?_
      rintro e w14 ⟨rfl, hb1⟩
      have HM14 := hide (HM13.out.call hb1)
      have HL14 := hide (HL13.out.trans (hb1.mono HL13.out.size))
      clear HM13 HL13 hb1
      dsimp only
      go_wp2_with fail
      refine (of_at 3 _ _ (by rfl) (by omega)).mono ?_
      rintro e w15 ⟨rfl, hb1⟩
      have HM15 := hide (HM14.out.call hb1)
      have HL15 := hide (HL14.out.trans (hb1.mono HL14.out.size))
      clear HM14 HL14 hb1
      dsimp only
      go_wp2_with fail
      refine (same_b 3 3 true _ _ (by rfl) (n_lt 3 (by omega)) (n_lt 3 (by omega)) (by decide)).mono ?_
      rintro e w16 ⟨rfl, hb1⟩
      have HM16 := hide (HM15.out.call hb1)
      have HL16 := hide (HL15.out.trans (hb1.mono HL15.out.size))
      clear HM15 HL15 hb1
      dsimp only
      go_wp2_with fail
      refine (of_at 3 _ _ (by rfl) (by omega)).mono ?_
      rintro e w17 ⟨rfl, hb1⟩
      have HM17 := hide (HM16.out.call hb1)
      have HL17 := hide (HL16.out.trans (hb1.mono HL16.out.size))
      clear HM16 HL16 hb1
      dsimp only
      go_wp2_with fail
      refine (odd_b 3 true _ _ (by rfl) (by decide)).mono ?_
      rintro e w18 ⟨rfl, hb1⟩
      have HM18 := hide (HM17.out.call hb1)
      have HL18 := hide (HL17.out.trans (hb1.mono HL17.out.size))
      clear HM17 HL17 hb1
      dsimp only
      go_wp2_with fail
      refine (of_at 4 _ _ (by rfl) (by omega)).mono ?_
      rintro e w19 ⟨rfl, hb1⟩
      have HM19 := hide (HM18.out.call hb1)
      have HL19 := hide (HL18.out.trans (hb1.mono HL18.out.size))
      clear HM18 HL18 hb1
      dsimp only
      go_wp2_with fail
      refine (odd_b 4 false _ _ (by rfl) (by decide)).mono ?_
      rintro e w20 ⟨rfl, hb1⟩
      have HM20 := hide (HM19.out.call hb1)
      have HL20 := hide (HL19.out.trans (hb1.mono HL19.out.size))
      clear HM19 HL19 hb1
      dsimp only
      go_wp2
      go_ret
      exact ⟨rfl, HL20.out⟩
theorem awake_at (args : Array Value) (w : World) (h : args = #[]) :
    Calls Try.prog 10 args w fun e w' => e = .returned (.bool true) ∧ Below w.heap.size w w' := by
  subst h; exact awake_any w
end Go.Proofs.Ytbjcfibpiiplaaa

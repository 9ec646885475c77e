/- FieldRing's walk: for all three rows of 32 bytes the law returns true. -/
import Derived.Test.YtbjcfibpiiplaaaRm
import Derived.Test.YtbjcfibpiiplaaaWp
import Derived.Test.YtbjcfibpiiplaaaWt
namespace Go.Proofs.Ytbjcfibpiiplaaa
open Go.RowKit

theorem add_m (x y : Nat) (w : World) (hx : x < pP) (hy : y < pP) :
    Calls Try.prog 18 #[fe x, fe y] w fun e w' => e = .returned (fe (am x y)) ∧ Below w.heap.size w w' := add_any x y w hx hy
theorem sub_m2 (x y : Nat) (w : World) (hx : x < pP) (hy : y < pP) :
    Calls Try.prog 20 #[fe x, fe y] w fun e w' => e = .returned (fe (sm x y)) ∧ Below w.heap.size w w' := sub_any x y w hx hy
theorem mul_m (x y : Nat) (w : World) (hx : x < pP) (hy : y < pP) :
    Calls Try.prog 22 #[fe x, fe y] w fun e w' => e = .returned (fe (mm x y)) ∧ Below w.heap.size w w' := mul_any x y w hx hy
theorem sq_m (x : Nat) (w : World) (hx : x < pP) :
    Calls Try.prog 24 #[fe x] w fun e w' => e = .returned (fe (mm x x)) ∧ Below w.heap.size w w' := square_any x w hx
theorem neg_m (x : Nat) (w : World) (hx : x < pP) :
    Calls Try.prog 25 #[fe x] w fun e w' => e = .returned (fe (ng x)) ∧ Below w.heap.size w w' := neg_any x w hx
theorem inv_m (x : Nat) (w : World) (hx : x < pP) :
    Calls Try.prog 26 #[fe x] w fun e w' => e = .returned (fe (invV x)) ∧ Below w.heap.size w w' := inv_any x w hx
theorem same_m (x y : Nat) (b : Bool) (w : World) (hx : x < pP) (hy : y < pP) (hb : decide (x = y) = b) :
    Calls Try.prog 16 #[fe x, fe y] w fun e w' => e = .returned (.bool b) ∧ Below w.heap.size w w' := by
  subst hb; exact same_any x y w hx hy
theorem same_z (x : Nat) (b : Bool) (w : World) (hx : x < pP) (hb : decide (x = 0) = b) :
    Calls Try.prog 16 #[fe x, .agg #[.int .u64 0, .int .u64 0, .int .u64 0, .int .u64 0]] w fun e w' => e = .returned (.bool b) ∧ Below w.heap.size w w' := by
  subst hb; rw [← fe0]; exact same_any x 0 w hx pP_pos
theorem yes {x y : Nat} (h : x = y) : decide (x = y) = true := by simpa using h
theorem no {x y : Nat} (h : x ≠ y) : decide (x = y) = false := by simpa using h
theorem invV_lt (x : Nat) : invV x < pP := mm_lt _ _
theorem one_ltP : 1 < pP := by unfold pP; omega
theorem pm_zero' (x e : Nat) (h0 : x = 0) (h : 0 < e) : pm x e = 0 := by subst h0; exact pm_zero e h
theorem inv_zero' (x : Nat) (h : x = 0) : invV x = 0 := by
  rw [inv_pow x (by rw [h]; exact pP_pos)]; exact pm_zero' x _ h (by unfold pP; omega)
theorem mm_not1 (x y : Nat) (h : x = 0) : mm x y ≠ 1 := by
  subst h; unfold mm; rw [Nat.zero_mul, Nat.zero_mod]; decide
theorem inv_one (x : Nat) (hx : x < pP) (h0 : x ≠ 0) : mm x (invV x) = 1 := inv_mm x _ hx h0 (inv_pow x hx)

set_option maxRecDepth 100000 in
set_option maxHeartbeats 4000000 in
theorem ring_walk (f g h : Nat → Nat) (w : World) (hf : ∀ i, f i < 256) (hg : ∀ i, g i < 256) (hh : ∀ i, h i < 256) :
    Calls Try.prog 6 #[ba f, ba g, ba h] w fun e w' => e = .returned (.bool true) ∧ Below w.heap.size w w' := by
  have Hf := hide hf
  have Hg := hide hg
  have Hh := hide hh
  clear hf hg hh
  unfold ba
  have A_0 := hide (((Blk.new w (vals .u8 32 f) 22).alloc (.cells (vals .u8 32 g) 22)).alloc (.cells (vals .u8 32 h) 22))
  have B_0 := hide ((Blk.new' (w.alloc (.cells (vals .u8 32 f) 22)) (w.heap.size + 1) (by simp) (vals .u8 32 g) 22).alloc (.cells (vals .u8 32 h) 22))
  have C_0 := hide (Blk.new' ((w.alloc (.cells (vals .u8 32 f) 22)).alloc (.cells (vals .u8 32 g) 22)) (w.heap.size + 2) (by simp) (vals .u8 32 h) 22)
  have L0 : Hid (Below w.heap.size w (((w.alloc (.cells (vals .u8 32 f) 22)).alloc (.cells (vals .u8 32 g) 22)).alloc (.cells (vals .u8 32 h) 22))) := hide ((((Below.refl _ w).alloc (Nat.le_refl _) _).alloc (by simp) _).alloc (by simp; omega) _)
  go_enter Try.func6, Try.ntmps6
  go_wp2_with fail
  refine (awake_at _ _ (by rfl)).mono ?_
  rintro e k1 ⟨rfl, hb⟩
  have A_1 := hide (A_0.out.call hb)
  have B_1 := hide (B_0.out.call hb)
  have C_1 := hide (C_0.out.call hb)
  have Lw_1 := hide (L0.out.trans (hb.mono L0.out.size))
  clear A_0 B_0 C_0 L0 hb
  dsimp only
  go_wp2_with (first | (refine wpList_load_row rfl 22 _ rfl (w.heap.size) rfl 22 _ (0, 0) _ A_1.out Try.underlying22 rfl (by rw [vals_size]; exact cells22) ?_))
  refine (load_at f _ _ (by rfl) Hf.out).mono ?_
  rw [fe_def (nb f 32 % pP)]
  rintro e k2 ⟨rfl, hb⟩
  have A_2 := hide (A_1.out.call hb)
  have B_2 := hide (B_1.out.call hb)
  have C_2 := hide (C_1.out.call hb)
  have Lw_2 := hide (Lw_1.out.trans (hb.mono Lw_1.out.size))
  clear A_1 B_1 C_1 Lw_1 hb
  dsimp only
  obtain ⟨x, hx⟩ : ∃ x, x = nb f 32 % pP := ⟨_, rfl⟩
  have Lx : Hid (x < pP) := hide (by rw [hx]; exact Nat.mod_lt _ pP_pos)
  rw [← hx]
  clear hx
  have X_3 := hide (Blk.new k2 (lits x) 27)
  have A_3 := hide (A_2.out.alloc (.cells (lits x) 27))
  have B_3 := hide (B_2.out.alloc (.cells (lits x) 27))
  have C_3 := hide (C_2.out.alloc (.cells (lits x) 27))
  have Lw_3 := hide (Lw_2.out.alloc Lw_2.out.size (.cells (lits x) 27))
  clear A_2 B_2 C_2 Lw_2
  go_wp2_with (first | (refine wpList_load_row rfl 22 _ rfl (w.heap.size + 1) rfl 22 _ (0, 0) _ B_3.out Try.underlying22 rfl (by rw [vals_size]; exact cells22) ?_))
  refine (load_at g _ _ (by rfl) Hg.out).mono ?_
  rw [fe_def (nb g 32 % pP)]
  rintro e k4 ⟨rfl, hb⟩
  have A_4 := hide (A_3.out.call hb)
  have B_4 := hide (B_3.out.call hb)
  have C_4 := hide (C_3.out.call hb)
  have X_4 := hide (X_3.out.call hb)
  have Lw_4 := hide (Lw_3.out.trans (hb.mono Lw_3.out.size))
  clear A_3 B_3 C_3 X_3 Lw_3 hb
  dsimp only
  obtain ⟨y, hy⟩ : ∃ y, y = nb g 32 % pP := ⟨_, rfl⟩
  have Ly : Hid (y < pP) := hide (by rw [hy]; exact Nat.mod_lt _ pP_pos)
  rw [← hy]
  clear hy
  have Y_5 := hide (Blk.new k4 (lits y) 27)
  have A_5 := hide (A_4.out.alloc (.cells (lits y) 27))
  have B_5 := hide (B_4.out.alloc (.cells (lits y) 27))
  have C_5 := hide (C_4.out.alloc (.cells (lits y) 27))
  have X_5 := hide (X_4.out.alloc (.cells (lits y) 27))
  have Lw_5 := hide (Lw_4.out.alloc Lw_4.out.size (.cells (lits y) 27))
  clear A_4 B_4 C_4 X_4 Lw_4
  go_wp2_with (first | (refine wpList_load_row rfl 22 _ rfl (w.heap.size + 2) rfl 22 _ (0, 0) _ C_5.out Try.underlying22 rfl (by rw [vals_size]; exact cells22) ?_))
  refine (load_at h _ _ (by rfl) Hh.out).mono ?_
  rw [fe_def (nb h 32 % pP)]
  rintro e k6 ⟨rfl, hb⟩
  have A_6 := hide (A_5.out.call hb)
  have B_6 := hide (B_5.out.call hb)
  have C_6 := hide (C_5.out.call hb)
  have X_6 := hide (X_5.out.call hb)
  have Y_6 := hide (Y_5.out.call hb)
  have Lw_6 := hide (Lw_5.out.trans (hb.mono Lw_5.out.size))
  clear A_5 B_5 C_5 X_5 Y_5 Lw_5 hb
  dsimp only
  obtain ⟨z, hz⟩ : ∃ z, z = nb h 32 % pP := ⟨_, rfl⟩
  have Lz : Hid (z < pP) := hide (by rw [hz]; exact Nat.mod_lt _ pP_pos)
  rw [← hz]
  clear hz
  have Z_7 := hide (Blk.new k6 (lits z) 27)
  have A_7 := hide (A_6.out.alloc (.cells (lits z) 27))
  have B_7 := hide (B_6.out.alloc (.cells (lits z) 27))
  have C_7 := hide (C_6.out.alloc (.cells (lits z) 27))
  have X_7 := hide (X_6.out.alloc (.cells (lits z) 27))
  have Y_7 := hide (Y_6.out.alloc (.cells (lits z) 27))
  have Lw_7 := hide (Lw_6.out.alloc Lw_6.out.size (.cells (lits z) 27))
  clear A_6 B_6 C_6 X_6 Y_6 Lw_6
  go_wp2
  generalize k6.alloc (.cells (lits z) 27) = y0 at *
  have Gx := X_7
  have Gy := Y_7
  have Gz := Z_7
  have HL := Lw_7
  clear A_7 B_7 C_7 X_7 Y_7 Z_7 Lw_7
  have E1 := hide (am_comm x y)
  have E2 := hide (mm_comm x y)
  have E3 := hide (am_assoc x y z)
  have rux := Gx.out.ruleOf
  have ruy := Gy.out.ruleOf
  have ruz := Gz.out.ruleOf
  go_cut [11] (fun s wx => s = .bool true ∧ Below y0.heap.size y0 wx)
  case first =>
    go_region_held3 (fun w' => Below y0.heap.size y0 w') (first | exact HT.out | exact (Below.refl _ _).drew)
      (first
        | (go_at_call 18; refine (add_m _ _ _ ?_ ?_).mono ?_; (first | exact Lx.out | exact Ly.out | exact Lz.out | exact mm_lt _ _ | exact am_lt _ _ | exact sm_lt _ _ | exact ng_lt _ | exact invV_lt _ | exact pP_pos | exact one_ltP); (first | exact Lx.out | exact Ly.out | exact Lz.out | exact mm_lt _ _ | exact am_lt _ _ | exact sm_lt _ _ | exact ng_lt _ | exact invV_lt _ | exact pP_pos | exact one_ltP); rintro e k ⟨rfl, hb⟩; have HT := hide (keepCall hb rfl (by assumption)))
        | (go_at_call 22; refine (mul_m _ _ _ ?_ ?_).mono ?_; (first | exact Lx.out | exact Ly.out | exact Lz.out | exact mm_lt _ _ | exact am_lt _ _ | exact sm_lt _ _ | exact ng_lt _ | exact invV_lt _ | exact pP_pos | exact one_ltP); (first | exact Lx.out | exact Ly.out | exact Lz.out | exact mm_lt _ _ | exact am_lt _ _ | exact sm_lt _ _ | exact ng_lt _ | exact invV_lt _ | exact pP_pos | exact one_ltP); rintro e k ⟨rfl, hb⟩; have HT := hide (keepCall hb rfl (by assumption)))
        | (go_at_call 20; refine (sub_m2 _ _ _ ?_ ?_).mono ?_; (first | exact Lx.out | exact Ly.out | exact Lz.out | exact mm_lt _ _ | exact am_lt _ _ | exact sm_lt _ _ | exact ng_lt _ | exact invV_lt _ | exact pP_pos | exact one_ltP); (first | exact Lx.out | exact Ly.out | exact Lz.out | exact mm_lt _ _ | exact am_lt _ _ | exact sm_lt _ _ | exact ng_lt _ | exact invV_lt _ | exact pP_pos | exact one_ltP); rintro e k ⟨rfl, hb⟩; have HT := hide (keepCall hb rfl (by assumption)))
        | (go_at_call 24; refine (sq_m _ _ ?_).mono ?_; (first | exact Lx.out | exact Ly.out | exact Lz.out | exact mm_lt _ _ | exact am_lt _ _ | exact sm_lt _ _ | exact ng_lt _ | exact invV_lt _ | exact pP_pos | exact one_ltP); rintro e k ⟨rfl, hb⟩; have HT := hide (keepCall hb rfl (by assumption)))
        | (go_at_call 25; refine (neg_m _ _ ?_).mono ?_; (first | exact Lx.out | exact Ly.out | exact Lz.out | exact mm_lt _ _ | exact am_lt _ _ | exact sm_lt _ _ | exact ng_lt _ | exact invV_lt _ | exact pP_pos | exact one_ltP); rintro e k ⟨rfl, hb⟩; have HT := hide (keepCall hb rfl (by assumption)))
        | (go_at_call 26; refine (inv_m _ _ ?_).mono ?_; (first | exact Lx.out | exact Ly.out | exact Lz.out | exact mm_lt _ _ | exact am_lt _ _ | exact sm_lt _ _ | exact ng_lt _ | exact invV_lt _ | exact pP_pos | exact one_ltP); rintro e k ⟨rfl, hb⟩; have HT := hide (keepCall hb rfl (by assumption)))
        | (go_at_call 31; refine (of_any 1 _ (by omega)).mono ?_; rintro e k ⟨rfl, hb⟩; have HT := hide (keepCall hb rfl (by assumption)))
        | (go_at_call 16; refine (same_m _ _ true _ ?_ ?_ ?_).mono ?_; (first | exact Lx.out | exact Ly.out | exact Lz.out | exact mm_lt _ _ | exact am_lt _ _ | exact sm_lt _ _ | exact ng_lt _ | exact invV_lt _ | exact pP_pos | exact one_ltP); (first | exact Lx.out | exact Ly.out | exact Lz.out | exact mm_lt _ _ | exact am_lt _ _ | exact sm_lt _ _ | exact ng_lt _ | exact invV_lt _ | exact pP_pos | exact one_ltP); (first | exact yes E1.out | exact yes E2.out | exact yes E3.out); rintro e k ⟨rfl, hb⟩; have HT := hide (keepCall hb rfl (by assumption))))
    all_goals
      go_wp2
      go_meet
      case rel => exact ⟨rfl, HT.out⟩
  case rest =>
    clear rux ruy ruz
    obtain ⟨rfl, L⟩ := hcut
    have Kx := hide (Blk.call Gx.out L)
    have Ky := hide (Blk.call Gy.out L)
    have Kz := hide (Blk.call Gz.out L)
    have KL := hide (HL.out.trans (L.mono HL.out.size))
    clear Gx Gy Gz HL L
    have Gx := Kx
    have Gy := Ky
    have Gz := Kz
    have HL := KL
    clear Kx Ky Kz KL
    generalize wc = y1 at *
    go_wp2
    have E4 := hide (mm_assoc x y z)
    have E5 := hide (mm_am x y z)
    have rux := Gx.out.ruleOf
    have ruy := Gy.out.ruleOf
    have ruz := Gz.out.ruleOf
    go_cut [12] (fun s wx => s = .bool true ∧ Below y1.heap.size y1 wx)
    case first =>
      go_region_held3 (fun w' => Below y1.heap.size y1 w') (first | exact HT.out | exact (Below.refl _ _).drew)
        (first
          | (go_at_call 18; refine (add_m _ _ _ ?_ ?_).mono ?_; (first | exact Lx.out | exact Ly.out | exact Lz.out | exact mm_lt _ _ | exact am_lt _ _ | exact sm_lt _ _ | exact ng_lt _ | exact invV_lt _ | exact pP_pos | exact one_ltP); (first | exact Lx.out | exact Ly.out | exact Lz.out | exact mm_lt _ _ | exact am_lt _ _ | exact sm_lt _ _ | exact ng_lt _ | exact invV_lt _ | exact pP_pos | exact one_ltP); rintro e k ⟨rfl, hb⟩; have HT := hide (keepCall hb rfl (by assumption)))
          | (go_at_call 22; refine (mul_m _ _ _ ?_ ?_).mono ?_; (first | exact Lx.out | exact Ly.out | exact Lz.out | exact mm_lt _ _ | exact am_lt _ _ | exact sm_lt _ _ | exact ng_lt _ | exact invV_lt _ | exact pP_pos | exact one_ltP); (first | exact Lx.out | exact Ly.out | exact Lz.out | exact mm_lt _ _ | exact am_lt _ _ | exact sm_lt _ _ | exact ng_lt _ | exact invV_lt _ | exact pP_pos | exact one_ltP); rintro e k ⟨rfl, hb⟩; have HT := hide (keepCall hb rfl (by assumption)))
          | (go_at_call 20; refine (sub_m2 _ _ _ ?_ ?_).mono ?_; (first | exact Lx.out | exact Ly.out | exact Lz.out | exact mm_lt _ _ | exact am_lt _ _ | exact sm_lt _ _ | exact ng_lt _ | exact invV_lt _ | exact pP_pos | exact one_ltP); (first | exact Lx.out | exact Ly.out | exact Lz.out | exact mm_lt _ _ | exact am_lt _ _ | exact sm_lt _ _ | exact ng_lt _ | exact invV_lt _ | exact pP_pos | exact one_ltP); rintro e k ⟨rfl, hb⟩; have HT := hide (keepCall hb rfl (by assumption)))
          | (go_at_call 24; refine (sq_m _ _ ?_).mono ?_; (first | exact Lx.out | exact Ly.out | exact Lz.out | exact mm_lt _ _ | exact am_lt _ _ | exact sm_lt _ _ | exact ng_lt _ | exact invV_lt _ | exact pP_pos | exact one_ltP); rintro e k ⟨rfl, hb⟩; have HT := hide (keepCall hb rfl (by assumption)))
          | (go_at_call 25; refine (neg_m _ _ ?_).mono ?_; (first | exact Lx.out | exact Ly.out | exact Lz.out | exact mm_lt _ _ | exact am_lt _ _ | exact sm_lt _ _ | exact ng_lt _ | exact invV_lt _ | exact pP_pos | exact one_ltP); rintro e k ⟨rfl, hb⟩; have HT := hide (keepCall hb rfl (by assumption)))
          | (go_at_call 26; refine (inv_m _ _ ?_).mono ?_; (first | exact Lx.out | exact Ly.out | exact Lz.out | exact mm_lt _ _ | exact am_lt _ _ | exact sm_lt _ _ | exact ng_lt _ | exact invV_lt _ | exact pP_pos | exact one_ltP); rintro e k ⟨rfl, hb⟩; have HT := hide (keepCall hb rfl (by assumption)))
          | (go_at_call 31; refine (of_any 1 _ (by omega)).mono ?_; rintro e k ⟨rfl, hb⟩; have HT := hide (keepCall hb rfl (by assumption)))
          | (go_at_call 16; refine (same_m _ _ true _ ?_ ?_ ?_).mono ?_; (first | exact Lx.out | exact Ly.out | exact Lz.out | exact mm_lt _ _ | exact am_lt _ _ | exact sm_lt _ _ | exact ng_lt _ | exact invV_lt _ | exact pP_pos | exact one_ltP); (first | exact Lx.out | exact Ly.out | exact Lz.out | exact mm_lt _ _ | exact am_lt _ _ | exact sm_lt _ _ | exact ng_lt _ | exact invV_lt _ | exact pP_pos | exact one_ltP); (first | exact yes E4.out | exact yes E5.out); rintro e k ⟨rfl, hb⟩; have HT := hide (keepCall hb rfl (by assumption))))
      all_goals
        go_wp2
        go_meet
        case rel => exact ⟨rfl, HT.out⟩
    case rest =>
      clear rux ruy ruz
      obtain ⟨rfl, L⟩ := hcut
      have Kx := hide (Blk.call Gx.out L)
      have Ky := hide (Blk.call Gy.out L)
      have Kz := hide (Blk.call Gz.out L)
      have KL := hide (HL.out.trans (L.mono HL.out.size))
      clear Gx Gy Gz HL L
      have Gx := Kx
      have Gy := Ky
      have Gz := Kz
      have HL := KL
      clear Kx Ky Kz KL
      generalize wc = y2 at *
      go_wp2
      have E6 := hide (am_ng x Lx.out)
      have E7 := hide (sm_am x y Lx.out Ly.out)
      have rux := Gx.out.ruleOf
      have ruy := Gy.out.ruleOf
      have ruz := Gz.out.ruleOf
      go_cut [13] (fun s wx => s = .bool true ∧ Below y2.heap.size y2 wx)
      case first =>
        go_region_held3 (fun w' => Below y2.heap.size y2 w') (first | exact HT.out | exact (Below.refl _ _).drew)
          (first
            | (go_at_call 18; refine (add_m _ _ _ ?_ ?_).mono ?_; (first | exact Lx.out | exact Ly.out | exact Lz.out | exact mm_lt _ _ | exact am_lt _ _ | exact sm_lt _ _ | exact ng_lt _ | exact invV_lt _ | exact pP_pos | exact one_ltP); (first | exact Lx.out | exact Ly.out | exact Lz.out | exact mm_lt _ _ | exact am_lt _ _ | exact sm_lt _ _ | exact ng_lt _ | exact invV_lt _ | exact pP_pos | exact one_ltP); rintro e k ⟨rfl, hb⟩; have HT := hide (keepCall hb rfl (by assumption)))
            | (go_at_call 22; refine (mul_m _ _ _ ?_ ?_).mono ?_; (first | exact Lx.out | exact Ly.out | exact Lz.out | exact mm_lt _ _ | exact am_lt _ _ | exact sm_lt _ _ | exact ng_lt _ | exact invV_lt _ | exact pP_pos | exact one_ltP); (first | exact Lx.out | exact Ly.out | exact Lz.out | exact mm_lt _ _ | exact am_lt _ _ | exact sm_lt _ _ | exact ng_lt _ | exact invV_lt _ | exact pP_pos | exact one_ltP); rintro e k ⟨rfl, hb⟩; have HT := hide (keepCall hb rfl (by assumption)))
            | (go_at_call 20; refine (sub_m2 _ _ _ ?_ ?_).mono ?_; (first | exact Lx.out | exact Ly.out | exact Lz.out | exact mm_lt _ _ | exact am_lt _ _ | exact sm_lt _ _ | exact ng_lt _ | exact invV_lt _ | exact pP_pos | exact one_ltP); (first | exact Lx.out | exact Ly.out | exact Lz.out | exact mm_lt _ _ | exact am_lt _ _ | exact sm_lt _ _ | exact ng_lt _ | exact invV_lt _ | exact pP_pos | exact one_ltP); rintro e k ⟨rfl, hb⟩; have HT := hide (keepCall hb rfl (by assumption)))
            | (go_at_call 24; refine (sq_m _ _ ?_).mono ?_; (first | exact Lx.out | exact Ly.out | exact Lz.out | exact mm_lt _ _ | exact am_lt _ _ | exact sm_lt _ _ | exact ng_lt _ | exact invV_lt _ | exact pP_pos | exact one_ltP); rintro e k ⟨rfl, hb⟩; have HT := hide (keepCall hb rfl (by assumption)))
            | (go_at_call 25; refine (neg_m _ _ ?_).mono ?_; (first | exact Lx.out | exact Ly.out | exact Lz.out | exact mm_lt _ _ | exact am_lt _ _ | exact sm_lt _ _ | exact ng_lt _ | exact invV_lt _ | exact pP_pos | exact one_ltP); rintro e k ⟨rfl, hb⟩; have HT := hide (keepCall hb rfl (by assumption)))
            | (go_at_call 26; refine (inv_m _ _ ?_).mono ?_; (first | exact Lx.out | exact Ly.out | exact Lz.out | exact mm_lt _ _ | exact am_lt _ _ | exact sm_lt _ _ | exact ng_lt _ | exact invV_lt _ | exact pP_pos | exact one_ltP); rintro e k ⟨rfl, hb⟩; have HT := hide (keepCall hb rfl (by assumption)))
            | (go_at_call 31; refine (of_any 1 _ (by omega)).mono ?_; rintro e k ⟨rfl, hb⟩; have HT := hide (keepCall hb rfl (by assumption)))
            | (go_at_call_of 16 (Value.int IntKind.u64 0); refine (same_z _ true _ ?_ ?_).mono ?_; (first | exact Lx.out | exact Ly.out | exact Lz.out | exact mm_lt _ _ | exact am_lt _ _ | exact sm_lt _ _ | exact ng_lt _ | exact invV_lt _ | exact pP_pos | exact one_ltP); (first | exact yes E6.out); rintro e k ⟨rfl, hb⟩; have HT := hide (keepCall hb rfl (by assumption)))
            | (go_at_call 16; refine (same_m _ _ true _ ?_ ?_ ?_).mono ?_; (first | exact Lx.out | exact Ly.out | exact Lz.out | exact mm_lt _ _ | exact am_lt _ _ | exact sm_lt _ _ | exact ng_lt _ | exact invV_lt _ | exact pP_pos | exact one_ltP); (first | exact Lx.out | exact Ly.out | exact Lz.out | exact mm_lt _ _ | exact am_lt _ _ | exact sm_lt _ _ | exact ng_lt _ | exact invV_lt _ | exact pP_pos | exact one_ltP); (first | exact yes E7.out | exact yes (rfl : mm x x = mm x x)); rintro e k ⟨rfl, hb⟩; have HT := hide (keepCall hb rfl (by assumption))))
        all_goals
          go_wp2
          go_meet
          case rel => exact ⟨rfl, HT.out⟩
      case rest =>
        clear rux ruy ruz
        obtain ⟨rfl, L⟩ := hcut
        have Kx := hide (Blk.call Gx.out L)
        have Ky := hide (Blk.call Gy.out L)
        have Kz := hide (Blk.call Gz.out L)
        have KL := hide (HL.out.trans (L.mono HL.out.size))
        clear Gx Gy Gz HL L
        have Gx := Kx
        have Gy := Ky
        have Gz := Kz
        have HL := KL
        clear Kx Ky Kz KL
        generalize wc = y3 at *
        go_wp2
        have rux := Gx.out.ruleOf
        have ruy := Gy.out.ruleOf
        have ruz := Gz.out.ruleOf
        go_cut [14] (fun s wx => s = .bool true ∧ Below y3.heap.size y3 wx)
        case first =>
          by_cases h0 : x = 0
          · have Z0 := hide h0
            have Z1 : Hid (invV x = 0) := hide (inv_zero' x h0)
            have Z2 : Hid (mm x (invV x) ≠ 1) := hide (mm_not1 x _ h0)
            clear h0
            go_region_held3 (fun w' => Below y3.heap.size y3 w') (first | exact HT.out | exact (Below.refl _ _).drew)
              (first
                | (go_at_call 18; refine (add_m _ _ _ ?_ ?_).mono ?_; (first | exact Lx.out | exact Ly.out | exact Lz.out | exact mm_lt _ _ | exact am_lt _ _ | exact sm_lt _ _ | exact ng_lt _ | exact invV_lt _ | exact pP_pos | exact one_ltP); (first | exact Lx.out | exact Ly.out | exact Lz.out | exact mm_lt _ _ | exact am_lt _ _ | exact sm_lt _ _ | exact ng_lt _ | exact invV_lt _ | exact pP_pos | exact one_ltP); rintro e k ⟨rfl, hb⟩; have HT := hide (keepCall hb rfl (by assumption)))
                | (go_at_call 22; refine (mul_m _ _ _ ?_ ?_).mono ?_; (first | exact Lx.out | exact Ly.out | exact Lz.out | exact mm_lt _ _ | exact am_lt _ _ | exact sm_lt _ _ | exact ng_lt _ | exact invV_lt _ | exact pP_pos | exact one_ltP); (first | exact Lx.out | exact Ly.out | exact Lz.out | exact mm_lt _ _ | exact am_lt _ _ | exact sm_lt _ _ | exact ng_lt _ | exact invV_lt _ | exact pP_pos | exact one_ltP); rintro e k ⟨rfl, hb⟩; have HT := hide (keepCall hb rfl (by assumption)))
                | (go_at_call 20; refine (sub_m2 _ _ _ ?_ ?_).mono ?_; (first | exact Lx.out | exact Ly.out | exact Lz.out | exact mm_lt _ _ | exact am_lt _ _ | exact sm_lt _ _ | exact ng_lt _ | exact invV_lt _ | exact pP_pos | exact one_ltP); (first | exact Lx.out | exact Ly.out | exact Lz.out | exact mm_lt _ _ | exact am_lt _ _ | exact sm_lt _ _ | exact ng_lt _ | exact invV_lt _ | exact pP_pos | exact one_ltP); rintro e k ⟨rfl, hb⟩; have HT := hide (keepCall hb rfl (by assumption)))
                | (go_at_call 24; refine (sq_m _ _ ?_).mono ?_; (first | exact Lx.out | exact Ly.out | exact Lz.out | exact mm_lt _ _ | exact am_lt _ _ | exact sm_lt _ _ | exact ng_lt _ | exact invV_lt _ | exact pP_pos | exact one_ltP); rintro e k ⟨rfl, hb⟩; have HT := hide (keepCall hb rfl (by assumption)))
                | (go_at_call 25; refine (neg_m _ _ ?_).mono ?_; (first | exact Lx.out | exact Ly.out | exact Lz.out | exact mm_lt _ _ | exact am_lt _ _ | exact sm_lt _ _ | exact ng_lt _ | exact invV_lt _ | exact pP_pos | exact one_ltP); rintro e k ⟨rfl, hb⟩; have HT := hide (keepCall hb rfl (by assumption)))
                | (go_at_call 26; refine (inv_m _ _ ?_).mono ?_; (first | exact Lx.out | exact Ly.out | exact Lz.out | exact mm_lt _ _ | exact am_lt _ _ | exact sm_lt _ _ | exact ng_lt _ | exact invV_lt _ | exact pP_pos | exact one_ltP); rintro e k ⟨rfl, hb⟩; have HT := hide (keepCall hb rfl (by assumption)))
                | (go_at_call 31; refine (of_any 1 _ (by omega)).mono ?_; rintro e k ⟨rfl, hb⟩; have HT := hide (keepCall hb rfl (by assumption)))
                | (go_at_call_of 16 (Value.int IntKind.u64 0); refine (same_z _ true _ ?_ ?_).mono ?_; (first | exact Lx.out | exact Ly.out | exact Lz.out | exact mm_lt _ _ | exact am_lt _ _ | exact sm_lt _ _ | exact ng_lt _ | exact invV_lt _ | exact pP_pos | exact one_ltP); (first | exact yes Z0.out | exact yes Z1.out); rintro e k ⟨rfl, hb⟩; have HT := hide (keepCall hb rfl (by assumption)))
                | (go_at_call_of 16 (fe (mm x (invV x))); refine (same_m _ _ false _ ?_ ?_ ?_).mono ?_; (first | exact Lx.out | exact Ly.out | exact Lz.out | exact mm_lt _ _ | exact am_lt _ _ | exact sm_lt _ _ | exact ng_lt _ | exact invV_lt _ | exact pP_pos | exact one_ltP); (first | exact Lx.out | exact Ly.out | exact Lz.out | exact mm_lt _ _ | exact am_lt _ _ | exact sm_lt _ _ | exact ng_lt _ | exact invV_lt _ | exact pP_pos | exact one_ltP); exact no Z2.out; rintro e k ⟨rfl, hb⟩; have HT := hide (keepCall hb rfl (by assumption))))
            all_goals
              go_wp2
              go_meet
              case rel => exact ⟨rfl, HT.out⟩
          · have Z3 := hide (inv_one x Lx.out h0)
            clear h0
            refine wp_region_held_drew (S := fun w' => Below y3.heap.size y3 w') (by kernel_rfl) (Below.refl _ _).drew (fun hHeld => ?_)
            refine wpAnyH_take (i := 0) (oi := { dst := some 100, op := Op.load 27 (Operand.tmp 8), type := 27, pos := "law.go:114", after := #[], guard := none }) (v := .agg (lits (x))) rfl (by kernel_rfl) (by kernel_rfl) (by kernel_rfl) (fun _ _ _ h => h) (yields_blk Gx.out (by rfl) 27 _ rfl rfl _ Try.underlying27 rfl cells27) hHeld ?_
            try simp only [Act.put, List.setIfInBounds_toArray, List.set_cons_zero, List.set_cons_succ]
            refine wpAnyH_take (i := 1) (oi := { dst := some 101, op := Op.load 27 (Operand.tmp 8), type := 27, pos := "law.go:114", after := #[], guard := none }) (v := .agg (lits (x))) rfl (by kernel_rfl) (by kernel_rfl) (by kernel_rfl) (fun _ _ _ h => h) (yields_blk Gx.out (by rfl) 27 _ rfl rfl _ Try.underlying27 rfl cells27) hHeld ?_
            try simp only [Act.put, List.setIfInBounds_toArray, List.set_cons_zero, List.set_cons_succ]
            refine wpAnyH_ready (rs := [2]) (by kernel_rfl) (by simp) ?_
            refine AllReadyH.cons (o := { dst := some 102, op := Op.call { callee := Callee.value (Operand.func 26), args := #[Operand.tmp 101], argTypes := #[27] }, type := 27, pos := "law.go:114", after := #[{ on := 1, ground := Ground.data }], guard := none }) rfl (fun K hK => ?_) AllReadyH.nil
            go_simp
            refine (inv_m x _ Lx.out).mono ?_
            rintro e u1 ⟨rfl, hb⟩
            have HT1 := hide (keepCall hb rfl hHeld)
            dsimp only
            refine hK.out _ _ HT1.out (fun hHeld => ?_)
            clear hK K hb
            try simp only [Act.put, List.setIfInBounds_toArray, List.set_cons_zero, List.set_cons_succ]
            refine wpAnyH_ready (rs := [3]) (by kernel_rfl) (by simp) ?_
            refine AllReadyH.cons (o := { dst := some 103, op := Op.call { callee := Callee.value (Operand.func 22), args := #[Operand.tmp 100, Operand.tmp 102], argTypes := #[27, 27] }, type := 27, pos := "law.go:114", after := #[{ on := 0, ground := Ground.data }, { on := 2, ground := Ground.data }, { on := 2, ground := Ground.chain }], guard := none }) rfl (fun K hK => ?_) AllReadyH.nil
            go_simp
            refine (mul_m x (invV x) _ Lx.out (invV_lt x)).mono ?_
            rintro e u2 ⟨rfl, hb⟩
            have HT2 := hide (keepCall hb rfl hHeld)
            dsimp only
            refine hK.out _ _ HT2.out (fun hHeld => ?_)
            clear hK K hb
            try simp only [Act.put, List.setIfInBounds_toArray, List.set_cons_zero, List.set_cons_succ]
            refine wpAnyH_ready (rs := [4]) (by kernel_rfl) (by simp) ?_
            refine AllReadyH.cons (o := { dst := some 104, op := Op.call { callee := Callee.value (Operand.func 31), args := #[Operand.const (Value.int IntKind.u8 1)], argTypes := #[5] }, type := 27, pos := "law.go:114", after := #[{ on := 3, ground := Ground.chain }], guard := none }) rfl (fun K hK => ?_) AllReadyH.nil
            go_simp
            refine (of_any 1 _ (by omega)).mono ?_
            rintro e u3 ⟨rfl, hb⟩
            have HT3 := hide (keepCall hb rfl hHeld)
            dsimp only
            refine hK.out _ _ HT3.out (fun hHeld => ?_)
            clear hK K hb
            try simp only [Act.put, List.setIfInBounds_toArray, List.set_cons_zero, List.set_cons_succ]
            refine wpAnyH_ready (rs := [5]) (by kernel_rfl) (by simp) ?_
            refine AllReadyH.cons (o := { dst := some 105, op := Op.call { callee := Callee.value (Operand.func 16), args := #[Operand.tmp 103, Operand.tmp 104], argTypes := #[27, 27] }, type := 4, pos := "law.go:114", after := #[{ on := 3, ground := Ground.data }, { on := 4, ground := Ground.data }, { on := 4, ground := Ground.chain }], guard := none }) rfl (fun K hK => ?_) AllReadyH.nil
            go_simp
            refine (same_m (mm x (invV x)) 1 true _ (mm_lt _ _) one_ltP (yes Z3.out)).mono ?_
            rintro e u4 ⟨rfl, hb⟩
            have HT4 := hide (keepCall hb rfl hHeld)
            dsimp only
            refine hK.out _ _ HT4.out (fun hHeld => ?_)
            clear hK K hb
            try simp only [Act.put, List.setIfInBounds_toArray, List.set_cons_zero, List.set_cons_succ]
            refine wpAnyH_take (i := 6) (oi := { dst := some 106, op := Op.move (Operand.tmp 105), type := 4, pos := "law.go:114", after := #[{ on := 5, ground := Ground.data }, { on := 5, ground := Ground.chain }], guard := none }) (v := .bool true) rfl (by kernel_rfl) (by kernel_rfl) (by kernel_rfl) (fun _ _ _ h => h) (Or.inl ⟨by rfl, fun w hSw => by go_simp⟩) hHeld ?_
            try simp only [Act.put, List.setIfInBounds_toArray, List.set_cons_zero, List.set_cons_succ]
            refine wpAnyH_take (i := 7) (oi := { dst := some 107, op := Op.load 27 (Operand.tmp 8), type := 27, pos := "law.go:114", after := #[{ on := 6, ground := Ground.guard }], guard := some (6, false) }) (v := undef) rfl (by kernel_rfl) (by kernel_rfl) (by kernel_rfl) (fun _ _ _ h => h) (Or.inr ⟨by rfl, rfl⟩) hHeld ?_
            try simp only [Act.put, List.setIfInBounds_toArray, List.set_cons_zero, List.set_cons_succ]
            refine wpAnyH_take (i := 8) (oi := { dst := some 108, op := Op.build 27 #[], type := 27, pos := "law.go:114", after := #[{ on := 6, ground := Ground.guard }], guard := some (6, false) }) (v := undef) rfl (by kernel_rfl) (by kernel_rfl) (by kernel_rfl) (fun _ _ _ h => h) (Or.inr ⟨by rfl, rfl⟩) hHeld ?_
            try simp only [Act.put, List.setIfInBounds_toArray, List.set_cons_zero, List.set_cons_succ]
            refine wpAnyH_take (i := 9) (oi := { dst := some 109, op := Op.call { callee := Callee.value (Operand.func 16), args := #[Operand.tmp 107, Operand.tmp 108], argTypes := #[27, 27] }, type := 4, pos := "law.go:114", after := #[{ on := 7, ground := Ground.data }, { on := 8, ground := Ground.data }, { on := 6, ground := Ground.chain }, { on := 6, ground := Ground.guard }], guard := some (6, false) }) (v := undef) rfl (by kernel_rfl) (by kernel_rfl) (by kernel_rfl) (fun _ _ _ h => h) (Or.inr ⟨by rfl, rfl⟩) hHeld ?_
            try simp only [Act.put, List.setIfInBounds_toArray, List.set_cons_zero, List.set_cons_succ]
            refine wpAnyH_take (i := 10) (oi := { dst := some 110, op := Op.move (Operand.tmp 109), type := 4, pos := "law.go:114", after := #[{ on := 9, ground := Ground.data }, { on := 9, ground := Ground.chain }, { on := 6, ground := Ground.guard }], guard := some (6, false) }) (v := undef) rfl (by kernel_rfl) (by kernel_rfl) (by kernel_rfl) (fun _ _ _ h => h) (Or.inr ⟨by rfl, rfl⟩) hHeld ?_
            try simp only [Act.put, List.setIfInBounds_toArray, List.set_cons_zero, List.set_cons_succ]
            refine wpAnyH_take (i := 11) (oi := { dst := some 111, op := Op.load 27 (Operand.tmp 8), type := 27, pos := "law.go:114", after := #[{ on := 10, ground := Ground.guard }], guard := some (10, true) }) (v := undef) rfl (by kernel_rfl) (by kernel_rfl) (by kernel_rfl) (fun _ _ _ h => h) (Or.inr ⟨by rfl, rfl⟩) hHeld ?_
            try simp only [Act.put, List.setIfInBounds_toArray, List.set_cons_zero, List.set_cons_succ]
            refine wpAnyH_take (i := 12) (oi := { dst := some 112, op := Op.call { callee := Callee.value (Operand.func 26), args := #[Operand.tmp 111], argTypes := #[27] }, type := 27, pos := "law.go:114", after := #[{ on := 11, ground := Ground.data }, { on := 10, ground := Ground.chain }, { on := 10, ground := Ground.guard }], guard := some (10, true) }) (v := undef) rfl (by kernel_rfl) (by kernel_rfl) (by kernel_rfl) (fun _ _ _ h => h) (Or.inr ⟨by rfl, rfl⟩) hHeld ?_
            try simp only [Act.put, List.setIfInBounds_toArray, List.set_cons_zero, List.set_cons_succ]
            refine wpAnyH_take (i := 13) (oi := { dst := some 113, op := Op.build 27 #[], type := 27, pos := "law.go:114", after := #[{ on := 10, ground := Ground.guard }], guard := some (10, true) }) (v := undef) rfl (by kernel_rfl) (by kernel_rfl) (by kernel_rfl) (fun _ _ _ h => h) (Or.inr ⟨by rfl, rfl⟩) hHeld ?_
            try simp only [Act.put, List.setIfInBounds_toArray, List.set_cons_zero, List.set_cons_succ]
            refine wpAnyH_take (i := 14) (oi := { dst := some 114, op := Op.call { callee := Callee.value (Operand.func 16), args := #[Operand.tmp 112, Operand.tmp 113], argTypes := #[27, 27] }, type := 4, pos := "law.go:114", after := #[{ on := 12, ground := Ground.data }, { on := 13, ground := Ground.data }, { on := 12, ground := Ground.chain }, { on := 10, ground := Ground.guard }], guard := some (10, true) }) (v := undef) rfl (by kernel_rfl) (by kernel_rfl) (by kernel_rfl) (fun _ _ _ h => h) (Or.inr ⟨by rfl, rfl⟩) hHeld ?_
            try simp only [Act.put, List.setIfInBounds_toArray, List.set_cons_zero, List.set_cons_succ]
            refine wpAnyH_take (i := 15) (oi := { dst := some 115, op := Op.pick (Operand.tmp 110) (Operand.tmp 114) (Operand.const (Value.bool false)), type := 4, pos := "law.go:114", after := #[{ on := 10, ground := Ground.data }, { on := 14, ground := Ground.data }, { on := 6, ground := Ground.guard }], guard := some (6, false) }) (v := undef) rfl (by kernel_rfl) (by kernel_rfl) (by kernel_rfl) (fun _ _ _ h => h) (Or.inr ⟨by rfl, rfl⟩) hHeld ?_
            try simp only [Act.put, List.setIfInBounds_toArray, List.set_cons_zero, List.set_cons_succ]
            refine wpAnyH_take (i := 16) (oi := { dst := some 116, op := Op.pick (Operand.tmp 106) (Operand.const (Value.bool true)) (Operand.tmp 115), type := 4, pos := "law.go:114", after := #[{ on := 6, ground := Ground.data }, { on := 15, ground := Ground.data }], guard := none }) (v := .bool true) rfl (by kernel_rfl) (by kernel_rfl) (by kernel_rfl) (fun _ _ _ h => h) (Or.inl ⟨by rfl, fun w hSw => by go_simp⟩) hHeld ?_
            try simp only [Act.put, List.setIfInBounds_toArray, List.set_cons_zero, List.set_cons_succ]
            refine wpAnyH_take (i := 17) (oi := { dst := some 14, op := Op.assign (Operand.tmp 116), type := 4, pos := "law.go:114", after := #[{ on := 16, ground := Ground.data }, { on := 14, ground := Ground.chain }, { on := 0, ground := Ground.phase }, { on := 1, ground := Ground.phase }, { on := 2, ground := Ground.phase }, { on := 3, ground := Ground.phase }, { on := 4, ground := Ground.phase }, { on := 5, ground := Ground.phase }, { on := 6, ground := Ground.phase }, { on := 7, ground := Ground.phase }, { on := 8, ground := Ground.phase }, { on := 9, ground := Ground.phase }, { on := 10, ground := Ground.phase }, { on := 11, ground := Ground.phase }, { on := 12, ground := Ground.phase }, { on := 13, ground := Ground.phase }, { on := 14, ground := Ground.phase }, { on := 15, ground := Ground.phase }, { on := 16, ground := Ground.phase }], guard := none }) (v := .bool true) rfl (by kernel_rfl) (by kernel_rfl) (by kernel_rfl) (fun _ _ _ h => h) (Or.inl ⟨by rfl, fun w hSw => by go_simp⟩) hHeld ?_
            try simp only [Act.put, List.setIfInBounds_toArray, List.set_cons_zero, List.set_cons_succ]
            refine wpAnyH_done (by kernel_rfl) ?_ _
            go_wp2
            go_meet
            case rel => exact ⟨rfl, HT4.out⟩
        case rest =>
          clear rux ruy ruz
          obtain ⟨rfl, L⟩ := hcut
          have Kx := hide (Blk.call Gx.out L)
          have Ky := hide (Blk.call Gy.out L)
          have Kz := hide (Blk.call Gz.out L)
          have KL := hide (HL.out.trans (L.mono HL.out.size))
          clear Gx Gy Gz HL L
          have Gx := Kx
          have Gy := Ky
          have Gz := Kz
          have HL := KL
          clear Kx Ky Kz KL
          generalize wc = y4 at *
          go_wp2
          go_ret
          exact ⟨rfl, HL.out⟩
end Go.Proofs.Ytbjcfibpiiplaaa

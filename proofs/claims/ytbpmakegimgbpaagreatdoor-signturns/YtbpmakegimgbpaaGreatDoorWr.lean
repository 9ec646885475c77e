/- Walks: Inv. -/
import Derived.Test.YtbpmakegimgbpaaGreatDoorWn
namespace Go.Proofs.YtbpmakegimgbpaaGreatDoor.F
set_option maxRecDepth 100000
open Go.RowKit

def invE (x : Nat) : Nat := mm (pm x 8) (mm (mm x x) x)
def invV (x : Nat) : Nat := mm (pm (ones x 250) 32) (invE x)
theorem inv_pow (x : Nat) (h : x < pP) : invV x = pm x (pP - 2) := by
  unfold invV invE
  rw [ones_two x h]
  unfold mm ones
  rw [pm_pm, pm_mul, pm_mul]
  rfl

set_option maxHeartbeats 2000000 in
theorem inv_any (x : Nat) (w : World) (hx : x < pP) :
    Calls Tryz.prog 117 #[fe x] w fun e w' => e = .returned (fe (invV x)) ∧ Below w.heap.size w w' := by
  have Hx := hide hx
  clear hx
  rw [fe_def x]
  go_enter Tryz.func117, Tryz.ntmps117
  go_wp2
  have Bx := (Blk.new w (lits x) 47).alloc (.cells z4 47)
  have Bz := Blk.new' (w.alloc (.cells (lits x) 47)) (w.heap.size + 1) (by simp) z4 47
  have L0 : Below w.heap.size w ((w.alloc (.cells (lits x) 47)).alloc (.cells z4 47)) := ((Below.refl _ w).alloc (Nat.le_refl _) _).alloc (by simp) _
  generalize (w.alloc (.cells (lits x) 47)).alloc (.cells z4 47) = y0 at *
  have Gx := hide Bx
  have Gz := hide Bz
  have HL := hide L0
  clear Bx Bz L0
  have rux := (Gx.out).ruleOf
  go_cut [3] (fun s wx => Newly y0 (invE x) s wx)
  case first =>
    go_region_held3 (fun w' => Below y0.heap.size y0 w') (first | assumption | exact (Below.refl _ _).drew | exact (keepAlloc (Below.refl _ _) _).drew | exact HT4.out | exact HT3.out | exact HT2.out | exact HT1.out | (refine keepAlloc ?_ _; assumption) | exact keepAlloc HT4.out _ | exact Below.row HT4.out HT3.out.size _ | exact Below.row HT4.out HT2.out.size _ | exact Below.row HT4.out HT1.out.size _ | exact Below.row HT4.out (Nat.le_refl _) _)
      (first
        | (go_at_call 95; refine (squares_at x 3 _ _ (by simp only [fe_def]; rfl) Hx.out (by omega)).mono ?_; rintro e w1 ⟨rfl, hb1⟩; have HT1 := hide (keepCall hb1 rfl (by assumption)); (first | have E1 := ((Blk.new _ z4 47).drew).below hb1 (by simp) | have E1 := True.intro))
        | (go_at_call 50; refine (square_mm x _ _ (by simp only [fe_def]) Hx.out).mono ?_; rintro e w2 ⟨rfl, hb2⟩; have HT2 := hide (keepCall hb2 rfl (by assumption)); (first | have E2 := (Blk.new _ z4 47).below hb2 (by simp) | have E2 := E1.below hb2 E1.lt | have E2 := True.intro))
        | (go_at_call_of 55 (fe (mm x x)); refine (mul_mm (mm x x) x _ _ (by simp only [fe_def]) (mm_lt _ _) Hx.out).mono ?_; rintro e w3 ⟨rfl, hb3⟩; have HT3 := hide (keepCall hb3 rfl (by assumption)); (first | have E3 := (Blk.new _ z4 47).below hb3 (by simp) | have E3 := E2.below hb3 E2.lt | have E3 := True.intro))
        | (go_at_call_of 55 (fe (pm x 8)); refine (mul_mm (pm x 8) (mm (mm x x) x) _ _ (by simp only [fe_def]) (pm_lt _ _) (mm_lt _ _)).mono ?_; rw [fe_def]; rintro e w4 ⟨rfl, hb4⟩; have HT4 := hide (keepCall hb4 rfl (by assumption)); (first | have E4 := (Blk.new _ z4 47).below hb4 (by simp) | have E4 := E3.below hb4 E3.lt | have E4 := True.intro); (first | obtain ⟨c2, f2⟩ := E4.rules | skip); (first | obtain ⟨r1, r2, r3, r4⟩ := E4.writes | skip); (first | have HEn := hide E4 | skip); clear E4))
    all_goals
      go_wp2
      go_meet
      case rel => first | exact Newly.late HT4.out | exact Newly.early HT3.out.size HEn.out HT4.out | exact Newly.early HT2.out.size HEn.out HT4.out | exact Newly.early HT1.out.size HEn.out HT4.out | exact Newly.early (Nat.le_refl _) HEn.out HT4.out
  case rest =>
    clear rux
    obtain ⟨be, rfl, hbe, Be, Le⟩ := hcut
    have Ne := hide (Nat.lt_of_lt_of_le Gz.out.lt hbe)
    have Kx := hide (Blk.call Gx.out Le)
    have Kz := hide (Blk.call Gz.out Le)
    have KL := hide (HL.out.trans (Le.mono HL.out.size))
    clear Gx Gz HL
    have Gx := Kx
    have Gz := Kz
    have HL := KL
    clear Kx Kz KL
    have Ge := hide Be
    clear Be Le
    have Me := hide hbe
    clear hbe
    generalize wc = y1 at *
    have Hne1 : Hid (w.heap.size + 1 ≠ be) := hide (by have := Ne.out; omega)
    have Hne2 : Hid (w.heap.size + 1 ≠ w.heap.size) := hide (by omega)
    have ru1 : ∀ w', (Blk w' w.heap.size (lits x) 47 ∧ Blk w' be (lits (invE x)) 47) → ∀ j, w'.cell? ⟨w.heap.size, j, none⟩ = (lits x)[j]? := fun _ h j => h.1.cell j
    have ru2 : ∀ w', (Blk w' w.heap.size (lits x) 47 ∧ Blk w' be (lits (invE x)) 47) → ∀ j, w'.cell? ⟨be, j, none⟩ = (lits (invE x))[j]? := fun _ h j => h.2.cell j
    go_wp2
    go_region_held3 (fun w' => Blk w' w.heap.size (lits x) 47 ∧ Blk w' be (lits (invE x)) 47) (first | exact ⟨(Gx.out.call HT3.out).rowOther _ Hne2.out, (Ge.out.call HT3.out).rowOther _ Hne1.out⟩ | exact ⟨Gx.out.call HT3.out, Ge.out.call HT3.out⟩ | exact ⟨Gx.out.call HT2.out, Ge.out.call HT2.out⟩ | exact ⟨Gx.out.call HT1.out, Ge.out.call HT1.out⟩ | exact ⟨Gx.out.drew, Ge.out.drew⟩)
      (first
        | (go_at_call 96; refine (power_at x _ _ (by simp only [fe_def]) Hx.out).mono ?_; rintro e w1 ⟨rfl, hb1⟩; have HT1 := hide (keepCall hb1 rfl (Below.refl _ _).drew))
        | (go_at_call 95; refine (squares_at (ones x 250) 5 _ _ (by rfl) (ones_lt _ _) (by omega)).mono ?_; rintro e w2 ⟨rfl, hb2⟩; have HT2 := hide (keepCall hb2 rfl HT1.out))
        | (go_at_call 55; refine (mul_mm (pm (ones x 250) 32) (invE x) _ _ (by simp only [fe_def]) (pm_lt _ _) (mm_lt _ _)).mono ?_; rw [show mm (pm (ones x 250) 32) (invE x) = invV x from rfl, fe_def (invV x)]; rintro e w3 ⟨rfl, hb3⟩; have HT3 := hide (keepCall hb3 rfl HT2.out); have E2 := Gz.out.call HT3.out; obtain ⟨c2, f2⟩ := E2.rules; obtain ⟨r1, r2, r3, r4⟩ := E2.writes; clear E2))
    go_wp2
    refine bodyPost_ret (v := fe (invV x)) (by simp [results, Tryz.results117, go_sem, r3, fe_def]) rfl ⟨rfl, ?_⟩
    exact Below.row (HL.out.trans (HT3.out.mono HL.out.size)) (by omega) _

end Go.Proofs.YtbpmakegimgbpaaGreatDoor.F

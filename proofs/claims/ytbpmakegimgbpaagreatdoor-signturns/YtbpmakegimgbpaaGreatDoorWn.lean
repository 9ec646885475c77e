/- Walks: Ratio. -/
import Derived.Test.YtbpmakegimgbpaaGreatDoorWk
import Derived.Test.YtbpmakegimgbpaaGreatDoorWm
namespace Go.Proofs.YtbpmakegimgbpaaGreatDoor.F
set_option maxRecDepth 100000
open Go.RowKit

def ng (a : Nat) : Nat := (pP - a) % pP
theorem ng_lt (a : Nat) : ng a < pP := Nat.mod_lt _ pP_pos
theorem neg_at (x : Nat) (args : Array Value) (w : World) (h : args = #[fe x]) (hx : x < pP) :
    Calls Tryz.prog 60 args w fun e w' => e = .returned (fe (ng x)) ∧ Below w.heap.size w w' := by
  subst h; exact neg_any x w hx
theorem power_at (x : Nat) (args : Array Value) (w : World) (h : args = #[fe x]) (hx : x < pP) :
    Calls Tryz.prog 96 args w fun e w' => e = .returned (fe (ones x 250)) ∧ Below w.heap.size w w' := by
  subst h; exact power_any x w hx
theorem same_b (x y : Nat) (b : Bool) (args : Array Value) (w : World) (h : args = #[fe x, fe y]) (hx : x < pP) (hy : y < pP) (hb : decide (x = y) = b) :
    Calls Tryz.prog 57 args w fun e w' => e = .returned (.bool b) ∧ Below w.heap.size w w' := by
  subst h hb; exact same_any x y w hx hy
theorem odd_b (x : Nat) (b : Bool) (args : Array Value) (w : World) (h : args = #[fe x]) (hb : decide (x % 2 = 1) = b) :
    Calls Tryz.prog 81 args w fun e w' => e = .returned (.bool b) ∧ Below w.heap.size w w' := by
  subst h hb; exact odd_any x w
theorem pick_b (x y : Nat) (b : Bool) (z : Nat) (args : Array Value) (w : World) (h : args = #[fe x, fe y, .bool b]) (hz : (if b then x else y) = z) :
    Calls Tryz.prog 59 args w fun e w' => e = .returned (fe z) ∧ Below w.heap.size w w' := by
  subst h hz; exact pick_any x y b w
theorem root_at (args : Array Value) (w : World) (h : args = #[]) :
    Calls Tryz.prog 97 args w fun e w' => e = .returned (fe rootN) ∧ Below w.heap.size w w' := by
  subst h; exact root_any w
theorem rootN_lt : rootN < pP := by decide +kernel
def rCube (v : Nat) : Nat := mm (mm v v) v
def rBase (u v : Nat) : Nat := mm u (mm (mm (rCube v) (rCube v)) v)
def rRoot (u v : Nat) : Nat := mm (mm u (rCube v)) (mm (pm (ones (rBase u v) 250) 4) (rBase u v))
def rFound (u v : Nat) : Nat := mm v (mm (rRoot u v) (rRoot u v))
def rFlip (u v : Nat) : Bool := decide (rFound u v = ng u)
def rOdd0 (r : Nat) : Bool := decide (r % 2 = 1)
def rRoot1 (u v : Nat) : Nat := if rFlip u v then mm (rRoot u v) rootN else rRoot u v
def rFound1 (u v : Nat) : Nat := if rFlip u v then ng (rFound u v) else rFound u v
def rOk (u v : Nat) : Bool := decide (rFound1 u v = u)
def rPick (u v : Nat) : Nat := if rOdd0 (rRoot1 u v) then ng (rRoot1 u v) else rRoot1 u v
def rVal (u v : Nat) : Nat := if rOk u v then rPick u v else 0
theorem rRoot1_lt (u v : Nat) : rRoot1 u v < pP := by unfold rRoot1; split <;> exact mm_lt _ _
theorem rFound1_lt (u v : Nat) : rFound1 u v < pP := by unfold rFound1; split; exact ng_lt _; exact mm_lt _ _

set_option maxHeartbeats 2000000 in
theorem ratio_any (u v : Nat) (w : World) (hu : u < pP) (hv : v < pP) :
    Calls Tryz.prog 51 #[fe u, fe v] w fun e w' => e = .returned (.tuple #[fe (rVal u v), .bool (rOk u v)]) ∧ Below w.heap.size w w' := by
  have Hu := hide hu
  have Hv := hide hv
  clear hu hv
  rw [fe_def u, fe_def v]
  go_enter Tryz.func51, Tryz.ntmps51
  go_wp2
  have Bu := ((Blk.new w (lits u) 47).alloc (.cells (lits v) 47)).alloc (.cells z4 47)
  have Bv := (Blk.new' (w.alloc (.cells (lits u) 47)) (w.heap.size + 1) (by simp) (lits v) 47).alloc (.cells z4 47)
  have Bz := Blk.new' ((w.alloc (.cells (lits u) 47)).alloc (.cells (lits v) 47)) (w.heap.size + 2) (by simp) z4 47
  have L0 : Below w.heap.size w (((w.alloc (.cells (lits u) 47)).alloc (.cells (lits v) 47)).alloc (.cells z4 47)) := (((Below.refl _ w).alloc (Nat.le_refl _) _).alloc (by simp) _).alloc (by simp; omega) _
  generalize ((w.alloc (.cells (lits u) 47)).alloc (.cells (lits v) 47)).alloc (.cells z4 47) = y0 at *
  have Gu := hide Bu
  have Gv := hide Bv
  have Gz := hide Bz
  have HL := hide L0
  clear Bu Bv Bz L0
  have ruv := (Gv.out).ruleOf
  go_cut [6] (fun s wx => Newly y0 (rCube v) s wx)
  case first =>
    go_region_held3 (fun w' => Below y0.heap.size y0 w') (first | assumption | exact (Below.refl _ _).drew | exact (keepAlloc (Below.refl _ _) _).drew | exact HT2.out | exact HT1.out | (refine keepAlloc ?_ _; assumption) | exact keepAlloc HT2.out _ | exact Below.row HT2.out HT1.out.size _ | exact Below.row HT2.out (Nat.le_refl _) _)
      (first
        | (go_at_call 50; refine (square_mm v _ _ (by simp only [fe_def]) Hv.out).mono ?_; rintro e w1 ⟨rfl, hb1⟩; have HT1 := hide (keepCall hb1 rfl (by assumption)); (first | have E1 := ((Blk.new _ z4 47).drew).below hb1 (by simp) | have E1 := True.intro))
        | (go_at_call 55; refine (mul_mm (mm v v) v _ _ (by simp only [fe_def]) (mm_lt _ _) Hv.out).mono ?_; rw [fe_def]; rintro e w2 ⟨rfl, hb2⟩; have HT2 := hide (keepCall hb2 rfl (by assumption)); (first | have E2 := (Blk.new _ z4 47).below hb2 (by simp) | have E2 := E1.below hb2 E1.lt | have E2 := True.intro); (first | obtain ⟨c2, f2⟩ := E2.rules | skip); (first | obtain ⟨r1, r2, r3, r4⟩ := E2.writes | skip); (first | have HEn := hide E2 | skip); clear E2))
    all_goals
      go_wp2
      go_meet
      case rel => first | exact Newly.late HT2.out | exact Newly.early HT1.out.size HEn.out HT2.out | exact Newly.early (Nat.le_refl _) HEn.out HT2.out
  case rest =>
    clear ruv
    obtain ⟨bc, rfl, hbc, Bc, Lc⟩ := hcut
    have Nc := hide (Nat.lt_of_lt_of_le Gz.out.lt hbc)
    have Ku := hide (Blk.call Gu.out Lc)
    have Kv := hide (Blk.call Gv.out Lc)
    have Kz := hide (Blk.call Gz.out Lc)
    have KL := hide (HL.out.trans (Lc.mono HL.out.size))
    clear Gu Gv Gz HL
    have Gu := Ku
    have Gv := Kv
    have Gz := Kz
    have HL := KL
    clear Ku Kv Kz KL
    have Gc := hide Bc
    clear Bc Lc
    have Mc := hide hbc
    clear hbc
    generalize wc = y1 at *
    go_wp2
    have ruu := (Gu.out).ruleOf
    have ruc := (Gc.out).ruleOf
    have ruv := (Gv.out).ruleOf
    go_cut [7] (fun s wx => Newly y1 (rBase u v) s wx)
    case first =>
      go_region_held3 (fun w' => Below y1.heap.size y1 w') (first | assumption | exact (Below.refl _ _).drew | exact (keepAlloc (Below.refl _ _) _).drew | exact HT3.out | exact HT2.out | exact HT1.out | (refine keepAlloc ?_ _; assumption) | exact keepAlloc HT3.out _ | exact Below.row HT3.out HT2.out.size _ | exact Below.row HT3.out HT1.out.size _ | exact Below.row HT3.out (Nat.le_refl _) _)
        (first
          | (go_at_call 50; refine (square_mm (rCube v) _ _ (by simp only [fe_def]) (mm_lt _ _)).mono ?_; rintro e w1 ⟨rfl, hb1⟩; have HT1 := hide (keepCall hb1 rfl (by assumption)); (first | have E1 := ((Blk.new _ z4 47).drew).below hb1 (by simp) | have E1 := True.intro))
          | (go_at_call_of 55 (fe (mm (rCube v) (rCube v))); refine (mul_mm (mm (rCube v) (rCube v)) v _ _ (by simp only [fe_def]) (mm_lt _ _) Hv.out).mono ?_; rintro e w2 ⟨rfl, hb2⟩; have HT2 := hide (keepCall hb2 rfl (by assumption)); (first | have E2 := (Blk.new _ z4 47).below hb2 (by simp) | have E2 := E1.below hb2 E1.lt | have E2 := True.intro))
          | (go_at_call_of 55 (fe (mm (mm (rCube v) (rCube v)) v)); refine (mul_mm u (mm (mm (rCube v) (rCube v)) v) _ _ (by simp only [fe_def]) Hu.out (mm_lt _ _)).mono ?_; rw [fe_def]; rintro e w3 ⟨rfl, hb3⟩; have HT3 := hide (keepCall hb3 rfl (by assumption)); (first | have E3 := (Blk.new _ z4 47).below hb3 (by simp) | have E3 := E2.below hb3 E2.lt | have E3 := True.intro); (first | obtain ⟨c2, f2⟩ := E3.rules | skip); (first | obtain ⟨r1, r2, r3, r4⟩ := E3.writes | skip); (first | have HEn := hide E3 | skip); clear E3))
      all_goals
        go_wp2
        go_meet
        case rel => first | exact Newly.late HT3.out | exact Newly.early HT2.out.size HEn.out HT3.out | exact Newly.early HT1.out.size HEn.out HT3.out | exact Newly.early (Nat.le_refl _) HEn.out HT3.out
    case rest =>
      clear ruu ruc ruv
      obtain ⟨bb, rfl, hbb, Bb, Lb⟩ := hcut
      have Nb := hide (Nat.lt_of_lt_of_le Gz.out.lt hbb)
      have Ku := hide (Blk.call Gu.out Lb)
      have Kv := hide (Blk.call Gv.out Lb)
      have Kz := hide (Blk.call Gz.out Lb)
      have Kc := hide (Blk.call Gc.out Lb)
      have KL := hide (HL.out.trans (Lb.mono HL.out.size))
      clear Gu Gv Gz Gc HL
      have Gu := Ku
      have Gv := Kv
      have Gz := Kz
      have Gc := Kc
      have HL := KL
      clear Ku Kv Kz Kc KL
      have Gb := hide Bb
      clear Bb Lb
      have Mb := hide hbb
      clear hbb
      generalize wc = y2 at *
      go_wp2
      have ruu := (Gu.out).ruleOf
      have ruc := (Gc.out).ruleOf
      have rub := (Gb.out).ruleOf
      go_cut [8] (fun s wx => Newly y2 (rRoot u v) s wx)
      case first =>
        go_region_held3 (fun w' => Below y2.heap.size y2 w') (first | assumption | exact (Below.refl _ _).drew | exact (keepAlloc (Below.refl _ _) _).drew | exact HT5.out | exact HT4.out | exact HT3.out | exact HT2.out | exact HT1.out | (refine keepAlloc ?_ _; assumption) | exact keepAlloc HT5.out _ | exact Below.row HT5.out HT4.out.size _ | exact Below.row HT5.out HT3.out.size _ | exact Below.row HT5.out HT2.out.size _ | exact Below.row HT5.out HT1.out.size _ | exact Below.row HT5.out (Nat.le_refl _) _)
          (first
            | (go_at_call_of 55 (Value.int IntKind.u64 ((limb u 0 : Nat) : Int)); refine (mul_mm u (rCube v) _ _ (by simp only [fe_def]) Hu.out (mm_lt _ _)).mono ?_; rintro e w1 ⟨rfl, hb1⟩; have HT1 := hide (keepCall hb1 rfl (by assumption)); (first | have E1 := ((Blk.new _ z4 47).drew).below hb1 (by simp) | have E1 := True.intro))
            | (go_at_call 96; refine (power_at (rBase u v) _ _ (by simp only [fe_def]) (mm_lt _ _)).mono ?_; rintro e w2 ⟨rfl, hb2⟩; have HT2 := hide (keepCall hb2 rfl (by assumption)); (first | have E2 := (Blk.new _ z4 47).below hb2 (by simp) | have E2 := E1.below hb2 E1.lt | have E2 := True.intro))
            | (go_at_call 95; refine (squares_at (ones (rBase u v) 250) 2 _ _ (by simp only [fe_def]; rfl) (ones_lt _ _) (by omega)).mono ?_; rintro e w3 ⟨rfl, hb3⟩; have HT3 := hide (keepCall hb3 rfl (by assumption)); (first | have E3 := (Blk.new _ z4 47).below hb3 (by simp) | have E3 := E2.below hb3 E2.lt | have E3 := True.intro))
            | (go_at_call_of 55 (fe (pm (ones (rBase u v) 250) 4)); refine (mul_mm (pm (ones (rBase u v) 250) 4) (rBase u v) _ _ (by simp only [fe_def]) (pm_lt _ _) (mm_lt _ _)).mono ?_; rintro e w4 ⟨rfl, hb4⟩; have HT4 := hide (keepCall hb4 rfl (by assumption)); (first | have E4 := (Blk.new _ z4 47).below hb4 (by simp) | have E4 := E3.below hb4 E3.lt | have E4 := True.intro))
            | (go_at_call_of 55 (fe (mm u (rCube v))); refine (mul_mm (mm u (rCube v)) (mm (pm (ones (rBase u v) 250) 4) (rBase u v)) _ _ (by simp only [fe_def]) (mm_lt _ _) (mm_lt _ _)).mono ?_; rw [fe_def]; rintro e w5 ⟨rfl, hb5⟩; have HT5 := hide (keepCall hb5 rfl (by assumption)); (first | have E5 := (Blk.new _ z4 47).below hb5 (by simp) | have E5 := E4.below hb5 E4.lt | have E5 := True.intro); (first | obtain ⟨c2, f2⟩ := E5.rules | skip); (first | obtain ⟨r1, r2, r3, r4⟩ := E5.writes | skip); (first | have HEn := hide E5 | skip); clear E5))
        all_goals
          go_wp2
          go_meet
          case rel => first | exact Newly.late HT5.out | exact Newly.early HT4.out.size HEn.out HT5.out | exact Newly.early HT3.out.size HEn.out HT5.out | exact Newly.early HT2.out.size HEn.out HT5.out | exact Newly.early HT1.out.size HEn.out HT5.out | exact Newly.early (Nat.le_refl _) HEn.out HT5.out
      case rest =>
        clear ruu ruc rub
        obtain ⟨br, rfl, hbr, Br, Lr⟩ := hcut
        have Nr := hide (Nat.lt_of_lt_of_le Gz.out.lt hbr)
        have Ku := hide (Blk.call Gu.out Lr)
        have Kv := hide (Blk.call Gv.out Lr)
        have Kz := hide (Blk.call Gz.out Lr)
        have Kc := hide (Blk.call Gc.out Lr)
        have Kb := hide (Blk.call Gb.out Lr)
        have KL := hide (HL.out.trans (Lr.mono HL.out.size))
        clear Gu Gv Gz Gc Gb HL
        have Gu := Ku
        have Gv := Kv
        have Gz := Kz
        have Gc := Kc
        have Gb := Kb
        have HL := KL
        clear Ku Kv Kz Kc Kb KL
        have Gr := hide Br
        clear Br Lr
        have Mr := hide hbr
        clear hbr
        generalize wc = y3 at *
        go_wp2
        have ruv := (Gv.out).ruleOf
        have rur := (Gr.out).ruleOf
        go_cut [9] (fun s wx => Newly y3 (rFound u v) s wx)
        case first =>
          go_region_held3 (fun w' => Below y3.heap.size y3 w') (first | assumption | exact (Below.refl _ _).drew | exact (keepAlloc (Below.refl _ _) _).drew | exact HT2.out | exact HT1.out | (refine keepAlloc ?_ _; assumption) | exact keepAlloc HT2.out _ | exact Below.row HT2.out HT1.out.size _ | exact Below.row HT2.out (Nat.le_refl _) _)
            (first
              | (go_at_call 50; refine (square_mm (rRoot u v) _ _ (by simp only [fe_def]) (mm_lt _ _)).mono ?_; rintro e w1 ⟨rfl, hb1⟩; have HT1 := hide (keepCall hb1 rfl (by assumption)); (first | have E1 := ((Blk.new _ z4 47).drew).below hb1 (by simp) | have E1 := True.intro))
              | (go_at_call 55; refine (mul_mm v (mm (rRoot u v) (rRoot u v)) _ _ (by simp only [fe_def]) Hv.out (mm_lt _ _)).mono ?_; rw [fe_def]; rintro e w2 ⟨rfl, hb2⟩; have HT2 := hide (keepCall hb2 rfl (by assumption)); (first | have E2 := (Blk.new _ z4 47).below hb2 (by simp) | have E2 := E1.below hb2 E1.lt | have E2 := True.intro); (first | obtain ⟨c2, f2⟩ := E2.rules | skip); (first | obtain ⟨r1, r2, r3, r4⟩ := E2.writes | skip); (first | have HEn := hide E2 | skip); clear E2))
          all_goals
            go_wp2
            go_meet
            case rel => first | exact Newly.late HT2.out | exact Newly.early HT1.out.size HEn.out HT2.out | exact Newly.early (Nat.le_refl _) HEn.out HT2.out
        case rest =>
          clear ruv rur
          obtain ⟨bf, rfl, hbf, Bf, Lf⟩ := hcut
          have Nf := hide (Nat.lt_of_lt_of_le Gz.out.lt hbf)
          have Nrf := hide (Nat.lt_of_lt_of_le Gr.out.lt hbf)
          have Ku := hide (Blk.call Gu.out Lf)
          have Kv := hide (Blk.call Gv.out Lf)
          have Kz := hide (Blk.call Gz.out Lf)
          have Kc := hide (Blk.call Gc.out Lf)
          have Kb := hide (Blk.call Gb.out Lf)
          have Kr := hide (Blk.call Gr.out Lf)
          have KL := hide (HL.out.trans (Lf.mono HL.out.size))
          clear Gu Gv Gz Gc Gb Gr HL
          have Gu := Ku
          have Gv := Kv
          have Gz := Kz
          have Gc := Kc
          have Gb := Kb
          have Gr := Kr
          have HL := KL
          clear Ku Kv Kz Kc Kb Kr KL
          have Gf := hide Bf
          clear Bf Lf
          have Mf := hide hbf
          clear hbf
          generalize wc = y4 at *
          go_wp2
          have ruf := Gf.out.ruleOf
          have ruu := Gu.out.ruleOf
          go_cut [36] (fun s wx => s = .bool (rFlip u v) ∧ Below y4.heap.size y4 wx)
          case first =>
            go_region_held3 (fun w' => Below y4.heap.size y4 w') (first | assumption | exact (Below.refl _ _).drew | exact HT2.out | exact HT1.out)
              (first
                | (go_at_call 60; refine (neg_at u _ _ (by simp only [fe_def]) Hu.out).mono ?_; rintro e w1 ⟨rfl, hb1⟩; have HT1 := hide (keepCall hb1 rfl (by assumption)))
                | (go_at_call 57; refine (same_b (rFound u v) (ng u) (rFlip u v) _ _ (by simp only [fe_def]) (mm_lt _ _) (ng_lt _) rfl).mono ?_; rintro e w2 ⟨rfl, hb2⟩; have HT2 := hide (keepCall hb2 rfl (by assumption))))
            all_goals
              go_wp2
              go_meet
              case rel => exact ⟨rfl, HT2.out⟩
          case rest =>
            clear ruf ruu
            obtain ⟨rfl, L5⟩ := hcut
            have Ku := hide (Blk.call Gu.out L5)
            have Kv := hide (Blk.call Gv.out L5)
            have Kz := hide (Blk.call Gz.out L5)
            have Kc := hide (Blk.call Gc.out L5)
            have Kb := hide (Blk.call Gb.out L5)
            have Kr := hide (Blk.call Gr.out L5)
            have Kf := hide (Blk.call Gf.out L5)
            have KL := hide (HL.out.trans (L5.mono HL.out.size))
            clear Gu Gv Gz Gc Gb Gr Gf HL
            have Gu := Ku
            have Gv := Kv
            have Gz := Kz
            have Gc := Kc
            have Gb := Kb
            have Gr := Kr
            have Gf := Kf
            have HL := KL
            clear Ku Kv Kz Kc Kb Kr Kf KL
            clear L5
            generalize wc = y5 at *
            go_upto_if 36 with (fail)
            go_cut [] (fun wx => Blk wx br (lits (rRoot1 u v)) 47 ∧ Blk wx bf (lits (rFound1 u v)) 47 ∧ Blk wx w.heap.size (lits u) 47 ∧ Blk wx (w.heap.size + 2) z4 47 ∧ Below w.heap.size w wx)
            case first =>
              cases hfl : rFlip u v
              · go_wp2
                go_meet
                case rel =>
                  refine ⟨?_, ?_, Gu.out, Gz.out, HL.out⟩
                  · exact Gr.out.cast (by simp [rRoot1, hfl])
                  · exact Gf.out.cast (by simp [rFound1, hfl])
              · have Hfl := hide hfl
                clear hfl
                have Hnrf : Hid (br ≠ bf) := hide (by have := Nrf.out; omega)
                obtain ⟨cr, fr⟩ := Gr.out.rules
                obtain ⟨cf, ff⟩ := Gf.out.rules
                go_wp2
                go_region_with (first
                  | (go_at_call 97; refine (root_at _ _ (by rfl)).mono ?_; rintro e w1 ⟨rfl, hb1⟩; have HT1 := hide (keepCall hb1 rfl (Below.refl _ _).drew); obtain ⟨cr1, fr1⟩ := (Gr.out.call HT1.out).rules; obtain ⟨cf1, ff1⟩ := (Gf.out.call HT1.out).rules)
                  | (go_at_call 55; refine (mul_mm (rRoot u v) rootN _ _ (by simp only [fe_def]) (mm_lt _ _) rootN_lt).mono ?_; rw [fe_def (mm (rRoot u v) rootN)]; rintro e w2 ⟨rfl, hb2⟩; have HT2 := hide (keepCall hb2 rfl HT1.out); obtain ⟨cr2, fr2⟩ := (Gr.out.call HT2.out).rules; obtain ⟨cf2, ff2⟩ := (Gf.out.call HT2.out).rules)
                  | (go_at_call 60; refine (neg_at (rFound u v) _ _ (by simp only [fe_def]) (mm_lt _ _)).mono ?_; rw [fe_def (ng (rFound u v))]; rintro e w3 ⟨rfl, hb3⟩; have HT3 := hide (keepCall hb3 rfl HT2.out); obtain ⟨cr3, fr3⟩ := (Gr.out.call HT3.out).rules; obtain ⟨cf3, ff3⟩ := (Gf.out.call HT3.out).rules; obtain ⟨r1, r2, r3, r4⟩ := (Gr.out.call HT3.out).writes; obtain ⟨r5, r6, r7, r8, r9, r10⟩ := (Gf.out.call HT3.out).writes2 (b' := br) Hnrf.out))
                all_goals
                  go_wp2
                  go_meet
                  case rel =>
                    have hnr := Nr.out
                    have hnf := Nf.out
                    refine ⟨?_, ?_, ?_, ?_, ?_⟩
                    · exact (((Gr.out.call HT3.out).row _).rowOther _ (fun e => Hnrf.out e.symm)).cast (by simp [rRoot1, Hfl.out])
                    · exact (((Gf.out.call HT3.out).rowOther _ Hnrf.out).row _).cast (by simp [rFound1, Hfl.out])
                    · exact ((Gu.out.call HT3.out).rowOther _ (by omega)).rowOther _ (by omega)
                    · exact ((Gz.out.call HT3.out).rowOther _ (by omega)).rowOther _ (by omega)
                    · exact Below.row (Below.row (HL.out.trans (HT3.out.mono HL.out.size)) (by omega) _) (by omega) _
            case rest =>
              obtain ⟨B1, B2, B3, B4, L6⟩ := hcut
              clear Gu Gv Gz Gc Gb Gr Gf HL
              generalize wc = y6 at *
              have Gr := hide B1
              have Gf := hide B2
              have Gu := hide B3
              have Gz := hide B4
              have HL := hide L6
              obtain ⟨cf, ff⟩ := B2.rules
              obtain ⟨cu, fu⟩ := B3.rules
              clear B1 B2 B3 B4 L6
              go_wp2_with fail
              refine (same_b (rFound1 u v) u (rOk u v) _ _ (by simp only [fe_def]) (rFound1_lt u v) Hu.out rfl).mono ?_
              rintro e y7 ⟨rfl, hb7⟩
              have Kr := hide (Gr.out.call hb7)
              have Kz := hide (Gz.out.call hb7)
              have KL := hide (HL.out.trans (hb7.mono HL.out.size))
              clear cf ff cu fu Gr Gf Gu Gz HL hb7
              have Hne : Hid (w.heap.size + 2 ≠ br) := hide (by have := Nr.out; omega)
              dsimp only
              cases hok : rOk u v
              · have Hok := hide hok
                have Hval : Hid (rVal u v = 0) := hide (by simp [rVal, hok])
                obtain ⟨cz, fz⟩ := Kz.out.rules
                obtain ⟨r1, r2, r3, r4⟩ := Kz.out.writes
                clear hok
                go_wp2
                refine bodyPost_ret (v := .tuple #[fe 0, .bool false]) (by simp [results, Tryz.results51, go_sem, r3, fe0]) rfl ⟨by rw [Hval.out, Hok.out], ?_⟩
                exact Below.row KL.out (by omega) _
              · have Hok := hide hok
                have Hval : Hid (rVal u v = rPick u v) := hide (by simp [rVal, hok])
                clear hok
                have ru : ∀ w', Blk w' br (lits (rRoot1 u v)) 47 → ∀ j, w'.cell? ⟨br, j, none⟩ = (lits (rRoot1 u v))[j]? := fun w' h j => h.cell j
                go_wp2
                go_region_held3 (fun w' => Blk w' br (lits (rRoot1 u v)) 47) (first | exact (Kr.out.call HT3.out).rowOther _ Hne.out | exact Kr.out.call HT3.out | exact Kr.out.call HT2.out | exact Kr.out.call HT1.out | exact Kr.out.drew)
                  (first
                    | (go_at_call 60; refine (neg_at (rRoot1 u v) _ _ (by simp only [fe_def]) (rRoot1_lt _ _)).mono ?_; rintro e w1 ⟨rfl, hb1⟩; have HT1 := hide (keepCall hb1 rfl (Below.refl _ _).drew))
                    | (go_at_call 81; refine (odd_b (rRoot1 u v) (rOdd0 (rRoot1 u v)) _ _ (by simp only [fe_def]) rfl).mono ?_; rintro e w2 ⟨rfl, hb2⟩; have HT2 := hide (keepCall hb2 rfl HT1.out))
                    | (go_at_call 59; refine (pick_b (ng (rRoot1 u v)) (rRoot1 u v) (rOdd0 (rRoot1 u v)) (rPick u v) _ _ (by simp only [fe_def]) rfl).mono ?_; rw [fe_def (rPick u v)]; rintro e w3 ⟨rfl, hb3⟩; have HT3 := hide (keepCall hb3 rfl HT2.out); obtain ⟨cz, fz⟩ := (Kz.out.call HT3.out).rules; obtain ⟨r1, r2, r3, r4⟩ := (Kz.out.call HT3.out).writes))
                all_goals
                  go_wp2
                  refine bodyPost_ret (v := .tuple #[fe (rPick u v), .bool true]) (by simp [results, Tryz.results51, go_sem, r3, fe_def]) rfl ⟨by rw [Hval.out, Hok.out], ?_⟩
                  exact Below.row (KL.out.trans (HT3.out.mono KL.out.size)) (by omega) _

theorem ratio_at (u v : Nat) (args : Array Value) (w : World) (h : args = #[fe u, fe v]) (hu : u < pP) (hv : v < pP) :
    Calls Tryz.prog 51 args w fun e w' => e = .returned (.tuple #[fe (rVal u v), .bool (rOk u v)]) ∧ Below w.heap.size w w' := by
  subst h; exact ratio_any u v w hu hv

end Go.Proofs.YtbpmakegimgbpaaGreatDoor.F

/- Walks: power250. -/
import Derived.Test.YtbpmakegimgbpaaGreatDoorWj
namespace Go.Proofs.YtbpmakegimgbpaaGreatDoor.F
set_option maxRecDepth 100000
open Go.RowKit

abbrev lits (x : Nat) : Array Value := #[.int .u64 (limb x 0 : Nat), .int .u64 (limb x 1 : Nat), .int .u64 (limb x 2 : Nat), .int .u64 (limb x 3 : Nat)]
abbrev z4 : Array Value := #[.int .u64 0, .int .u64 0, .int .u64 0, .int .u64 0]
/-- The product, by a name that no rule opens. -/
def mm (a b : Nat) : Nat := a * b % pP
theorem mm_lt (a b : Nat) : mm a b < pP := Nat.mod_lt _ pP_pos
theorem mul_mm (x y : Nat) (args : Array Value) (w : World) (h : args = #[fe x, fe y]) (hx : x < pP) (hy : y < pP) :
    Calls Tryz.prog 55 args w fun e w' => e = .returned (fe (mm x y)) ∧ Below w.heap.size w w' := mul_at x y args w h hx hy
theorem square_mm (x : Nat) (args : Array Value) (w : World) (h : args = #[fe x]) (hx : x < pP) :
    Calls Tryz.prog 50 args w fun e w' => e = .returned (fe (mm x x)) ∧ Below w.heap.size w w' := square_at x args w h hx
theorem keepCall {w0 W w1 : World} {B : Nat} (hb : Below B W w1) (hB : B = W.heap.size) (hS : Below w0.heap.size w0 W) : Below w0.heap.size w0 w1 := hS.trans (hb.mono (by rw [hB]; exact hS.size))
theorem keepAlloc {w0 W : World} (hS : Below w0.heap.size w0 W) (o : Obj) : Below w0.heap.size w0 (W.alloc o) := hS.alloc hS.size o
theorem _root_.Go.Proofs.YtbpmakegimgbpaaGreatDoor.Blk.ruleOf {w0 : World} {b : Nat} {c : Array Value} {t : TypeId} (h : Blk w0 b c t) : ∀ w', Below w0.heap.size w0 w' → ∀ j, w'.cell? ⟨b, j, none⟩ = c[j]? := fun _ hb j => (h.call hb).cell j
/-- What a region that makes a new variable leaves. -/
def Newly (w0 : World) (v : Nat) (s : Value) (wx : World) : Prop := ∃ b, s = .pointer (some ⟨b, 0, none⟩) ∧ w0.heap.size ≤ b ∧ Blk wx b (lits v) 47 ∧ Below w0.heap.size w0 wx
theorem Newly.early {w0 w2 : World} {b : Nat} {v : Nat} (hb : w0.heap.size ≤ b) (E : Blk w2 b z4 47) (S : Below w0.heap.size w0 w2) : Newly w0 v (.pointer (some ⟨b, 0, none⟩)) (w2.setRow b (lits v)) := ⟨b, rfl, hb, E.row _, Below.row S hb _⟩
theorem Newly.late {w0 w2 : World} {v : Nat} (S : Below w0.heap.size w0 w2) : Newly w0 v (.pointer (some ⟨w2.heap.size, 0, none⟩)) (w2.alloc (.cells (lits v) 47)) := ⟨_, rfl, S.size, Blk.new _ _ _, S.alloc S.size _⟩

def ones (x m : Nat) : Nat := pm x (2 ^ m - 1)
theorem ones_lt (x m : Nat) : ones x m < pP := pm_lt _ _
theorem ones_join (x m n k : Nat) (h : m + n = k) : mm (pm (ones x m) (2 ^ n)) (ones x n) = ones x k := by
  subst h
  unfold mm ones
  rw [pm_pm, pm_mul]
  congr 1
  have h1 := Nat.two_pow_pos m
  have h2 := Nat.two_pow_pos n
  have h3 : 2 ^ n ≤ 2 ^ m * 2 ^ n := Nat.le_mul_of_pos_left _ h1
  rw [Nat.sub_mul, Nat.pow_add, Nat.one_mul]
  omega
theorem ones_two (x : Nat) (h : x < pP) : mm (mm x x) x = ones x 2 := by
  have e : x = pm x 1 := (pm_one x h).symm
  unfold mm ones
  rw [show x * x % pP = pm x 2 by unfold pm; rw [Nat.pow_two]]
  conv => lhs; lhs; rhs; rw [e]
  rw [pm_mul]
theorem ones_more (x m k : Nat) (h : x < pP) (hk : m + 1 = k) : mm (mm (ones x m) (ones x m)) x = ones x k := by
  subst hk
  have e : x = pm x 1 := (pm_one x h).symm
  unfold mm ones
  rw [pm_mul]
  conv => lhs; lhs; rhs; rw [e]
  rw [pm_mul]
  congr 1
  have h1 := Nat.two_pow_pos m
  rw [Nat.pow_succ]; omega

set_option maxHeartbeats 2000000 in
theorem power_any (x : Nat) (w : World) (hx : x < pP) :
    Calls Tryz.prog 96 #[fe x] w fun e w' => e = .returned (fe (ones x 250)) ∧ Below w.heap.size w w' := by
  have Hx := hide hx
  clear hx
  rw [fe_def x]
  go_enter Tryz.func96, Tryz.ntmps96
  go_wp2
  have Bx := (Blk.new w (lits x) 47).alloc (.cells z4 47)
  have Bz := Blk.new' (w.alloc (.cells (lits x) 47)) (w.heap.size + 1) (by simp) z4 47
  have L0 : Below w.heap.size w ((w.alloc (.cells (lits x) 47)).alloc (.cells z4 47)) := ((Below.refl _ w).alloc (Nat.le_refl _) _).alloc (by simp) _
  generalize (w.alloc (.cells (lits x) 47)).alloc (.cells z4 47) = w0 at *
  have Gx := hide Bx
  have Gz := hide Bz
  have HL := hide L0
  clear Bx Bz L0
  have rux := (Gx.out).ruleOf
  go_cut [3] (fun s wx => Newly w0 (mm (mm (x) (x)) (x)) s wx)
  case first =>
    go_region_held3 (fun w' => Below w0.heap.size w0 w') (first | assumption | exact (Below.refl _ _).drew | exact (keepAlloc (Below.refl _ _) _).drew | exact HT2.out | exact HT1.out | (refine keepAlloc ?_ _; assumption) | exact keepAlloc HT2.out _ | exact Below.row HT2.out HT1.out.size _ | exact Below.row HT2.out (Nat.le_refl _) _)
      (first
        | (go_at_call 50; refine (square_mm (x) _ _ (by simp only [fe_def]) Hx.out).mono ?_; rintro e w1 ⟨rfl, hb1⟩; have HT1 := hide (keepCall hb1 rfl (by assumption)); (first | have E1 := ((Blk.new _ z4 47).drew).below hb1 (by simp) | have E1 := True.intro))
        | (go_at_call 55; refine (mul_mm (mm (x) (x)) (x) _ _ (by simp only [fe_def]) (mm_lt _ _) Hx.out).mono ?_; rw [fe_def]; rintro e w2 ⟨rfl, hb2⟩; have HT2 := hide (keepCall hb2 rfl (by assumption)); (first | have E2 := (Blk.new _ z4 47).below hb2 (by simp) | have E2 := E1.below hb2 E1.lt | have E2 := True.intro); (first | obtain ⟨c2, f2⟩ := E2.rules | skip); (first | obtain ⟨r1, r2, r3, r4⟩ := E2.writes | skip); (first | have HE2 := hide E2 | skip); clear E2))
    all_goals
      go_wp2
      go_meet
      case rel => first | exact Newly.late HT2.out | exact Newly.early HT1.out.size HE2.out HT2.out | exact Newly.early (Nat.le_refl _) HE2.out HT2.out
  case rest =>
    clear rux
    obtain ⟨bo2, rfl, hbo2, Bo2, Lo2⟩ := hcut
    rw [ones_two x Hx.out] at Bo2
    have No2 := hide (Nat.lt_of_lt_of_le Gz.out.lt hbo2)
    have Kx := hide (Blk.call Gx.out Lo2)
    have Kz := hide (Blk.call Gz.out Lo2)
    have KL := hide (HL.out.trans (Lo2.mono HL.out.size))
    clear Gx Gz HL
    have Gx := Kx
    have Gz := Kz
    have HL := KL
    clear Kx Kz KL
    have Go2 := hide Bo2
    clear Bo2 Lo2 hbo2
    generalize wc = w1 at *
    go_wp2
    have ruo2 := (Go2.out).ruleOf
    go_cut [4] (fun s wx => Newly w1 (mm (pm (ones x 2) (2 ^ 2)) (ones x 2)) s wx)
    case first =>
      go_region_held3 (fun w' => Below w1.heap.size w1 w') (first | assumption | exact (Below.refl _ _).drew | exact (keepAlloc (Below.refl _ _) _).drew | exact HT2.out | exact HT1.out | (refine keepAlloc ?_ _; assumption) | exact keepAlloc HT2.out _ | exact Below.row HT2.out HT1.out.size _ | exact Below.row HT2.out (Nat.le_refl _) _)
        (first
          | (go_at_call 95; refine (squares_at (ones x 2) 2 _ _ (by simp only [fe_def]; rfl) (ones_lt _ _) (by omega)).mono ?_; rintro e w1 ⟨rfl, hb1⟩; have HT1 := hide (keepCall hb1 rfl (by assumption)); (first | have E1 := ((Blk.new _ z4 47).drew).below hb1 (by simp) | have E1 := True.intro))
          | (go_at_call 55; refine (mul_mm (pm (ones x 2) (2 ^ 2)) (ones x 2) _ _ (by simp only [fe_def]) (pm_lt _ _) (ones_lt _ _)).mono ?_; rw [fe_def]; rintro e w2 ⟨rfl, hb2⟩; have HT2 := hide (keepCall hb2 rfl (by assumption)); (first | have E2 := (Blk.new _ z4 47).below hb2 (by simp) | have E2 := E1.below hb2 E1.lt | have E2 := True.intro); (first | obtain ⟨c2, f2⟩ := E2.rules | skip); (first | obtain ⟨r1, r2, r3, r4⟩ := E2.writes | skip); (first | have HE2 := hide E2 | skip); clear E2))
      all_goals
        go_wp2
        go_meet
        case rel => first | exact Newly.late HT2.out | exact Newly.early HT1.out.size HE2.out HT2.out | exact Newly.early (Nat.le_refl _) HE2.out HT2.out
    case rest =>
      clear ruo2
      obtain ⟨bo4, rfl, hbo4, Bo4, Lo4⟩ := hcut
      rw [ones_join x 2 2 4 rfl] at Bo4
      have No4 := hide (Nat.lt_of_lt_of_le Gz.out.lt hbo4)
      have Kx := hide (Blk.call Gx.out Lo4)
      have Kz := hide (Blk.call Gz.out Lo4)
      have Ko2 := hide (Blk.call Go2.out Lo4)
      have KL := hide (HL.out.trans (Lo4.mono HL.out.size))
      clear Gx Gz Go2 HL
      have Gx := Kx
      have Gz := Kz
      have Go2 := Ko2
      have HL := KL
      clear Kx Kz Ko2 KL
      have Go4 := hide Bo4
      clear Bo4 Lo4 hbo4
      generalize wc = w2 at *
      go_wp2
      have ruo4 := (Go4.out).ruleOf
      have rux := (Gx.out).ruleOf
      go_cut [5] (fun s wx => Newly w2 (mm (mm (ones x 4) (ones x 4)) (x)) s wx)
      case first =>
        go_region_held3 (fun w' => Below w2.heap.size w2 w') (first | assumption | exact (Below.refl _ _).drew | exact (keepAlloc (Below.refl _ _) _).drew | exact HT2.out | exact HT1.out | (refine keepAlloc ?_ _; assumption) | exact keepAlloc HT2.out _ | exact Below.row HT2.out HT1.out.size _ | exact Below.row HT2.out (Nat.le_refl _) _)
          (first
            | (go_at_call 50; refine (square_mm (ones x 4) _ _ (by simp only [fe_def]) (ones_lt _ _)).mono ?_; rintro e w1 ⟨rfl, hb1⟩; have HT1 := hide (keepCall hb1 rfl (by assumption)); (first | have E1 := ((Blk.new _ z4 47).drew).below hb1 (by simp) | have E1 := True.intro))
            | (go_at_call 55; refine (mul_mm (mm (ones x 4) (ones x 4)) (x) _ _ (by simp only [fe_def]) (mm_lt _ _) Hx.out).mono ?_; rw [fe_def]; rintro e w2 ⟨rfl, hb2⟩; have HT2 := hide (keepCall hb2 rfl (by assumption)); (first | have E2 := (Blk.new _ z4 47).below hb2 (by simp) | have E2 := E1.below hb2 E1.lt | have E2 := True.intro); (first | obtain ⟨c2, f2⟩ := E2.rules | skip); (first | obtain ⟨r1, r2, r3, r4⟩ := E2.writes | skip); (first | have HE2 := hide E2 | skip); clear E2))
        all_goals
          go_wp2
          go_meet
          case rel => first | exact Newly.late HT2.out | exact Newly.early HT1.out.size HE2.out HT2.out | exact Newly.early (Nat.le_refl _) HE2.out HT2.out
      case rest =>
        clear ruo4 rux
        obtain ⟨bo5, rfl, hbo5, Bo5, Lo5⟩ := hcut
        rw [ones_more x 4 5 Hx.out rfl] at Bo5
        have No5 := hide (Nat.lt_of_lt_of_le Gz.out.lt hbo5)
        have Kx := hide (Blk.call Gx.out Lo5)
        have Kz := hide (Blk.call Gz.out Lo5)
        have Ko2 := hide (Blk.call Go2.out Lo5)
        have Ko4 := hide (Blk.call Go4.out Lo5)
        have KL := hide (HL.out.trans (Lo5.mono HL.out.size))
        clear Gx Gz Go2 Go4 HL
        have Gx := Kx
        have Gz := Kz
        have Go2 := Ko2
        have Go4 := Ko4
        have HL := KL
        clear Kx Kz Ko2 Ko4 KL
        have Go5 := hide Bo5
        clear Bo5 Lo5 hbo5
        generalize wc = w3 at *
        go_wp2
        have ruo5 := (Go5.out).ruleOf
        go_cut [6] (fun s wx => Newly w3 (mm (pm (ones x 5) (2 ^ 5)) (ones x 5)) s wx)
        case first =>
          go_region_held3 (fun w' => Below w3.heap.size w3 w') (first | assumption | exact (Below.refl _ _).drew | exact (keepAlloc (Below.refl _ _) _).drew | exact HT2.out | exact HT1.out | (refine keepAlloc ?_ _; assumption) | exact keepAlloc HT2.out _ | exact Below.row HT2.out HT1.out.size _ | exact Below.row HT2.out (Nat.le_refl _) _)
            (first
              | (go_at_call 95; refine (squares_at (ones x 5) 5 _ _ (by simp only [fe_def]; rfl) (ones_lt _ _) (by omega)).mono ?_; rintro e w1 ⟨rfl, hb1⟩; have HT1 := hide (keepCall hb1 rfl (by assumption)); (first | have E1 := ((Blk.new _ z4 47).drew).below hb1 (by simp) | have E1 := True.intro))
              | (go_at_call 55; refine (mul_mm (pm (ones x 5) (2 ^ 5)) (ones x 5) _ _ (by simp only [fe_def]) (pm_lt _ _) (ones_lt _ _)).mono ?_; rw [fe_def]; rintro e w2 ⟨rfl, hb2⟩; have HT2 := hide (keepCall hb2 rfl (by assumption)); (first | have E2 := (Blk.new _ z4 47).below hb2 (by simp) | have E2 := E1.below hb2 E1.lt | have E2 := True.intro); (first | obtain ⟨c2, f2⟩ := E2.rules | skip); (first | obtain ⟨r1, r2, r3, r4⟩ := E2.writes | skip); (first | have HE2 := hide E2 | skip); clear E2))
          all_goals
            go_wp2
            go_meet
            case rel => first | exact Newly.late HT2.out | exact Newly.early HT1.out.size HE2.out HT2.out | exact Newly.early (Nat.le_refl _) HE2.out HT2.out
        case rest =>
          clear ruo5
          obtain ⟨bo10, rfl, hbo10, Bo10, Lo10⟩ := hcut
          rw [ones_join x 5 5 10 rfl] at Bo10
          have No10 := hide (Nat.lt_of_lt_of_le Gz.out.lt hbo10)
          have Kx := hide (Blk.call Gx.out Lo10)
          have Kz := hide (Blk.call Gz.out Lo10)
          have Ko2 := hide (Blk.call Go2.out Lo10)
          have Ko4 := hide (Blk.call Go4.out Lo10)
          have Ko5 := hide (Blk.call Go5.out Lo10)
          have KL := hide (HL.out.trans (Lo10.mono HL.out.size))
          clear Gx Gz Go2 Go4 Go5 HL
          have Gx := Kx
          have Gz := Kz
          have Go2 := Ko2
          have Go4 := Ko4
          have Go5 := Ko5
          have HL := KL
          clear Kx Kz Ko2 Ko4 Ko5 KL
          have Go10 := hide Bo10
          clear Bo10 Lo10 hbo10
          generalize wc = w4 at *
          go_wp2
          have ruo10 := (Go10.out).ruleOf
          go_cut [7] (fun s wx => Newly w4 (mm (pm (ones x 10) (2 ^ 10)) (ones x 10)) s wx)
          case first =>
            go_region_held3 (fun w' => Below w4.heap.size w4 w') (first | assumption | exact (Below.refl _ _).drew | exact (keepAlloc (Below.refl _ _) _).drew | exact HT2.out | exact HT1.out | (refine keepAlloc ?_ _; assumption) | exact keepAlloc HT2.out _ | exact Below.row HT2.out HT1.out.size _ | exact Below.row HT2.out (Nat.le_refl _) _)
              (first
                | (go_at_call 95; refine (squares_at (ones x 10) 10 _ _ (by simp only [fe_def]; rfl) (ones_lt _ _) (by omega)).mono ?_; rintro e w1 ⟨rfl, hb1⟩; have HT1 := hide (keepCall hb1 rfl (by assumption)); (first | have E1 := ((Blk.new _ z4 47).drew).below hb1 (by simp) | have E1 := True.intro))
                | (go_at_call 55; refine (mul_mm (pm (ones x 10) (2 ^ 10)) (ones x 10) _ _ (by simp only [fe_def]) (pm_lt _ _) (ones_lt _ _)).mono ?_; rw [fe_def]; rintro e w2 ⟨rfl, hb2⟩; have HT2 := hide (keepCall hb2 rfl (by assumption)); (first | have E2 := (Blk.new _ z4 47).below hb2 (by simp) | have E2 := E1.below hb2 E1.lt | have E2 := True.intro); (first | obtain ⟨c2, f2⟩ := E2.rules | skip); (first | obtain ⟨r1, r2, r3, r4⟩ := E2.writes | skip); (first | have HE2 := hide E2 | skip); clear E2))
            all_goals
              go_wp2
              go_meet
              case rel => first | exact Newly.late HT2.out | exact Newly.early HT1.out.size HE2.out HT2.out | exact Newly.early (Nat.le_refl _) HE2.out HT2.out
          case rest =>
            clear ruo10
            obtain ⟨bo20, rfl, hbo20, Bo20, Lo20⟩ := hcut
            rw [ones_join x 10 10 20 rfl] at Bo20
            have No20 := hide (Nat.lt_of_lt_of_le Gz.out.lt hbo20)
            have Kx := hide (Blk.call Gx.out Lo20)
            have Kz := hide (Blk.call Gz.out Lo20)
            have Ko2 := hide (Blk.call Go2.out Lo20)
            have Ko4 := hide (Blk.call Go4.out Lo20)
            have Ko5 := hide (Blk.call Go5.out Lo20)
            have Ko10 := hide (Blk.call Go10.out Lo20)
            have KL := hide (HL.out.trans (Lo20.mono HL.out.size))
            clear Gx Gz Go2 Go4 Go5 Go10 HL
            have Gx := Kx
            have Gz := Kz
            have Go2 := Ko2
            have Go4 := Ko4
            have Go5 := Ko5
            have Go10 := Ko10
            have HL := KL
            clear Kx Kz Ko2 Ko4 Ko5 Ko10 KL
            have Go20 := hide Bo20
            clear Bo20 Lo20 hbo20
            generalize wc = w5 at *
            go_wp2
            have ruo20 := (Go20.out).ruleOf
            go_cut [8] (fun s wx => Newly w5 (mm (pm (ones x 20) (2 ^ 20)) (ones x 20)) s wx)
            case first =>
              go_region_held3 (fun w' => Below w5.heap.size w5 w') (first | assumption | exact (Below.refl _ _).drew | exact (keepAlloc (Below.refl _ _) _).drew | exact HT2.out | exact HT1.out | (refine keepAlloc ?_ _; assumption) | exact keepAlloc HT2.out _ | exact Below.row HT2.out HT1.out.size _ | exact Below.row HT2.out (Nat.le_refl _) _)
                (first
                  | (go_at_call 95; refine (squares_at (ones x 20) 20 _ _ (by simp only [fe_def]; rfl) (ones_lt _ _) (by omega)).mono ?_; rintro e w1 ⟨rfl, hb1⟩; have HT1 := hide (keepCall hb1 rfl (by assumption)); (first | have E1 := ((Blk.new _ z4 47).drew).below hb1 (by simp) | have E1 := True.intro))
                  | (go_at_call 55; refine (mul_mm (pm (ones x 20) (2 ^ 20)) (ones x 20) _ _ (by simp only [fe_def]) (pm_lt _ _) (ones_lt _ _)).mono ?_; rw [fe_def]; rintro e w2 ⟨rfl, hb2⟩; have HT2 := hide (keepCall hb2 rfl (by assumption)); (first | have E2 := (Blk.new _ z4 47).below hb2 (by simp) | have E2 := E1.below hb2 E1.lt | have E2 := True.intro); (first | obtain ⟨c2, f2⟩ := E2.rules | skip); (first | obtain ⟨r1, r2, r3, r4⟩ := E2.writes | skip); (first | have HE2 := hide E2 | skip); clear E2))
              all_goals
                go_wp2
                go_meet
                case rel => first | exact Newly.late HT2.out | exact Newly.early HT1.out.size HE2.out HT2.out | exact Newly.early (Nat.le_refl _) HE2.out HT2.out
            case rest =>
              clear ruo20
              obtain ⟨bo40, rfl, hbo40, Bo40, Lo40⟩ := hcut
              rw [ones_join x 20 20 40 rfl] at Bo40
              have No40 := hide (Nat.lt_of_lt_of_le Gz.out.lt hbo40)
              have Kx := hide (Blk.call Gx.out Lo40)
              have Kz := hide (Blk.call Gz.out Lo40)
              have Ko2 := hide (Blk.call Go2.out Lo40)
              have Ko4 := hide (Blk.call Go4.out Lo40)
              have Ko5 := hide (Blk.call Go5.out Lo40)
              have Ko10 := hide (Blk.call Go10.out Lo40)
              have Ko20 := hide (Blk.call Go20.out Lo40)
              have KL := hide (HL.out.trans (Lo40.mono HL.out.size))
              clear Gx Gz Go2 Go4 Go5 Go10 Go20 HL
              have Gx := Kx
              have Gz := Kz
              have Go2 := Ko2
              have Go4 := Ko4
              have Go5 := Ko5
              have Go10 := Ko10
              have Go20 := Ko20
              have HL := KL
              clear Kx Kz Ko2 Ko4 Ko5 Ko10 Ko20 KL
              have Go40 := hide Bo40
              clear Bo40 Lo40 hbo40
              generalize wc = w6 at *
              go_wp2
              have ruo40 := (Go40.out).ruleOf
              have ruo10 := (Go10.out).ruleOf
              go_cut [9] (fun s wx => Newly w6 (mm (pm (ones x 40) (2 ^ 10)) (ones x 10)) s wx)
              case first =>
                go_region_held3 (fun w' => Below w6.heap.size w6 w') (first | assumption | exact (Below.refl _ _).drew | exact (keepAlloc (Below.refl _ _) _).drew | exact HT2.out | exact HT1.out | (refine keepAlloc ?_ _; assumption) | exact keepAlloc HT2.out _ | exact Below.row HT2.out HT1.out.size _ | exact Below.row HT2.out (Nat.le_refl _) _)
                  (first
                    | (go_at_call 95; refine (squares_at (ones x 40) 10 _ _ (by simp only [fe_def]; rfl) (ones_lt _ _) (by omega)).mono ?_; rintro e w1 ⟨rfl, hb1⟩; have HT1 := hide (keepCall hb1 rfl (by assumption)); (first | have E1 := ((Blk.new _ z4 47).drew).below hb1 (by simp) | have E1 := True.intro))
                    | (go_at_call 55; refine (mul_mm (pm (ones x 40) (2 ^ 10)) (ones x 10) _ _ (by simp only [fe_def]) (pm_lt _ _) (ones_lt _ _)).mono ?_; rw [fe_def]; rintro e w2 ⟨rfl, hb2⟩; have HT2 := hide (keepCall hb2 rfl (by assumption)); (first | have E2 := (Blk.new _ z4 47).below hb2 (by simp) | have E2 := E1.below hb2 E1.lt | have E2 := True.intro); (first | obtain ⟨c2, f2⟩ := E2.rules | skip); (first | obtain ⟨r1, r2, r3, r4⟩ := E2.writes | skip); (first | have HE2 := hide E2 | skip); clear E2))
                all_goals
                  go_wp2
                  go_meet
                  case rel => first | exact Newly.late HT2.out | exact Newly.early HT1.out.size HE2.out HT2.out | exact Newly.early (Nat.le_refl _) HE2.out HT2.out
              case rest =>
                clear ruo40 ruo10
                obtain ⟨bo50, rfl, hbo50, Bo50, Lo50⟩ := hcut
                rw [ones_join x 40 10 50 rfl] at Bo50
                have No50 := hide (Nat.lt_of_lt_of_le Gz.out.lt hbo50)
                have Kx := hide (Blk.call Gx.out Lo50)
                have Kz := hide (Blk.call Gz.out Lo50)
                have Ko2 := hide (Blk.call Go2.out Lo50)
                have Ko4 := hide (Blk.call Go4.out Lo50)
                have Ko5 := hide (Blk.call Go5.out Lo50)
                have Ko10 := hide (Blk.call Go10.out Lo50)
                have Ko20 := hide (Blk.call Go20.out Lo50)
                have Ko40 := hide (Blk.call Go40.out Lo50)
                have KL := hide (HL.out.trans (Lo50.mono HL.out.size))
                clear Gx Gz Go2 Go4 Go5 Go10 Go20 Go40 HL
                have Gx := Kx
                have Gz := Kz
                have Go2 := Ko2
                have Go4 := Ko4
                have Go5 := Ko5
                have Go10 := Ko10
                have Go20 := Ko20
                have Go40 := Ko40
                have HL := KL
                clear Kx Kz Ko2 Ko4 Ko5 Ko10 Ko20 Ko40 KL
                have Go50 := hide Bo50
                clear Bo50 Lo50 hbo50
                generalize wc = w7 at *
                go_wp2
                have ruo50 := (Go50.out).ruleOf
                go_cut [10] (fun s wx => Newly w7 (mm (pm (ones x 50) (2 ^ 50)) (ones x 50)) s wx)
                case first =>
                  go_region_held3 (fun w' => Below w7.heap.size w7 w') (first | assumption | exact (Below.refl _ _).drew | exact (keepAlloc (Below.refl _ _) _).drew | exact HT2.out | exact HT1.out | (refine keepAlloc ?_ _; assumption) | exact keepAlloc HT2.out _ | exact Below.row HT2.out HT1.out.size _ | exact Below.row HT2.out (Nat.le_refl _) _)
                    (first
                      | (go_at_call 95; refine (squares_at (ones x 50) 50 _ _ (by simp only [fe_def]; rfl) (ones_lt _ _) (by omega)).mono ?_; rintro e w1 ⟨rfl, hb1⟩; have HT1 := hide (keepCall hb1 rfl (by assumption)); (first | have E1 := ((Blk.new _ z4 47).drew).below hb1 (by simp) | have E1 := True.intro))
                      | (go_at_call 55; refine (mul_mm (pm (ones x 50) (2 ^ 50)) (ones x 50) _ _ (by simp only [fe_def]) (pm_lt _ _) (ones_lt _ _)).mono ?_; rw [fe_def]; rintro e w2 ⟨rfl, hb2⟩; have HT2 := hide (keepCall hb2 rfl (by assumption)); (first | have E2 := (Blk.new _ z4 47).below hb2 (by simp) | have E2 := E1.below hb2 E1.lt | have E2 := True.intro); (first | obtain ⟨c2, f2⟩ := E2.rules | skip); (first | obtain ⟨r1, r2, r3, r4⟩ := E2.writes | skip); (first | have HE2 := hide E2 | skip); clear E2))
                  all_goals
                    go_wp2
                    go_meet
                    case rel => first | exact Newly.late HT2.out | exact Newly.early HT1.out.size HE2.out HT2.out | exact Newly.early (Nat.le_refl _) HE2.out HT2.out
                case rest =>
                  clear ruo50
                  obtain ⟨bo100, rfl, hbo100, Bo100, Lo100⟩ := hcut
                  rw [ones_join x 50 50 100 rfl] at Bo100
                  have No100 := hide (Nat.lt_of_lt_of_le Gz.out.lt hbo100)
                  have Kx := hide (Blk.call Gx.out Lo100)
                  have Kz := hide (Blk.call Gz.out Lo100)
                  have Ko2 := hide (Blk.call Go2.out Lo100)
                  have Ko4 := hide (Blk.call Go4.out Lo100)
                  have Ko5 := hide (Blk.call Go5.out Lo100)
                  have Ko10 := hide (Blk.call Go10.out Lo100)
                  have Ko20 := hide (Blk.call Go20.out Lo100)
                  have Ko40 := hide (Blk.call Go40.out Lo100)
                  have Ko50 := hide (Blk.call Go50.out Lo100)
                  have KL := hide (HL.out.trans (Lo100.mono HL.out.size))
                  clear Gx Gz Go2 Go4 Go5 Go10 Go20 Go40 Go50 HL
                  have Gx := Kx
                  have Gz := Kz
                  have Go2 := Ko2
                  have Go4 := Ko4
                  have Go5 := Ko5
                  have Go10 := Ko10
                  have Go20 := Ko20
                  have Go40 := Ko40
                  have Go50 := Ko50
                  have HL := KL
                  clear Kx Kz Ko2 Ko4 Ko5 Ko10 Ko20 Ko40 Ko50 KL
                  have Go100 := hide Bo100
                  clear Bo100 Lo100 hbo100
                  generalize wc = w8 at *
                  go_wp2
                  have ruo100 := (Go100.out).ruleOf
                  go_cut [11] (fun s wx => Newly w8 (mm (pm (ones x 100) (2 ^ 100)) (ones x 100)) s wx)
                  case first =>
                    go_region_held3 (fun w' => Below w8.heap.size w8 w') (first | assumption | exact (Below.refl _ _).drew | exact (keepAlloc (Below.refl _ _) _).drew | exact HT2.out | exact HT1.out | (refine keepAlloc ?_ _; assumption) | exact keepAlloc HT2.out _ | exact Below.row HT2.out HT1.out.size _ | exact Below.row HT2.out (Nat.le_refl _) _)
                      (first
                        | (go_at_call 95; refine (squares_at (ones x 100) 100 _ _ (by simp only [fe_def]; rfl) (ones_lt _ _) (by omega)).mono ?_; rintro e w1 ⟨rfl, hb1⟩; have HT1 := hide (keepCall hb1 rfl (by assumption)); (first | have E1 := ((Blk.new _ z4 47).drew).below hb1 (by simp) | have E1 := True.intro))
                        | (go_at_call 55; refine (mul_mm (pm (ones x 100) (2 ^ 100)) (ones x 100) _ _ (by simp only [fe_def]) (pm_lt _ _) (ones_lt _ _)).mono ?_; rw [fe_def]; rintro e w2 ⟨rfl, hb2⟩; have HT2 := hide (keepCall hb2 rfl (by assumption)); (first | have E2 := (Blk.new _ z4 47).below hb2 (by simp) | have E2 := E1.below hb2 E1.lt | have E2 := True.intro); (first | obtain ⟨c2, f2⟩ := E2.rules | skip); (first | obtain ⟨r1, r2, r3, r4⟩ := E2.writes | skip); (first | have HE2 := hide E2 | skip); clear E2))
                    all_goals
                      go_wp2
                      go_meet
                      case rel => first | exact Newly.late HT2.out | exact Newly.early HT1.out.size HE2.out HT2.out | exact Newly.early (Nat.le_refl _) HE2.out HT2.out
                  case rest =>
                    clear ruo100
                    obtain ⟨bo200, rfl, hbo200, Bo200, Lo200⟩ := hcut
                    rw [ones_join x 100 100 200 rfl] at Bo200
                    have No200 := hide (Nat.lt_of_lt_of_le Gz.out.lt hbo200)
                    have Kx := hide (Blk.call Gx.out Lo200)
                    have Kz := hide (Blk.call Gz.out Lo200)
                    have Ko2 := hide (Blk.call Go2.out Lo200)
                    have Ko4 := hide (Blk.call Go4.out Lo200)
                    have Ko5 := hide (Blk.call Go5.out Lo200)
                    have Ko10 := hide (Blk.call Go10.out Lo200)
                    have Ko20 := hide (Blk.call Go20.out Lo200)
                    have Ko40 := hide (Blk.call Go40.out Lo200)
                    have Ko50 := hide (Blk.call Go50.out Lo200)
                    have Ko100 := hide (Blk.call Go100.out Lo200)
                    have KL := hide (HL.out.trans (Lo200.mono HL.out.size))
                    clear Gx Gz Go2 Go4 Go5 Go10 Go20 Go40 Go50 Go100 HL
                    have Gx := Kx
                    have Gz := Kz
                    have Go2 := Ko2
                    have Go4 := Ko4
                    have Go5 := Ko5
                    have Go10 := Ko10
                    have Go20 := Ko20
                    have Go40 := Ko40
                    have Go50 := Ko50
                    have Go100 := Ko100
                    have HL := KL
                    clear Kx Kz Ko2 Ko4 Ko5 Ko10 Ko20 Ko40 Ko50 Ko100 KL
                    have Go200 := hide Bo200
                    clear Bo200 Lo200 hbo200
                    generalize wc = w9 at *
                    go_wp2
                    have ne1 : w.heap.size + 1 ≠ bo200 := by have := No200.out; omega
                    have ne2 : w.heap.size + 1 ≠ bo50 := by have := No50.out; omega
                    have ru1 : ∀ w', (Blk w' bo200 (lits (ones x 200)) 47 ∧ Blk w' bo50 (lits (ones x 50)) 47) → ∀ j, w'.cell? ⟨bo200, j, none⟩ = (lits (ones x 200))[j]? := fun w' h j => h.1.cell j
                    have ru2 : ∀ w', (Blk w' bo200 (lits (ones x 200)) 47 ∧ Blk w' bo50 (lits (ones x 50)) 47) → ∀ j, w'.cell? ⟨bo50, j, none⟩ = (lits (ones x 50))[j]? := fun w' h j => h.2.cell j
                    have Hne1 := hide ne1
                    have Hne2 := hide ne2
                    clear ne1 ne2
                    go_region_held3 (fun w' => Blk w' bo200 (lits (ones x 200)) 47 ∧ Blk w' bo50 (lits (ones x 50)) 47) (first | exact ⟨(Go200.out.call HT2.out).rowOther _ Hne1.out, (Go50.out.call HT2.out).rowOther _ Hne2.out⟩ | exact ⟨Go200.out.call HT2.out, Go50.out.call HT2.out⟩ | exact ⟨Go200.out.call HT1.out, Go50.out.call HT1.out⟩ | exact ⟨Go200.out.drew, Go50.out.drew⟩)
                      (first
                        | (go_at_call 95; refine (squares_at (ones x 200) 50 _ _ (by simp only [fe_def]; rfl) (ones_lt _ _) (by omega)).mono ?_; rintro e w1 ⟨rfl, hb1⟩; have HT1 := hide (keepCall hb1 rfl (Below.refl _ _).drew))
                        | (go_at_call 55; refine (mul_mm (pm (ones x 200) (2 ^ 50)) (ones x 50) _ _ (by simp only [fe_def]) (pm_lt _ _) (ones_lt _ _)).mono ?_; rw [ones_join x 200 50 250 rfl, fe_def]; rintro e w2 ⟨rfl, hb2⟩; have HT2 := hide (keepCall hb2 rfl HT1.out); have E2 := Gz.out.call HT2.out; obtain ⟨c2, f2⟩ := E2.rules; obtain ⟨r1, r2, r3, r4⟩ := E2.writes; clear E2))
                    go_wp2
                    refine bodyPost_ret (v := fe (ones x 250)) (by simp [results, Tryz.results96, go_sem, r3, fe_def]) rfl ⟨rfl, ?_⟩
                    exact Below.row (HL.out.trans (HT2.out.mono HL.out.size)) (by omega) _

end Go.Proofs.YtbpmakegimgbpaaGreatDoor.F

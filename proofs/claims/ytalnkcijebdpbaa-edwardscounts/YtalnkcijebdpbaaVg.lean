/- Walks of the reference: Mul. -/
import Derived.Test.YtalnkcijebdpbaaVd
import Derived.Test.YtalnkcijebdpbaaWk
namespace Go.Proofs.Ytalnkcijebdpbaa.F
open Go.RowKit

/-- Digits with one that is greater. -/
def up (l : Nat → Nat) (m v j : Nat) : Nat := if j = m then l m + v else l j
theorem pv_up (l : Nat → Nat) (m v : Nat) : ∀ n, pv (up l m v) n = pv l n + if m < n then v * 2 ^ (16 * m) else 0
  | 0 => by simp [pv]
  | n + 1 => by
    rw [pv, pv, pv_up l m v n, up]
    by_cases h1 : n = m
    · subst h1
      rw [if_pos rfl, if_neg (by omega), if_pos (by omega)]
      grind
    · rw [if_neg h1]
      by_cases h2 : m < n
      · rw [if_pos h2, if_pos (by omega)]; omega
      · rw [if_neg h2, if_neg (by omega)]; omega
theorem mul_step (l : Nat → Nat) (a b i k : Nat) (hik : i + k < 32) (h : pv l 32 = a % 2 ^ (16 * i) * b + 2 ^ (16 * i) * dg a i * (b % 2 ^ (16 * k))) :
    pv (up l (i + k) (dg a i * dg b k)) 32 = a % 2 ^ (16 * i) * b + 2 ^ (16 * i) * dg a i * (b % 2 ^ (16 * (k + 1))) := by
  rw [pv_up, if_pos hik, h, mod_split b k, d_add]
  grind
theorem mul_row (a b i : Nat) (hb : b < 2 ^ 256) : a % 2 ^ (16 * i) * b + 2 ^ (16 * i) * dg a i * (b % 2 ^ (16 * 16)) = a % 2 ^ (16 * (i + 1)) * b := by
  rw [mod_split a i, Nat.mod_eq_of_lt (show b < 2 ^ (16 * 16) from hb), Nat.add_mul]
theorem dd_le (a b i k : Nat) : dg a i * dg b k ≤ 4294836225 := by
  have h1 := dg_lt a i
  have h2 := dg_lt b k
  exact Nat.mul_le_mul (show dg a i ≤ 65535 by omega) (show dg b k ≤ 65535 by omega)
theorem up_le (l : Nat → Nat) (m v c : Nat) (hl : ∀ j, l j ≤ c * 4294836225) (hv : v ≤ 4294836225) (j : Nat) : up l m v j ≤ (c + 1) * 4294836225 := by
  have h1 := hl j
  have h2 := hl m
  rw [Nat.add_mul, Nat.one_mul]
  generalize c * 4294836225 = C at h1 h2 ⊢
  unfold up
  by_cases h : j = m
  · rw [if_pos h]; exact Nat.add_le_add h2 hv
  · rw [if_neg h]; exact Nat.le_trans h1 (Nat.le_add_right _ _)

set_option maxHeartbeats 2000000 in
theorem refMul_any (a b : Nat) (w : World) (ha : a < 2 ^ 256) (hb : b < 2 ^ 256) :
    Calls Try.prog 48 #[rn a, rn b] w fun e w' => e = .returned (rn (mm a b)) ∧ Below w.heap.size w w' := by
  have Ha := hide ha
  have Hb := hide hb
  clear ha hb
  unfold rn
  go_enter Try.func48, Try.ntmps48
  go_wp2_with (first
    | (refine wpList_build rfl 103 #[] rfl (by simp [built62]) ?_; simp only [List.map_toArray, List.map_nil, built62, Option.getD_some])
    | (refine wpList_store_row rfl 103 _ _ rfl (w.heap.size + 3) (vals .u64 32 (fun _ => 0)) rfl rfl 103 _ (Blk.new' _ _ (by simp) _ _) (by rw [vals_size]; exact cells62) (by rw [vals_size]; rfl) (vals_one _ _ _) ?_))
  go_loopw [6] (fun iv wr => ∃ i : Nat, i ≤ 16 ∧ iv = .int .i64 i ∧ Blk wr w.heap.size (vals .u64 16 (dg a)) 33 ∧ Blk wr (w.heap.size + 1) (vals .u64 16 (dg b)) 33 ∧ (∃ z, z.size = 16 ∧ Blk wr (w.heap.size + 2) z 33) ∧ (∃ l : Nat → Nat, (∀ j, l j ≤ (16 * i) * 4294836225) ∧ pv l 32 = a % 2 ^ (16 * i) * b ∧ Blk wr (w.heap.size + 3) (vals .u64 32 l) 103) ∧ Below w.heap.size w wr) (fun i _ => 16 - (intOf i).toNat)
  case atStart =>
    refine ⟨0, by omega, rfl, ?_, ?_, ⟨vals .u64 16 (fun _ => 0), vals_size _ _ _, ?_⟩, ⟨fun _ => 0, fun _ => Nat.zero_le _, ?_, ?_⟩, ?_⟩
    · exact ((((Blk.new w _ _).alloc _).alloc _).alloc _).rowOther _ (by omega)
    · exact (((Blk.new' (w.alloc _) (w.heap.size + 1) (by simp) _ _).alloc _).alloc _).rowOther _ (by omega)
    · exact ((Blk.new' ((w.alloc _).alloc _) (w.heap.size + 2) (by simp) _ _).alloc _).rowOther _ (by omega)
    · rw [show 32 = 0 + 32 from rfl, pv_stop (fun _ => 0) 0 32 fun _ _ => rfl]; simp [pv, Nat.mod_one]
    · exact (Blk.new' (((w.alloc _).alloc _).alloc _) (w.heap.size + 3) (by simp) _ _).row _
    · exact Below.row (((((Below.refl _ w).alloc (Nat.le_refl _) _).alloc (by simp) _).alloc (by simp; omega) _).alloc (by simp; omega) _) (by omega) _
  case round =>
    obtain ⟨i, hi, rfl, Ba, Bb, ⟨z, hz, Bz⟩, ⟨l, hl, hpv, Bl⟩, L⟩ := hrel
    have Hl := hide hl
    have Hpv := hide hpv
    have HBa := hide Ba
    have HBb := hide Bb
    have HBz := hide Bz
    have HBl := hide Bl
    have HL := hide L
    clear Ba Bb Bz Bl L hl hpv
    by_cases hlt : i < 16
    · have hi0 : (0 : Int) ≤ (i : Int) := by omega
      have hi4 : (i : Int) < 16 := by omega
      go_wp2
      go_loopw [7] (fun kv wr => ∃ k : Nat, k ≤ 16 ∧ kv = .int .i64 k ∧ Blk wr w.heap.size (vals .u64 16 (dg a)) 33 ∧ Blk wr (w.heap.size + 1) (vals .u64 16 (dg b)) 33 ∧ (∃ z, z.size = 16 ∧ Blk wr (w.heap.size + 2) z 33) ∧ (∃ l : Nat → Nat, (∀ j, l j ≤ (16 * i + k) * 4294836225) ∧ pv l 32 = a % 2 ^ (16 * i) * b + 2 ^ (16 * i) * dg a i * (b % 2 ^ (16 * k)) ∧ Blk wr (w.heap.size + 3) (vals .u64 32 l) 103) ∧ Below w.heap.size w wr) (fun i _ => 16 - (intOf i).toNat)
      case atStart => exact ⟨0, by omega, rfl, HBa.out, HBb.out, ⟨z, hz, HBz.out⟩, ⟨l, Hl.out, by rw [Hpv.out]; simp [Nat.mod_one], HBl.out⟩, HL.out⟩
      case round =>
        clear HBa HBb HBz HBl HL hz z Hl Hpv l
        obtain ⟨k, hk, rfl, Ba, Bb, ⟨z, hz, Bz⟩, ⟨l, hl, hpv, Bl⟩, L⟩ := hrel
        have Hl := hide hl
        have Hpv := hide hpv
        clear hl hpv
        by_cases hlk : k < 16
        · have c1 := Ba.cell i
          rw [vals_get _ _ _ _ (by omega)] at c1
          have c2 := Bb.cell k
          rw [vals_get _ _ _ _ (by omega)] at c2
          have co := Bl.cell (i + k)
          rw [vals_get _ _ _ _ (by omega)] at co
          have fo' := Bl.frozen (i + k)
          have hd := dd_le a b i k
          have hlb : l (i + k) ≤ 256 * 4294836225 := Nat.le_trans (Hl.out (i + k)) (Nat.mul_le_mul_right _ (by omega))
          obtain ⟨p, hp⟩ : ∃ p, p = dg a i * dg b k := ⟨_, rfl⟩
          have hpi : ((dg a i : Nat) : Int) * ((dg b k : Nat) : Int) = ((p : Nat) : Int) := by rw [hp]; simp
          rw [← hp] at hd
          have hw1 : IntKind.u64.wrap (((dg a i : Nat) : Int) * ((dg b k : Nat) : Int)) = ((p : Nat) : Int) := by rw [hpi, wrap_u64']; omega
          have hw2 : IntKind.u64.wrap (((l (i + k) : Nat) : Int) + ((p : Nat) : Int)) = ((l (i + k) + p : Nat) : Int) := by rw [wrap_u64']; omega
          have hw3 : IntKind.u64.wrap (((l (i + k) : Nat) : Int) + ((dg a i : Nat) : Int) * ((dg b k : Nat) : Int)) = ((l (i + k) + p : Nat) : Int) := by rw [hpi]; exact hw2
          have HB := hide (Blk.cast (c' := vals .u64 32 (up l (i + k) p)) ((Bl.set (i + k) (.int .u64 (l (i + k) + p : Nat))).drew) (by
            rw [vals_set]
            exact vals_congr _ _ _ _ fun j _ => by unfold up; rfl))
          have Hle := hide (up_le l (i + k) p (16 * i + k) Hl.out hd)
          have Hst := hide (mul_step l a b i k (by omega) Hpv.out)
          rw [← hp] at Hst
          have HBa := hide Ba
          have HBb := hide Bb
          have HBz := hide Bz
          have HL := hide L
          clear Ba Bb Bz Bl L hpi hp hd hlb Hl Hpv
          have hk0 : (0 : Int) ≤ (k : Int) := by omega
          have hk5 : (k : Int) < 16 := by omega
          have hs0 : (0 : Int) ≤ (i : Int) + (k : Int) := by omega
          have hs4 : (i : Int) + (k : Int) < 32 := by omega
          have hsn : ((i : Int) + (k : Int)).toNat = i + k := by omega
          have hsw : IntKind.i64.wrap ((i : Int) + (k : Int)) = (i : Int) + (k : Int) := wrap_i64_small _ hs0 (by omega)
          go_wp2
          go_region_with (fail)
          all_goals
            go_wp2
            first | rw [hw3] | rw [hw2] | skip
            go_roundw
            case rel => exact ⟨k + 1, by omega, by go_num, (HBa.out.setOther _ _ (by omega)).drew, (HBb.out.setOther _ _ (by omega)).drew, ⟨z, hz, (HBz.out.setOther _ _ (by omega)).drew⟩, ⟨up l (i + k) p, Hle.out, Hst.out, HB.out⟩, (HL.out.setCell (by show w.heap.size ≤ w.heap.size + 3; omega) _).drew⟩
            case measure => simp [intOf]; omega
        · have e16 : k = 16 := by omega
          subst e16
          have HBa := hide Ba
          have HBb := hide Bb
          have HBz := hide Bz
          have HBl := hide Bl
          have HL := hide L
          clear Ba Bb Bz Bl L hlk hk
          go_wp2
          go_roundw
          case rel => exact ⟨i + 1, by omega, by go_num, HBa.out, HBb.out, ⟨z, hz, HBz.out⟩, ⟨l, fun j => by rw [show 16 * (i + 1) = 16 * i + 16 by omega]; exact Hl.out j, by rw [Hpv.out]; exact mul_row a b i Hb.out, HBl.out⟩, HL.out⟩
          case measure => simp [intOf]; omega
    · have e16 : i = 16 := by omega
      subst e16
      have Hv : Hid (pv l 32 = a * b) := hide (by rw [Hpv.out, Nat.mod_eq_of_lt (show a < 2 ^ (16 * 16) from Ha.out)])
      have Hm : Hid (a * b < 2 ^ 256 * 2 ^ 256) := hide (Nat.mul_lt_mul'' Ha.out Hb.out)
      clear Hpv HBa HBb
      go_wp2_with (first
        | (refine wpList_load_row rfl 103 _ rfl (w.heap.size + 3) rfl 103 _ (0, 0) _ HBl.out Try.underlying103 rfl (by rw [vals_size]; exact cells62) ?_)
        | (go_at_call 70; refine (folded_at l _ _ rfl (fun j => by have := Hl.out j; omega) (by rw [Hv.out]; exact Hm.out)).mono ?_; rw [Hv.out]; unfold rn; rintro e w1 ⟨rfl, hb1⟩; have HBz1 := hide (HBz.out.call hb1); have HL1 := hide (HL.out.trans (hb1.mono HL.out.size)); clear hb1; dsimp only)
        | (refine wpList_store_row rfl 33 _ _ rfl (w.heap.size + 2) (vals .u64 16 (dg (a * b % pP))) rfl rfl 33 z HBz1.out (by rw [vals_size]; exact cells31) (by rw [vals_size]; exact hz) (vals_one _ _ _) ?_))
      refine bodyPost_ret (v := .agg (vals .u64 16 (dg (a * b % pP)))) (results_cell_row Try.results48 _ _ (w.heap.size + 2) 33 _ (0, 0) _ rfl (HBz1.out.row _) Try.underlying33 rfl (by rw [vals_size]; exact cells31)) rfl ⟨rfl, ?_⟩
      exact Below.row HL1.out (by omega) _
theorem refMul_at (a b : Nat) (args : Array Value) (w : World) (h : args = #[rn a, rn b]) (ha : a < 2 ^ 256) (hb : b < 2 ^ 256) :
    Calls Try.prog 48 args w fun e w' => e = .returned (rn (mm a b)) ∧ Below w.heap.size w w' := by subst h; exact refMul_any a b w ha hb

end Go.Proofs.Ytalnkcijebdpbaa.F

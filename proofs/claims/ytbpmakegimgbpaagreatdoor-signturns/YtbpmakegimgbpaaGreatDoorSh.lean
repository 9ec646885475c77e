/- Numbers modulo the order: the walks of package scalar (Ab Ac Ad Ae Af Ag Ah Ai Aj). -/
import Derived.Test.YtbpmakegimgbpaaGreatDoorProg
import Derived.Test.YtbpmakegimgbpaaGreatDoorAa
import Derived.ScopeJumps
import Derived.WalkMore
import Derived.Laws.CopyRow
namespace Go.Proofs.YtbpmakegimgbpaaGreatDoor.S
set_option maxRecDepth 100000
open Go.RowKit

theorem cells23 : (Tryz.prog.info? 22).map (·.size) = some 32 := by kernel_rfl
theorem cells41 : (Tryz.prog.info? 45).map (·.size) = some 4 := by kernel_rfl
theorem cells37 : (Tryz.prog.info? 72).map (·.size) = some 8 := by kernel_rfl
theorem cells46 : (Tryz.prog.info? 80).map (·.size) = some 65 := by kernel_rfl
theorem cells47 : (Tryz.prog.info? 81).map (·.size) = some 65 := by kernel_rfl
theorem built23 : Tryz.prog.built 22 [] = some (vals .u8 32 (fun _ => 0)) := by kernel_rfl
theorem built46 : Tryz.prog.built 80 [] = some (vals .i64 65 (fun _ => 0)) := by kernel_rfl
theorem built47 : Tryz.prog.built 81 [] = some (vals .u8 65 (fun _ => 0)) := by kernel_rfl
/-- The order. -/
def qL : Nat := 7237005577332262213973186563042994240857116359379907606001950938285454250989
theorem qL_lt : qL < 2 ^ 253 := by unfold qL; omega
theorem qL_lt256 : qL < 2 ^ 256 := by unfold qL; omega
theorem qL_pos : 0 < qL := by unfold qL; omega
theorem qL_arr : arr 4 (limb qL) = #[.int .u64 6346243789798364141, .int .u64 1503914060200516822, .int .u64 0, .int .u64 1152921504606846976] := by
  rw [arr4, show limb qL 0 = 6346243789798364141 by decide +kernel, show limb qL 1 = 1503914060200516822 by decide +kernel, show limb qL 2 = 0 by decide +kernel, show limb qL 3 = 1152921504606846976 by decide +kernel]
  rfl

/-- The package's variable holds the order. -/
def Glob (w : World) : Prop := ∃ t fz, w.heap[0]? = some (.cells (arr 4 (limb qL)) t fz)
theorem Glob.pos {w : World} (h : Glob w) : 0 < w.heap.size := by
  obtain ⟨t, fz, h⟩ := h
  exact (Array.getElem?_eq_some_iff.1 h).1
theorem Glob.cell {w : World} (h : Glob w) (j : Nat) : w.cell? ⟨0, j, none⟩ = (arr 4 (limb qL))[j]? := by
  obtain ⟨t, fz, h⟩ := h
  simp [World.cell?, h]
theorem Glob.via {w w' : World} {B : Nat} (h : Glob w) (hb : Below B w w') (hB : 0 < B) : Glob w' := by
  obtain ⟨t, fz, h⟩ := h
  exact ⟨t, fz, by rw [hb.block 0 hB]; exact h⟩
theorem Glob.low {w w' : World} (h : Glob w) (hb : Below w.heap.size w w') : Glob w' := h.via hb h.pos
theorem quo8 (k : Nat) (h : k < 64) : IntKind.i64.wrap ((k : Int).tdiv 8) = (k : Int) / 8 := by
  rw [Int.tdiv_eq_ediv_of_nonneg (by omega), wrap_i64_small' _ (by omega) (by omega)]
theorem quo8' (k : Nat) (h : k < 64) : IntKind.i64.wrap ((k : Int) / 8) = (k : Int) / 8 := by
  rw [wrap_i64_small' _ (by omega) (by omega)]
theorem rem8 (k : Nat) (h : k < 64) : IntKind.i64.wrap ((k : Int).tmod 8) = (k : Int) % 8 := by
  rw [Int.tmod_eq_emod_of_nonneg (by omega), wrap_i64_small' _ (by omega) (by omega)]

set_option maxHeartbeats 400000 in
theorem words_any (f : Nat → Nat) (w : World) (hf : ∀ i, f i < 256) :
    Calls Tryz.prog 40 #[ba f] w fun e w' => e = .returned (fe (nb f 32)) ∧ Below w.heap.size w w' := by
  have Hf := hide hf
  clear hf
  unfold ba
  go_enter Tryz.func40, Tryz.ntmps40
  go_wp2
  go_loopw [5] (fun i wr => ∃ k : Nat, k ≤ 32 ∧ i = .int .i64 k ∧ Blk wr w.heap.size (vals .u8 32 f) 22 ∧ (∃ z0 z1 z2 z3, Blk wr (w.heap.size + 1) #[z0, z1, z2, z3] 45) ∧ Blk wr (w.heap.size + 2) (arr 4 (limb (nb f k))) 45 ∧ Below w.heap.size w wr) (fun i _ => 32 - (intOf i).toNat)
  case atStart =>
    refine ⟨0, by omega, rfl, ?_, ⟨.int .u64 0, .int .u64 0, .int .u64 0, .int .u64 0, ?_⟩, ?_, ?_⟩
    · exact (((Blk.new w _ _).alloc _).alloc _)
    · exact (Blk.new' (w.alloc _) (w.heap.size + 1) (by simp) _ _).alloc _
    · exact (Blk.new' ((w.alloc _).alloc _) (w.heap.size + 2) (by simp) _ _).cast (by rw [arr4]; simp [nb, limb])
    · exact (((Below.refl _ w).alloc (Nat.le_refl _) _).alloc (by simp) _).alloc (by simp; omega) _
  case round =>
    obtain ⟨k, hk, rfl, Bx, ⟨z0, z1, z2, z3, Bz⟩, Bl, L⟩ := hrel
    by_cases hlt : k < 32
    · have cx := Bx.cell k
      rw [vals_get _ _ _ _ hlt] at cx
      have cl := Bl.cell (k / 8)
      rw [arr_get _ _ _ (by omega)] at cl
      have fl := Bl.frozen (k / 8)
      have HBx := hide Bx
      have HBz := hide Bz
      have HBl := hide Bl
      have HL := hide L
      clear Bx Bz Bl L
      have hk0 : (0 : Int) ≤ (k : Int) := by omega
      have hk4 : (k : Int) < 32 := by omega
      have hf8 := Hf.out k
      have hq0 : (0 : Int) ≤ (k : Int) / 8 := by omega
      have hq4 : (k : Int) / 8 < 4 := by omega
      have hq : IntKind.i64.wrap ((k : Int).tdiv 8) = (k : Int) / 8 := quo8 k (by omega)
      have hq' : IntKind.i64.wrap ((k : Int) / 8) = (k : Int) / 8 := quo8' k (by omega)
      have hr : IntKind.i64.wrap ((k : Int).tmod 8) = (k : Int) % 8 := rem8 k (by omega)
      have hqn : ((k : Int) / 8).toNat = k / 8 := by omega
      have hmn : ((k : Int) % 8 * 8).toNat = k % 8 * 8 := by omega
      have hr' : (k : Int).tmod 8 = (k : Int) % 8 := by rw [Int.tmod_eq_emod_of_nonneg (by omega)]
      have hm : IntKind.i64.wrap ((k : Int) % 8 * 8) = (k : Int) % 8 * 8 := mul8 k
      have hm0 : (0 : Int) ≤ (k : Int) % 8 * 8 := by omega
      have hm8 : (k : Int) % 8 * 8 < 64 := by omega
      have Ho := hide (or_load f Hf.out k)
      go_wp2
      go_region_with (fail)
      all_goals
        go_wp2
        rw [Ho.out]
        go_roundw
        case rel =>
          refine ⟨k + 1, by omega, by go_num, (HBx.out.setOther _ _ (by omega)).drew, ⟨z0, z1, z2, z3, (HBz.out.setOther _ _ (by omega)).drew⟩, ?_, (HL.out.setCell (by show w.heap.size ≤ w.heap.size + 2; omega) _).drew⟩
          exact ((HBl.out.set (k / 8) _).drew).cast (by
            rw [arr_set]
            apply arr_congr
            intro j _
            by_cases h1 : j = k / 8
            · subst h1; simp
            · simp only [h1, if_false]; exact (limb_nb_other f Hf.out k j h1).symm)
        case measure => simp [intOf]; omega
    · have e4 : k = 32 := by omega
      subst e4
      rw [arr4] at Bl
      obtain ⟨c1, f1⟩ := Bl.rules
      obtain ⟨c2, f2⟩ := Bz.rules
      obtain ⟨r1, r2, r3, r4⟩ := Bz.writes
      have HL := hide L
      clear Bx Bz Bl L hlt
      go_wp2
      refine bodyPost_ret (v := fe (nb f 32)) (by simp [results, Tryz.results40, go_sem, r3, fe_def]) rfl ⟨rfl, ?_⟩
      exact Below.row HL.out (by omega) _
theorem words_at (f : Nat → Nat) (args : Array Value) (w : World) (h : args = #[ba f]) (hf : ∀ i, f i < 256) :
    Calls Tryz.prog 40 args w fun e w' => e = .returned (fe (nb f 32)) ∧ Below w.heap.size w w' := by
  subst h; exact words_any f w hf

set_option maxHeartbeats 400000 in
theorem bytes_any (x : Nat) (w : World) :
    Calls Tryz.prog 89 #[fe x] w fun e w' => e = .returned (ba (byt x)) ∧ Below w.heap.size w w' := by
  rw [fe_arr x]
  go_enter Tryz.func89, Tryz.ntmps89
  go_wp2
  go_loopw [5] (fun i wr => ∃ k : Nat, k ≤ 32 ∧ i = .int .i64 k ∧ Blk wr w.heap.size (arr 4 (limb x)) 45 ∧ (∃ z, z.size = 32 ∧ Blk wr (w.heap.size + 1) z 22) ∧ Blk wr (w.heap.size + 2) (vals .u8 32 (fun j => if j < k then byt x j else 0)) 22 ∧ Below w.heap.size w wr) (fun i _ => 32 - (intOf i).toNat)
  case atStart =>
    refine ⟨0, by omega, rfl, ?_, ⟨vals .u8 32 (fun _ => 0), vals_size _ _ _, ?_⟩, ?_, ?_⟩
    · exact (((Blk.new w _ _).alloc _).alloc _)
    · exact (Blk.new' (w.alloc _) (w.heap.size + 1) (by simp) _ _).alloc _
    · exact (Blk.new' ((w.alloc _).alloc _) (w.heap.size + 2) (by simp) _ _).cast (by rw [zero32]; simp)
    · exact (((Below.refl _ w).alloc (Nat.le_refl _) _).alloc (by simp) _).alloc (by simp; omega) _
  case round =>
    obtain ⟨k, hk, rfl, Bx, ⟨z, hz, Bz⟩, Bb, L⟩ := hrel
    by_cases hlt : k < 32
    · have cx := Bx.cell (k / 8)
      rw [arr_get _ _ _ (by omega)] at cx
      have cb := Bb.cell k
      rw [vals_get _ _ _ _ hlt] at cb
      have fb := Bb.frozen k
      have HBx := hide Bx
      have HBz := hide Bz
      have HBb := hide Bb
      have HL := hide L
      clear Bx Bz Bb L
      have hk0 : (0 : Int) ≤ (k : Int) := by omega
      have hk4 : (k : Int) < 32 := by omega
      have Hi := hide (byt_int x k)
      go_wp2
      rw [Hi.out]
      go_roundw
      case rel =>
        refine ⟨k + 1, by omega, by go_num, HBx.out.setOther _ _ (by omega), ⟨z, hz, HBz.out.setOther _ _ (by omega)⟩, ?_, HL.out.setCell (by show w.heap.size ≤ w.heap.size + 2; omega) _⟩
        exact upd_vals .u8 32 (fun _ => 0) (byt x) k _ _ _ HBb.out
      case measure => simp [intOf]; omega
    · have e4 : k = 32 := by omega
      subst e4
      have HBz := hide Bz
      have HBb := hide (Bb.cast (vals_congr _ 32 _ (byt x) fun j hj => by simp [hj]))
      have HL := hide L
      clear Bx Bz Bb L
      go_wp2_with (first
        | (refine wpList_load_row rfl 22 _ rfl (w.heap.size + 2) rfl 22 _ (0, 0) _ HBb.out Tryz.underlying22 rfl (by rw [vals_size]; exact cells23) ?_)
        | (refine wpList_store_row rfl 22 _ _ rfl (w.heap.size + 1) (vals .u8 32 (byt x)) rfl rfl 22 z HBz.out (by rw [vals_size]; exact cells23) (by rw [vals_size]; exact hz) (vals_one _ _ _) ?_))
      refine bodyPost_ret (v := ba (byt x)) (results_cell_row Tryz.results89 _ _ (w.heap.size + 1) 22 _ (0, 0) _ rfl (HBz.out.row _) Tryz.underlying22 rfl (by rw [vals_size]; exact cells23)) rfl ⟨rfl, ?_⟩
      exact Below.row HL.out (by omega) _
theorem bytes_at (x : Nat) (args : Array Value) (w : World) (h : args = #[fe x]) :
    Calls Tryz.prog 89 args w fun e w' => e = .returned (ba (byt x)) ∧ Below w.heap.size w w' := by
  subst h; exact bytes_any x w

end Go.Proofs.YtbpmakegimgbpaaGreatDoor.S
namespace Go.Proofs.YtbpmakegimgbpaaGreatDoor.S
set_option maxRecDepth 100000
open Go.RowKit

theorem run_sub (x y b : Nat) (hb : b ≤ 1) (w : World) :
    (callFunc 98 #[.int .u64 x, .int .u64 y, .int .u64 b]).run Tryz.prog w =
      .ok (.value (.tuple #[.int .u64 ((x + 2 ^ 64 - y - b) % 2 ^ 64 : Nat), .int .u64 (if x < y + b then 1 else 0 : Nat)])) w := by
  rw [run_callFunc_extern Tryz.func98 (by kernel_rfl) (by kernel_rfl) (by kernel_rfl) (e := sub64Entry) (by kernel_rfl), run_sub64 x y b hb]
  simp only [Result.andThen]
theorem sub_at (x y k : Nat) (h : k < 4) (hx : x < 2 ^ 256) (hy : y < 2 ^ 256) (w : World) : (callFunc 98 #[.int .u64 (limb x k : Nat), .int .u64 (limb y k : Nat), .int .u64 (bo x y k : Nat)]).run Tryz.prog w =
      .ok (.value (.tuple #[.int .u64 (limb (dif x y) k : Nat), .int .u64 (bo x y (k + 1) : Nat)])) w := by
  obtain ⟨h3, h4⟩ := sub_step x y k h hx hy
  rw [run_sub _ _ _ (bo_le x y k), h3, h4]

set_option maxHeartbeats 400000 in
theorem less_any (x : Nat) (w : World) (hG : Glob w) (hx : x < 2 ^ 256) :
    Calls Tryz.prog 61 #[fe x] w fun e w' => e = .returned (.tuple #[fe (dif x qL), .int .u64 (bo x qL 4 : Nat)]) ∧ Below w.heap.size w w' := by
  have Hs := hide (fun k h => sub_at x qL k h hx qL_lt256)
  have HG := hide hG
  clear hx hG
  rw [fe_arr x]
  go_enter Tryz.func61, Tryz.ntmps61
  go_wp2
  go_loopw [4, 6] (fun c i wr => ∃ k : Nat, k ≤ 4 ∧ i = .int .i64 k ∧ c = .int .u64 (bo x qL k : Nat) ∧ Blk wr w.heap.size (arr 4 (fun j => if j < k then limb (dif x qL) j else limb x j)) 45 ∧ (∃ z0 z1 z2 z3, Blk wr (w.heap.size + 1) #[z0, z1, z2, z3] 45) ∧ Below w.heap.size w wr) (fun _ i _ => 4 - (intOf i).toNat)
  case atStart =>
    refine ⟨0, by omega, rfl, by rw [bo0]; rfl, ?_, ⟨_, _, _, _, Blk.new' (w.alloc _) (w.heap.size + 1) (by simp) _ _⟩, ?_⟩
    · exact ((Blk.new w _ _).alloc _).cast (arr_congr _ _ _ fun j _ => by simp)
    · exact ((Below.refl _ w).alloc (Nat.le_refl _) _).alloc (by simp) _
  case round =>
    obtain ⟨k, hk, rfl, rfl, B1, ⟨z0, z1, z2, z3, B3⟩, L⟩ := hrel
    by_cases hlt : k < 4
    · have cx := B1.cell k
      rw [arr_get _ _ _ hlt, if_neg (by omega)] at cx
      have cy := (HG.out.low L).cell k
      rw [arr_get _ _ _ hlt] at cy
      have fx := B1.frozen k
      have hadd := Hs.out k hlt
      have HB1 := hide (upd_next (limb x) (limb (dif x qL)) k wr.drew _ _ B1.drew)
      have HB3 := hide B3
      have HL := hide L
      clear B1 B3 L
      have hk0 : (0 : Int) ≤ (k : Int) := by omega
      have hk4 : (k : Int) < 4 := by omega
      go_wp2
      go_region_with (fail)
      all_goals
        go_wp2
        go_roundw
        case rel =>
          refine ⟨k + 1, by omega, by go_num, rfl, HB1.out, ⟨z0, z1, z2, z3, HB3.out.drew.setOther _ _ (by omega)⟩, HL.out.drew.setCell (Nat.le_refl _) _⟩
        case measure => simp [intOf]; omega
    · have e4 : k = 4 := by omega
      subst e4
      have B1' := B1.cast (arr_congr 4 _ (limb (dif x qL)) fun j hj => by simp [hj])
      rw [arr4] at B1'
      obtain ⟨c1, f1⟩ := B1'.rules
      obtain ⟨c2, f2⟩ := B3.rules
      obtain ⟨r1, r2, r3, r4⟩ := B3.writes
      have HL := hide L
      clear B1 B3 L B1' hlt
      go_wp2
      refine bodyPost_ret (v := .tuple #[fe (dif x qL), .int .u64 (bo x qL 4 : Nat)]) (by simp [results, Tryz.results61, go_sem, r3, fe_def]) rfl ⟨rfl, ?_⟩
      exact Below.row HL.out (by omega) _
theorem less_at (x : Nat) (args : Array Value) (w : World) (h : args = #[fe x]) (hG : Glob w) (hx : x < 2 ^ 256) :
    Calls Tryz.prog 61 args w fun e w' => e = .returned (.tuple #[fe (dif x qL), .int .u64 (bo x qL 4 : Nat)]) ∧ Below w.heap.size w w' := by
  subst h; exact less_any x w hG hx
theorem bo_four (x : Nat) (hx : x < 2 ^ 256) : bo x qL 4 = if x < qL then 1 else 0 := by
  unfold bo
  rw [Nat.mod_eq_of_lt (show x < 2 ^ (64 * 4) from hx), Nat.mod_eq_of_lt (show qL < 2 ^ (64 * 4) from qL_lt256)]

/-- Less the order, once, if it can be. -/
def sq (x : Nat) : Nat := if x < qL then x else x - qL
theorem sq_mod (x : Nat) (h : x < 2 * qL) : sq x = x % qL := by
  unfold sq
  split
  · rename_i h1; rw [Nat.mod_eq_of_lt h1]
  · rw [Nat.mod_eq_sub_mod (by omega), Nat.mod_eq_of_lt (by omega)]
theorem mask_sq (x k b : Nat) (hx : x < 2 ^ 256) (hb : b = bo x qL 4) :
    bits .xor .u64 (limb (dif x qL) k : Nat) (bits .and .u64 (IntKind.u64.wrap (-(b : Int))) (bits .xor .u64 (limb (dif x qL) k : Nat) (limb x k : Nat))) = ((limb (sq x) k : Nat) : Int) := by
  rw [bo_four x hx] at hb
  have h1 := limb_lt x k
  have h2 := limb_lt (dif x qL) k
  have h3 : limb (dif x qL) k ^^^ limb x k < 2 ^ 64 := Nat.xor_lt_two_pow h2 h1
  by_cases h : x < qL
  · rw [if_pos h] at hb
    subst hb
    rw [show (-((1 : Nat) : Int)) = -1 from rfl, wrap_m1, u64_xor_nat _ _ (by omega) (by omega), u64_and_nat _ _ (by omega) (by omega), Nat.and_comm, show 18446744073709551615 = 2 ^ 64 - 1 from rfl, Nat.and_two_pow_sub_one_eq_mod, Nat.mod_eq_of_lt h3, u64_xor_nat _ _ (by omega) (by omega)]
    rw [← Nat.xor_assoc, Nat.xor_self, Nat.zero_xor]
    unfold sq; rw [if_pos h]
  · rw [if_neg h] at hb
    subst hb
    rw [show (-((0 : Nat) : Int)) = 0 from rfl, wrap_00, u64_xor_nat _ _ (by omega) (by omega), u64_and_nat _ _ (by omega) (by omega), Nat.zero_and, u64_xor_nat _ _ (by omega) (by omega), Nat.xor_zero]
    have e : dif x qL = sq x := by
      rcases dif_cases x qL hx qL_lt256 with ⟨_, e⟩ | ⟨h', _⟩
      · rw [e]; unfold sq; rw [if_neg h]
      · omega
    rw [e]

set_option maxHeartbeats 400000 in
theorem settle_any (x : Nat) (w : World) (hG : Glob w) (hx : x < 2 ^ 256) :
    Calls Tryz.prog 87 #[fe x] w fun e w' => e = .returned (fe (sq x)) ∧ Below w.heap.size w w' := by
  have HG := hide hG
  have Hx := hide hx
  clear hG hx
  have X0 := hide ((Blk.new w (arr 4 (limb x)) 45).alloc (.cells #[.int .u64 0, .int .u64 0, .int .u64 0, .int .u64 0] 45))
  have Z0 := hide (Blk.new' (w.alloc (.cells (arr 4 (limb x)) 45)) (w.heap.size + 1) (by simp) #[.int .u64 0, .int .u64 0, .int .u64 0, .int .u64 0] 45)
  have L0 : Hid (Below w.heap.size w ((w.alloc (.cells (arr 4 (limb x)) 45)).alloc (.cells #[.int .u64 0, .int .u64 0, .int .u64 0, .int .u64 0] 45))) := hide (((Below.refl _ w).alloc (Nat.le_refl _) _).alloc (by simp) _)
  rw [fe_arr x, arr4]
  go_enter Tryz.func87, Tryz.ntmps87
  go_wp2_with fail
  refine (less_at x _ _ (by rw [fe_def]) (HG.out.low L0.out) Hx.out).mono ?_
  rw [fe_def (dif x qL)]
  obtain ⟨b, hb⟩ : ∃ b, b = bo x qL 4 := ⟨_, rfl⟩
  rw [← hb]
  have Hm := hide (fun k => mask_sq x k b Hx.out hb)
  clear hb
  rintro e w1 ⟨rfl, hb1⟩
  have X1 := hide (X0.out.call hb1)
  have Z1 := hide (Z0.out.call hb1)
  have L1 := hide (L0.out.trans (hb1.mono L0.out.size))
  have hz1 : w.heap.size + 1 < w1.heap.size := by have := hb1.size; simp at this; omega
  have Hz1 := hide hz1
  clear hb1 hz1 X0 Z0 L0
  dsimp only
  go_wp2
  go_loopw [11] (fun i wr => ∃ k : Nat, k ≤ 4 ∧ i = .int .i64 k ∧ Blk wr w.heap.size (arr 4 (fun j => if j < k then limb (sq x) j else limb x j)) 45 ∧ (∃ z0 z1 z2 z3, Blk wr (w.heap.size + 1) #[z0, z1, z2, z3] 45) ∧ Blk wr w1.heap.size (arr 4 (limb (dif x qL))) 45 ∧ Below w.heap.size w wr) (fun i _ => 4 - (intOf i).toNat)
  case atStart =>
    refine ⟨0, by omega, rfl, ?_, ⟨.int .u64 0, .int .u64 0, .int .u64 0, .int .u64 0, ?_⟩, ?_, ?_⟩
    · exact (X1.out.alloc _).cast (arr_congr _ _ _ fun j _ => by simp)
    · exact Z1.out.alloc _
    · exact Blk.new w1 _ _
    · exact L1.out.alloc L1.out.size _
  case round =>
    obtain ⟨k, hk, rfl, B1, ⟨z0, z1, z2, z3, B3⟩, B2, L⟩ := hrel
    by_cases hlt : k < 4
    · have cx := B1.cell k
      rw [arr_get _ _ _ hlt, if_neg (by omega)] at cx
      have cy := B2.cell k
      rw [arr_get _ _ _ hlt] at cy
      have fx := B1.frozen k
      have hm := Hm.out k
      have HB1 := hide (upd_next (limb x) (limb (sq x)) k wr.drew _ _ B1.drew)
      have HB3 := hide B3
      have HB2 := hide B2
      have HL := hide L
      clear B1 B2 B3 L X1 Z1 L1
      have hk0 : (0 : Int) ≤ (k : Int) := by omega
      have hk4 : (k : Int) < 4 := by omega
      go_wp2
      go_region_with (fail)
      all_goals
        go_wp2
        go_roundw
        case rel =>
          refine ⟨k + 1, by omega, by go_num, HB1.out, ⟨z0, z1, z2, z3, HB3.out.drew.setOther _ _ (by omega)⟩, HB2.out.drew.setOther _ _ (by have := Hz1.out; omega), HL.out.drew.setCell (Nat.le_refl _) _⟩
        case measure => simp [intOf]; omega
    · have e4 : k = 4 := by omega
      subst e4
      have B1' := B1.cast (arr_congr 4 _ (limb (sq x)) fun j hj => by simp [hj])
      rw [arr4] at B1'
      obtain ⟨c1, f1⟩ := B1'.rules
      obtain ⟨c2, f2⟩ := B3.rules
      obtain ⟨r1, r2, r3, r4⟩ := B3.writes
      have HL := hide L
      clear B1 B2 B3 L B1' hlt X1 Z1 L1
      go_wp2
      refine bodyPost_ret (v := fe (sq x)) (by simp [results, Tryz.results87, go_sem, r3, fe_def]) rfl ⟨rfl, ?_⟩
      exact Below.row HL.out (by omega) _
theorem settle_at (x : Nat) (args : Array Value) (w : World) (h : args = #[fe x]) (hG : Glob w) (hx : x < 2 ^ 256) :
    Calls Tryz.prog 87 args w fun e w' => e = .returned (fe (sq x)) ∧ Below w.heap.size w w' := by
  subst h; exact settle_any x w hG hx
end Go.Proofs.YtbpmakegimgbpaaGreatDoor.S
namespace Go.Proofs.YtbpmakegimgbpaaGreatDoor.S
set_option maxRecDepth 100000
open Go.RowKit

/-- The bit that goes into word k. -/
def db (x b k : Nat) : Nat := if k = 0 then b else limb x (k - 1) / 2 ^ 63
theorem db_le (x b k : Nat) (hb : b ≤ 1) : db x b k ≤ 1 := by
  unfold db
  split
  · exact hb
  · have := limb_lt x (k - 1); omega
theorem db_next (x b k : Nat) : db x b (k + 1) = limb x k / 2 ^ 63 := by
  unfold db; rw [if_neg (by omega)]; rfl
theorem db_word (x b k : Nat) (h : k < 4) (hb : b ≤ 1) : limb (2 * x + b) k = limb x k * 2 % 2 ^ 64 + db x b k := by
  rcases four h with rfl | rfl | rfl | rfl <;> simp [limb, db] <;> omega
theorem or_double (x b k : Nat) (h : k < 4) (hb : b ≤ 1) : bits .or .u64 (((limb x k * 2 % 2 ^ 64 : Nat) : Int)) ((db x b k : Nat) : Int) = ((limb (2 * x + b) k : Nat) : Int) := by
  have h1 := db_le x b k hb
  rw [u64_or_nat _ _ (by omega) (by omega), nat_join 1 _ _ (by omega) (by omega), db_word x b k h hb]
theorem shl_int (n : Nat) : IntKind.u64.wrap ((n : Int) * 2) = ((n * 2 % 2 ^ 64 : Nat) : Int) := by
  rw [wrap_u64']; omega

set_option maxHeartbeats 400000 in
theorem double_any (x b : Nat) (w : World) (hb : b ≤ 1) :
    Calls Tryz.prog 88 #[fe x, .int .u64 b] w fun e w' => e = .returned (fe (2 * x + b)) ∧ Below w.heap.size w w' := by
  have Hb := hide hb
  clear hb
  rw [fe_arr x]
  go_enter Tryz.func88, Tryz.ntmps88
  go_wp2
  go_loopw [1, 6] (fun c i wr => ∃ k : Nat, k ≤ 4 ∧ i = .int .i64 k ∧ c = .int .u64 (db x b k : Nat) ∧ Blk wr w.heap.size (arr 4 (fun j => if j < k then limb (2 * x + b) j else limb x j)) 45 ∧ (∃ z0 z1 z2 z3, Blk wr (w.heap.size + 1) #[z0, z1, z2, z3] 45) ∧ Below w.heap.size w wr) (fun _ i _ => 4 - (intOf i).toNat)
  case atStart =>
    refine ⟨0, by omega, rfl, rfl, ?_, ⟨_, _, _, _, Blk.new' (w.alloc _) (w.heap.size + 1) (by simp) _ _⟩, ?_⟩
    · exact ((Blk.new w _ _).alloc _).cast (arr_congr _ _ _ fun j _ => by simp)
    · exact ((Below.refl _ w).alloc (Nat.le_refl _) _).alloc (by simp) _
  case round =>
    obtain ⟨k, hk, rfl, rfl, B1, ⟨z0, z1, z2, z3, B3⟩, L⟩ := hrel
    by_cases hlt : k < 4
    · have cx := B1.cell k
      rw [arr_get _ _ _ hlt, if_neg (by omega)] at cx
      have fx := B1.frozen k
      have Ho := hide (or_double x b k hlt Hb.out)
      have Hsh := hide (shl_int (limb x k))
      have Hn : Hid (((limb x k : Nat) : Int) / 9223372036854775808 = ((db x b (k + 1) : Nat) : Int)) := hide (by rw [db_next]; omega)
      have HB1 := hide (upd_next (limb x) (limb (2 * x + b)) k wr.drew _ _ B1.drew)
      have HB3 := hide B3
      have HL := hide L
      clear B1 B3 L
      have hk0 : (0 : Int) ≤ (k : Int) := by omega
      have hk4 : (k : Int) < 4 := by omega
      go_wp2
      go_region_with (fail)
      all_goals
        go_wp2
        rw [Hn.out]
        rw [Hsh.out, Ho.out]
        go_roundw
        case rel =>
          refine ⟨k + 1, by omega, by go_num, rfl, HB1.out, ⟨z0, z1, z2, z3, HB3.out.drew.setOther _ _ (by omega)⟩, HL.out.drew.setCell (Nat.le_refl _) _⟩
        case measure => simp [intOf]; omega
    · have e4 : k = 4 := by omega
      subst e4
      have B1' := B1.cast (arr_congr 4 _ (limb (2 * x + b)) fun j hj => by simp [hj])
      rw [arr4] at B1'
      obtain ⟨c1, f1⟩ := B1'.rules
      obtain ⟨c2, f2⟩ := B3.rules
      obtain ⟨r1, r2, r3, r4⟩ := B3.writes
      have HL := hide L
      clear B1 B3 L B1' hlt
      go_wp2
      refine bodyPost_ret (v := fe (2 * x + b)) (by simp [results, Tryz.results88, go_sem, r3, fe_def]) rfl ⟨rfl, ?_⟩
      exact Below.row HL.out (by omega) _
theorem double_at (x b : Nat) (args : Array Value) (w : World) (h : args = #[fe x, .int .u64 b]) (hb : b ≤ 1) :
    Calls Tryz.prog 88 args w fun e w' => e = .returned (fe (2 * x + b)) ∧ Below w.heap.size w w' := by
  subst h; exact double_any x b w hb

theorem run_add (x y c : Nat) (hc : c ≤ 1) (w : World) :
    (callFunc 86 #[.int .u64 x, .int .u64 y, .int .u64 c]).run Tryz.prog w =
      .ok (.value (.tuple #[.int .u64 ((x + y + c) % 2 ^ 64 : Nat), .int .u64 ((x + y + c) / 2 ^ 64 : Nat)])) w := by
  rw [run_callFunc_extern Tryz.func86 (by kernel_rfl) (by kernel_rfl) (by kernel_rfl) (e := add64Entry) (by kernel_rfl), run_add64 x y c (by omega) (by omega) (by omega) (by omega)]
  simp only [Result.andThen]
  congr 5 <;> omega
theorem add_lit (x y s o : Nat) (hs : s = (x + y) % 2 ^ 64) (ho : o = (x + y) / 2 ^ 64) (w : World) : (callFunc 86 #[.int .u64 x, .int .u64 y, .int .u64 0]).run Tryz.prog w =
      .ok (.value (.tuple #[.int .u64 s, .int .u64 o])) w := by
  have := run_add x y 0 (by omega) w
  rw [hs, ho]; exact this
set_option maxHeartbeats 400000 in
theorem mul64_any (x y : Nat) (w : World) (hx : x < 2 ^ 64) (hy : y < 2 ^ 64) :
    Calls Tryz.prog 85 #[.int .u64 x, .int .u64 y] w fun e w' => e = .returned (.tuple #[.int .u64 (x * y / 2 ^ 64 : Nat), .int .u64 (x * y % 2 ^ 64 : Nat)]) ∧ w' = w := by
  have Hh := hide (mul_hi x y hx hy)
  clear hx hy
  go_enter Tryz.func85, Tryz.ntmps85
  go_wp2
  go_ret2
  exact ⟨ret_two Hh.out (mul_lo x y), rfl⟩
theorem mul64_at (x y : Nat) (args : Array Value) (w : World) (h : args = #[.int .u64 x, .int .u64 y]) (hx : x < 2 ^ 64) (hy : y < 2 ^ 64) (hi lo : Nat) (hh : hi = x * y / 2 ^ 64) (hl : lo = x * y % 2 ^ 64) :
    Calls Tryz.prog 85 args w fun e w' => e = .returned (.tuple #[.int .u64 hi, .int .u64 lo]) ∧ w' = w := by
  subst h hh hl; exact mul64_any x y w hx hy

set_option maxHeartbeats 400000 in
theorem step_any (x y m c : Nat) (w : World) (hx : x < 2 ^ 64) (hy : y < 2 ^ 64) (hm : m < 2 ^ 64) (hc : c < 2 ^ 64) :
    Calls Tryz.prog 41 #[.int .u64 x, .int .u64 y, .int .u64 m, .int .u64 c] w fun e w' => e = .returned (.tuple #[.int .u64 ((x * y + m + c) % 2 ^ 64 : Nat), .int .u64 ((x * y + m + c) / 2 ^ 64 : Nat)]) ∧ w' = w := by
  obtain ⟨n1, n2, n3, n4⟩ := halves_num x y m c hx hy hm hc
  have a1 := add_lit (x * y % 2 ^ 64) m _ _ rfl rfl
  have a2 := add_lit ((x * y % 2 ^ 64 + m) % 2 ^ 64) c _ _ rfl rfl
  have w1 : IntKind.u64.wrap (((x * y / 2 ^ 64 : Nat) : Int) + (((x * y % 2 ^ 64 + m) / 2 ^ 64 : Nat) : Int)) = ((x * y / 2 ^ 64 + (x * y % 2 ^ 64 + m) / 2 ^ 64 : Nat) : Int) := by rw [wrap_u64']; omega
  have w2 : IntKind.u64.wrap (((x * y / 2 ^ 64 + (x * y % 2 ^ 64 + m) / 2 ^ 64 : Nat) : Int) + ((((x * y % 2 ^ 64 + m) % 2 ^ 64 + c) / 2 ^ 64 : Nat) : Int)) = (((x * y + m + c) / 2 ^ 64 : Nat) : Int) := by rw [wrap_u64']; omega
  have M := hide (fun w => mul64_at x y #[.int .u64 x, .int .u64 y] w rfl hx hy _ _ rfl rfl)
  rw [← n4]
  clear n1 n2 n3 n4 hx hy hm hc
  generalize ((x * y % 2 ^ 64 + m) % 2 ^ 64 + c) % 2 ^ 64 = s2 at *
  generalize ((x * y % 2 ^ 64 + m) % 2 ^ 64 + c) / 2 ^ 64 = o2 at *
  generalize (x * y + m + c) / 2 ^ 64 = g2 at *
  generalize x * y / 2 ^ 64 + (x * y % 2 ^ 64 + m) / 2 ^ 64 = g1 at *
  generalize (x * y % 2 ^ 64 + m) % 2 ^ 64 = s1 at *
  generalize (x * y % 2 ^ 64 + m) / 2 ^ 64 = o1 at *
  generalize x * y / 2 ^ 64 = hi at *
  generalize x * y % 2 ^ 64 = lo at *
  go_enter Tryz.func41, Tryz.ntmps41
  go_wp2_with fail
  refine (M.out _).mono ?_
  rintro e w' ⟨rfl, rfl⟩
  dsimp only
  go_wp2
  go_ret2
  exact ⟨rfl, rfl⟩
theorem step_at (x y m c : Nat) (args : Array Value) (w : World) (h : args = #[.int .u64 x, .int .u64 y, .int .u64 m, .int .u64 c]) (hx : x < 2 ^ 64) (hy : y < 2 ^ 64) (hm : m < 2 ^ 64) (hc : c < 2 ^ 64) (s d : Nat) (hs : s = (x * y + m + c) % 2 ^ 64) (hd : d = (x * y + m + c) / 2 ^ 64) :
    Calls Tryz.prog 41 args w fun e w' => e = .returned (.tuple #[.int .u64 s, .int .u64 d]) ∧ w' = w := by
  subst h hs hd; exact step_any x y m c w hx hy hm hc
end Go.Proofs.YtbpmakegimgbpaaGreatDoor.S
namespace Go.Proofs.YtbpmakegimgbpaaGreatDoor.S
set_option maxRecDepth 100000
open Go.RowKit

theorem scope_jumps {P : Program} {a : Act} {w : World} {Q : Exit → Act → World → Prop} {c rest : Code} (l : Nat) (J : Act → World → Prop) (μ : Act → World → Nat) (hf : findLabel c l = some (Code.skip.seq rest))
    (pass : ∀ a w, J a w → rest.wp P (Exit.jump l (fun a' w' => J a' w' ∧ μ a' w' < μ a w) Q) a w)
    (first : (∀ a w, J a w → rest.wp P (Exit.jump l J Q) a w) → c.wp P (Exit.jump l J Q) a w) : (Code.scope c).wp P Q a w :=
  wp_scope_jumps l J μ hf (first fun a w h => wp_mono (pass a w h) fun e a' w' hq => by
    cases e <;> first | exact hq | exact ⟨hq.1, hq.2.1⟩) fun a w h => wp_seq (wp_skip (pass a w h))

theorem bit_of (m q : Nat) : limb m (q / 64) / 2 ^ (q % 64) % 2 = m / 2 ^ q % 2 := by
  unfold limb
  have h64 : 2 ^ 64 = 2 ^ (q % 64) * (2 * 2 ^ (64 - q % 64 - 1)) := by
    rw [show 2 ^ (q % 64) * (2 * 2 ^ (64 - q % 64 - 1)) = 2 ^ (q % 64) * (2 ^ 1 * 2 ^ (64 - q % 64 - 1)) from rfl, ← Nat.pow_add, ← Nat.pow_add]; congr 1; omega
  rw [h64, Nat.mod_mul_right_div_self, Nat.mod_mul_right_mod, Nat.div_div_eq_div_mul, ← Nat.pow_add]
  congr 3; omega
theorem and_one (n : Nat) (h : n < 2 ^ 64) : bits .and .u64 (n : Int) 1 = ((n % 2 : Nat) : Int) := by
  have := u64_and_nat n 1 (by omega) (by omega)
  rw [show ((1 : Nat) : Int) = 1 from rfl] at this
  rw [this, show 1 = 2 ^ 1 - 1 from rfl, Nat.and_two_pow_sub_one_eq_mod]
theorem bit_int (m q : Nat) : bits .and .u64 (((limb m (q / 64) : Nat) : Int) / 2 ^ (q % 64)) 1 = ((m / 2 ^ q % 2 : Nat) : Int) := by
  rw [show ((limb m (q / 64) : Nat) : Int) / 2 ^ (q % 64) = ((limb m (q / 64) / 2 ^ (q % 64) : Nat) : Int) by simp, and_one _ (Nat.lt_of_le_of_lt (Nat.div_le_self _ _) (limb_lt _ _)), bit_of]
theorem sq_next (m q : Nat) : sq (2 * (m / 2 ^ (q + 1) % qL) + m / 2 ^ q % 2) = m / 2 ^ q % qL := by
  have h1 := Nat.mod_lt (m / 2 ^ (q + 1)) qL_pos
  rw [sq_mod _ (by omega)]
  have e : m / 2 ^ (q + 1) = m / 2 ^ q / 2 := by rw [Nat.pow_succ, Nat.div_div_eq_div_mul]
  rw [e]
  generalize m / 2 ^ q = n
  rw [Nat.add_mod, Nat.mul_mod, Nat.mod_mod, ← Nat.mul_mod, ← Nat.add_mod]
  congr 1; omega
theorem next_lt (m q : Nat) : 2 * (m / 2 ^ (q + 1) % qL) + m / 2 ^ q % 2 < 2 ^ 256 := by
  have h1 := Nat.mod_lt (m / 2 ^ (q + 1)) qL_pos
  have := qL_lt
  omega

/-- What has come down so far, modulo the order. -/
def rp (m p : Nat) : Nat := m / 2 ^ p % qL
theorem rp_big (m p a b : Nat) (hp : p = a + b) (h : m < 2 ^ a * 2 ^ b) : rp m p = 0 := by
  subst hp; unfold rp; rw [Nat.div_eq_of_lt (by rw [Nat.pow_add]; exact h), Nat.zero_mod]
theorem rp_top (m : Nat) (h : m < 2 ^ 256 * 2 ^ 256) : rp m 512 = 0 := rp_big m 512 256 256 rfl h
theorem rp_zero (m : Nat) : rp m 0 = m % qL := by unfold rp; rw [Nat.pow_zero, Nat.div_one]
/-- What holds at each jump. -/
def ModJ (m : Nat) (w : World) (a' : Act) (w' : World) : Prop :=
  ∃ (p : Nat) (u5 u6 u7 u8 u9 u10 u11 u12 u13 u14 u15 u16 u17 u18 u19 u20 u21 : Value), 0 < p ∧ p ≤ 512 ∧
      a' = { tmps := #[.agg (arr 8 (limb m)), .pointer (some ⟨w.heap.size, 0, none⟩), .pointer (some ⟨w.heap.size + 1, 0, none⟩), .pointer (some ⟨w.heap.size + 2, 0, none⟩), .int .i64 (p : Int), u5, u6, u7, u8, u9, u10, u11, u12, u13, u14, u15, u16, u17, u18, u19, u20, u21], defers := [] } ∧
      Blk w' w.heap.size (arr 8 (limb m)) 72 ∧ Blk w' (w.heap.size + 1) (vals .u8 32 (fun _ => 0)) 22 ∧ Blk w' (w.heap.size + 2) (arr 4 (limb (rp m p))) 45 ∧ Below w.heap.size w w'
def modMu (a' : Act) (_ : World) : Nat := (intOf (a'.tmps.getD 4 undef)).toNat

set_option maxHeartbeats 1000000 in
theorem modulo_any (m : Nat) (w : World) (hG : Glob w) (hm : m < 2 ^ 256 * 2 ^ 256) :
    Calls Tryz.prog 42 #[.agg (arr 8 (limb m))] w fun e w' => e = .returned (ba (byt (m % qL))) ∧ Below w.heap.size w w' := by
  have HG := hide hG
  have Hm := hide hm
  clear hG hm
  go_enter Tryz.func42, Tryz.ntmps42
  go_wp2
  refine scope_jumps 0 (ModJ m w) modMu rfl ?_ ?_
  · rintro a' w' ⟨p, u5, u6, u7, u8, u9, u10, u11, u12, u13, u14, u15, u16, u17, u18, u19, u20, u21, hp0, hp, rfl, Bw, Bz, Br, L⟩
    obtain ⟨q, rfl⟩ : ∃ q, p = q + 1 := ⟨p - 1, by omega⟩
    have cw := Bw.cell (q / 64)
    rw [arr_get _ _ _ (by omega)] at cw
    have Hsq : sq (2 * rp m (q + 1) + m / 2 ^ q % 2) = rp m q := sq_next m q
    have Hlt : 2 * rp m (q + 1) + m / 2 ^ q % 2 < 2 ^ 256 := next_lt m q
    have hb := bit_int m q
    have Hb : m / 2 ^ q % 2 ≤ 1 := by omega
    obtain ⟨b, hbe⟩ : ∃ b, b = m / 2 ^ q % 2 := ⟨_, rfl⟩
    obtain ⟨r, hre⟩ : ∃ r, r = rp m (q + 1) := ⟨_, rfl⟩
    obtain ⟨s, hse⟩ : ∃ s, s = rp m q := ⟨_, rfl⟩
    rw [← hbe, ← hre] at Hlt Hsq
    rw [← hse] at Hsq
    rw [← hbe] at Hb hb
    rw [← hre, arr4] at Br
    have Hse := hide hse
    have HHsq := hide Hsq
    have HHlt := hide Hlt
    have HHb := hide Hb
    clear hbe hre hse Hsq Hlt Hb hp0
    obtain ⟨c1, f1⟩ := Br.rules
    have HBw := hide Bw
    have HBz := hide Bz
    have HBr := hide Br
    have HL := hide L
    clear Bw Bz Br L
    rw [show ((q + 1 : Nat) : Int) = (q : Int) + 1 by omega]
    have hq0 : (0 : Int) ≤ (q : Int) := by omega
    have hq4 : (q : Int) < 512 := by omega
    have hd0 : (0 : Int) ≤ (q : Int) / 64 := by omega
    have hd4 : (q : Int) / 64 < 8 := by omega
    have hdw : IntKind.i64.wrap ((q : Int).tdiv 64) = (q : Int) / 64 := by rw [Int.tdiv_eq_ediv_of_nonneg (by omega), wrap_i64_small' _ (by omega) (by omega)]
    have hdw' : IntKind.i64.wrap ((q : Int) / 64) = (q : Int) / 64 := wrap_i64_small' _ (by omega) (by omega)
    have hdn : ((q : Int) / 64).toNat = q / 64 := by omega
    have hr : IntKind.i64.wrap ((q : Int).tmod 64) = (q : Int) % 64 := by rw [Int.tmod_eq_emod_of_nonneg (by omega), wrap_i64_small' _ (by omega) (by omega)]
    have hr' : (q : Int).tmod 64 = (q : Int) % 64 := by rw [Int.tmod_eq_emod_of_nonneg (by omega)]
    have hr0 : (0 : Int) ≤ (q : Int) % 64 := by omega
    have hr4 : (q : Int) % 64 < 64 := by omega
    have hrn : ((q : Int) % 64).toNat = q % 64 := by omega
    have hp1 : IntKind.i64.wrap ((q : Int) + 1 - 1) = (q : Int) := by rw [show (q : Int) + 1 - 1 = q by omega, wrap_i64_small' _ (by omega) (by omega)]
    go_wp2
    go_region_with (first
      | (go_at_call 88; refine (double_at r b _ _ (by rw [fe_def]) HHb.out).mono ?_; rw [fe_def (2 * r + b)]; rintro e w1 ⟨rfl, hb1⟩; have HB1 := hide (HBr.out.drew.call hb1); have HL1 := hide (HL.out.drew.trans (hb1.mono HL.out.size)); have HZ1 := hide (HBz.out.drew.call hb1); have HW1 := hide (HBw.out.drew.call hb1); clear hb1)
      | (go_at_call 87; refine (settle_at (2 * r + b) _ _ (by rw [fe_def]) (HG.out.low HL1.out) HHlt.out).mono ?_; rw [HHsq.out, fe_def s]; rintro e w2 ⟨rfl, hb2⟩; have HB2 := hide (HB1.out.call hb2); have HL2 := hide (HL1.out.trans (hb2.mono HL1.out.size)); have HZ2 := hide (HZ1.out.call hb2); have HW2 := hide (HW1.out.call hb2); obtain ⟨cz, fz⟩ := HB2.out.rules; obtain ⟨r1, r2, r3, r4⟩ := HB2.out.writes; clear hb2))
    all_goals
      have HBn := hide (HB2.out.row #[.int .u64 (limb s 0 : Nat), .int .u64 (limb s 1 : Nat), .int .u64 (limb s 2 : Nat), .int .u64 (limb s 3 : Nat)])
      have HLn := hide (Below.row (b := w.heap.size + 2) HL2.out (by omega) #[.int .u64 (limb s 0 : Nat), .int .u64 (limb s 1 : Nat), .int .u64 (limb s 2 : Nat), .int .u64 (limb s 3 : Nat)])
      have HZn := hide (HZ2.out.rowOther #[.int .u64 (limb s 0 : Nat), .int .u64 (limb s 1 : Nat), .int .u64 (limb s 2 : Nat), .int .u64 (limb s 3 : Nat)] (show w.heap.size + 2 ≠ w.heap.size + 1 by omega))
      have HWn := hide (HW2.out.rowOther #[.int .u64 (limb s 0 : Nat), .int .u64 (limb s 1 : Nat), .int .u64 (limb s 2 : Nat), .int .u64 (limb s 3 : Nat)] (show w.heap.size + 2 ≠ w.heap.size by omega))
      by_cases hq : q = 0
      · subst hq
        have hn : ¬ ((0 : Int) < ((0 : Nat) : Int)) := by omega
        have hn' : ¬ ((0 : Nat) : Int) > 0 := by omega
        obtain ⟨c2, f2⟩ := HBn.out.rules
        go_wp2_with (first
          | (go_at_call 89; refine (bytes_at s _ _ (by rw [fe_def])).mono ?_; rintro e w3 ⟨rfl, hb3⟩; unfold ba; have HZ3 := hide (HZn.out.call hb3); have HL3 := hide (HLn.out.trans (hb3.mono HLn.out.size)); clear hb3; dsimp only)
          | (refine wpList_store_row rfl 22 _ _ rfl (w.heap.size + 1) (vals .u8 32 (byt s)) rfl rfl 22 _ HZ3.out (by rw [vals_size]; exact cells23) (by rw [vals_size, vals_size]) (vals_one _ _ _) ?_))
        simp only [Exit.jump]
        refine bodyPost_ret (v := .agg (vals .u8 32 (byt s))) (results_cell_row Tryz.results42 _ _ (w.heap.size + 1) 22 _ (0, 0) _ rfl (HZ3.out.row _) Tryz.underlying22 rfl (by rw [vals_size]; exact cells23)) rfl ⟨by rw [Hse.out, rp_zero]; rfl, ?_⟩
        exact Below.row HL3.out (by omega) _
      · have hn : (0 : Int) < (q : Int) := by omega
        clear cw c1 f1 hb hq0 hq4 hd0 hd4 hdw hdw' hdn hr hr' hr0 hr4 hrn hp1 cz fz r1 r2 r3 r4 HBw HBz HBr HL HB1 HL1 HZ1 HW1 HB2 HL2 HZ2 HW2
        go_wp2
        go_step3
        refine ⟨rfl, ⟨q, _, _, _, _, _, _, _, _, _, _, _, _, _, _, _, _, _, by omega, by omega, rfl, HWn.out, HZn.out, HBn.out.cast (by rw [arr4, Hse.out]), HLn.out⟩, ?_⟩
        simp [modMu, intOf]
  · intro H
    go_wp2
    go_step3
    rename_i hK
    refine hK _ _ (H _ _ ?_)
    refine ⟨512, _, _, _, _, _, _, _, _, _, _, _, _, _, _, _, _, _, by omega, by omega, rfl, ?_, ?_, ?_, ?_⟩
    · exact (((Blk.new w _ _).alloc _).alloc _)
    · exact (Blk.new' (w.alloc _) (w.heap.size + 1) (by simp) _ _).alloc _
    · exact (Blk.new' ((w.alloc _).alloc _) (w.heap.size + 2) (by simp) _ _).cast (by rw [rp_top m Hm.out, arr4]; simp [limb])
    · exact (((Below.refl _ w).alloc (Nat.le_refl _) _).alloc (by simp) _).alloc (by simp; omega) _
theorem modulo_at (m : Nat) (args : Array Value) (w : World) (h : args = #[.agg (arr 8 (limb m))]) (hG : Glob w) (hm : m < 2 ^ 256 * 2 ^ 256) :
    Calls Tryz.prog 42 args w fun e w' => e = .returned (ba (byt (m % qL))) ∧ Below w.heap.size w w' := by
  subst h; exact modulo_any m w hG hm
end Go.Proofs.YtbpmakegimgbpaaGreatDoor.S
namespace Go.Proofs.YtbpmakegimgbpaaGreatDoor.S
set_option maxRecDepth 100000
open Go.RowKit

/-- 64 bytes. -/
def bb (f : Nat → Nat) : Value := .agg (vals .u8 64 f)
theorem nb_lt2 (f : Nat → Nat) (hf : ∀ i, f i < 256) (n a b : Nat) (h : 8 * n = a + b) : nb f n < 2 ^ a * 2 ^ b := by
  rw [← Nat.pow_add, ← h]; exact nb_lt f hf n
theorem nb64_lt (f : Nat → Nat) (hf : ∀ i, f i < 256) : nb f 64 < 2 ^ 256 * 2 ^ 256 := nb_lt2 f hf 64 256 256 rfl
theorem arr_one (n : Nat) (f : Nat → Nat) : (arr n f).all (·.oneCell') = true := vals_one .u64 n f
theorem arr8_zero : (#[.int .u64 0, .int .u64 0, .int .u64 0, .int .u64 0, .int .u64 0, .int .u64 0, .int .u64 0, .int .u64 0] : Array Value) = arr 8 (fun _ => 0) := rfl

set_option maxHeartbeats 1000000 in
theorem reduce_any (f : Nat → Nat) (w : World) (hG : Glob w) (hf : ∀ i, f i < 256) :
    Calls Tryz.prog 82 #[bb f] w fun e w' => e = .returned (ba (byt (nb f 64 % qL))) ∧ Below w.heap.size w w' := by
  have Hf := hide hf
  have HG := hide hG
  clear hf hG
  unfold bb
  go_enter Tryz.func82, Tryz.ntmps82
  go_wp2
  go_loopw [5] (fun i wr => ∃ k : Nat, k ≤ 64 ∧ i = .int .i64 k ∧ Blk wr w.heap.size (vals .u8 64 f) 24 ∧ (∃ z, z.size = 32 ∧ Blk wr (w.heap.size + 1) z 22) ∧ Blk wr (w.heap.size + 2) (arr 8 (limb (nb f k))) 72 ∧ Below w.heap.size w wr) (fun i _ => 64 - (intOf i).toNat)
  case atStart =>
    refine ⟨0, by omega, rfl, ?_, ⟨vals .u8 32 (fun _ => 0), vals_size _ _ _, ?_⟩, ?_, ?_⟩
    · exact (((Blk.new w _ _).alloc _).alloc _)
    · exact (Blk.new' (w.alloc _) (w.heap.size + 1) (by simp) _ _).alloc _
    · exact (Blk.new' ((w.alloc _).alloc _) (w.heap.size + 2) (by simp) _ _).cast (by rw [arr8_zero]; exact arr_congr _ _ _ fun j _ => by simp [nb, limb])
    · exact (((Below.refl _ w).alloc (Nat.le_refl _) _).alloc (by simp) _).alloc (by simp; omega) _
  case round =>
    obtain ⟨k, hk, rfl, Bx, ⟨z, hz, Bz⟩, Bl, L⟩ := hrel
    by_cases hlt : k < 64
    · have cx := Bx.cell k
      rw [vals_get _ _ _ _ hlt] at cx
      have cl := Bl.cell (k / 8)
      rw [arr_get _ _ _ (by omega)] at cl
      have fl := Bl.frozen (k / 8)
      have HBx := hide Bx
      have HBz := hide Bz
      have HBl := hide Bl
      have HL := hide L
      clear Bx Bz Bl L
      have hk0 : (0 : Int) ≤ (k : Int) := by omega
      have hk4 : (k : Int) < 64 := by omega
      have hf8 := Hf.out k
      have hq0 : (0 : Int) ≤ (k : Int) / 8 := by omega
      have hq4 : (k : Int) / 8 < 8 := by omega
      have hq : IntKind.i64.wrap ((k : Int).tdiv 8) = (k : Int) / 8 := quo8 k (by omega)
      have hq' : IntKind.i64.wrap ((k : Int) / 8) = (k : Int) / 8 := quo8' k (by omega)
      have hr : IntKind.i64.wrap ((k : Int).tmod 8) = (k : Int) % 8 := rem8 k (by omega)
      have hqn : ((k : Int) / 8).toNat = k / 8 := by omega
      have hmn : ((k : Int) % 8 * 8).toNat = k % 8 * 8 := by omega
      have hr' : (k : Int).tmod 8 = (k : Int) % 8 := by rw [Int.tmod_eq_emod_of_nonneg (by omega)]
      have hm : IntKind.i64.wrap ((k : Int) % 8 * 8) = (k : Int) % 8 * 8 := mul8 k
      have hm0 : (0 : Int) ≤ (k : Int) % 8 * 8 := by omega
      have hm8 : (k : Int) % 8 * 8 < 64 := by omega
      have Ho := hide (or_load f Hf.out k)
      go_wp2
      go_region_with (fail)
      all_goals
        go_wp2
        rw [Ho.out]
        go_roundw
        case rel =>
          refine ⟨k + 1, by omega, by go_num, (HBx.out.setOther _ _ (by omega)).drew, ⟨z, hz, (HBz.out.setOther _ _ (by omega)).drew⟩, ?_, (HL.out.setCell (by show w.heap.size ≤ w.heap.size + 2; omega) _).drew⟩
          exact ((HBl.out.set (k / 8) _).drew).cast (by
            rw [arr_set]
            apply arr_congr
            intro j _
            by_cases h1 : j = k / 8
            · subst h1; simp
            · simp only [h1, if_false]; exact (limb_nb_other f Hf.out k j h1).symm)
        case measure => simp [intOf]; omega
    · have e4 : k = 64 := by omega
      subst e4
      have HBl := hide Bl
      have HBz := hide Bz
      have HL := hide L
      clear Bx Bz Bl L hlt
      go_wp2_with (first
        | (refine wpList_load_row rfl 72 _ rfl (w.heap.size + 2) rfl 72 _ (0, 0) _ HBl.out Tryz.underlying72 rfl (by rw [arr_size]; exact cells37) ?_)
        | (go_at_call 42; refine (modulo_at (nb f 64) _ _ rfl (HG.out.low HL.out) (nb64_lt f Hf.out)).mono ?_; unfold ba; rintro e w1 ⟨rfl, hb1⟩; have HZ1 := hide (HBz.out.call hb1); have HL1 := hide (HL.out.trans (hb1.mono HL.out.size)); clear hb1; dsimp only)
        | (refine wpList_store_row rfl 22 _ _ rfl (w.heap.size + 1) (vals .u8 32 (byt (nb f 64 % qL))) rfl rfl 22 _ HZ1.out (by rw [vals_size]; exact cells23) (by rw [vals_size]; exact hz) (vals_one _ _ _) ?_))
      refine bodyPost_ret (v := .agg (vals .u8 32 (byt (nb f 64 % qL)))) (results_cell_row Tryz.results82 _ _ (w.heap.size + 1) 22 _ (0, 0) _ rfl (HZ1.out.row _) Tryz.underlying22 rfl (by rw [vals_size]; exact cells23)) rfl ⟨rfl, ?_⟩
      exact Below.row HL1.out (by omega) _
theorem reduce_at (f : Nat → Nat) (args : Array Value) (w : World) (h : args = #[bb f]) (hG : Glob w) (hf : ∀ i, f i < 256) :
    Calls Tryz.prog 82 args w fun e w' => e = .returned (ba (byt (nb f 64 % qL))) ∧ Below w.heap.size w w' := by
  subst h; exact reduce_any f w hG hf

theorem bo_one (x : Nat) (hx : x < 2 ^ 256) : (((bo x qL 4 : Nat) : Int) == 1) = decide (x < qL) := by
  rw [bo_four x hx]
  by_cases h : x < qL <;> simp [h]
set_option maxHeartbeats 1000000 in
theorem fine_any (f : Nat → Nat) (w : World) (hG : Glob w) (hf : ∀ i, f i < 256) :
    Calls Tryz.prog 23 #[ba f] w fun e w' => e = .returned (.bool (decide (nb f 32 < qL))) ∧ Below w.heap.size w w' := by
  have Hf := hide hf
  have HG := hide hG
  have HE := hide (bo_one (nb f 32) (nb_lt f hf 32))
  clear hf hG
  unfold ba
  have F0 := hide (Blk.new w (vals .u8 32 f) 22)
  have L0 := hide ((Below.refl w.heap.size w).alloc (Nat.le_refl _) (.cells (vals .u8 32 f) 22))
  go_enter Tryz.func23, Tryz.ntmps23
  go_wp2_with (first
    | (refine wpList_load_row rfl 22 _ rfl w.heap.size rfl 22 _ (0, 0) _ F0.out Tryz.underlying22 rfl (by rw [vals_size]; exact cells23) ?_)
    | (go_at_call 40; refine (words_at f _ _ rfl Hf.out).mono ?_; rw [fe_def]; rintro e w1 ⟨rfl, hb1⟩; have HL1 := hide (L0.out.trans (hb1.mono L0.out.size)); clear hb1; dsimp only)
    | (go_at_call 61; refine (less_at (nb f 32) _ _ (by rw [fe_def]) (HG.out.low HL1.out) (nb_lt f Hf.out 32)).mono ?_; rw [fe_def]; rintro e w2 ⟨rfl, hb2⟩; have HL2 := hide (HL1.out.trans (hb2.mono HL1.out.size)); clear hb2; dsimp only))
  rw [HE.out]
  go_ret
  exact ⟨rfl, HL2.out.alloc HL2.out.size _⟩
theorem fine_at (f : Nat → Nat) (args : Array Value) (w : World) (h : args = #[ba f]) (hG : Glob w) (hf : ∀ i, f i < 256) :
    Calls Tryz.prog 23 args w fun e w' => e = .returned (.bool (decide (nb f 32 < qL))) ∧ Below w.heap.size w w' := by
  subst h; exact fine_any f w hG hf

end Go.Proofs.YtbpmakegimgbpaaGreatDoor.S
namespace Go.Proofs.YtbpmakegimgbpaaGreatDoor.S
set_option maxRecDepth 100000
open Go.RowKit

section
variable {P : Program} {ops : Array Oper} {Q : Exit → Act → World → Prop} {md : Region.Mode} {S : World → Prop}
/-- A region whose operations come in whatever order, by what holds behind each. -/
theorem wpAnyH_inv {I : Nat → Array Bool → Act → World → Prop} {m : Nat} (hend : ∀ l a w, S w → I 0 l a w → wpAnyH P md ops Q S m l a w)
    (hstep : ∀ n l a w, S w → I (n + 1) l a w → ∃ rs, Region.ready md ops l = rs ∧ rs ≠ [] ∧ ∀ i ∈ rs, wpOp P ops Q i (fun a' w' => S w' ∧ I n (l.setIfInBounds i true) a' w') a w) :
    ∀ n l a w, S w → I n l a w → wpAnyH P md ops Q S (n + m) l a w
  | 0, l, a, w, hs, h => by rw [Nat.zero_add]; exact hend l a w hs h
  | n + 1, l, a, w, hs, h => by
    rw [show n + 1 + m = (n + m) + 1 by omega]
    obtain ⟨rs, hr, hne, hall⟩ := hstep n l a w hs h
    exact wpAnyH_all hr hne fun i hi => wpOp_mono (fun a' w' h' => ⟨h'.1, wpAnyH_inv hend hstep n _ a' w' h'.1 h'.2⟩) (hall i hi)
end

def mOps : Array Oper := #[
  { dst := some 14, op := Op.load 22 (Operand.tmp 3), type := 22, pos := "scalar.go:23", after := #[], guard := none },
  { dst := some 15, op := Op.call { callee := Callee.value (Operand.func 40), args := #[Operand.tmp 14], argTypes := #[22] }, type := 45, pos := "scalar.go:23", after := #[{ on := 0, ground := Ground.data }], guard := none },
  { dst := some 16, op := Op.load 22 (Operand.tmp 4), type := 22, pos := "scalar.go:23", after := #[], guard := none },
  { dst := some 17, op := Op.call { callee := Callee.value (Operand.func 40), args := #[Operand.tmp 16], argTypes := #[22] }, type := 45, pos := "scalar.go:23", after := #[{ on := 2, ground := Ground.data }, { on := 1, ground := Ground.chain }], guard := none },
  { dst := some 18, op := Op.load 22 (Operand.tmp 5), type := 22, pos := "scalar.go:23", after := #[], guard := none },
  { dst := some 19, op := Op.call { callee := Callee.value (Operand.func 40), args := #[Operand.tmp 18], argTypes := #[22] }, type := 45, pos := "scalar.go:23", after := #[{ on := 4, ground := Ground.data }, { on := 3, ground := Ground.chain }], guard := none },
  { dst := some 7, op := Op.alloc 45, type := 0, pos := "scalar.go:23", after := #[], guard := none },
  { dst := some 8, op := Op.alloc 45, type := 0, pos := "scalar.go:23", after := #[], guard := none },
  { dst := some 9, op := Op.alloc 45, type := 0, pos := "scalar.go:23", after := #[], guard := none },
  { dst := none, op := Op.store 45 (Operand.tmp 7) (Operand.tmp 15), type := 0, pos := "scalar.go:23", after := #[{ on := 6, ground := Ground.data }, { on := 1, ground := Ground.data }, { on := 5, ground := Ground.chain }, { on := 0, ground := Ground.phase }, { on := 1, ground := Ground.phase }, { on := 2, ground := Ground.textOnly Departure.lateStores }, { on := 3, ground := Ground.textOnly Departure.lateStoresUnsure }, { on := 4, ground := Ground.textOnly Departure.lateStores }, { on := 5, ground := Ground.textOnly Departure.lateStoresUnsure }, { on := 6, ground := Ground.phase }, { on := 7, ground := Ground.phase }, { on := 8, ground := Ground.phase }], guard := none },
  { dst := none, op := Op.store 45 (Operand.tmp 8) (Operand.tmp 17), type := 0, pos := "scalar.go:23", after := #[{ on := 7, ground := Ground.data }, { on := 3, ground := Ground.data }, { on := 9, ground := Ground.chain }, { on := 0, ground := Ground.phase }, { on := 1, ground := Ground.phase }, { on := 2, ground := Ground.phase }, { on := 3, ground := Ground.phase }, { on := 4, ground := Ground.textOnly Departure.lateStores }, { on := 5, ground := Ground.textOnly Departure.lateStoresUnsure }, { on := 6, ground := Ground.phase }, { on := 7, ground := Ground.phase }, { on := 8, ground := Ground.phase }, { on := 9, ground := Ground.phase }], guard := none },
  { dst := none, op := Op.store 45 (Operand.tmp 9) (Operand.tmp 19), type := 0, pos := "scalar.go:23", after := #[{ on := 8, ground := Ground.data }, { on := 5, ground := Ground.data }, { on := 10, ground := Ground.chain }, { on := 0, ground := Ground.phase }, { on := 1, ground := Ground.phase }, { on := 2, ground := Ground.phase }, { on := 3, ground := Ground.phase }, { on := 4, ground := Ground.phase }, { on := 5, ground := Ground.phase }, { on := 6, ground := Ground.phase }, { on := 7, ground := Ground.phase }, { on := 8, ground := Ground.phase }, { on := 9, ground := Ground.phase }, { on := 10, ground := Ground.phase }], guard := none }]
def ptr (b : Nat) : Value := .pointer (some ⟨b, 0, none⟩)
def z4 : Array Value := #[.int .u64 0, .int .u64 0, .int .u64 0, .int .u64 0]
/-- The frame. -/
def mFr (f g h : Nat → Nat) (N : Nat) (v7 v8 v9 v15 v17 v19 : Value) : Act :=
  { tmps := #[.agg (vals .u8 32 f), .agg (vals .u8 32 g), .agg (vals .u8 32 h), ptr N, ptr (N + 1), ptr (N + 2), ptr (N + 3), v7, v8, v9, undef, undef, undef, undef, .agg (vals .u8 32 f), v15, .agg (vals .u8 32 g), v17, .agg (vals .u8 32 h), v19, undef, undef, undef, undef, undef, undef, undef, undef, undef, undef, undef, undef, undef, undef, undef, undef, undef, undef, undef, undef, undef, undef, undef, undef, undef, undef, undef, undef, undef, undef, undef, undef, undef, undef, undef, undef, undef], defers := [] }
theorem m_call1 (Q : Exit → Act → World → Prop) (f g h : Nat → Nat) (N : Nat) (v7 v8 v9 v15 v17 v19 : Value) (w : World) (K : Act → World → Prop) (hf : ∀ i, f i < 256) (H : ∀ u, Below w.heap.size w u → K (mFr f g h N v7 v8 v9 (fe (nb f 32)) v17 v19) u) : wpOp Tryz.prog mOps Q 1 K (mFr f g h N v7 v8 v9 v15 v17 v19) w := by
  refine wpOp_step (o := { dst := some 15, op := Op.call { callee := Callee.value (Operand.func 40), args := #[Operand.tmp 14], argTypes := #[22] }, type := 45, pos := "scalar.go:23", after := #[{ on := 0, ground := Ground.data }], guard := none }) rfl (fun K' hK => ?_)
  unfold mFr
  go_simp
  refine (words_at f _ _ (by rfl) hf).mono ?_
  rintro e u ⟨rfl, hb⟩
  dsimp only
  exact hK _ _ (H u hb)
theorem m_call3 (Q : Exit → Act → World → Prop) (f g h : Nat → Nat) (N : Nat) (v7 v8 v9 v15 v17 v19 : Value) (w : World) (K : Act → World → Prop) (hf : ∀ i, g i < 256) (H : ∀ u, Below w.heap.size w u → K (mFr f g h N v7 v8 v9 v15 (fe (nb g 32)) v19) u) : wpOp Tryz.prog mOps Q 3 K (mFr f g h N v7 v8 v9 v15 v17 v19) w := by
  refine wpOp_step (o := { dst := some 17, op := Op.call { callee := Callee.value (Operand.func 40), args := #[Operand.tmp 16], argTypes := #[22] }, type := 45, pos := "scalar.go:23", after := #[{ on := 2, ground := Ground.data }, { on := 1, ground := Ground.chain }], guard := none }) rfl (fun K' hK => ?_)
  unfold mFr
  go_simp
  refine (words_at g _ _ (by rfl) hf).mono ?_
  rintro e u ⟨rfl, hb⟩
  dsimp only
  exact hK _ _ (H u hb)
theorem m_call5 (Q : Exit → Act → World → Prop) (f g h : Nat → Nat) (N : Nat) (v7 v8 v9 v15 v17 v19 : Value) (w : World) (K : Act → World → Prop) (hf : ∀ i, h i < 256) (H : ∀ u, Below w.heap.size w u → K (mFr f g h N v7 v8 v9 v15 v17 (fe (nb h 32))) u) : wpOp Tryz.prog mOps Q 5 K (mFr f g h N v7 v8 v9 v15 v17 v19) w := by
  refine wpOp_step (o := { dst := some 19, op := Op.call { callee := Callee.value (Operand.func 40), args := #[Operand.tmp 18], argTypes := #[22] }, type := 45, pos := "scalar.go:23", after := #[{ on := 4, ground := Ground.data }, { on := 3, ground := Ground.chain }], guard := none }) rfl (fun K' hK => ?_)
  unfold mFr
  go_simp
  refine (words_at h _ _ (by rfl) hf).mono ?_
  rintro e u ⟨rfl, hb⟩
  dsimp only
  exact hK _ _ (H u hb)
theorem m_new6 (Q : Exit → Act → World → Prop) (f g h : Nat → Nat) (N : Nat) (v7 v8 v9 v15 v17 v19 : Value) (w : World) (K : Act → World → Prop) (H : K (mFr f g h N (ptr w.heap.size) v8 v9 v15 v17 v19) (w.alloc (.cells z4 45))) : wpOp Tryz.prog mOps Q 6 K (mFr f g h N v7 v8 v9 v15 v17 v19) w := by
  refine wpOp_step (o := { dst := some 7, op := Op.alloc 45, type := 0, pos := "scalar.go:23", after := #[], guard := none }) rfl (fun K' hK => ?_)
  unfold mFr
  go_simp
  exact hK _ _ H
theorem m_new7 (Q : Exit → Act → World → Prop) (f g h : Nat → Nat) (N : Nat) (v7 v8 v9 v15 v17 v19 : Value) (w : World) (K : Act → World → Prop) (H : K (mFr f g h N v7 (ptr w.heap.size) v9 v15 v17 v19) (w.alloc (.cells z4 45))) : wpOp Tryz.prog mOps Q 7 K (mFr f g h N v7 v8 v9 v15 v17 v19) w := by
  refine wpOp_step (o := { dst := some 8, op := Op.alloc 45, type := 0, pos := "scalar.go:23", after := #[], guard := none }) rfl (fun K' hK => ?_)
  unfold mFr
  go_simp
  exact hK _ _ H
theorem m_new8 (Q : Exit → Act → World → Prop) (f g h : Nat → Nat) (N : Nat) (v7 v8 v9 v15 v17 v19 : Value) (w : World) (K : Act → World → Prop) (H : K (mFr f g h N v7 v8 (ptr w.heap.size) v15 v17 v19) (w.alloc (.cells z4 45))) : wpOp Tryz.prog mOps Q 8 K (mFr f g h N v7 v8 v9 v15 v17 v19) w := by
  refine wpOp_step (o := { dst := some 9, op := Op.alloc 45, type := 0, pos := "scalar.go:23", after := #[], guard := none }) rfl (fun K' hK => ?_)
  unfold mFr
  go_simp
  exact hK _ _ H
theorem m_put9 (Q : Exit → Act → World → Prop) (f g h : Nat → Nat) (N b : Nat) (v8 v9 v17 v19 : Value) (w : World) (K : Act → World → Prop) (hB : Blk w b z4 45) (H : K (mFr f g h N (ptr b) v8 v9 (fe (nb f 32)) v17 v19) (w.setRow b (arr 4 (limb (nb f 32))))) : wpOp Tryz.prog mOps Q 9 K (mFr f g h N (ptr b) v8 v9 (fe (nb f 32)) v17 v19) w := by
  refine wpOp_step (o := { dst := none, op := Op.store 45 (Operand.tmp 7) (Operand.tmp 15), type := 0, pos := "scalar.go:23", after := #[{ on := 6, ground := Ground.data }, { on := 1, ground := Ground.data }, { on := 5, ground := Ground.chain }, { on := 0, ground := Ground.phase }, { on := 1, ground := Ground.phase }, { on := 2, ground := Ground.textOnly Departure.lateStores }, { on := 3, ground := Ground.textOnly Departure.lateStoresUnsure }, { on := 4, ground := Ground.textOnly Departure.lateStores }, { on := 5, ground := Ground.textOnly Departure.lateStoresUnsure }, { on := 6, ground := Ground.phase }, { on := 7, ground := Ground.phase }, { on := 8, ground := Ground.phase }], guard := none }) rfl (fun K' hK => ?_)
  unfold mFr
  rw [if_pos (by rfl)]
  refine wp_store_row 45 _ _ rfl b (arr 4 (limb (nb f 32))) rfl rfl 45 _ hB (by rw [arr_size]; exact cells41) (by rw [arr_size]; rfl) (arr_one _ _) ?_
  exact hK _ _ H
theorem m_put10 (Q : Exit → Act → World → Prop) (f g h : Nat → Nat) (N b : Nat) (v7 v9 v15 v19 : Value) (w : World) (K : Act → World → Prop) (hB : Blk w b z4 45) (H : K (mFr f g h N v7 (ptr b) v9 v15 (fe (nb g 32)) v19) (w.setRow b (arr 4 (limb (nb g 32))))) : wpOp Tryz.prog mOps Q 10 K (mFr f g h N v7 (ptr b) v9 v15 (fe (nb g 32)) v19) w := by
  refine wpOp_step (o := { dst := none, op := Op.store 45 (Operand.tmp 8) (Operand.tmp 17), type := 0, pos := "scalar.go:23", after := #[{ on := 7, ground := Ground.data }, { on := 3, ground := Ground.data }, { on := 9, ground := Ground.chain }, { on := 0, ground := Ground.phase }, { on := 1, ground := Ground.phase }, { on := 2, ground := Ground.phase }, { on := 3, ground := Ground.phase }, { on := 4, ground := Ground.textOnly Departure.lateStores }, { on := 5, ground := Ground.textOnly Departure.lateStoresUnsure }, { on := 6, ground := Ground.phase }, { on := 7, ground := Ground.phase }, { on := 8, ground := Ground.phase }, { on := 9, ground := Ground.phase }], guard := none }) rfl (fun K' hK => ?_)
  unfold mFr
  rw [if_pos (by rfl)]
  refine wp_store_row 45 _ _ rfl b (arr 4 (limb (nb g 32))) rfl rfl 45 _ hB (by rw [arr_size]; exact cells41) (by rw [arr_size]; rfl) (arr_one _ _) ?_
  exact hK _ _ H
theorem m_put11 (Q : Exit → Act → World → Prop) (f g h : Nat → Nat) (N b : Nat) (v7 v8 v15 v17 : Value) (w : World) (K : Act → World → Prop) (hB : Blk w b z4 45) (H : K (mFr f g h N v7 v8 (ptr b) v15 v17 (fe (nb h 32))) (w.setRow b (arr 4 (limb (nb h 32))))) : wpOp Tryz.prog mOps Q 11 K (mFr f g h N v7 v8 (ptr b) v15 v17 (fe (nb h 32))) w := by
  refine wpOp_step (o := { dst := none, op := Op.store 45 (Operand.tmp 9) (Operand.tmp 19), type := 0, pos := "scalar.go:23", after := #[{ on := 8, ground := Ground.data }, { on := 5, ground := Ground.data }, { on := 10, ground := Ground.chain }, { on := 0, ground := Ground.phase }, { on := 1, ground := Ground.phase }, { on := 2, ground := Ground.phase }, { on := 3, ground := Ground.phase }, { on := 4, ground := Ground.phase }, { on := 5, ground := Ground.phase }, { on := 6, ground := Ground.phase }, { on := 7, ground := Ground.phase }, { on := 8, ground := Ground.phase }, { on := 9, ground := Ground.phase }, { on := 10, ground := Ground.phase }], guard := none }) rfl (fun K' hK => ?_)
  unfold mFr
  rw [if_pos (by rfl)]
  refine wp_store_row 45 _ _ rfl b (arr 4 (limb (nb h 32))) rfl rfl 45 _ hB (by rw [arr_size]; exact cells41) (by rw [arr_size]; rfl) (arr_one _ _) ?_
  exact hK _ _ H
end Go.Proofs.YtbpmakegimgbpaaGreatDoor.S
namespace Go.Proofs.YtbpmakegimgbpaaGreatDoor.S
set_option maxRecDepth 100000
open Go.RowKit

/-- What stays through the region. -/
def mS (f g h : Nat → Nat) (w0 : World) (w' : World) : Prop :=
  Blk w' w0.heap.size (vals .u8 32 f) 22 ∧ Blk w' (w0.heap.size + 1) (vals .u8 32 g) 22 ∧ Blk w' (w0.heap.size + 2) (vals .u8 32 h) 22 ∧ Blk w' (w0.heap.size + 3) (vals .u8 32 (fun _ => 0)) 22 ∧ Below w0.heap.size w0 w'
theorem mS.call {f g h : Nat → Nat} {w0 w u : World} (s : mS f g h w0 w) (hb : Below w.heap.size w u) : mS f g h w0 u :=
  ⟨s.1.call hb, s.2.1.call hb, s.2.2.1.call hb, s.2.2.2.1.call hb, s.2.2.2.2.trans (hb.mono s.2.2.2.2.size)⟩
theorem mS.alloc {f g h : Nat → Nat} {w0 w : World} (s : mS f g h w0 w) (o : Obj) : mS f g h w0 (w.alloc o) := s.call ((Below.refl _ w).alloc (Nat.le_refl _) o)
theorem mS.big {f g h : Nat → Nat} {w0 w : World} (s : mS f g h w0 w) : w0.heap.size + 4 ≤ w.heap.size := by have := s.2.2.2.1.lt; omega
theorem mS.row {f g h : Nat → Nat} {w0 w : World} (s : mS f g h w0 w) (b : Nat) (cs : Array Value) (hb : w0.heap.size + 4 ≤ b) : mS f g h w0 (w.setRow b cs) :=
  ⟨s.1.rowOther cs (by omega), s.2.1.rowOther cs (by omega), s.2.2.1.rowOther cs (by omega), s.2.2.2.1.rowOther cs (by omega), Below.row s.2.2.2.2 (by omega) cs⟩

def mV (x : Bool) (b : Nat) : Value := if x then ptr b else undef
def mW (c k : Nat) (v : Value) : Value := if k < c then v else undef
def mL (c : Nat) (x7 x8 x9 : Bool) : Array Bool := #[true, decide (0 < c), true, decide (1 < c), true, decide (2 < c), x7, x8, x9, false, false, false]
def mHas (w0 w : World) (x : Bool) (b : Nat) : Prop := x = true → Blk w b z4 45 ∧ w0.heap.size + 4 ≤ b
theorem mHas.call {w0 w u : World} {x : Bool} {b : Nat} (s : mHas w0 w x b) (hb : Below w.heap.size w u) : mHas w0 u x b := fun h => ⟨(s h).1.call hb, (s h).2⟩
theorem mHas.alloc {w0 w : World} {x : Bool} {b : Nat} (s : mHas w0 w x b) (o : Obj) : mHas w0 (w.alloc o) x b := s.call ((Below.refl _ w).alloc (Nat.le_refl _) o)
theorem mHas.lt {w0 w : World} {x : Bool} {b : Nat} (s : mHas w0 w x b) (h : x = true) : b < w.heap.size := (s h).1.lt
/-- What holds behind each step: how many calls, and which variables. -/
def mI (f g h : Nat → Nat) (w0 : World) (n : Nat) (l : Array Bool) (a : Act) (w : World) : Prop :=
  ∃ (c : Nat) (x7 x8 x9 : Bool) (b7 b8 b9 : Nat), c ≤ 3 ∧ n = (3 - c) + (!x7).toNat + (!x8).toNat + (!x9).toNat ∧ l = mL c x7 x8 x9 ∧
    a = mFr f g h w0.heap.size (mV x7 b7) (mV x8 b8) (mV x9 b9) (mW c 0 (fe (nb f 32))) (mW c 1 (fe (nb g 32))) (mW c 2 (fe (nb h 32))) ∧
    mHas w0 w x7 b7 ∧ mHas w0 w x8 b8 ∧ mHas w0 w x9 b9 ∧ (x7 = true → x8 = true → b7 ≠ b8) ∧ (x7 = true → x9 = true → b7 ≠ b9) ∧ (x8 = true → x9 = true → b8 ≠ b9)

def mFr0 (f g h : Nat → Nat) (N : Nat) : Act :=
  { tmps := #[.agg (vals .u8 32 f), .agg (vals .u8 32 g), .agg (vals .u8 32 h), ptr N, ptr (N + 1), ptr (N + 2), ptr (N + 3), undef, undef, undef, undef, undef, undef, undef, undef, undef, undef, undef, undef, undef, undef, undef, undef, undef, undef, undef, undef, undef, undef, undef, undef, undef, undef, undef, undef, undef, undef, undef, undef, undef, undef, undef, undef, undef, undef, undef, undef, undef, undef, undef, undef, undef, undef, undef, undef, undef, undef], defers := [] }

theorem ne_new {w0 w : World} {x : Bool} {b : Nat} (s : mHas w0 w x b) (h : x = true) : b ≠ w.heap.size := by have := s.lt h; omega
theorem new_ne' {w0 w : World} {x : Bool} {b : Nat} (s : mHas w0 w x b) (h : x = true) : w.heap.size ≠ b := by have := s.lt h; omega

set_option maxHeartbeats 2000000 in
theorem m_step (Q : Exit → Act → World → Prop) (f g h : Nat → Nat) (hf : ∀ i, f i < 256) (hg : ∀ i, g i < 256) (hh : ∀ i, h i < 256) (w0 : World) (n : Nat) (l : Array Bool) (a : Act) (w : World) (hS : mS f g h w0 w) (hI : mI f g h w0 (n + 1) l a w) :
    ∃ rs, Region.ready .any mOps l = rs ∧ rs ≠ [] ∧ ∀ i ∈ rs, wpOp Tryz.prog mOps Q i (fun a' w' => mS f g h w0 w' ∧ mI f g h w0 n (l.setIfInBounds i true) a' w') a w := by
  obtain ⟨c, x7, x8, x9, b7, b8, b9, hc, hn, rfl, rfl, h7, h8, h9, d78, d79, d89⟩ := hI
  have C1 : c = 0 → wpOp Tryz.prog mOps Q 1 (fun a' w' => mS f g h w0 w' ∧ mI f g h w0 n ((mL c x7 x8 x9).setIfInBounds 1 true) a' w') (mFr f g h w0.heap.size (mV x7 b7) (mV x8 b8) (mV x9 b9) (mW c 0 (fe (nb f 32))) (mW c 1 (fe (nb g 32))) (mW c 2 (fe (nb h 32)))) w := by
    rintro rfl
    refine m_call1 Q f g h _ _ _ _ _ _ _ w _ hf fun u hb => ⟨hS.call hb, 1, x7, x8, x9, b7, b8, b9, by omega, by omega, rfl, rfl, h7.call hb, h8.call hb, h9.call hb, d78, d79, d89⟩
  have C3 : c = 1 → wpOp Tryz.prog mOps Q 3 (fun a' w' => mS f g h w0 w' ∧ mI f g h w0 n ((mL c x7 x8 x9).setIfInBounds 3 true) a' w') (mFr f g h w0.heap.size (mV x7 b7) (mV x8 b8) (mV x9 b9) (mW c 0 (fe (nb f 32))) (mW c 1 (fe (nb g 32))) (mW c 2 (fe (nb h 32)))) w := by
    rintro rfl
    refine m_call3 Q f g h _ _ _ _ _ _ _ w _ hg fun u hb => ⟨hS.call hb, 2, x7, x8, x9, b7, b8, b9, by omega, by omega, rfl, rfl, h7.call hb, h8.call hb, h9.call hb, d78, d79, d89⟩
  have C5 : c = 2 → wpOp Tryz.prog mOps Q 5 (fun a' w' => mS f g h w0 w' ∧ mI f g h w0 n ((mL c x7 x8 x9).setIfInBounds 5 true) a' w') (mFr f g h w0.heap.size (mV x7 b7) (mV x8 b8) (mV x9 b9) (mW c 0 (fe (nb f 32))) (mW c 1 (fe (nb g 32))) (mW c 2 (fe (nb h 32)))) w := by
    rintro rfl
    refine m_call5 Q f g h _ _ _ _ _ _ _ w _ hh fun u hb => ⟨hS.call hb, 3, x7, x8, x9, b7, b8, b9, by omega, by omega, rfl, rfl, h7.call hb, h8.call hb, h9.call hb, d78, d79, d89⟩
  have A6 : x7 = false → wpOp Tryz.prog mOps Q 6 (fun a' w' => mS f g h w0 w' ∧ mI f g h w0 n ((mL c x7 x8 x9).setIfInBounds 6 true) a' w') (mFr f g h w0.heap.size (mV x7 b7) (mV x8 b8) (mV x9 b9) (mW c 0 (fe (nb f 32))) (mW c 1 (fe (nb g 32))) (mW c 2 (fe (nb h 32)))) w := by
    rintro rfl
    refine m_new6 Q f g h _ _ _ _ _ _ _ w _ ⟨hS.alloc _, c, true, x8, x9, w.heap.size, b8, b9, hc, by simp at hn ⊢; omega, rfl, rfl, fun _ => ⟨Blk.new w _ _, hS.big⟩, h8.alloc _, h9.alloc _, fun _ h => new_ne' h8 h, fun _ h => new_ne' h9 h, d89⟩
  have A7 : x8 = false → wpOp Tryz.prog mOps Q 7 (fun a' w' => mS f g h w0 w' ∧ mI f g h w0 n ((mL c x7 x8 x9).setIfInBounds 7 true) a' w') (mFr f g h w0.heap.size (mV x7 b7) (mV x8 b8) (mV x9 b9) (mW c 0 (fe (nb f 32))) (mW c 1 (fe (nb g 32))) (mW c 2 (fe (nb h 32)))) w := by
    rintro rfl
    refine m_new7 Q f g h _ _ _ _ _ _ _ w _ ⟨hS.alloc _, c, x7, true, x9, b7, w.heap.size, b9, hc, by simp at hn ⊢; omega, rfl, rfl, h7.alloc _, fun _ => ⟨Blk.new w _ _, hS.big⟩, h9.alloc _, fun h _ => ne_new h7 h, d79, fun _ h => new_ne' h9 h⟩
  have A8 : x9 = false → wpOp Tryz.prog mOps Q 8 (fun a' w' => mS f g h w0 w' ∧ mI f g h w0 n ((mL c x7 x8 x9).setIfInBounds 8 true) a' w') (mFr f g h w0.heap.size (mV x7 b7) (mV x8 b8) (mV x9 b9) (mW c 0 (fe (nb f 32))) (mW c 1 (fe (nb g 32))) (mW c 2 (fe (nb h 32)))) w := by
    rintro rfl
    refine m_new8 Q f g h _ _ _ _ _ _ _ w _ ⟨hS.alloc _, c, x7, x8, true, b7, b8, w.heap.size, hc, by simp at hn ⊢; omega, rfl, rfl, h7.alloc _, h8.alloc _, fun _ => ⟨Blk.new w _ _, hS.big⟩, d78, fun h _ => ne_new h7 h, fun h _ => ne_new h8 h⟩
  rcases (show c = 0 ∨ c = 1 ∨ c = 2 ∨ c = 3 by omega) with hc0 | hc0 | hc0 | hc0
  · subst hc0
    rcases x7 with _ | _ <;> rcases x8 with _ | _ <;> rcases x9 with _ | _
    · refine ⟨[1, 6, 7, 8], by kernel_rfl, by simp, fun i hi => ?_⟩
      simp only [List.mem_cons, List.not_mem_nil, or_false] at hi
      rcases hi with rfl | rfl | rfl | rfl
      · exact C1 rfl
      · exact A6 rfl
      · exact A7 rfl
      · exact A8 rfl
    · refine ⟨[1, 6, 7], by kernel_rfl, by simp, fun i hi => ?_⟩
      simp only [List.mem_cons, List.not_mem_nil, or_false] at hi
      rcases hi with rfl | rfl | rfl
      · exact C1 rfl
      · exact A6 rfl
      · exact A7 rfl
    · refine ⟨[1, 6, 8], by kernel_rfl, by simp, fun i hi => ?_⟩
      simp only [List.mem_cons, List.not_mem_nil, or_false] at hi
      rcases hi with rfl | rfl | rfl
      · exact C1 rfl
      · exact A6 rfl
      · exact A8 rfl
    · refine ⟨[1, 6], by kernel_rfl, by simp, fun i hi => ?_⟩
      simp only [List.mem_cons, List.not_mem_nil, or_false] at hi
      rcases hi with rfl | rfl
      · exact C1 rfl
      · exact A6 rfl
    · refine ⟨[1, 7, 8], by kernel_rfl, by simp, fun i hi => ?_⟩
      simp only [List.mem_cons, List.not_mem_nil, or_false] at hi
      rcases hi with rfl | rfl | rfl
      · exact C1 rfl
      · exact A7 rfl
      · exact A8 rfl
    · refine ⟨[1, 7], by kernel_rfl, by simp, fun i hi => ?_⟩
      simp only [List.mem_cons, List.not_mem_nil, or_false] at hi
      rcases hi with rfl | rfl
      · exact C1 rfl
      · exact A7 rfl
    · refine ⟨[1, 8], by kernel_rfl, by simp, fun i hi => ?_⟩
      simp only [List.mem_cons, List.not_mem_nil, or_false] at hi
      rcases hi with rfl | rfl
      · exact C1 rfl
      · exact A8 rfl
    · refine ⟨[1], by kernel_rfl, by simp, fun i hi => ?_⟩
      simp only [List.mem_cons, List.not_mem_nil, or_false] at hi
      subst hi
      exact C1 rfl
  · subst hc0
    rcases x7 with _ | _ <;> rcases x8 with _ | _ <;> rcases x9 with _ | _
    · refine ⟨[3, 6, 7, 8], by kernel_rfl, by simp, fun i hi => ?_⟩
      simp only [List.mem_cons, List.not_mem_nil, or_false] at hi
      rcases hi with rfl | rfl | rfl | rfl
      · exact C3 rfl
      · exact A6 rfl
      · exact A7 rfl
      · exact A8 rfl
    · refine ⟨[3, 6, 7], by kernel_rfl, by simp, fun i hi => ?_⟩
      simp only [List.mem_cons, List.not_mem_nil, or_false] at hi
      rcases hi with rfl | rfl | rfl
      · exact C3 rfl
      · exact A6 rfl
      · exact A7 rfl
    · refine ⟨[3, 6, 8], by kernel_rfl, by simp, fun i hi => ?_⟩
      simp only [List.mem_cons, List.not_mem_nil, or_false] at hi
      rcases hi with rfl | rfl | rfl
      · exact C3 rfl
      · exact A6 rfl
      · exact A8 rfl
    · refine ⟨[3, 6], by kernel_rfl, by simp, fun i hi => ?_⟩
      simp only [List.mem_cons, List.not_mem_nil, or_false] at hi
      rcases hi with rfl | rfl
      · exact C3 rfl
      · exact A6 rfl
    · refine ⟨[3, 7, 8], by kernel_rfl, by simp, fun i hi => ?_⟩
      simp only [List.mem_cons, List.not_mem_nil, or_false] at hi
      rcases hi with rfl | rfl | rfl
      · exact C3 rfl
      · exact A7 rfl
      · exact A8 rfl
    · refine ⟨[3, 7], by kernel_rfl, by simp, fun i hi => ?_⟩
      simp only [List.mem_cons, List.not_mem_nil, or_false] at hi
      rcases hi with rfl | rfl
      · exact C3 rfl
      · exact A7 rfl
    · refine ⟨[3, 8], by kernel_rfl, by simp, fun i hi => ?_⟩
      simp only [List.mem_cons, List.not_mem_nil, or_false] at hi
      rcases hi with rfl | rfl
      · exact C3 rfl
      · exact A8 rfl
    · refine ⟨[3], by kernel_rfl, by simp, fun i hi => ?_⟩
      simp only [List.mem_cons, List.not_mem_nil, or_false] at hi
      subst hi
      exact C3 rfl
  · subst hc0
    rcases x7 with _ | _ <;> rcases x8 with _ | _ <;> rcases x9 with _ | _
    · refine ⟨[5, 6, 7, 8], by kernel_rfl, by simp, fun i hi => ?_⟩
      simp only [List.mem_cons, List.not_mem_nil, or_false] at hi
      rcases hi with rfl | rfl | rfl | rfl
      · exact C5 rfl
      · exact A6 rfl
      · exact A7 rfl
      · exact A8 rfl
    · refine ⟨[5, 6, 7], by kernel_rfl, by simp, fun i hi => ?_⟩
      simp only [List.mem_cons, List.not_mem_nil, or_false] at hi
      rcases hi with rfl | rfl | rfl
      · exact C5 rfl
      · exact A6 rfl
      · exact A7 rfl
    · refine ⟨[5, 6, 8], by kernel_rfl, by simp, fun i hi => ?_⟩
      simp only [List.mem_cons, List.not_mem_nil, or_false] at hi
      rcases hi with rfl | rfl | rfl
      · exact C5 rfl
      · exact A6 rfl
      · exact A8 rfl
    · refine ⟨[5, 6], by kernel_rfl, by simp, fun i hi => ?_⟩
      simp only [List.mem_cons, List.not_mem_nil, or_false] at hi
      rcases hi with rfl | rfl
      · exact C5 rfl
      · exact A6 rfl
    · refine ⟨[5, 7, 8], by kernel_rfl, by simp, fun i hi => ?_⟩
      simp only [List.mem_cons, List.not_mem_nil, or_false] at hi
      rcases hi with rfl | rfl | rfl
      · exact C5 rfl
      · exact A7 rfl
      · exact A8 rfl
    · refine ⟨[5, 7], by kernel_rfl, by simp, fun i hi => ?_⟩
      simp only [List.mem_cons, List.not_mem_nil, or_false] at hi
      rcases hi with rfl | rfl
      · exact C5 rfl
      · exact A7 rfl
    · refine ⟨[5, 8], by kernel_rfl, by simp, fun i hi => ?_⟩
      simp only [List.mem_cons, List.not_mem_nil, or_false] at hi
      rcases hi with rfl | rfl
      · exact C5 rfl
      · exact A8 rfl
    · refine ⟨[5], by kernel_rfl, by simp, fun i hi => ?_⟩
      simp only [List.mem_cons, List.not_mem_nil, or_false] at hi
      subst hi
      exact C5 rfl
  · subst hc0
    rcases x7 with _ | _ <;> rcases x8 with _ | _ <;> rcases x9 with _ | _
    · refine ⟨[6, 7, 8], by kernel_rfl, by simp, fun i hi => ?_⟩
      simp only [List.mem_cons, List.not_mem_nil, or_false] at hi
      rcases hi with rfl | rfl | rfl
      · exact A6 rfl
      · exact A7 rfl
      · exact A8 rfl
    · refine ⟨[6, 7], by kernel_rfl, by simp, fun i hi => ?_⟩
      simp only [List.mem_cons, List.not_mem_nil, or_false] at hi
      rcases hi with rfl | rfl
      · exact A6 rfl
      · exact A7 rfl
    · refine ⟨[6, 8], by kernel_rfl, by simp, fun i hi => ?_⟩
      simp only [List.mem_cons, List.not_mem_nil, or_false] at hi
      rcases hi with rfl | rfl
      · exact A6 rfl
      · exact A8 rfl
    · refine ⟨[6], by kernel_rfl, by simp, fun i hi => ?_⟩
      simp only [List.mem_cons, List.not_mem_nil, or_false] at hi
      subst hi
      exact A6 rfl
    · refine ⟨[7, 8], by kernel_rfl, by simp, fun i hi => ?_⟩
      simp only [List.mem_cons, List.not_mem_nil, or_false] at hi
      rcases hi with rfl | rfl
      · exact A7 rfl
      · exact A8 rfl
    · refine ⟨[7], by kernel_rfl, by simp, fun i hi => ?_⟩
      simp only [List.mem_cons, List.not_mem_nil, or_false] at hi
      subst hi
      exact A7 rfl
    · refine ⟨[8], by kernel_rfl, by simp, fun i hi => ?_⟩
      simp only [List.mem_cons, List.not_mem_nil, or_false] at hi
      subst hi
      exact A8 rfl
    · simp at hn

theorem m_end (Q : Exit → Act → World → Prop) (f g h : Nat → Nat) (w0 : World)
    (H : ∀ b7 b8 b9 wx, w0.heap.size + 4 ≤ b7 → w0.heap.size + 4 ≤ b8 → w0.heap.size + 4 ≤ b9 → b7 ≠ b8 → b7 ≠ b9 → b8 ≠ b9 → Blk wx b7 (arr 4 (limb (nb f 32))) 45 → Blk wx b8 (arr 4 (limb (nb g 32))) 45 → Blk wx b9 (arr 4 (limb (nb h 32))) 45 → mS f g h w0 wx →
      Q .normal (mFr f g h w0.heap.size (ptr b7) (ptr b8) (ptr b9) (fe (nb f 32)) (fe (nb g 32)) (fe (nb h 32))) wx)
    (l : Array Bool) (a : Act) (w : World) (hS : mS f g h w0 w) (hI : mI f g h w0 0 l a w) : wpAnyH Tryz.prog .any mOps Q (mS f g h w0) 3 l a w := by
  obtain ⟨c, x7, x8, x9, b7, b8, b9, hc, hn, rfl, rfl, h7, h8, h9, d78, d79, d89⟩ := hI
  have hc3 : c = 3 := by omega
  subst hc3
  rcases x7 with _ | _
  · exfalso; simp at hn; omega
  rcases x8 with _ | _
  · exfalso; simp at hn; omega
  rcases x9 with _ | _
  · simp at hn
  obtain ⟨B7, g7⟩ := h7 rfl
  obtain ⟨B8, g8⟩ := h8 rfl
  obtain ⟨B9, g9⟩ := h9 rfl
  have e78 := d78 rfl rfl
  have e79 := d79 rfl rfl
  have e89 := d89 rfl rfl
  clear h7 h8 h9 d78 d79 d89 hn hc
  refine wpAnyH_all (rs := [9]) (by kernel_rfl) (by simp) fun i hi => ?_
  simp only [List.mem_cons, List.not_mem_nil, or_false] at hi
  subst hi
  refine m_put9 Q f g h _ b7 _ _ _ _ w _ B7 ⟨hS.row b7 _ g7, ?_⟩
  refine wpAnyH_all (rs := [10]) (by kernel_rfl) (by simp) fun i hi => ?_
  simp only [List.mem_cons, List.not_mem_nil, or_false] at hi
  subst hi
  refine m_put10 Q f g h _ b8 _ _ _ _ _ _ (B8.rowOther _ e78) ⟨(hS.row b7 _ g7).row b8 _ g8, ?_⟩
  refine wpAnyH_all (rs := [11]) (by kernel_rfl) (by simp) fun i hi => ?_
  simp only [List.mem_cons, List.not_mem_nil, or_false] at hi
  subst hi
  refine m_put11 Q f g h _ b9 _ _ _ _ _ _ ((B9.rowOther _ e79).rowOther _ e89) ⟨((hS.row b7 _ g7).row b8 _ g8).row b9 _ g9, ?_⟩
  refine wpAnyH_done (by kernel_rfl) ?_ _
  exact H b7 b8 b9 _ g7 g8 g9 e78 e79 e89 (((B7.row _).rowOther _ (fun e => e78 e.symm)).rowOther _ (fun e => e79 e.symm)) (((B8.rowOther _ e78).row _).rowOther _ (fun e => e89 e.symm)) (((B9.rowOther _ e79).rowOther _ e89).row _) (((hS.row b7 _ g7).row b8 _ g8).row b9 _ g9)

theorem m_region (Q : Exit → Act → World → Prop) (hQ : ∀ c a w n v, Q (.panic c) (a.put (some n) v) w → Q (.panic c) a w) (f g h : Nat → Nat) (hf : ∀ i, f i < 256) (hg : ∀ i, g i < 256) (hh : ∀ i, h i < 256) (w0 w : World) (hS : mS f g h w0 w)
    (H : ∀ b7 b8 b9 wx, w0.heap.size + 4 ≤ b7 → w0.heap.size + 4 ≤ b8 → w0.heap.size + 4 ≤ b9 → b7 ≠ b8 → b7 ≠ b9 → b8 ≠ b9 → Blk wx b7 (arr 4 (limb (nb f 32))) 45 → Blk wx b8 (arr 4 (limb (nb g 32))) 45 → Blk wx b9 (arr 4 (limb (nb h 32))) 45 → mS f g h w0 wx →
      Q .normal (mFr f g h w0.heap.size (ptr b7) (ptr b8) (ptr b9) (fe (nb f 32)) (fe (nb g 32)) (fe (nb h 32))) wx) :
    (Code.region 1 mOps true).wp Tryz.prog Q (mFr0 f g h w0.heap.size) w := by
  refine wp_region_held_drew (S := mS f g h w0) (by kernel_rfl) ⟨hS.1.drew, hS.2.1.drew, hS.2.2.1.drew, hS.2.2.2.1.drew, hS.2.2.2.2.drew⟩ (fun hHeld => ?_)
  refine wpAnyH_take (i := 0) (oi := { dst := some 14, op := Op.load 22 (Operand.tmp 3), type := 22, pos := "scalar.go:23", after := #[], guard := none }) (v := .agg (vals .u8 32 f)) rfl (by kernel_rfl) (by kernel_rfl) (by kernel_rfl) (fun _ _ _ => hQ _ _ _ _ _) (yields_S (fun _ s => s.1) (by rfl) 22 _ rfl rfl _ Tryz.underlying22 rfl (by rw [vals_size]; exact cells23)) hHeld ?_
  refine wpAnyH_take (i := 2) (oi := { dst := some 16, op := Op.load 22 (Operand.tmp 4), type := 22, pos := "scalar.go:23", after := #[], guard := none }) (v := .agg (vals .u8 32 g)) rfl (by kernel_rfl) (by kernel_rfl) (by kernel_rfl) (fun _ _ _ => hQ _ _ _ _ _) (yields_S (fun _ s => s.2.1) (by rfl) 22 _ rfl rfl _ Tryz.underlying22 rfl (by rw [vals_size]; exact cells23)) hHeld ?_
  refine wpAnyH_take (i := 4) (oi := { dst := some 18, op := Op.load 22 (Operand.tmp 5), type := 22, pos := "scalar.go:23", after := #[], guard := none }) (v := .agg (vals .u8 32 h)) rfl (by kernel_rfl) (by kernel_rfl) (by kernel_rfl) (fun _ _ _ => hQ _ _ _ _ _) (yields_S (fun _ s => s.2.2.1) (by rfl) 22 _ rfl rfl _ Tryz.underlying22 rfl (by rw [vals_size]; exact cells23)) hHeld ?_
  exact wpAnyH_inv (I := mI f g h w0) (m := 3) (m_end Q f g h w0 H) (m_step Q f g h hf hg hh w0) 6 _ _ _ hHeld ⟨0, false, false, false, 0, 0, 0, by omega, rfl, by rfl, by rfl, nofun, nofun, nofun, nofun, nofun, nofun⟩
end Go.Proofs.YtbpmakegimgbpaaGreatDoor.S
namespace Go.Proofs.YtbpmakegimgbpaaGreatDoor.S
set_option maxRecDepth 100000
open Go.RowKit

/-- The product so far, and what the inner rounds add. -/
def prd (c x y k : Nat) : Nat := c + x % 2 ^ (64 * k) * y
def sj (c x y k j : Nat) : Nat := prd c x y k % 2 ^ (64 * (k + j)) + limb x k * (y % 2 ^ (64 * j)) * 2 ^ (64 * k)
def cj (c x y k j : Nat) : Nat := sj c x y k j / 2 ^ (64 * (k + j))
def wj (c x y k j i : Nat) : Nat := if i < k + j then limb (sj c x y k j) i else limb (prd c x y k) i

theorem sj_succ (c x y k j : Nat) : sj c x y k (j + 1) = sj c x y k j + 2 ^ (64 * (k + j)) * (limb x k * limb y j + limb (prd c x y k) (k + j)) := by
  unfold sj
  rw [← Nat.add_assoc, mod_succ, mod_succ, pw_add k j]
  generalize prd c x y k % (2 ^ (64 * k) * 2 ^ (64 * j)) = a
  generalize limb (prd c x y k) (k + j) = t
  generalize limb x k = X
  generalize limb y j = l
  generalize y % 2 ^ (64 * j) = b
  generalize 2 ^ (64 * k) = K
  generalize 2 ^ (64 * j) = J
  rw [Nat.mul_add X, Nat.add_mul, Nat.mul_add (K * J)]
  have : X * (J * l) * K = K * J * (X * l) := by
    rw [Nat.mul_comm K J, Nat.mul_left_comm X J l, Nat.mul_assoc J K, Nat.mul_assoc J, Nat.mul_comm K]
  omega
theorem cj_lt (c x y k j : Nat) : cj c x y k j < 2 ^ 64 := by
  unfold cj
  apply Nat.div_lt_of_lt_mul
  unfold sj
  have h1 : prd c x y k % 2 ^ (64 * (k + j)) < 2 ^ (64 * (k + j)) := Nat.mod_lt _ (pos64 _)
  have h2 : y % 2 ^ (64 * j) ≤ 2 ^ (64 * j) := Nat.le_of_lt (Nat.mod_lt _ (pos64 _))
  have h3 : limb x k ≤ 2 ^ 64 - 1 := by have := limb_lt x k; omega
  have h4 : limb x k * (y % 2 ^ (64 * j)) * 2 ^ (64 * k) ≤ (2 ^ 64 - 1) * 2 ^ (64 * j) * 2 ^ (64 * k) := Nat.mul_le_mul_right _ (Nat.mul_le_mul h3 h2)
  rw [Nat.mul_assoc (2 ^ 64 - 1), ← Nat.pow_add, show 64 * j + 64 * k = 64 * (k + j) by omega] at h4
  generalize 2 ^ (64 * (k + j)) = M at *
  omega
theorem cj_zero (c x y k : Nat) : cj c x y k 0 = 0 := by
  unfold cj sj
  simp only [Nat.mul_zero, Nat.pow_zero, Nat.mod_one, Nat.zero_mul, Nat.add_zero]
  exact Nat.div_eq_of_lt (Nat.mod_lt _ (pos64 _))
theorem tj (c x y k j : Nat) : sj c x y k (j + 1) / 2 ^ (64 * (k + j)) = limb x k * limb y j + limb (prd c x y k) (k + j) + cj c x y k j := by
  rw [sj_succ, Nat.add_mul_div_left _ _ (pos64 _)]
  unfold cj; omega
theorem cj_succ (c x y k j : Nat) : cj c x y k (j + 1) = (limb x k * limb y j + limb (prd c x y k) (k + j) + cj c x y k j) / 2 ^ 64 := by
  rw [← tj, Nat.div_div_eq_div_mul, ← pw_succ]; rfl
theorem lowj (c x y k j : Nat) : limb (sj c x y k (j + 1)) (k + j) = (limb x k * limb y j + limb (prd c x y k) (k + j) + cj c x y k j) % 2 ^ 64 := by
  rw [← tj]; rfl
theorem wj_zero (c x y k i : Nat) : wj c x y k 0 i = limb (prd c x y k) i := by
  unfold wj
  split
  · apply limb_congr _ _ i k (by omega)
    unfold sj
    simp only [Nat.mul_zero, Nat.pow_zero, Nat.mod_one, Nat.zero_mul, Nat.add_zero, Nat.mod_mod]
  · rfl
theorem wj_succ (c x y k j i : Nat) : wj c x y k (j + 1) i = if i = k + j then (limb x k * limb y j + limb (prd c x y k) (k + j) + cj c x y k j) % 2 ^ 64 else wj c x y k j i := by
  by_cases h : i = k + j
  · subst h
    rw [if_pos rfl, ← lowj]
    unfold wj; rw [if_pos (by omega)]
  · rw [if_neg h]
    unfold wj
    by_cases h2 : i < k + j
    · rw [if_pos (by omega), if_pos h2]
      apply limb_congr _ _ i (k + j) h2
      exact add_mod_of _ _ _ _ (sj_succ c x y k j)
    · rw [if_neg (by omega), if_neg h2]
theorem wj_at (c x y k j : Nat) : wj c x y k j (k + j) = limb (prd c x y k) (k + j) := by unfold wj; rw [if_neg (by omega)]
theorem fit_lt (c X y K M : Nat) (hX : X < K) (hy : y < M) (hc : c < M) : c + X * y < K * M := by
  obtain ⟨k, rfl⟩ : ∃ k, K = k + 1 := ⟨K - 1, by omega⟩
  have h1 : X * y ≤ k * y := Nat.mul_le_mul_right _ (by omega)
  have h2 : k * y ≤ k * M := Nat.mul_le_mul_left _ (by omega)
  rw [Nat.add_mul, Nat.one_mul]
  omega
theorem prd_lt (c x y k m : Nat) (hy : y < 2 ^ (64 * m)) (hc : c < 2 ^ (64 * m)) : prd c x y k < 2 ^ (64 * (k + m)) := by
  unfold prd
  rw [pw_add]
  exact fit_lt c _ y _ _ (Nat.mod_lt _ (pos64 _)) hy hc
theorem sj_four (c x y k : Nat) (hy : y < 2 ^ 256) (hc : c < 2 ^ 256) : sj c x y k 4 = prd c x y (k + 1) := by
  unfold sj
  rw [Nat.mod_eq_of_lt (prd_lt c x y k 4 hy hc), Nat.mod_eq_of_lt (show y < 2 ^ (64 * 4) from hy)]
  unfold prd
  rw [mod_succ, Nat.add_mul, ← Nat.add_assoc]
  congr 1
  rw [Nat.mul_right_comm, Nat.mul_comm (limb x k)]
theorem wide_next (c x y k i : Nat) (hy : y < 2 ^ 256) (hc : c < 2 ^ 256) : (if i = k + 4 then cj c x y k 4 else wj c x y k 4 i) = limb (prd c x y (k + 1)) i := by
  have hl := prd_lt c x y (k + 1) 4 hy hc
  by_cases h : i = k + 4
  · subst h
    rw [if_pos rfl, limb_top _ _ (by rw [show k + 4 + 1 = k + 1 + 4 by omega]; exact hl)]
    unfold cj; rw [sj_four c x y k hy hc]
  · rw [if_neg h]
    unfold wj
    split
    · rw [sj_four c x y k hy hc]
    · have h5 : k + 5 ≤ i := by omega
      have e1 : 2 ^ (64 * (k + 4)) ≤ 2 ^ (64 * i) := Nat.pow_le_pow_right (by omega) (by omega)
      have e2 : 2 ^ (64 * (k + 1 + 4)) ≤ 2 ^ (64 * i) := Nat.pow_le_pow_right (by omega) (by omega)
      rw [limb_zero _ _ (Nat.lt_of_lt_of_le hl e2), limb_zero _ _ (Nat.lt_of_lt_of_le (prd_lt c x y k 4 hy hc) e1)]
theorem prd_zero (c x y : Nat) : prd c x y 0 = c := by
  unfold prd; simp [Nat.mod_one]
theorem prd_four (c x y : Nat) (hx : x < 2 ^ 256) : prd c x y 4 = x * y + c := by
  unfold prd; rw [Nat.mod_eq_of_lt (show x < 2 ^ (64 * 4) from hx), Nat.add_comm]
theorem sum_lt (c x y : Nat) (hx : x < 2 ^ 256) (hy : y < 2 ^ 256) (hc : c < 2 ^ 256) : x * y + c < 2 ^ 256 * 2 ^ 256 := by
  rw [Nat.add_comm]; exact fit_lt c x y _ _ hx hy hc

theorem limb_high (c i : Nat) (hc : c < 2 ^ 256) (hi : 4 ≤ i) : limb c i = 0 := limb_zero _ _ (Nat.lt_of_lt_of_le hc (Nat.pow_le_pow_right (by omega) (by omega)))
theorem copy_words (w : World) (b b9 c : Nat) (hc : c < 2 ^ 256) (B : Blk w b (arr 8 (fun _ => 0)) 72) (B9 : Blk w b9 (arr 4 (limb c)) 45) (ty : TypeId) :
    (Builtin.copy_ #[73, 73] ty #[.slice (some ⟨b, 0, none⟩) 8 8, .slice (some ⟨b9, 0, none⟩) 4 4]).run Tryz.prog w = .ok (goInt 4) (w.setRow b (arr 8 (limb c))) := by
  have h := run_copy_row (P := Tryz.prog) w 73 73 ty 44 b 0 8 8 ⟨b9, 0, none⟩ 4 4 (arr 8 (fun _ => 0)) 72 (arr 4 (limb c)).toList Tryz.underlying73 (by kernel_rfl) B (by simp [arr]) (fun j v hv => by
    have := B9.cell j
    rw [show (Addr.add ⟨b9, 0, none⟩ j : Addr) = ⟨b9, j, none⟩ by simp [Addr.add]; omega, this]
    simpa using hv) (by simp [arr]) (fun v hv => by simp [arr] at hv; obtain ⟨j, _, rfl⟩ := hv; rfl)
  have e1 : limb c 4 = 0 := limb_high c 4 hc (by omega)
  have e2 : limb c 5 = 0 := limb_high c 5 hc (by omega)
  have e3 : limb c 6 = 0 := limb_high c 6 hc (by omega)
  have e4 : limb c 7 = 0 := limb_high c 7 hc (by omega)
  rw [h]
  congr 2
  simp [arr, List.range_succ, e1, e2, e3, e4]
end Go.Proofs.YtbpmakegimgbpaaGreatDoor.S
namespace Go.Proofs.YtbpmakegimgbpaaGreatDoor.S
set_option maxRecDepth 100000
open Go.RowKit

theorem wrap_i64_small (n : Int) (h0 : 0 ≤ n) (h1 : n < 1000) : IntKind.i64.wrap n = n := wrap_i64_small' n h0 h1

set_option maxHeartbeats 2000000 in
theorem muladd_any (f g h : Nat → Nat) (w : World) (hG : Glob w) (hf : ∀ i, f i < 256) (hg : ∀ i, g i < 256) (hh : ∀ i, h i < 256) :
    Calls Tryz.prog 16 #[ba f, ba g, ba h] w fun e w' => e = .returned (ba (byt ((nb f 32 * nb g 32 + nb h 32) % qL))) ∧ Below w.heap.size w w' := by
  have HG := hide hG
  have Hx := hide (nb_lt f hf 32)
  have Hy := hide (nb_lt g hg 32)
  have Hc := hide (nb_lt h hh 32)
  clear hG
  unfold ba
  go_enter Tryz.func16, Tryz.ntmps16
  go_wp2
  refine m_region _ (fun _ _ _ _ _ h => h) f g h hf hg hh w _ ?_ ?_
  · refine ⟨((((Blk.new w _ _).alloc _).alloc _).alloc _), ((Blk.new' (w.alloc _) (w.heap.size + 1) (by simp) _ _).alloc _).alloc _, (Blk.new' ((w.alloc _).alloc _) (w.heap.size + 2) (by simp) _ _).alloc _, Blk.new' (((w.alloc _).alloc _).alloc _) (w.heap.size + 3) (by simp) _ _, ?_⟩
    exact ((((Below.refl _ w).alloc (Nat.le_refl _) _).alloc (by simp) _).alloc (by simp; omega) _).alloc (by simp; omega) _
  intro b7 b8 b9 wx g7 g8 g9 e78 e79 e89 B7 B8 B9 hS
  unfold mFr
  obtain ⟨x, hx⟩ : ∃ x, x = nb f 32 := ⟨_, rfl⟩
  obtain ⟨y, hy⟩ : ∃ y, y = nb g 32 := ⟨_, rfl⟩
  obtain ⟨c, hc⟩ : ∃ c, c = nb h 32 := ⟨_, rfl⟩
  rw [← hx] at B7 Hx
  rw [← hy] at B8 Hy
  rw [← hc] at B9 Hc
  rw [← hx, ← hy, ← hc]
  have Hxe := hide hx
  have Hye := hide hy
  have Hce := hide hc
  clear hx hy hc hf hg hh
  have HBz := hide hS.2.2.2.1
  have HL := hide hS.2.2.2.2
  have HB7 := hide B7
  have HB8 := hide B8
  have HB9 := hide B9
  have Hg := hide (show w.heap.size + 4 ≤ b7 ∧ w.heap.size + 4 ≤ b8 ∧ w.heap.size + 4 ≤ b9 from ⟨g7, g8, g9⟩)
  have Hlt := hide (show b7 < wx.heap.size ∧ b8 < wx.heap.size ∧ b9 < wx.heap.size from ⟨B7.lt, B8.lt, B9.lt⟩)
  have HBn := hide (show w.heap.size + 4 ≤ wx.heap.size from hS.big)
  clear hS B7 B8 B9 g7 g8 g9 e78 e79 e89
  have hcopy := copy_words (wx.alloc (.cells (arr 8 (fun _ => 0)) 72)).drew wx.heap.size b9 c Hc.out (Blk.new wx _ _).drew (HB9.out.alloc _).drew
  rw [← arr8_zero] at hcopy
  have Y7 := hide ((HB7.out.alloc (.cells (arr 8 (fun _ => 0)) 72)).drew.rowOther (b' := wx.heap.size) (arr 8 (limb c)) (by have := Hlt.out; omega))
  have Y8 := hide ((HB8.out.alloc (.cells (arr 8 (fun _ => 0)) 72)).drew.rowOther (b' := wx.heap.size) (arr 8 (limb c)) (by have := Hlt.out; omega))
  have YZ := hide ((HBz.out.alloc (.cells (arr 8 (fun _ => 0)) 72)).drew.rowOther (b' := wx.heap.size) (arr 8 (limb c)) (by have := HBn.out; omega))
  have YW := hide ((Blk.new wx (arr 8 (fun _ => 0)) 72).drew.row (arr 8 (limb c)))
  have YL := hide (Below.row (b := wx.heap.size) (HL.out.alloc HL.out.size (.cells (arr 8 (fun _ => 0)) 72)).drew (by have := HBn.out; omega) (arr 8 (limb c)))
  rw [← arr8_zero] at Y7 Y8 YZ YW YL
  have Hd7 := hide (show wx.heap.size ≠ b7 by have := Hlt.out; omega)
  have Hd8 := hide (show wx.heap.size ≠ b8 by have := Hlt.out; omega)
  have Hdz := hide (show wx.heap.size ≠ w.heap.size + 3 by have := HBn.out; omega)
  have Hle := hide (show w.heap.size ≤ wx.heap.size by have := HBn.out; omega)
  clear HB7 HB8 HB9 HBz HL Hg Hlt HBn
  unfold ptr
  go_wp2
  go_region_with (fail)
  clear hcopy
  generalize hbw : wx.heap.size = bw at *
  clear hbw
  go_wp2
  go_loopw [23] (fun i wr => ∃ k : Nat, k ≤ 4 ∧ i = .int .i64 k ∧ Blk wr b7 (arr 4 (limb x)) 45 ∧ Blk wr b8 (arr 4 (limb y)) 45 ∧ Blk wr (w.heap.size + 3) (vals .u8 32 (fun _ => 0)) 22 ∧ Blk wr bw (arr 8 (limb (prd c x y k))) 72 ∧ Below w.heap.size w wr) (fun i _ => 4 - (intOf i).toNat)
  case atStart =>
    exact ⟨0, by omega, rfl, Y7.out, Y8.out, YZ.out, YW.out.cast (by rw [prd_zero]), YL.out⟩
  case round =>
    clear Y7 Y8 YZ YW YL
    obtain ⟨k, hk, rfl, Bx, By, Bz, Bw, L⟩ := hrel
    have HBx := hide Bx
    have HBy := hide By
    have HBz := hide Bz
    have HBw := hide Bw
    have HL := hide L
    clear Bx By Bz Bw L
    by_cases hlt : k < 4
    · have hk0 : (0 : Int) ≤ (k : Int) := by omega
      have hk4 : (k : Int) < 4 := by omega
      go_wp2
      go_loopw [12, 26] (fun cv i wr => ∃ j : Nat, j ≤ 4 ∧ i = .int .i64 j ∧ cv = .int .u64 (cj c x y k j : Nat) ∧ Blk wr b7 (arr 4 (limb x)) 45 ∧ Blk wr b8 (arr 4 (limb y)) 45 ∧ Blk wr (w.heap.size + 3) (vals .u8 32 (fun _ => 0)) 22 ∧ Blk wr bw (arr 8 (wj c x y k j)) 72 ∧ Below w.heap.size w wr) (fun _ i _ => 4 - (intOf i).toNat)
      case atStart =>
        exact ⟨0, by omega, rfl, by rw [cj_zero]; rfl, HBx.out, HBy.out, HBz.out, HBw.out.cast (arr_congr _ _ _ fun i _ => (wj_zero c x y k i).symm), HL.out⟩
      case round =>
        clear HBx HBy HBz HBw HL
        obtain ⟨j, hj, rfl, rfl, Bx, By, Bz, Bw, L⟩ := hrel
        by_cases hlj : j < 4
        · have cx := Bx.cell k
          rw [arr_get _ _ _ hlt] at cx
          have cy := By.cell j
          rw [arr_get _ _ _ hlj] at cy
          have cw := Bw.cell (k + j)
          rw [arr_get _ _ _ (by omega), wj_at] at cw
          have fw := Bw.frozen (k + j)
          have HBx := hide Bx
          have HBy := hide By
          have HBz := hide Bz
          have HBw := hide Bw
          have HL := hide L
          clear Bx By Bz Bw L
          have hj0 : (0 : Int) ≤ (j : Int) := by omega
          have hj4 : (j : Int) < 4 := by omega
          have hkj0 : (0 : Int) ≤ (k : Int) + (j : Int) := by omega
          have hkj8 : (k : Int) + (j : Int) < 8 := by omega
          have hwr : IntKind.i64.wrap ((k : Int) + (j : Int)) = (k : Int) + (j : Int) := wrap_i64_small _ hkj0 (by omega)
          have hkj : ((k : Int) + (j : Int)).toNat = k + j := by omega
          have Hs := hide (lowj c x y k j)
          have Hd := hide (cj_succ c x y k j)
          go_wp2
          go_region_with ((go_at_call 41; refine (step_at (limb x k) (limb y j) (limb (prd c x y k) (k + j)) (cj c x y k j) _ _ (by rfl) (limb_lt _ _) (limb_lt _ _) (limb_lt _ _) (cj_lt _ _ _ _ _) _ _ Hs.out Hd.out).mono ?_; rintro e w' ⟨rfl, rfl⟩))
          all_goals
            go_wp2
            go_roundw
            case rel =>
              refine ⟨j + 1, by omega, by go_num, rfl, (HBx.out.setOther _ _ Hd7.out).drew, (HBy.out.setOther _ _ Hd8.out).drew, (HBz.out.setOther _ _ Hdz.out).drew, ?_, (HL.out.setCell Hle.out _).drew⟩
              exact ((HBw.out.set (k + j) _).drew).cast (by rw [arr_set]; exact arr_congr _ _ _ fun i _ => by rw [wj_succ, Hs.out])
            case measure => simp [intOf]; omega
        · have e4 : j = 4 := by omega
          subst e4
          have fw := Bw.frozen (k + 4)
          have cw := Bw.cell (k + 4)
          rw [arr_get _ _ _ (by omega)] at cw
          have HBx := hide Bx
          have HBy := hide By
          have HBz := hide Bz
          have HBw := hide Bw
          have HL := hide L
          clear Bx By Bz Bw L
          have hkj0 : (0 : Int) ≤ (k : Int) + 4 := by omega
          have hkj8 : (k : Int) + 4 < 8 := by omega
          have hwr : IntKind.i64.wrap ((k : Int) + 4) = (k : Int) + 4 := wrap_i64_small _ hkj0 (by omega)
          have hkj : ((k : Int) + 4).toNat = k + 4 := by omega
          go_wp2
          go_roundw
          case rel =>
            refine ⟨k + 1, by omega, by go_num, HBx.out.setOther _ _ Hd7.out, HBy.out.setOther _ _ Hd8.out, HBz.out.setOther _ _ Hdz.out, ?_, HL.out.setCell Hle.out _⟩
            exact (HBw.out.set (k + 4) _).cast (by rw [arr_set]; exact arr_congr _ _ _ fun i _ => wide_next c x y k i Hy.out Hc.out)
          case measure => simp [intOf]; omega
    · have e4 : k = 4 := by omega
      subst e4
      have HBw2 := hide (HBw.out.cast (by rw [prd_four c x y Hx.out]))
      have Hs := hide (sum_lt c x y Hx.out Hy.out Hc.out)
      clear HBw HBx HBy
      obtain ⟨n, hn⟩ : ∃ n, n = x * y + c := ⟨_, rfl⟩
      rw [← hn] at HBw2 Hs
      have Hn := hide hn
      clear hn
      go_wp2_with (first
        | (refine wpList_load_row rfl 72 _ rfl bw rfl 72 _ (0, 0) _ HBw2.out Tryz.underlying72 rfl (by rw [arr_size]; exact cells37) ?_)
        | (go_at_call 42; refine (modulo_at n _ _ rfl (HG.out.low HL.out) Hs.out).mono ?_; unfold ba; rintro e w1 ⟨rfl, hb1⟩; have HZ1 := hide (HBz.out.call hb1); have HL1 := hide (HL.out.trans (hb1.mono HL.out.size)); clear hb1; dsimp only)
        | (refine wpList_store_row rfl 22 _ _ rfl (w.heap.size + 3) (vals .u8 32 (byt (n % qL))) rfl rfl 22 _ HZ1.out (by rw [vals_size]; exact cells23) (by rw [vals_size, vals_size]) (vals_one _ _ _) ?_))
      refine bodyPost_ret (v := .agg (vals .u8 32 (byt (n % qL)))) (results_cell_row Tryz.results16 _ _ (w.heap.size + 3) 22 _ (0, 0) _ rfl (HZ1.out.row _) Tryz.underlying22 rfl (by rw [vals_size]; exact cells23)) rfl ⟨by rw [Hn.out, Hxe.out, Hye.out, Hce.out], ?_⟩
      exact Below.row HL1.out (by omega) _
theorem muladd_at (f g h : Nat → Nat) (args : Array Value) (w : World) (ha : args = #[ba f, ba g, ba h]) (hG : Glob w) (hf : ∀ i, f i < 256) (hg : ∀ i, g i < 256) (hh : ∀ i, h i < 256) :
    Calls Tryz.prog 16 args w fun e w' => e = .returned (ba (byt ((nb f 32 * nb g 32 + nb h 32) % qL))) ∧ Below w.heap.size w w' := by
  subst ha; exact muladd_any f g h w hG hf hg hh
end Go.Proofs.YtbpmakegimgbpaaGreatDoor.S

/- Walks: words, bytesOf. -/
import Derived.Test.YtalnkcijebdpbaaDoorProg
import Derived.Test.YtalnkcijebdpbaaDoorAa
namespace Go.Proofs.YtalnkcijebdpbaaDoor.S
open Go.RowKit

theorem cells23 : (Tryd.prog.info? 22).map (·.size) = some 32 := by kernel_rfl
theorem cells41 : (Tryd.prog.info? 25).map (·.size) = some 4 := by kernel_rfl
theorem cells37 : (Tryd.prog.info? 49).map (·.size) = some 8 := by kernel_rfl
theorem built23 : Tryd.prog.built 22 [] = some (vals .u8 32 (fun _ => 0)) := by kernel_rfl
theorem size35 (w : World) : (sizeOf 24).run Tryd.prog w = .ok 1 w := by kernel_rfl
theorem size5 (w : World) : (sizeOf 5).run Tryd.prog w = .ok 1 w := by kernel_rfl

/-- The order. -/
def qL : Nat := 7237005577332262213973186563042994240857116359379907606001950938285454250989
theorem qL_lt : qL < 2 ^ 253 := by unfold qL; omega
theorem qL_lt256 : qL < 2 ^ 256 := by unfold qL; omega
theorem qL_pos : 0 < qL := by unfold qL; omega
theorem qL_arr : arr 4 (limb qL) = #[.int .u64 6346243789798364141, .int .u64 1503914060200516822, .int .u64 0, .int .u64 1152921504606846976] := by
  rw [arr4, show limb qL 0 = 6346243789798364141 by decide +kernel, show limb qL 1 = 1503914060200516822 by decide +kernel, show limb qL 2 = 0 by decide +kernel, show limb qL 3 = 1152921504606846976 by decide +kernel]
  rfl

/-- The package's variable holds the order. -/
def Glob (w : World) : Prop := ∃ t fz, w.heap[0]? = some (.cells (arr 4 (limb qL)) t fz)
theorem Glob.pos {w : World} (h : Glob w) : 0 < w.heap.size := by
  obtain ⟨t, fz, h⟩ := h
  exact (Array.getElem?_eq_some_iff.1 h).1
theorem Glob.cell {w : World} (h : Glob w) (j : Nat) : w.cell? ⟨0, j, none⟩ = (arr 4 (limb qL))[j]? := by
  obtain ⟨t, fz, h⟩ := h
  simp [World.cell?, h]
theorem Glob.via {w w' : World} {B : Nat} (h : Glob w) (hb : Below B w w') (hB : 0 < B) : Glob w' := by
  obtain ⟨t, fz, h⟩ := h
  exact ⟨t, fz, by rw [hb.block 0 hB]; exact h⟩
theorem Glob.low {w w' : World} (h : Glob w) (hb : Below w.heap.size w w') : Glob w' := h.via hb h.pos
theorem Glob.drew {w : World} (h : Glob w) : Glob w.drew := h
theorem Glob.alloc {w : World} (h : Glob w) (o : Obj) : Glob (w.alloc o) := h.low ((Below.refl _ w).alloc (Nat.le_refl _) o)
theorem Glob.set {w : World} (h : Glob w) (b i : Nat) (v : Value) (hb : 0 < b) : Glob (w.setCell ⟨b, i, none⟩ v) := h.via ((Below.refl b w).setCell (Nat.le_refl _) v) hb
theorem Glob.row {w : World} (h : Glob w) (b : Nat) (cs : Array Value) (hb : 0 < b) : Glob (w.setRow b cs) := h.via (Below.row (Below.refl b w) (Nat.le_refl _) cs) hb

theorem quo8 (k : Nat) (h : k < 64) : IntKind.i64.wrap ((k : Int).tdiv 8) = (k : Int) / 8 := by
  rw [Int.tdiv_eq_ediv_of_nonneg (by omega), wrap_i64_small' _ (by omega) (by omega)]
theorem quo8' (k : Nat) (h : k < 64) : IntKind.i64.wrap ((k : Int) / 8) = (k : Int) / 8 := by
  rw [wrap_i64_small' _ (by omega) (by omega)]
theorem rem8 (k : Nat) (h : k < 64) : IntKind.i64.wrap ((k : Int).tmod 8) = (k : Int) % 8 := by
  rw [Int.tmod_eq_emod_of_nonneg (by omega), wrap_i64_small' _ (by omega) (by omega)]

set_option maxHeartbeats 400000 in
theorem words_any (f : Nat → Nat) (w : World) (hf : ∀ i, f i < 256) :
    Calls Tryd.prog 19 #[ba f] w fun e w' => e = .returned (fe (nb f 32)) ∧ Below w.heap.size w w' := by
  have Hf := hide hf
  clear hf
  unfold ba
  go_enter Tryd.func19, Tryd.ntmps19
  go_wp2
  go_loopw [5] (fun i wr => ∃ k : Nat, k ≤ 32 ∧ i = .int .i64 k ∧ Blk wr w.heap.size (vals .u8 32 f) 22 ∧ (∃ z0 z1 z2 z3, Blk wr (w.heap.size + 1) #[z0, z1, z2, z3] 25) ∧ Blk wr (w.heap.size + 2) (arr 4 (limb (nb f k))) 25 ∧ Below w.heap.size w wr) (fun i _ => 32 - (intOf i).toNat)
  case atStart =>
    refine ⟨0, by omega, rfl, ?_, ⟨.int .u64 0, .int .u64 0, .int .u64 0, .int .u64 0, ?_⟩, ?_, ?_⟩
    · exact (((Blk.new w _ _).alloc _).alloc _)
    · exact (Blk.new' (w.alloc _) (w.heap.size + 1) (by simp) _ _).alloc _
    · exact (Blk.new' ((w.alloc _).alloc _) (w.heap.size + 2) (by simp) _ _).cast (by rw [arr4]; simp [nb, limb])
    · exact (((Below.refl _ w).alloc (Nat.le_refl _) _).alloc (by simp) _).alloc (by simp; omega) _
  case round =>
    obtain ⟨k, hk, rfl, Bx, ⟨z0, z1, z2, z3, Bz⟩, Bl, L⟩ := hrel
    by_cases hlt : k < 32
    · have cx := Bx.cell k
      rw [vals_get _ _ _ _ hlt] at cx
      have cl := Bl.cell (k / 8)
      rw [arr_get _ _ _ (by omega)] at cl
      have fl := Bl.frozen (k / 8)
      have HBx := hide Bx
      have HBz := hide Bz
      have HBl := hide Bl
      have HL := hide L
      clear Bx Bz Bl L
      have hk0 : (0 : Int) ≤ (k : Int) := by omega
      have hk4 : (k : Int) < 32 := by omega
      have hf8 := Hf.out k
      have hq0 : (0 : Int) ≤ (k : Int) / 8 := by omega
      have hq4 : (k : Int) / 8 < 4 := by omega
      have hq : IntKind.i64.wrap ((k : Int).tdiv 8) = (k : Int) / 8 := quo8 k (by omega)
      have hq' : IntKind.i64.wrap ((k : Int) / 8) = (k : Int) / 8 := quo8' k (by omega)
      have hr : IntKind.i64.wrap ((k : Int).tmod 8) = (k : Int) % 8 := rem8 k (by omega)
      have hqn : ((k : Int) / 8).toNat = k / 8 := by omega
      have hmn : ((k : Int) % 8 * 8).toNat = k % 8 * 8 := by omega
      have hr' : (k : Int).tmod 8 = (k : Int) % 8 := by rw [Int.tmod_eq_emod_of_nonneg (by omega)]
      have hm : IntKind.i64.wrap ((k : Int) % 8 * 8) = (k : Int) % 8 * 8 := mul8 k
      have hm0 : (0 : Int) ≤ (k : Int) % 8 * 8 := by omega
      have hm8 : (k : Int) % 8 * 8 < 64 := by omega
      have Ho := hide (or_load f Hf.out k)
      go_wp2
      go_region_with (fail)
      all_goals
        go_wp2
        rw [Ho.out]
        go_roundw
        case rel =>
          refine ⟨k + 1, by omega, by go_num, (HBx.out.setOther _ _ (by omega)).drew, ⟨z0, z1, z2, z3, (HBz.out.setOther _ _ (by omega)).drew⟩, ?_, (HL.out.setCell (by show w.heap.size ≤ w.heap.size + 2; omega) _).drew⟩
          exact ((HBl.out.set (k / 8) _).drew).cast (by
            rw [arr_set]
            apply arr_congr
            intro j _
            by_cases h1 : j = k / 8
            · subst h1; simp
            · simp only [h1, if_false]; exact (limb_nb_other f Hf.out k j h1).symm)
        case measure => simp [intOf]; omega
    · have e4 : k = 32 := by omega
      subst e4
      rw [arr4] at Bl
      obtain ⟨c1, f1⟩ := Bl.rules
      obtain ⟨c2, f2⟩ := Bz.rules
      obtain ⟨r1, r2, r3, r4⟩ := Bz.writes
      have HL := hide L
      clear Bx Bz Bl L hlt
      go_wp2
      refine bodyPost_ret (v := fe (nb f 32)) (by simp [results, Tryd.results19, go_sem, r3, fe_def]) rfl ⟨rfl, ?_⟩
      exact Below.row HL.out (by omega) _
theorem words_at (f : Nat → Nat) (args : Array Value) (w : World) (h : args = #[ba f]) (hf : ∀ i, f i < 256) :
    Calls Tryd.prog 19 args w fun e w' => e = .returned (fe (nb f 32)) ∧ Below w.heap.size w w' := by
  subst h; exact words_any f w hf

set_option maxHeartbeats 400000 in
theorem bytes_any (x : Nat) (w : World) :
    Calls Tryd.prog 25 #[fe x] w fun e w' => e = .returned (ba (byt x)) ∧ Below w.heap.size w w' := by
  rw [fe_arr x]
  go_enter Tryd.func25, Tryd.ntmps25
  go_wp2
  go_loopw [5] (fun i wr => ∃ k : Nat, k ≤ 32 ∧ i = .int .i64 k ∧ Blk wr w.heap.size (arr 4 (limb x)) 25 ∧ (∃ z, z.size = 32 ∧ Blk wr (w.heap.size + 1) z 22) ∧ Blk wr (w.heap.size + 2) (vals .u8 32 (fun j => if j < k then byt x j else 0)) 22 ∧ Below w.heap.size w wr) (fun i _ => 32 - (intOf i).toNat)
  case atStart =>
    refine ⟨0, by omega, rfl, ?_, ⟨vals .u8 32 (fun _ => 0), vals_size _ _ _, ?_⟩, ?_, ?_⟩
    · exact (((Blk.new w _ _).alloc _).alloc _)
    · exact (Blk.new' (w.alloc _) (w.heap.size + 1) (by simp) _ _).alloc _
    · exact (Blk.new' ((w.alloc _).alloc _) (w.heap.size + 2) (by simp) _ _).cast (by rw [zero32]; simp)
    · exact (((Below.refl _ w).alloc (Nat.le_refl _) _).alloc (by simp) _).alloc (by simp; omega) _
  case round =>
    obtain ⟨k, hk, rfl, Bx, ⟨z, hz, Bz⟩, Bb, L⟩ := hrel
    by_cases hlt : k < 32
    · have cx := Bx.cell (k / 8)
      rw [arr_get _ _ _ (by omega)] at cx
      have cb := Bb.cell k
      rw [vals_get _ _ _ _ hlt] at cb
      have fb := Bb.frozen k
      have HBx := hide Bx
      have HBz := hide Bz
      have HBb := hide Bb
      have HL := hide L
      clear Bx Bz Bb L
      have hk0 : (0 : Int) ≤ (k : Int) := by omega
      have hk4 : (k : Int) < 32 := by omega
      have Hi := hide (byt_int x k)
      go_wp2
      rw [Hi.out]
      go_roundw
      case rel =>
        refine ⟨k + 1, by omega, by go_num, HBx.out.setOther _ _ (by omega), ⟨z, hz, HBz.out.setOther _ _ (by omega)⟩, ?_, HL.out.setCell (by show w.heap.size ≤ w.heap.size + 2; omega) _⟩
        exact upd_vals .u8 32 (fun _ => 0) (byt x) k _ _ _ HBb.out
      case measure => simp [intOf]; omega
    · have e4 : k = 32 := by omega
      subst e4
      have HBz := hide Bz
      have HBb := hide (Bb.cast (vals_congr _ 32 _ (byt x) fun j hj => by simp [hj]))
      have HL := hide L
      clear Bx Bz Bb L
      go_wp2_with (first
        | (refine wpList_load_row rfl 22 _ rfl (w.heap.size + 2) rfl 22 _ (0, 0) _ HBb.out Tryd.underlying22 rfl (by rw [vals_size]; exact cells23) ?_)
        | (refine wpList_store_row rfl 22 _ _ rfl (w.heap.size + 1) (vals .u8 32 (byt x)) rfl rfl 22 z HBz.out (by rw [vals_size]; exact cells23) (by rw [vals_size]; exact hz) (vals_one _ _ _) ?_))
      refine bodyPost_ret (v := ba (byt x)) (results_cell_row Tryd.results25 _ _ (w.heap.size + 1) 22 _ (0, 0) _ rfl (HBz.out.row _) Tryd.underlying22 rfl (by rw [vals_size]; exact cells23)) rfl ⟨rfl, ?_⟩
      exact Below.row HL.out (by omega) _
theorem bytes_at (x : Nat) (args : Array Value) (w : World) (h : args = #[fe x]) :
    Calls Tryd.prog 25 args w fun e w' => e = .returned (ba (byt x)) ∧ Below w.heap.size w w' := by
  subst h; exact bytes_any x w
end Go.Proofs.YtalnkcijebdpbaaDoor.S

/- Walks: Mul, Square. -/
import Derived.Test.YtbpmakegimgbpaaGreatDoorJw
import Derived.Test.YtbpmakegimgbpaaGreatDoorMm
namespace Go.Proofs.YtbpmakegimgbpaaGreatDoor.F
set_option maxRecDepth 100000
open Go.RowKit

theorem halves_at (x y m c : Nat) (b : Nat) (args : Array Value) (w : World) (h : args = #[.int .u64 x, .int .u64 y, .int .u64 m, .pointer (some ⟨b, 0, none⟩)]) (hx : x < 2 ^ 64) (hy : y < 2 ^ 64) (hm : m < 2 ^ 64) (hc : c < 2 ^ 64) (hB : Blk w b #[.int .u64 c] 44)
    (s d : Nat) (hs : s = (x * y + m + c) % 2 ^ 64) (hd : d = (x * y + m + c) / 2 ^ 64) :
    Calls Tryz.prog 99 args w fun e w' => e = .returned (.int .u64 s) ∧ w' = w.setCell ⟨b, 0, none⟩ (.int .u64 d) := by
  subst h hs hd; exact halves_any x y m c b w hx hy hm hc hB
theorem wrap_i64_small (n : Int) (h0 : 0 ≤ n) (h1 : n < 1000) : IntKind.i64.wrap n = n := by
  simp [IntKind.wrap, IntKind.bits, IntKind.signed]; omega

set_option maxHeartbeats 1000000 in
theorem mul_any (x y : Nat) (w : World) (hx : x < pP) (hy : y < pP) :
    Calls Tryz.prog 55 #[fe x, fe y] w fun e w' => e = .returned (fe ((x * y) % pP)) ∧ Below w.heap.size w w' := by
  have Hx : Hid (x < 2 ^ 256) := hide (by unfold pP at *; omega)
  have Hy : Hid (y < 2 ^ 256) := hide (by unfold pP at *; omega)
  clear hx hy
  rw [fe_arr x, fe_arr y]
  go_enter Tryz.func55, Tryz.ntmps55
  go_wp2
  go_loopw [13] (fun i wr => ∃ k : Nat, k ≤ 4 ∧ i = .int .i64 k ∧ Blk wr w.heap.size (arr 4 (limb x)) 47 ∧ Blk wr (w.heap.size + 1) (arr 4 (limb y)) 47 ∧ (∃ z0 z1 z2 z3, Blk wr (w.heap.size + 2) #[z0, z1, z2, z3] 47) ∧ (∃ c : Nat, Blk wr (w.heap.size + 3) #[.int .u64 c] 44) ∧
      Blk wr (w.heap.size + 4) (arr 8 (limb (prd x y k))) 72 ∧ wr.heap.size = w.heap.size + 5 ∧ Below w.heap.size w wr) (fun i _ => 4 - (intOf i).toNat)
  case atStart =>
    refine ⟨0, by omega, rfl, ?_, ?_, ⟨.int .u64 0, .int .u64 0, .int .u64 0, .int .u64 0, ?_⟩, ⟨0, ?_⟩, ?_, by simp, ?_⟩
    · exact ((((Blk.new w _ _).alloc _).alloc _).alloc _).alloc _
    · exact (((Blk.new' (w.alloc _) (w.heap.size + 1) (by simp) _ _).alloc _).alloc _).alloc _
    · exact ((Blk.new' ((w.alloc _).alloc _) (w.heap.size + 2) (by simp) _ _).alloc _).alloc _
    · exact (Blk.new' (((w.alloc _).alloc _).alloc _) (w.heap.size + 3) (by simp) _ _).alloc _
    · exact (Blk.new' ((((w.alloc _).alloc _).alloc _).alloc _) (w.heap.size + 4) (by simp) _ _).cast (by simp [arr, prd_zero, List.range_succ])
    · exact (((((Below.refl _ w).alloc (Nat.le_refl _) _).alloc (by simp) _).alloc (by simp; omega) _).alloc (by simp; omega) _).alloc (by simp; omega) _
  case round =>
    obtain ⟨k, hk, rfl, Bx, By, ⟨z0, z1, z2, z3, Bz⟩, ⟨c, Bc⟩, Bw, hsz, L⟩ := hrel
    by_cases hlt : k < 4
    · obtain ⟨cc, cf⟩ := Bc.rules
      have Hsz := hide hsz
      have HBx := hide Bx
      have HBy := hide By
      have HBz := hide Bz
      have HBc := hide Bc
      have HBw := hide Bw
      have HL := hide L
      clear Bx By Bz Bc Bw L hsz
      have hk0 : (0 : Int) ≤ (k : Int) := by omega
      have hk4 : (k : Int) < 4 := by omega
      go_wp2
      go_loopw [16] (fun i wr => ∃ j : Nat, j ≤ 4 ∧ i = .int .i64 j ∧ Blk wr w.heap.size (arr 4 (limb x)) 47 ∧ Blk wr (w.heap.size + 1) (arr 4 (limb y)) 47 ∧ (∃ z0 z1 z2 z3, Blk wr (w.heap.size + 2) #[z0, z1, z2, z3] 47) ∧ Blk wr (w.heap.size + 3) #[.int .u64 (cj x y k j : Nat)] 44 ∧
          Blk wr (w.heap.size + 4) (arr 8 (wj x y k j)) 72 ∧ wr.heap.size = w.heap.size + 5 ∧ Below w.heap.size w wr) (fun i _ => 4 - (intOf i).toNat)
      case atStart =>
        refine ⟨0, by omega, rfl, HBx.out.setOther _ _ (by omega), HBy.out.setOther _ _ (by omega), ⟨z0, z1, z2, z3, HBz.out.setOther _ _ (by omega)⟩, ?_, ?_, by simp [Hsz.out], HL.out.setCell (by simp; omega) _⟩
        · exact (HBc.out.set 0 _).cast (by rw [cj_zero]; simp)
        · exact (HBw.out.setOther _ _ (by omega)).cast (arr_congr _ _ _ fun i _ => (wj_zero x y k i).symm)
      case round =>
        clear cc cf HBx HBy HBz HBc HBw HL Hsz z0 z1 z2 z3
        obtain ⟨j, hj, rfl, Bx, By, ⟨z0, z1, z2, z3, Bz⟩, Bc, Bw, hsz, L⟩ := hrel
        by_cases hlj : j < 4
        · have cx := Bx.cell k
          rw [arr_get _ _ _ hlt] at cx
          have cy := By.cell j
          rw [arr_get _ _ _ hlj] at cy
          have cw := Bw.cell (k + j)
          rw [arr_get _ _ _ (by omega), wj_at] at cw
          have fw := Bw.frozen (k + j)
          have Hsz := hide hsz
          have HBx := hide Bx
          have HBy := hide By
          have HBz := hide Bz
          have HBc := hide Bc
          have HBw := hide Bw
          have HL := hide L
          clear Bx By Bz Bc Bw L hsz
          have hj0 : (0 : Int) ≤ (j : Int) := by omega
          have hj4 : (j : Int) < 4 := by omega
          have hkj0 : (0 : Int) ≤ (k : Int) + (j : Int) := by omega
          have hkj8 : (k : Int) + (j : Int) < 8 := by omega
          have hwr : IntKind.i64.wrap ((k : Int) + (j : Int)) = (k : Int) + (j : Int) := wrap_i64_small _ hkj0 (by omega)
          have hkj : ((k : Int) + (j : Int)).toNat = k + j := by omega
          go_wp2
          have Hs := hide (lowj x y k j)
          have Hd := hide (cj_succ x y k j)
          have fw2 : (wr.setCell ⟨w.heap.size + 3, 0, none⟩ (.int .u64 (cj x y k (j + 1) : Nat))).frozen? ⟨w.heap.size + 4, k + j, none⟩ = false := (HBw.out.setOther 0 (.int .u64 (cj x y k (j + 1) : Nat)) (show w.heap.size + 3 ≠ w.heap.size + 4 by omega)).frozen (k + j)
          go_region_with ((go_at_call 99; refine (halves_at (limb x k) (limb y j) (limb (prd x y k) (k + j)) (cj x y k j) (w.heap.size + 3) _ _ (by rfl) (limb_lt _ _) (limb_lt _ _) (limb_lt _ _) (cj_lt _ _ _ _) (by exact HBc.out.drew) _ _ Hs.out Hd.out).mono ?_; rintro e w' ⟨rfl, rfl⟩))
          all_goals
            go_wp2
            go_roundw
            case rel =>
              refine ⟨j + 1, by omega, by go_num, ((HBx.out.setOther _ _ (by omega)).setOther _ _ (by omega)).drew, ((HBy.out.setOther _ _ (by omega)).setOther _ _ (by omega)).drew, ⟨z0, z1, z2, z3, ((HBz.out.setOther _ _ (by omega)).setOther _ _ (by omega)).drew⟩, ?_, ?_, by simp [Hsz.out], ((HL.out.setCell (by show w.heap.size ≤ w.heap.size + 3; omega) _).setCell (by show w.heap.size ≤ w.heap.size + 4; omega) _).drew⟩
              · exact (((HBc.out.set 0 _).setOther _ _ (by omega)).drew).cast (by simp)
              · exact (((HBw.out.setOther _ _ (by omega)).set (k + j) _).drew).cast (by rw [arr_set]; exact arr_congr _ _ _ fun i _ => by rw [wj_succ, Hs.out])
            case measure => simp [intOf]; omega
        · have e4 : j = 4 := by omega
          subst e4
          obtain ⟨cc, cf⟩ := Bc.rules
          have fw := Bw.frozen (k + 4)
          have cw := Bw.cell (k + 4)
          rw [arr_get _ _ _ (by omega)] at cw
          have Hsz := hide hsz
          have HBx := hide Bx
          have HBy := hide By
          have HBz := hide Bz
          have HBc := hide Bc
          have HBw := hide Bw
          have HL := hide L
          clear Bx By Bz Bc Bw L hsz
          have hkj0 : (0 : Int) ≤ (k : Int) + 4 := by omega
          have hkj8 : (k : Int) + 4 < 8 := by omega
          have hwr : IntKind.i64.wrap ((k : Int) + 4) = (k : Int) + 4 := wrap_i64_small _ hkj0 (by omega)
          have hkj : ((k : Int) + 4).toNat = k + 4 := by omega
          go_wp2
          go_roundw
          case rel =>
            refine ⟨k + 1, by omega, by go_num, HBx.out.setOther _ _ (by omega), HBy.out.setOther _ _ (by omega), ⟨z0, z1, z2, z3, HBz.out.setOther _ _ (by omega)⟩, ⟨_, HBc.out.setOther _ _ (by omega)⟩, ?_, by simp [Hsz.out], HL.out.setCell (by simp; omega) _⟩
            exact (HBw.out.set (k + 4) _).cast (by rw [arr_set]; exact arr_congr _ _ _ fun i _ => wide_next x y k i Hy.out)
          case measure => simp [intOf]; omega
    · have e4 : k = 4 := by omega
      subst e4
      rw [show ((4 : Nat) : Int) = 4 from rfl]
      obtain ⟨cc, cf⟩ := Bc.rules
      have Hsz := hide hsz
      have HBz := hide Bz
      have HBc := hide Bc
      have HBw0 := hide (Bw.cast (by rw [prd_four x y Hx.out]))
      have HL := hide L
      clear Bx By Bz Bc Bw L
      go_wp2
      obtain ⟨n, hn⟩ : ∃ n, n = x * y := ⟨_, rfl⟩
      have Hn : Hid (n < 2 ^ 256 * 2 ^ 256) := hide (by rw [hn]; exact prod_lt x y Hx.out Hy.out)
      have HBw := hide (HBw0.out.cast (by rw [← hn]))
      have HN := hide hn
      clear hn HBw0
      go_loopw [44] (fun i wr => ∃ k : Nat, k ≤ 4 ∧ i = .int .i64 k ∧ (∃ z0 z1 z2 z3, Blk wr (w.heap.size + 2) #[z0, z1, z2, z3] 47) ∧ Blk wr (w.heap.size + 3) #[.int .u64 (fc n k : Nat)] 44 ∧
          Blk wr (w.heap.size + 4) (arr 8 (limb n)) 72 ∧ Blk wr (w.heap.size + 5) (arr 4 (fun j => if j < k then limb (fo n) j else 0)) 45 ∧ Below w.heap.size w wr) (fun i _ => 4 - (intOf i).toNat)
      case atStart =>
        refine ⟨0, by omega, rfl, ⟨z0, z1, z2, z3, (HBz.out.setOther _ _ (by omega)).alloc _⟩, ?_, (HBw.out.setOther _ _ (by omega)).alloc _, ?_, (HL.out.setCell (by show w.heap.size ≤ w.heap.size + 3; omega) _).alloc (by simp [Hsz.out]) _⟩
        · exact ((HBc.out.set 0 _).alloc _).cast (by rw [fc_zero]; simp)
        · exact (Blk.new' _ (w.heap.size + 5) (by simp [Hsz.out]) _ _).cast (by simp [arr, List.range_succ])
      case round =>
        clear cc cf HBz HBc HBw HL Hsz hsz z0 z1 z2 z3
        obtain ⟨k, hk', rfl, ⟨z0, z1, z2, z3, Bz⟩, Bc, Bw, Bl, L⟩ := hrel
        by_cases hlt : k < 4
        · have cw := Bw.cell k
          rw [arr_get _ _ _ (by omega)] at cw
          have cw4 := Bw.cell (k + 4)
          rw [arr_get _ _ _ (by omega)] at cw4
          have cl := Bl.cell k
          rw [arr_get _ _ _ hlt] at cl
          have fl := Bl.frozen k
          have HBz := hide Bz
          have HBc := hide Bc
          have HBw := hide Bw
          have HBl := hide Bl
          have HL := hide L
          clear Bz Bc Bw Bl L
          have hk0 : (0 : Int) ≤ (k : Int) := by omega
          have hk4 : (k : Int) < 4 := by omega
          have hkj0 : (0 : Int) ≤ (k : Int) + 4 := by omega
          have hkj8 : (k : Int) + 4 < 8 := by omega
          have hk8 : (k : Int) < 8 := by omega
          have hwr : IntKind.i64.wrap ((k : Int) + 4) = (k : Int) + 4 := wrap_i64_small _ hkj0 (by omega)
          have hkj : ((k : Int) + 4).toNat = k + 4 := by omega
          have Hs := hide (fo_low n k hlt)
          have Hd := hide (fc_succ n k)
          have Hc := hide (show fc n k < 2 ^ 64 by have := fc_lt n k; omega)
          go_wp2
          go_region_with ((go_at_call 99; refine (halves_at (limb n (k + 4)) 38 (limb n k) (fc n k) (w.heap.size + 3) _ _ (by rfl) (limb_lt _ _) (by omega) (limb_lt _ _) Hc.out (by exact HBc.out.drew) _ _ Hs.out Hd.out).mono ?_; rintro e w' ⟨rfl, rfl⟩))
          all_goals
            go_wp2
            go_roundw
            case rel =>
              refine ⟨k + 1, by omega, by go_num, ⟨z0, z1, z2, z3, ((HBz.out.setOther _ _ (by omega)).setOther _ _ (by omega)).drew⟩, ?_, ((HBw.out.setOther _ _ (by omega)).setOther _ _ (by omega)).drew, ?_, ((HL.out.setCell (by show w.heap.size ≤ w.heap.size + 3; omega) _).setCell (by show w.heap.size ≤ w.heap.size + 5; omega) _).drew⟩
              · exact (((HBc.out.set 0 _).setOther _ _ (by omega)).drew).cast (by simp)
              · exact (upd_next (fun _ => 0) (limb (fo n)) k _ _ _ (HBl.out.setOther _ _ (by omega))).drew
            case measure => simp [intOf]; omega
        · have e4 : k = 4 := by omega
          subst e4
          have Bl' := Bl.cast (arr_congr 4 _ (limb (fo n)) fun j hj => by simp [hj])
          rw [arr4] at Bl'
          obtain ⟨c1, f1⟩ := Bl'.rules
          obtain ⟨c2, f2⟩ := Bc.rules
          have HBz := hide Bz
          have HL := hide L
          clear Bz Bc Bw Bl L Bl' hlt
          go_wp2_with fail
          have hv : fc n 4 < 2 ^ 58 := by have := fc_lt n 4; omega
          refine (settle_at (fo n % 2 ^ 256) (fc n 4) _ _ (by rw [fe_mod, fe_def]) (Nat.mod_lt _ (by omega)) hv).mono ?_
          rw [fc_four n Hn.out, fo_split, show fo n % pP = n % pP from fo_val n, HN.out]
          rintro e w1 ⟨rfl, hb1⟩
          have E1 := HBz.out.call hb1
          have L1 : Below w.heap.size w w1 := HL.out.trans (hb1.mono HL.out.size)
          obtain ⟨c3, f3⟩ := E1.rules
          obtain ⟨r1, r2, r3, r4⟩ := E1.writes
          rw [fe_def]
          have HL1 := hide L1
          have hz := hb1.size
          clear E1 L1 hb1 hv
          dsimp only
          go_wp2
          refine bodyPost_ret (v := fe (x * y % pP)) (by simp [results, Tryz.results55, go_sem, r3, fe_def]) rfl ⟨rfl, ?_⟩
          exact Below.row HL1.out (by omega) _

theorem mul_at (x y : Nat) (args : Array Value) (w : World) (h : args = #[fe x, fe y]) (hx : x < pP) (hy : y < pP) :
    Calls Tryz.prog 55 args w fun e w' => e = .returned (fe ((x * y) % pP)) ∧ Below w.heap.size w w' := by
  subst h; exact mul_any x y w hx hy

set_option maxHeartbeats 400000 in
theorem square_any (x : Nat) (w : World) (hx : x < pP) :
    Calls Tryz.prog 50 #[fe x] w fun e w' => e = .returned (fe ((x * x) % pP)) ∧ Below w.heap.size w w' := by
  rw [fe_def x]
  go_enter Tryz.func50, Tryz.ntmps50
  go_wp2_with fail
  refine (mul_at x x _ _ (by rw [fe_def x]) hx hx).mono ?_
  rintro e w1 ⟨rfl, hb1⟩
  have E1 := (Blk.new' (w.alloc _) (w.heap.size + 1) (by simp) _ _).call hb1
  have L1 : Below w.heap.size w w1 := (((Below.refl _ w).alloc (Nat.le_refl _) _).alloc (by simp) _).trans (hb1.mono (by simp; omega))
  obtain ⟨c2, f2⟩ := E1.rules
  obtain ⟨r1, r2, r3, r4⟩ := E1.writes
  rw [fe_def]
  have HL1 := hide L1
  have hz := hb1.size
  clear E1 L1 hb1
  dsimp only
  go_wp2
  refine bodyPost_ret (v := fe ((x * x) % pP)) (by simp [results, Tryz.results50, go_sem, r3, fe_def]) rfl ⟨rfl, ?_⟩
  exact Below.row HL1.out (by omega) _

end Go.Proofs.YtbpmakegimgbpaaGreatDoor.F

/- Walks: spread. -/
import Derived.Test.YtjnjedannpnjiaaDoorCc
import Derived.Deep.QuietTactic
import Derived.BigQuiet
import Derived.Deep.MidRow
namespace Go.Proofs.YtjnjedannpnjiaaDoor
open Go.RowKit

theorem cells36 : (Tryd.prog.info? 52).map (·.size) = some 80 := by kernel_rfl
theorem cells29 : (Tryd.prog.info? 37).map (·.size) = some 128 := by kernel_rfl
theorem cells28 : (Tryd.prog.info? 45).map (·.size) = some 8 := by kernel_rfl
theorem cells24 : (Tryd.prog.info? 27).map (·.size) = some 64 := by kernel_rfl
theorem cells31 : (Tryd.prog.info? 47).map (·.size) = some 137 := by kernel_rfl
theorem cells50 : (Tryd.prog.info? 55).map (·.size) = some 144 := by kernel_rfl
theorem zero36 (w : World) : (zeroValue 52).run Tryd.prog w = .ok (.agg (arr 80 (fun _ => 0))) w := by kernel_rfl
theorem arr_one (n : Nat) (f : Nat → Nat) : (arr n f).all (·.oneCell') = true := vals_one .u64 n f
theorem i64_sub (k c : Nat) (h : c ≤ k) (hk : k < 1000) : IntKind.i64.wrap ((k : Int) - (c : Int)) = ((k - c : Nat) : Int) := by
  rw [wrap_i64_small' _ (by omega) (by omega)]; omega
def spd (f : Nat → Nat) (k j : Nat) : Nat := if j < k then wt f j else 0
theorem xor_nat (a b c : Nat) (h : c = a ^^^ b) (ha : a < 2 ^ 64) (hb : b < 2 ^ 64) : bits .xor .u64 (a : Int) (b : Int) = (c : Int) := by
  subst h; exact u64_xor_nat a b ha hb
theorem add_nat (a b c : Nat) (h : c = (a + b) % 2 ^ 64) : IntKind.u64.wrap ((a : Int) + (b : Int)) = (c : Int) := by
  subst h; rw [wrap_u64']; omega

theorem sched_int (a b c d : Nat) (hc : c < 2 ^ 64) (hd : d < 2 ^ 64) :
    IntKind.u64.wrap (IntKind.u64.wrap (IntKind.u64.wrap ((a : Int) + (b : Int)) + bits .xor .u64 (bits .xor .u64 (rotr c 1 : Nat) (rotr c 8 : Nat)) ((c : Int) / 128)) + bits .xor .u64 (bits .xor .u64 (rotr d 19 : Nat) (rotr d 61 : Nat)) ((d : Int) / 64)) = (((a + b + sg0 c + sg1 d) % 2 ^ 64 : Nat) : Int) := by
  have h1 := rotr_lt c 1 hc
  have h2 := rotr_lt c 8 hc
  have h3 := rotr_lt d 19 hd
  have h4 := rotr_lt d 61 hd
  have h5 : rotr c 1 ^^^ rotr c 8 < 2 ^ 64 := Nat.xor_lt_two_pow h1 h2
  have h6 : rotr d 19 ^^^ rotr d 61 < 2 ^ 64 := Nat.xor_lt_two_pow h3 h4
  rw [u64_xor_nat _ _ (by omega) (by omega), u64_xor_nat _ _ (by omega) (by omega), show (c : Int) / 128 = ((c / 2 ^ 7 : Nat) : Int) by omega, show (d : Int) / 64 = ((d / 2 ^ 6 : Nat) : Int) by omega,
    u64_xor_nat _ _ (by omega) (by omega), u64_xor_nat _ _ (by omega) (by omega)]
  show _ = (((a + b + (rotr c 1 ^^^ rotr c 8 ^^^ c / 2 ^ 7) + (rotr d 19 ^^^ rotr d 61 ^^^ d / 2 ^ 6)) % 2 ^ 64 : Nat) : Int)
  generalize rotr c 1 ^^^ rotr c 8 ^^^ c / 2 ^ 7 = p
  generalize rotr d 19 ^^^ rotr d 61 ^^^ d / 2 ^ 6 = q
  simp only [wrap_u64']
  omega
theorem cell_ne (w : World) (b i j : Nat) (v : Value) (h : ¬ i = j) : (w.setCell ⟨b, i, none⟩ v).drew.cell? ⟨b, j, none⟩ = w.cell? ⟨b, j, none⟩ :=
  World.cell?_setCell_other w _ _ v (fun e => h (by injection e))

set_option maxHeartbeats 1000000 in
theorem spread_any (f : Nat → Nat) (w : World) (hf : ∀ i, f i < 256) :
    Calls Tryd.prog 31 #[.agg (vals .u8 128 f)] w fun e w' => e = .returned (.agg (arr 80 (wt f))) ∧ Below w.heap.size w w' := by
  have Hf := hide hf
  clear hf
  have hz := zero36
  go_enter Tryd.func31, Tryd.ntmps31
  go_wp2
  have B0 : Blk (((w.alloc (.cells (vals .u8 128 f) 37)).alloc (.cells (arr 80 (fun _ => 0)) 52)).alloc (.cells (arr 80 (fun _ => 0)) 52)) w.heap.size (vals .u8 128 f) 37 := ((Blk.new w _ _).alloc _).alloc _
  have B1 : Blk (((w.alloc (.cells (vals .u8 128 f) 37)).alloc (.cells (arr 80 (fun _ => 0)) 52)).alloc (.cells (arr 80 (fun _ => 0)) 52)) (w.heap.size + 1) (arr 80 (fun _ => 0)) 52 := (Blk.new' (w.alloc _) (w.heap.size + 1) (by simp) _ _).alloc _
  have B2 : Blk (((w.alloc (.cells (vals .u8 128 f) 37)).alloc (.cells (arr 80 (fun _ => 0)) 52)).alloc (.cells (arr 80 (fun _ => 0)) 52)) (w.heap.size + 1 + 1) (arr 80 (fun _ => 0)) 52 := Blk.new' ((w.alloc _).alloc _) (w.heap.size + 1 + 1) (by simp) _ _
  have L0 : Below w.heap.size w (((w.alloc (.cells (vals .u8 128 f) 37)).alloc (.cells (arr 80 (fun _ => 0)) 52)).alloc (.cells (arr 80 (fun _ => 0)) 52)) := (((Below.refl _ w).alloc (Nat.le_refl _) _).alloc (by simp) _).alloc (by simp; omega) _
  generalize (((w.alloc (.cells (vals .u8 128 f) 37)).alloc (.cells (arr 80 (fun _ => 0)) 52)).alloc (.cells (arr 80 (fun _ => 0)) 52)) = w1 at *
  clear hz
  refine wp_region_held_drew (S := fun w' => Blk w' w.heap.size (vals .u8 128 f) 37) (by kernel_rfl) B0.drew (fun hHeld => ?_)
  refine wpAnyH_take (i := 0) (oi := { dst := some 7, op := Op.slice 52 (Operand.tmp 3) (some (Operand.const (Value.int IntKind.i64 0))) (some (Operand.const (Value.int IntKind.i64 16))) (some (Operand.const (Value.int IntKind.i64 16))), type := 63, pos := "sha.go:115", after := #[], guard := none }) (v := .slice (some ⟨w.heap.size + 1 + 1, 0, none⟩) 16 16) rfl (by kernel_rfl) (by kernel_rfl) (by kernel_rfl) (fun _ _ _ h => h) (Or.inl ⟨by rfl, fun w hSw => by go_simp⟩) hHeld ?_
  try simp only [Act.put, List.setIfInBounds_toArray, List.set_cons_zero, List.set_cons_succ]
  refine wpAnyH_take (i := 1) (oi := { dst := some 8, op := Op.load 37 (Operand.tmp 1), type := 37, pos := "sha.go:115", after := #[], guard := none }) (v := .agg (vals .u8 128 f)) rfl (by kernel_rfl) (by kernel_rfl) (by kernel_rfl) (fun _ _ _ h => h) (yields_S (fun _ h => h) (by rfl) 37 _ rfl rfl _ Tryd.underlying37 rfl (by rw [vals_size]; exact cells29)) hHeld ?_
  try simp only [Act.put, List.setIfInBounds_toArray, List.set_cons_zero, List.set_cons_succ]
  refine wpAnyH_ready (rs := [2]) (by kernel_rfl) (by simp) ?_
  refine AllReadyH.cons (o := { dst := some 9, op := Op.call { callee := Callee.value (Operand.func 35), args := #[Operand.tmp 7, Operand.tmp 8], argTypes := #[63, 37] }, type := 0, pos := "sha.go:115", after := #[{ on := 0, ground := Ground.data }, { on := 1, ground := Ground.data }], guard := none }) rfl (fun K hK => ?_) AllReadyH.nil
  go_simp
  refine (read_any (w.heap.size + 1 + 1) f _ B2.drew Hf.out).mono ?_
  rintro e w2 ⟨rfl, B2', S2⟩
  dsimp only
  refine hK.out _ _ (S2.other _ _ _ (by omega) hHeld) (fun hHeld => ?_)
  clear hK K
  try simp only [Act.put, List.setIfInBounds_toArray, List.set_cons_zero, List.set_cons_succ]
  refine wpAnyH_done (by kernel_rfl) ?_ _
  have B1' := S2.other _ _ _ (by omega) B1.drew
  have L1 := S2.low _ _ L0.drew (by omega)
  clear B0 B1 B2 L0 S2 hHeld
  go_wp2
  go_loopw [4] (fun i wr => ∃ k : Nat, 16 ≤ k ∧ k ≤ 80 ∧ i = .int .i64 k ∧ Blk wr (w.heap.size + 1 + 1) (arr 80 (spd f k)) 52 ∧ Blk wr (w.heap.size + 1) (arr 80 (fun _ => 0)) 52 ∧ Below w.heap.size w wr) (fun i _ => 80 - (intOf i).toNat)
  case atStart => exact ⟨16, by omega, by omega, rfl, B2', B1', L1⟩
  case round =>
    clear B2' B1' L1
    obtain ⟨k, hk, hk2, rfl, B1, B2, L1⟩ := hrel
    by_cases hlt : k < 80
    · have c15 := B1.cell (k - 15)
      rw [arr_get _ _ _ (by omega), spd, if_pos (by omega)] at c15
      have c2 := B1.cell (k - 2)
      rw [arr_get _ _ _ (by omega), spd, if_pos (by omega)] at c2
      have c16 := B1.cell (k - 16)
      rw [arr_get _ _ _ (by omega), spd, if_pos (by omega)] at c16
      have c7 := B1.cell (k - 7)
      rw [arr_get _ _ _ (by omega), spd, if_pos (by omega)] at c7
      have cc := B1.cell k
      rw [arr_get _ _ _ hlt] at cc
      have fc := B1.frozen k
      have HB1 := hide B1
      have HB2 := hide B2
      have HL1 := hide L1
      clear B1 B2 L1
      have hk0 : (0 : Int) ≤ (k : Int) := by omega
      have hk8 : (k : Int) < 80 := by omega
      have s15 : IntKind.i64.wrap ((k : Int) - 15) = ((k - 15 : Nat) : Int) := i64_sub k 15 (by omega) (by omega)
      have s2 : IntKind.i64.wrap ((k : Int) - 2) = ((k - 2 : Nat) : Int) := i64_sub k 2 (by omega) (by omega)
      have s16 : IntKind.i64.wrap ((k : Int) - 16) = ((k - 16 : Nat) : Int) := i64_sub k 16 (by omega) (by omega)
      have s7 : IntKind.i64.wrap ((k : Int) - 7) = ((k - 7 : Nat) : Int) := i64_sub k 7 (by omega) (by omega)
      have b15 : ((k - 15 : Nat) : Int) < 80 := by omega
      have b2 : ((k - 2 : Nat) : Int) < 80 := by omega
      have b16 : ((k - 16 : Nat) : Int) < 80 := by omega
      have b7 : ((k - 7 : Nat) : Int) < 80 := by omega
      have Hn := hide (wt_next f k hk)
      have H15 := hide (wt_lt f Hf.out (k - 15))
      have H2 := hide (wt_lt f Hf.out (k - 2))
      obtain ⟨x15, e15⟩ : ∃ x, x = wt f (k - 15) := ⟨_, rfl⟩
      obtain ⟨x2, e2⟩ : ∃ x, x = wt f (k - 2) := ⟨_, rfl⟩
      obtain ⟨x16, e16⟩ : ∃ x, x = wt f (k - 16) := ⟨_, rfl⟩
      obtain ⟨x7, e7⟩ : ∃ x, x = wt f (k - 7) := ⟨_, rfl⟩
      rw [← e15] at c15 Hn H15
      rw [← e2] at c2 Hn H2
      rw [← e16] at c16 Hn
      rw [← e7] at c7 Hn
      clear e15 e2 e16 e7
      go_wp2
      go_quiet (fail)
      go_wp2
      clear c15 c2
      have HB1' : Hid (Blk (wr.drewN nq) (w.heap.size + 1 + 1) (arr 80 (spd f k)) 52) := HB1
      have HB2' : Hid (Blk (wr.drewN nq) (w.heap.size + 1) (arr 80 (fun _ => 0)) 52) := HB2
      have HL1' : Hid (Below w.heap.size w (wr.drewN nq)) := ⟨HL1.out.os, HL1.out.tape, HL1.out.output, HL1.out.size, HL1.out.block⟩
      have c16' : (wr.drewN nq).cell? ⟨w.heap.size + 1 + 1, k - 16, none⟩ = some (.int .u64 x16) := c16
      have c7' : (wr.drewN nq).cell? ⟨w.heap.size + 1 + 1, k - 7, none⟩ = some (.int .u64 x7) := c7
      have cc' : (wr.drewN nq).cell? ⟨w.heap.size + 1 + 1, k, none⟩ = some (.int .u64 (spd f k k : Nat)) := cc
      have fc' : (wr.drewN nq).frozen? ⟨w.heap.size + 1 + 1, k, none⟩ = false := fc
      clear HB1 HB2 HL1 c16 c7 cc fc
      generalize wr.drewN nq = wq at *
      have n16 : ¬ (k : Nat) = k - 16 := by omega
      have n7 : ¬ (k : Nat) = k - 7 := by omega
      have Hk16 := hide (fun v => cell_ne wq (w.heap.size + 1 + 1) k (k - 16) v n16)
      have Hk7 := hide (fun v => cell_ne wq (w.heap.size + 1 + 1) k (k - 7) v n7)
      have Hsc := hide (sched_int x16 x7 x15 x2 H15.out H2.out)
      go_region_held3 (fun w' => w'.cell? ⟨w.heap.size + 1 + 1, k - 16, none⟩ = some (.int .u64 x16) ∧ w'.cell? ⟨w.heap.size + 1 + 1, k - 7, none⟩ = some (.int .u64 x7)) (first | exact ⟨c16', c7'⟩ | exact ⟨(Hk16.out _).trans c16', (Hk7.out _).trans c7'⟩) (first
        | (go_at_call_of 32 (Value.int IntKind.i64 1); refine (right_at x15 1 _ _ (by rfl) H15.out (by omega) (by omega)).mono ?_; rintro e w1' ⟨rfl, rfl⟩)
        | (go_at_call_of 32 (Value.int IntKind.i64 8); refine (right_at x15 8 _ _ (by rfl) H15.out (by omega) (by omega)).mono ?_; rintro e w1' ⟨rfl, rfl⟩)
        | (go_at_call_of 32 (Value.int IntKind.i64 19); refine (right_at x2 19 _ _ (by rfl) H2.out (by omega) (by omega)).mono ?_; rintro e w1' ⟨rfl, rfl⟩)
        | (go_at_call_of 32 (Value.int IntKind.i64 61); refine (right_at x2 61 _ _ (by rfl) H2.out (by omega) (by omega)).mono ?_; rintro e w1' ⟨rfl, rfl⟩))
      go_wp2
      rw [Hsc.out, ← Hn.out]
      go_roundw
      case rel =>
        refine ⟨k + 1, by omega, by omega, by go_num, ((HB1'.out.set k _).drew).cast ?_, (HB2'.out.setOther _ _ (by omega)).drew, (HL1'.out.setCell (by show w.heap.size ≤ w.heap.size + 1 + 1; omega) _).drew⟩
        rw [arr_set]
        refine arr_congr _ _ _ fun j _ => ?_
        unfold spd
        by_cases h1 : j = k
        · subst h1; simp
        · by_cases h2 : j < k
          · simp [h1, h2, show j < k + 1 by omega]
          · simp [h1, h2, show ¬ j < k + 1 by omega]
      case measure => simp [intOf]; omega
    · have e4 : k = 80 := by omega
      subst e4
      have HB1 := hide (B1.cast (arr_congr 80 _ (wt f) fun j hj => by simp [spd, hj]))
      have HB2 := hide B2
      have HL := hide L1
      clear B1 B2 L1
      go_wp2_with (first
        | (refine wpList_load_row rfl 52 _ rfl (w.heap.size + 1 + 1) rfl 52 _ (0, 0) _ HB1.out Tryd.underlying52 rfl (by rw [arr_size]; exact cells36) ?_)
        | (refine wpList_store_row rfl 52 _ _ rfl (w.heap.size + 1) (arr 80 (wt f)) rfl rfl 52 _ HB2.out (by rw [arr_size]; exact cells36) (by rw [arr_size, arr_size]) (arr_one _ _) ?_))
      refine bodyPost_ret (v := .agg (arr 80 (wt f))) (results_cell_row Tryd.results31 _ _ (w.heap.size + 1) 52 _ (0, 0) _ rfl (HB2.out.row _) Tryd.underlying52 rfl (by rw [arr_size]; exact cells36)) rfl ⟨rfl, ?_⟩
      exact Below.row HL.out (by omega) _
theorem spread_at (f : Nat → Nat) (args : Array Value) (w : World) (h : args = #[.agg (vals .u8 128 f)]) (hf : ∀ i, f i < 256) :
    Calls Tryd.prog 31 args w fun e w' => e = .returned (.agg (arr 80 (wt f))) ∧ Below w.heap.size w w' := by
  subst h; exact spread_any f w hf
end Go.Proofs.YtjnjedannpnjiaaDoor

/- Walks of the reference: Reduce, Fine, MulAdd. -/
import Derived.Test.YtokhmhodkakioaaDoorRc
namespace Go.Proofs.YtokhmhodkakioaaDoor
open Go.RowKit

theorem vals_nb (f : Nat → Nat) (hf : ∀ i, f i < 256) : vals .u8 32 f = vals .u8 32 (byt (nb f 32)) := vals_congr _ _ _ _ fun i hi => (byt_nb f hf 32 i hi).symm
set_option maxHeartbeats 1000000 in
theorem rReduce_any (f : Nat → Nat) (w : World) (hf : ∀ i, f i < 256) :
    Calls Tryd.prog 9 #[bb f] w fun e w' => e = .returned (ba (byt (nb f 64 % qL))) ∧ Below w.heap.size w w' := by
  have Hf := hide hf
  clear hf
  unfold bb
  have F0 := hide ((Blk.new w (vals .u8 64 f) 22).alloc (.cells (vals .u8 32 (fun _ => 0)) 23))
  have HZ := hide (Blk.new' (w.alloc (.cells (vals .u8 64 f) 22)) (w.heap.size + 1) (by simp) (vals .u8 32 (fun _ => 0)) 23)
  have L0 : Hid (Below w.heap.size w ((w.alloc (.cells (vals .u8 64 f) 22)).alloc (.cells (vals .u8 32 (fun _ => 0)) 23))) := hide (((Below.refl _ w).alloc (Nat.le_refl _) _).alloc (by simp) _)
  go_enter Tryd.func9, Tryd.ntmps9
  go_wp2_with (first
    | (go_at_call 19; refine (rMod_at 64 w.heap.size f 22 _ _ rfl F0.out Hf.out (by omega)).mono ?_; unfold ba; rintro e w1 ⟨rfl, hb1⟩; have HZ1 := hide (HZ.out.call hb1); have HL1 := hide (L0.out.trans (hb1.mono L0.out.size)); clear hb1; dsimp only)
    | (refine wpList_store_row rfl 23 _ _ rfl (w.heap.size + 1) (vals .u8 32 (byt (nb f 64 % qL))) rfl rfl 23 _ HZ1.out (by rw [vals_size]; exact cells23) (by rw [vals_size, vals_size]) (vals_one _ _ _) ?_))
  refine bodyPost_ret (v := .agg (vals .u8 32 (byt (nb f 64 % qL)))) (results_cell_row Tryd.results9 _ _ (w.heap.size + 1) 23 _ (0, 0) _ rfl (HZ1.out.row _) Tryd.underlying23 rfl (by rw [vals_size]; exact cells23)) rfl ⟨rfl, ?_⟩
  exact Below.row HL1.out (by omega) _
theorem rReduce_n (f : Nat → Nat) (n : Nat) (args : Array Value) (w : World) (h : args = #[bb f]) (hf : ∀ i, f i < 256) (hn : nb f 64 % qL = n) :
    Calls Tryd.prog 9 args w fun e w' => e = .returned (ba (byt n)) ∧ Below w.heap.size w w' := by subst h hn; exact rReduce_any f w hf

set_option maxRecDepth 100000 in
set_option maxHeartbeats 1000000 in
theorem rFine_any (f : Nat → Nat) (w : World) (hf : ∀ i, f i < 256) :
    Calls Tryd.prog 13 #[ba f] w fun e w' => e = .returned (.bool (decide (nb f 32 < qL))) ∧ Below w.heap.size w w' := by
  have Ha := hide (nb_lt f hf 32)
  unfold ba
  rw [vals_nb f hf]
  clear hf
  obtain ⟨a, ha⟩ : ∃ a, a = nb f 32 := ⟨_, rfl⟩
  rw [← ha] at Ha
  rw [← ha]
  clear ha
  have F0 := hide (Blk.new w (vals .u8 32 (byt a)) 23)
  have L0 := hide ((Below.refl w.heap.size w).alloc (Nat.le_refl _) (.cells (vals .u8 32 (byt a)) 23))
  go_enter Tryd.func13, Tryd.ntmps13
  go_upto_region 1 with (fail)
  obtain ⟨x0, hx0⟩ : ∃ x0, x0 = w.alloc (.cells (vals .u8 32 (byt a)) 23) := ⟨_, rfl⟩
  rw [← hx0]
  rw [← hx0] at F0 L0
  clear hx0
  refine wp_region_held_drew (S := fun w' => Below x0.heap.size x0 w') (by kernel_rfl) (Below.refl _ _).drew (fun hHeld => ?_)
  refine wpAnyH_take (i := 0) (oi := { dst := some 3, op := Op.load 23 (Operand.tmp 1), type := 23, pos := "ref.go:20", after := #[], guard := none }) (v := .agg (vals .u8 32 (byt a))) rfl (by kernel_rfl) (by kernel_rfl) (by kernel_rfl) (fun _ _ _ h => h) (yields_blk F0.out (by rfl) 23 _ rfl rfl _ Tryd.underlying23 rfl (by rw [vals_size]; exact cells23)) hHeld ?_
  try simp only [Act.put, List.setIfInBounds_toArray, List.set_cons_zero, List.set_cons_succ]
  refine wpAnyH_ready (rs := [1]) (by kernel_rfl) (by simp) ?_
  refine AllReadyH.cons (o := { dst := some 4, op := Op.call { callee := Callee.value (Operand.func 15), args := #[], argTypes := #[] }, type := 23, pos := "ref.go:20", after := #[], guard := none }) rfl (fun K hK => ?_) AllReadyH.nil
  go_simp
  refine (rOrder_at _ _ (by rfl)).mono ?_
  unfold ba
  rintro e x1 ⟨rfl, hb⟩
  have HTx1 := hide (hHeld.trans (hb.mono hHeld.size))
  dsimp only
  refine hK.out _ _ HTx1.out (fun hHeld => ?_)
  clear hK K hb
  try simp only [Act.put, List.setIfInBounds_toArray, List.set_cons_zero, List.set_cons_succ]
  refine wpAnyH_ready (rs := [2]) (by kernel_rfl) (by simp) ?_
  refine AllReadyH.cons (o := { dst := some 5, op := Op.call { callee := Callee.value (Operand.func 23), args := #[Operand.tmp 3, Operand.tmp 4], argTypes := #[23, 23] }, type := 4, pos := "ref.go:20", after := #[{ on := 0, ground := Ground.data }, { on := 1, ground := Ground.data }, { on := 1, ground := Ground.chain }], guard := none }) rfl (fun K hK => ?_) AllReadyH.nil
  go_simp
  refine (rBelow_at a qL (decide (a < qL)) _ _ (by rfl) Ha.out qL_lt256 rfl).mono ?_
  rintro e x2 ⟨rfl, hb⟩
  have HTx2 := hide (hHeld.trans (hb.mono hHeld.size))
  dsimp only
  refine hK.out _ _ HTx2.out (fun hHeld => ?_)
  clear hK K hb
  try simp only [Act.put, List.setIfInBounds_toArray, List.set_cons_zero, List.set_cons_succ]
  refine wpAnyH_take (i := 3) (oi := { dst := some 2, op := Op.assign (Operand.tmp 5), type := 4, pos := "ref.go:20", after := #[{ on := 2, ground := Ground.data }, { on := 2, ground := Ground.chain }, { on := 0, ground := Ground.phase }, { on := 1, ground := Ground.phase }, { on := 2, ground := Ground.phase }], guard := none }) (v := .bool (decide (a < qL))) rfl (by kernel_rfl) (by kernel_rfl) (by kernel_rfl) (fun _ _ _ h => h) (Or.inl ⟨by rfl, fun w hSw => by go_simp⟩) hHeld ?_
  try simp only [Act.put, List.setIfInBounds_toArray, List.set_cons_zero, List.set_cons_succ]
  refine wpAnyH_done (by kernel_rfl) ?_ _
  go_wp2
  go_ret
  exact ⟨rfl, L0.out.trans (HTx2.out.mono L0.out.size)⟩
theorem rFine_n (f : Nat → Nat) (b : Bool) (args : Array Value) (w : World) (h : args = #[ba f]) (hf : ∀ i, f i < 256) (hb : decide (nb f 32 < qL) = b) :
    Calls Tryd.prog 13 args w fun e w' => e = .returned (.bool b) ∧ Below w.heap.size w w' := by subst h hb; exact rFine_any f w hf

/-- Below 2^512, by a name that no rule opens. -/
def Lt512 (V : Nat) : Prop := V < 2 ^ 256 * 2 ^ 256
theorem zero46 (w : World) : (zeroValue 46).run Tryd.prog w = .ok (.agg (vals .i64 65 (fun _ => 0))) w := by kernel_rfl
theorem zero47 (w : World) : (zeroValue 47).run Tryd.prog w = .ok (.agg (vals .u8 65 (fun _ => 0))) w := by kernel_rfl
theorem wrap_i64_big (n : Int) (h0 : 0 ≤ n) (h1 : n < 9223372036854775808) : IntKind.i64.wrap n = n := by
  simp [IntKind.wrap, IntKind.bits, IntKind.signed]; omega
theorem nb_full' (V n a b : Nat) (h : V < 2 ^ a * 2 ^ b) (hn : a + b ≤ 8 * n) : nb (byt V) n = V := by
  rw [nb_byt, Nat.mod_eq_of_lt]
  refine Nat.lt_of_lt_of_le h ?_
  rw [← Nat.pow_add]
  exact Nat.pow_le_pow_right (by omega) hn
theorem nb_full (V : Nat) (h : V < 2 ^ 256 * 2 ^ 256) : nb (byt V) 65 = V := nb_full' V 65 256 256 h (by omega)
set_option maxRecDepth 100000 in
set_option maxHeartbeats 2000000 in
theorem rMulAdd_any (f g h : Nat → Nat) (w : World) (hf : ∀ i, f i < 256) (hg : ∀ i, g i < 256) (hh : ∀ i, h i < 256) :
    Calls Tryd.prog 11 #[ba f, ba g, ba h] w fun e w' => e = .returned (ba (byt ((nb f 32 * nb g 32 + nb h 32) % qL))) ∧ Below w.heap.size w w' := by
  have Ha := hide (nb_lt f hf 32)
  have Hb := hide (nb_lt g hg 32)
  have Hc := hide (nb_lt h hh 32)
  unfold ba
  rw [vals_nb f hf, vals_nb g hg, vals_nb h hh]
  clear hf hg hh
  obtain ⟨a, ha⟩ : ∃ a, a = nb f 32 := ⟨_, rfl⟩
  obtain ⟨b, hb⟩ : ∃ b, b = nb g 32 := ⟨_, rfl⟩
  obtain ⟨c, hc⟩ : ∃ c, c = nb h 32 := ⟨_, rfl⟩
  rw [← ha] at Ha
  rw [← hb] at Hb
  rw [← hc] at Hc
  rw [← ha, ← hb, ← hc]
  clear ha hb hc
  have hz46 := zero46
  have hz47 := zero47
  go_enter Tryd.func11, Tryd.ntmps11
  go_wp2_with (first
    | (refine wpList_build rfl 46 #[] rfl (by simp [built46]) ?_; simp only [List.map_toArray, List.map_nil, built46, Option.getD_some])
    | (refine wpList_store_row rfl 46 _ _ rfl (w.heap.size + 4) (vals .i64 65 (fun _ => 0)) rfl rfl 46 _ (Blk.new' _ _ (by simp) _ _) (by rw [vals_size]; exact cells46) (by simp only [vals_size]) (vals_one _ _ _) ?_))
  go_loopw [8] (fun iv wr => ∃ i : Nat, i ≤ 32 ∧ iv = .int .i64 i ∧ Blk wr w.heap.size (vals .u8 32 (byt a)) 23 ∧ Blk wr (w.heap.size + 1) (vals .u8 32 (byt b)) 23 ∧ Blk wr (w.heap.size + 2) (vals .u8 32 (byt c)) 23 ∧ Blk wr (w.heap.size + 3) (vals .u8 32 (fun _ => 0)) 23 ∧ (∃ l : Nat → Nat, (∀ j, l j ≤ (33 * i) * 65025) ∧ nb l 65 = a % 2 ^ (8 * i) * b + c % 2 ^ (8 * i) ∧ Blk wr (w.heap.size + 4) (vals .i64 65 l) 46) ∧ wr.heap.size = w.heap.size + 5 ∧ Below w.heap.size w wr) (fun i _ => 32 - (intOf i).toNat)
  case atStart =>
    refine ⟨0, by omega, rfl, ?_, ?_, ?_, ?_, ⟨fun _ => 0, fun _ => Nat.zero_le _, ?_, ?_⟩, ?_, ?_⟩
    · exact (((((Blk.new w _ _).alloc _).alloc _).alloc _).alloc _).rowOther _ (by omega)
    · exact ((((Blk.new' (w.alloc _) (w.heap.size + 1) (by simp) _ _).alloc _).alloc _).alloc _).rowOther _ (by omega)
    · exact (((Blk.new' ((w.alloc _).alloc _) (w.heap.size + 2) (by simp) _ _).alloc _).alloc _).rowOther _ (by omega)
    · exact ((Blk.new' (((w.alloc _).alloc _).alloc _) (w.heap.size + 3) (by simp) _ _).alloc _).rowOther _ (by omega)
    · rw [nb_zero]; simp [Nat.mod_one]
    · exact (Blk.new' ((((w.alloc _).alloc _).alloc _).alloc _) (w.heap.size + 4) (by simp) _ _).row _
    · rw [setRow_size]; simp
    · exact Below.row ((((((Below.refl _ w).alloc (Nat.le_refl _) _).alloc (by simp) _).alloc (by simp; omega) _).alloc (by simp; omega) _).alloc (by simp; omega) _) (by omega) _
  case round =>
    obtain ⟨i, hi, rfl, Ba, Bb, Bc, Bz, ⟨l, hl, hnb, Bl⟩, hsz, L⟩ := hrel
    have Hl := hide hl
    have Hnb := hide hnb
    have HBa := hide Ba
    have HBb := hide Bb
    have HBc := hide Bc
    have HBz := hide Bz
    have HBl := hide Bl
    have HL := hide L
    have Hsz := hide hsz
    clear Ba Bb Bc Bz Bl L hl hnb hsz
    by_cases hlt : i < 32
    · have hi0 : (0 : Int) ≤ (i : Int) := by omega
      have hi4 : (i : Int) < 32 := by omega
      go_wp2
      go_loopw [9] (fun kv wr => ∃ k : Nat, k ≤ 32 ∧ kv = .int .i64 k ∧ Blk wr w.heap.size (vals .u8 32 (byt a)) 23 ∧ Blk wr (w.heap.size + 1) (vals .u8 32 (byt b)) 23 ∧ Blk wr (w.heap.size + 2) (vals .u8 32 (byt c)) 23 ∧ Blk wr (w.heap.size + 3) (vals .u8 32 (fun _ => 0)) 23 ∧ (∃ l : Nat → Nat, (∀ j, l j ≤ (33 * i + k) * 65025) ∧ nb l 65 = a % 2 ^ (8 * i) * b + c % 2 ^ (8 * i) + 2 ^ (8 * i) * byt a i * (b % 2 ^ (8 * k)) ∧ Blk wr (w.heap.size + 4) (vals .i64 65 l) 46) ∧ wr.heap.size = w.heap.size + 5 ∧ Below w.heap.size w wr) (fun i _ => 32 - (intOf i).toNat)
      case atStart => exact ⟨0, by omega, rfl, HBa.out, HBb.out, HBc.out, HBz.out, ⟨l, Hl.out, by rw [Hnb.out]; simp [Nat.mod_one], HBl.out⟩, Hsz.out, HL.out⟩
      case round =>
        clear HBa HBb HBc HBz HBl HL Hsz Hl Hnb l
        obtain ⟨k, hk, rfl, Ba, Bb, Bc, Bz, ⟨l, hl, hnb, Bl⟩, hsz, L⟩ := hrel
        have Hl := hide hl
        have Hnb := hide hnb
        have Hsz := hide hsz
        clear hl hnb hsz
        by_cases hlk : k < 32
        · have c1 := Ba.cell i
          rw [vals_get _ _ _ _ (by omega)] at c1
          have c2 := Bb.cell k
          rw [vals_get _ _ _ _ (by omega)] at c2
          have co := Bl.cell (i + k)
          rw [vals_get _ _ _ _ (by omega)] at co
          have fo' := Bl.frozen (i + k)
          have hd := dd_le a b i k
          have hlb : l (i + k) ≤ 1088 * 65025 := Nat.le_trans (Hl.out (i + k)) (Nat.mul_le_mul_right _ (by omega))
          obtain ⟨p, hp⟩ : ∃ p, p = byt a i * byt b k := ⟨_, rfl⟩
          have hpi : ((byt a i : Nat) : Int) * ((byt b k : Nat) : Int) = ((p : Nat) : Int) := by rw [hp]; simp
          rw [← hp] at hd
          have hw1 : IntKind.i64.wrap (((byt a i : Nat) : Int) * ((byt b k : Nat) : Int)) = ((p : Nat) : Int) := by rw [hpi, wrap_i64_big _ (by omega) (by omega)]
          have hw2 : IntKind.i64.wrap (((l (i + k) : Nat) : Int) + ((p : Nat) : Int)) = ((l (i + k) + p : Nat) : Int) := by rw [wrap_i64_big _ (by omega) (by omega)]; omega
          have hw3 : IntKind.i64.wrap (((l (i + k) : Nat) : Int) + ((byt a i : Nat) : Int) * ((byt b k : Nat) : Int)) = ((l (i + k) + p : Nat) : Int) := by rw [hpi]; exact hw2
          have hw5 : wrap64 (((byt a i : Nat) : Int) * ((byt b k : Nat) : Int)) = ((p : Nat) : Int) := by rw [hpi]; simp only [wrap64]; omega
          have hw6 : wrap64 (((l (i + k) : Nat) : Int) + ((p : Nat) : Int)) = ((l (i + k) + p : Nat) : Int) := by simp only [wrap64]; omega
          have Hw5 := hide hw5
          have Hw6 := hide hw6
          clear hw5 hw6
          have hba := byt_lt a i
          have hbb := byt_lt b k
          have HB := hide (Blk.cast (c' := vals .i64 65 (up l (i + k) p)) ((Bl.set (i + k) (.int .i64 (l (i + k) + p : Nat))).drew) (by
            rw [vals_set]
            exact vals_congr _ _ _ _ fun j _ => by unfold up; rfl))
          have Hle := hide (up_le l (i + k) p (33 * i + k) Hl.out hd)
          have Hst := hide (mul_step l a b c i k (by omega) Hnb.out)
          rw [← hp] at Hst
          have HBa := hide Ba
          have HBb := hide Bb
          have HBc := hide Bc
          have HBz := hide Bz
          have HL := hide L
          clear Ba Bb Bc Bz Bl L hpi hp hd hlb Hl Hnb
          have hk0 : (0 : Int) ≤ (k : Int) := by omega
          have hk5 : (k : Int) < 32 := by omega
          have hs0 : (0 : Int) ≤ (i : Int) + (k : Int) := by omega
          have hs4 : (i : Int) + (k : Int) < 65 := by omega
          have hsn : ((i : Int) + (k : Int)).toNat = i + k := by omega
          have hsw : IntKind.i64.wrap ((i : Int) + (k : Int)) = (i : Int) + (k : Int) := wrap_i64_small _ hs0 (by omega)
          go_wp2
          go_region_with (fail)
          all_goals
            go_wp2
            first | rw [Hw5.out, Hw6.out] | rw [Hw6.out] | rw [hw3] | rw [hw2] | skip
            go_roundw
            case rel => exact ⟨k + 1, by omega, by go_num, (HBa.out.setOther _ _ (by omega)).drew, (HBb.out.setOther _ _ (by omega)).drew, (HBc.out.setOther _ _ (by omega)).drew, (HBz.out.setOther _ _ (by omega)).drew, ⟨up l (i + k) p, Hle.out, Hst.out, HB.out⟩, by simp [Hsz.out], (HL.out.setCell (by show w.heap.size ≤ w.heap.size + 4; omega) _).drew⟩
            case measure => simp [intOf]; omega
        · have e16 : k = 32 := by omega
          subst e16
          have c1 := Bc.cell i
          rw [vals_get _ _ _ _ (by omega)] at c1
          have co := Bl.cell i
          rw [vals_get _ _ _ _ (by omega)] at co
          have fo' := Bl.frozen i
          have hlb : l i ≤ 1088 * 65025 := Nat.le_trans (Hl.out i) (Nat.mul_le_mul_right _ (by omega))
          have hbc := byt_lt c i
          have hw2 : IntKind.i64.wrap (((l i : Nat) : Int) + ((byt c i : Nat) : Int)) = ((l i + byt c i : Nat) : Int) := by rw [wrap_i64_big _ (by omega) (by omega)]; omega
          have HB := hide (Blk.cast (c' := vals .i64 65 (up l i (byt c i))) ((Bl.set i (.int .i64 (l i + byt c i : Nat))).drew) (by
            rw [vals_set]
            exact vals_congr _ _ _ _ fun j _ => by unfold up; rfl))
          have Hle := hide (up_le l i (byt c i) (33 * i + 32) Hl.out (by omega))
          have Hst := hide (mul_row l a b c i (by omega) Hb.out Hnb.out)
          have HBa := hide Ba
          have HBb := hide Bb
          have HBc := hide Bc
          have HBz := hide Bz
          have HL := hide L
          clear Ba Bb Bc Bz Bl L hlk hk Hl Hnb
          have hi6 : (i : Int) < 65 := by omega
          go_wp2
          go_region_with (fail)
          all_goals
            go_wp2
            first | rw [hw2] | skip
            go_roundw
            case rel => exact ⟨i + 1, by omega, by go_num, (HBa.out.setOther _ _ (by omega)).drew, (HBb.out.setOther _ _ (by omega)).drew, (HBc.out.setOther _ _ (by omega)).drew, (HBz.out.setOther _ _ (by omega)).drew, ⟨up l i (byt c i), fun j => by rw [show 33 * (i + 1) = 33 * i + 32 + 1 by omega]; exact Hle.out j, Hst.out, HB.out⟩, by simp [Hsz.out], (HL.out.setCell (by show w.heap.size ≤ w.heap.size + 4; omega) _).drew⟩
            case measure => simp [intOf]; omega
    · have e16 : i = 32 := by omega
      subst e16
      rw [show ((32 : Nat) : Int) = 32 from rfl]
      have Hv : Hid (nb l 65 = a * b + c) := hide (by rw [Hnb.out, Nat.mod_eq_of_lt (show a < 2 ^ (8 * 32) from Ha.out), Nat.mod_eq_of_lt (show c < 2 ^ (8 * 32) from Hc.out)])
      have HVl := hide (show Lt512 (a * b + c) from sum_lt c a b Ha.out Hb.out Hc.out)
      have Hl27 : Hid (∀ j, l j < 2 ^ 27) := hide fun j => by have := Hl.out j; omega
      obtain ⟨V, hV⟩ : ∃ V, V = a * b + c := ⟨_, rfl⟩
      rw [← hV] at Hv HVl
      have HV := hide hV
      clear Hnb HBa HBb HBc hV Hl
      go_wp2_with (first
        | (refine wpList_build rfl 47 #[] rfl (by simp [built47]) ?_; simp only [List.map_toArray, List.map_nil, built47, Option.getD_some])
        | (refine wpList_store_row rfl 47 _ _ rfl (w.heap.size + 5) (vals .u8 65 (fun _ => 0)) (by rw [← Hsz.out]; rfl) rfl 47 _ (Blk.new' _ _ (by rw [Hsz.out]) _ _) (by rw [vals_size]; exact cells47) (by simp only [vals_size]) (vals_one _ _ _) ?_))
      rw [Hsz.out]
      go_loopw [11, 12] (fun cv iv wr => ∃ k : Nat, k ≤ 65 ∧ iv = .int .i64 k ∧ cv = .int .i64 (ca l k : Nat) ∧ Blk wr (w.heap.size + 3) (vals .u8 32 (fun _ => 0)) 23 ∧ Blk wr (w.heap.size + 4) (vals .i64 65 l) 46 ∧ Blk wr (w.heap.size + 5) (vals .u8 65 (fun j => if j < k then byt V j else 0)) 47 ∧ Below w.heap.size w wr) (fun _ i _ => 65 - (intOf i).toNat)
      case atStart =>
        refine ⟨0, by omega, rfl, by rw [ca_zero]; rfl, ?_, ?_, ?_, ?_⟩
        · exact (HBz.out.alloc _).rowOther _ (by omega)
        · exact (HBl.out.alloc _).rowOther _ (by omega)
        · exact ((Blk.new' wr (w.heap.size + 5) (by rw [Hsz.out]) _ _).row _).cast (vals_congr _ _ _ _ fun j _ => by simp)
        · exact Below.row (HL.out.alloc HL.out.size _) (by omega) _
      case round =>
        clear HBz HBl HL Hsz
        obtain ⟨k, hk, rfl, rfl, Bz, Bl, Bo, L⟩ := hrel
        by_cases hlk : k < 65
        · have c1 := Bl.cell k
          rw [vals_get _ _ _ _ hlk] at c1
          have co := Bo.cell k
          rw [vals_get _ _ _ _ hlk] at co
          have fo' := Bo.frozen k
          have hlow := ca_low l k 65 hlk
          rw [Hv.out] at hlow
          have hsucc := ca_succ l k
          have hl27 := Hl27.out k
          have hca := ca_lt l Hl27.out k
          have HB := hide (upd_vals .u8 65 (fun _ => 0) (byt V) k _ _ _ Bo)
          have HBz := hide Bz
          have HBl := hide Bl
          have HL := hide L
          clear Bz Bl Bo L
          obtain ⟨n, hn⟩ : ∃ n, n = l k + ca l k := ⟨_, rfl⟩
          rw [← hn] at hlow hsucc
          have hni : ((l k : Nat) : Int) + ((ca l k : Nat) : Int) = ((n : Nat) : Int) := by omega
          have hnw : IntKind.i64.wrap ((n : Nat) : Int) = ((n : Nat) : Int) := wrap_i64_big _ (by omega) (by omega)
          have Hm : Hid (((n : Nat) : Int) % 256 = ((byt V k : Nat) : Int)) := hide (by rw [hlow]; rfl)
          have Hq : Hid (((n : Nat) : Int) / 256 = ((ca l (k + 1) : Nat) : Int)) := hide (by rw [hsucc]; rfl)
          have hn0 : (0 : Int) ≤ (n : Int) := by omega
          have hn9 : (n : Int) < 268435456 := by omega
          have hm1 : (n : Int).tmod 256 = (n : Int) % 256 := by rw [Int.tmod_eq_emod_of_nonneg (by omega)]
          have hm2 : (n : Int).tdiv 256 = (n : Int) / 256 := by rw [Int.tdiv_eq_ediv_of_nonneg (by omega)]
          clear hlow hsucc hn hl27 hca Hv Hl27
          have hk0 : (0 : Int) ≤ (k : Int) := by omega
          have hk6 : (k : Int) < 65 := by omega
          go_wp2
          rw [Hm.out, Hq.out]
          go_roundw
          case rel => exact ⟨k + 1, by omega, by go_num, rfl, HBz.out.setOther _ _ (by omega), HBl.out.setOther _ _ (by omega), HB.out, HL.out.setCell (by show w.heap.size ≤ w.heap.size + 5; omega) _⟩
          case measure => simp [intOf]; omega
        · have e65 : k = 65 := by omega
          subst e65
          have HB := hide (Bo.cast (vals_congr _ 65 _ (byt V) fun j hj => by simp [hj]))
          have HBz := hide Bz
          have HL := hide L
          have Hnb := hide (nb_full V HVl.out)
          clear Bz Bl Bo L Hv Hl27
          go_wp2_with (first
            | (go_at_call 19; refine (rMod_at 65 (w.heap.size + 5) (byt V) 47 _ _ rfl HB.out (byt_lt V) (by omega)).mono ?_; rw [Hnb.out]; unfold ba; rintro e w1 ⟨rfl, hb1⟩; have HZ1 := hide (HBz.out.call hb1); have HL1 := hide (HL.out.trans (hb1.mono HL.out.size)); clear hb1; dsimp only)
            | (refine wpList_store_row rfl 23 _ _ rfl (w.heap.size + 3) (vals .u8 32 (byt (V % qL))) rfl rfl 23 _ HZ1.out (by rw [vals_size]; exact cells23) (by rw [vals_size, vals_size]) (vals_one _ _ _) ?_))
          refine bodyPost_ret (v := .agg (vals .u8 32 (byt (V % qL)))) (results_cell_row Tryd.results11 _ _ (w.heap.size + 3) 23 _ (0, 0) _ rfl (HZ1.out.row _) Tryd.underlying23 rfl (by rw [vals_size]; exact cells23)) rfl ⟨by rw [HV.out], ?_⟩
          exact Below.row HL1.out (by omega) _
theorem rMulAdd_n (f g h : Nat → Nat) (n : Nat) (args : Array Value) (w : World) (ha : args = #[ba f, ba g, ba h]) (hf : ∀ i, f i < 256) (hg : ∀ i, g i < 256) (hh : ∀ i, h i < 256) (hn : (nb f 32 * nb g 32 + nb h 32) % qL = n) :
    Calls Tryd.prog 11 args w fun e w' => e = .returned (ba (byt n)) ∧ Below w.heap.size w w' := by subst ha hn; exact rMulAdd_any f g h w hf hg hh
end Go.Proofs.YtokhmhodkakioaaDoor

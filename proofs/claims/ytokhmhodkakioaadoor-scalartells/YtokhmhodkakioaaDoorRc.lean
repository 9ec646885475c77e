/- Walks of the reference: modulo. -/
import Derived.Test.YtokhmhodkakioaaDoorRb
namespace Go.Proofs.YtokhmhodkakioaaDoor
open Go.RowKit

/-- What stays through a round: the bytes that are divided, and the answer's place. -/
def rS (N p : Nat) (f : Nat → Nat) (t : TypeId) (w w' : World) : Prop := Blk w' p (vals .u8 N f) t ∧ Blk w' w.heap.size (vals .u8 32 (fun _ => 0)) 23 ∧ Below w.heap.size w w'
theorem rS.call {N p : Nat} {f : Nat → Nat} {t : TypeId} {w u v : World} (s : rS N p f t w u) (hb : Below u.heap.size u v) : rS N p f t w v := ⟨s.1.call hb, s.2.1.call hb, s.2.2.trans (hb.mono s.2.2.size)⟩
theorem rS.row {N p : Nat} {f : Nat → Nat} {t : TypeId} {w u : World} (s : rS N p f t w u) (hp : p < w.heap.size) (cs : Array Value) : rS N p f t w (u.setRow (w.heap.size + 1) cs) := ⟨s.1.rowOther cs (by omega), s.2.1.rowOther cs (by omega), Below.row s.2.2 (by omega) cs⟩
theorem bit_u8 (m q n : Nat) (hn : n = byt m (q / 8)) : bits .and .u8 ((n : Int) / 2 ^ (q % 8)) 1 = ((m / 2 ^ q % 2 : Nat) : Int) := by
  have h1 := byt_lt m (q / 8)
  rw [show (n : Int) / 2 ^ (q % 8) = ((n / 2 ^ (q % 8) : Nat) : Int) by simp]
  have h2 : n / 2 ^ (q % 8) < 256 := Nat.lt_of_le_of_lt (Nat.div_le_self _ _) (by omega)
  have := u8_and_nat (n / 2 ^ (q % 8)) 1 (by omega) (by omega)
  rw [show ((1 : Nat) : Int) = 1 from rfl] at this
  rw [this, show 1 = 2 ^ 1 - 1 from rfl, Nat.and_two_pow_sub_one_eq_mod, hn, show 2 ^ 1 = 2 from rfl, bit_byt]
theorem rp_start (m N : Nat) (h : m < 2 ^ (8 * N)) : rp m (8 * N) = 0 := by unfold rp; rw [Nat.div_eq_of_lt h, Nat.zero_mod]

set_option maxRecDepth 100000 in
set_option maxHeartbeats 4000000 in
theorem rMod_any (N p : Nat) (f : Nat → Nat) (t : TypeId) (w : World) (hB : Blk w p (vals .u8 N f) t) (hf : ∀ i, f i < 256) (hN : N ≤ 100) :
    Calls Tryd.prog 19 #[.slice (some ⟨p, 0, none⟩) N N] w fun e w' => e = .returned (ba (byt (nb f N % qL))) ∧ Below w.heap.size w w' := by
  have HB := hide hB
  have Hp := hide hB.lt
  have Hm := hide (nb_lt f hf N)
  have Hby : Hid (∀ i, i < N → f i = byt (nb f N) i) := hide fun i hi => (byt_nb f hf N i hi).symm
  obtain ⟨m, hm⟩ : ∃ m, m = nb f N := ⟨_, rfl⟩
  rw [← hm] at Hm Hby
  have HM := hide hm
  have w1 : IntKind.i64.wrap (8 * (N : Int)) = 8 * (N : Int) := wrap_i64_small' _ (by omega) (by omega)
  have w2 : IntKind.i64.wrap (8 * (N : Int) - 1) = 8 * (N : Int) - 1 := by simp only [IntKind.wrap, IntKind.bits, IntKind.signed]; simp; omega
  clear hB hm
  have Hf := hide hf
  clear hf
  go_enter Tryd.func19, Tryd.ntmps19
  go_wp2_with (first
    | (refine wpList_build rfl 23 #[] rfl (by simp [built23]) ?_; simp only [List.map_toArray, List.map_nil, built23, Option.getD_some])
    | (refine wpList_store_row rfl 23 _ _ rfl (w.heap.size + 1) (vals .u8 32 (fun _ => 0)) rfl rfl 23 _ (Blk.new' _ _ (by simp) _ _) (by rw [vals_size]; exact cells23) (by rw [vals_size]; rfl) (vals_one _ _ _) ?_))
  clear w1 w2
  go_loopw [4] (fun i wr => ∃ k : Nat, k ≤ 8 * N ∧ i = .int .i64 ((k : Int) - 1) ∧ Blk wr (w.heap.size + 1) (vals .u8 32 (byt (rp m k))) 23 ∧ rS N p f t w wr) (fun i _ => (intOf i + 1).toNat)
  case atStart =>
    refine ⟨8 * N, by omega, by go_num, ?_, ?_, ?_, ?_⟩
    · exact ((Blk.new' (w.alloc _) (w.heap.size + 1) (by simp) _ _).row _).cast (vals_congr _ _ _ _ fun j _ => by rw [rp_start m N Hm.out, byt0])
    · exact ((HB.out.alloc _).alloc _).rowOther _ (by have := Hp.out; omega)
    · exact ((Blk.new w _ _).alloc _).rowOther _ (by omega)
    · exact Below.row (((Below.refl _ w).alloc (Nat.le_refl _) _).alloc (by simp) _) (by omega) _
  case round =>
    obtain ⟨k, hk, rfl, Bo, hS⟩ := hrel
    have HO := hide Bo
    have HS := hide hS
    clear Bo hS
    rcases Nat.eq_zero_or_pos k with h0 | h0
    · subst h0
      rw [show ((0 : Nat) : Int) - 1 = -1 from rfl]
      go_wp2_with (first
        | (refine wpList_load_row rfl 23 _ rfl (w.heap.size + 1) rfl 23 _ (0, 0) _ HO.out Tryd.underlying23 rfl (by rw [vals_size]; exact cells23) ?_)
        | (refine wpList_store_row rfl 23 _ _ rfl w.heap.size (vals .u8 32 (byt (rp m 0))) rfl rfl 23 _ HS.out.2.1 (by rw [vals_size]; exact cells23) (by rw [vals_size, vals_size]) (vals_one _ _ _) ?_))
      refine bodyPost_ret (v := .agg (vals .u8 32 (byt (rp m 0)))) (results_cell_row Tryd.results19 _ _ w.heap.size 23 _ (0, 0) _ rfl (HS.out.2.1.row _) Tryd.underlying23 rfl (by rw [vals_size]; exact cells23)) rfl ⟨by rw [rp_zero, HM.out]; rfl, ?_⟩
      exact Below.row HS.out.2.2 (Nat.le_refl _) _
    · obtain ⟨q, rfl⟩ : ∃ q, k = q + 1 := ⟨k - 1, by omega⟩
      rw [show ((q + 1 : Nat) : Int) - 1 = (q : Int) by omega]
      have Hqn := hide (show q / 8 < N by omega)
      have Hbit := bit_u8 m q (f (q / 8)) (Hby.out _ Hqn.out)
      have Hsq : sq (2 * rp m (q + 1) + m / 2 ^ q % 2) = rp m q := sq_next m q
      have Hlt : 2 * rp m (q + 1) + m / 2 ^ q % 2 < 2 ^ 256 := next_lt m q
      obtain ⟨b, hbe⟩ : ∃ b, b = m / 2 ^ q % 2 := ⟨_, rfl⟩
      have HHb : Hid (b ≤ 1) := hide (by omega)
      rw [← hbe] at Hbit Hsq Hlt
      obtain ⟨r, hre⟩ : ∃ r, r = rp m (q + 1) := ⟨_, rfl⟩
      rw [← hre] at HO Hsq Hlt
      obtain ⟨s, hse⟩ : ∃ s, s = rp m q := ⟨_, rfl⟩
      rw [← hse] at Hsq
      have HSE := hide hse
      obtain ⟨n2, hn2⟩ : ∃ n2, n2 = 2 * r + b := ⟨_, rfl⟩
      rw [← hn2] at Hsq Hlt
      have HN2 := hide hn2
      have HHsq := hide Hsq
      have HHlt := hide Hlt
      clear hbe hre hse hn2 Hsq Hlt
      have hq0 : (0 : Int) ≤ (q : Int) := by omega
      have hd0 : (0 : Int) ≤ (q : Int) / 8 := by omega
      have hd4 : (q : Int) / 8 < (N : Int) := by have := Hqn.out; omega
      have hdw : IntKind.i64.wrap ((q : Int).tdiv 8) = (q : Int) / 8 := by rw [Int.tdiv_eq_ediv_of_nonneg (by omega), wrap_i64_small' _ (by omega) (by omega)]
      have hdw' : IntKind.i64.wrap ((q : Int) / 8) = (q : Int) / 8 := wrap_i64_small' _ (by omega) (by omega)
      have hdn : ((q : Int) / 8).toNat = q / 8 := by omega
      have hr : IntKind.i64.wrap ((q : Int).tmod 8) = (q : Int) % 8 := by rw [Int.tmod_eq_emod_of_nonneg (by omega), wrap_i64_small' _ (by omega) (by omega)]
      have hr' : (q : Int).tmod 8 = (q : Int) % 8 := by rw [Int.tmod_eq_emod_of_nonneg (by omega)]
      have hr0 : (0 : Int) ≤ (q : Int) % 8 := by omega
      have hr4 : (q : Int) % 8 < 8 := by omega
      have hrw : IntKind.u64.wrap ((q : Int) % 8) = (q : Int) % 8 := by rw [wrap_u64']; omega
      have hrn : ((q : Int) % 8).toNat = q % 8 := by omega
      have hf8 := Hf.out (q / 8)
      go_upto_region 5 with (fail)
      obtain ⟨wr0, hwr0⟩ : ∃ wr0, wr0 = wr := ⟨_, rfl⟩
      rw [← hwr0]
      rw [← hwr0] at HO HS
      clear hwr0
      refine wp_region_held_drew (S := rS N p f t w) (by kernel_rfl) ⟨HS.out.1.drew, HS.out.2.1.drew, HS.out.2.2.drew⟩ (fun hHeld => ?_)
      have O_0 := hide HO.out.drew
      clear HO HS
      refine wpAnyH_take (i := 1) (oi := { dst := some 15, op := Op.move (Operand.tmp 0), type := 40, pos := "ref.go:53", after := #[], guard := none }) (v := .slice (some ⟨p, 0, none⟩) N N) rfl (by kernel_rfl) (by kernel_rfl) (by kernel_rfl) (fun _ _ _ h => h) (Or.inl ⟨by rfl, fun w hSw => by go_simp⟩) hHeld ?_
      try simp only [Act.put, List.setIfInBounds_toArray, List.set_cons_zero, List.set_cons_succ]
      refine wpAnyH_take (i := 2) (oi := { dst := some 16, op := Op.move (Operand.tmp 4), type := 3, pos := "ref.go:53", after := #[], guard := none }) (v := .int .i64 (q : Int)) rfl (by kernel_rfl) (by kernel_rfl) (by kernel_rfl) (fun _ _ _ h => h) (Or.inl ⟨by rfl, fun w hSw => by go_simp⟩) hHeld ?_
      try simp only [Act.put, List.setIfInBounds_toArray, List.set_cons_zero, List.set_cons_succ]
      refine wpAnyH_take (i := 3) (oi := { dst := some 17, op := Op.binOp BinOp.quo 3 (Operand.tmp 16) (Operand.const (Value.int IntKind.i64 8)) 3, type := 3, pos := "ref.go:53", after := #[{ on := 2, ground := Ground.data }], guard := none }) (v := .int .i64 ((q : Int) / 8)) rfl (by kernel_rfl) (by kernel_rfl) (by kernel_rfl) (fun _ _ _ h => h) (Or.inl ⟨by rfl, fun w hSw => by go_simp⟩) hHeld ?_
      try simp only [Act.put, List.setIfInBounds_toArray, List.set_cons_zero, List.set_cons_succ]
      refine wpAnyH_take (i := 4) (oi := { dst := some 18, op := Op.indexAddr 40 (Operand.tmp 15) (Operand.tmp 17), type := 0, pos := "ref.go:53", after := #[{ on := 1, ground := Ground.data }, { on := 3, ground := Ground.data }], guard := none }) (v := .pointer (some ⟨p, q / 8, none⟩)) rfl (by kernel_rfl) (by kernel_rfl) (by kernel_rfl) (fun _ _ _ h => h) (Or.inl ⟨by rfl, fun w hSw => by go_simp⟩) hHeld ?_
      try simp only [Act.put, List.setIfInBounds_toArray, List.set_cons_zero, List.set_cons_succ]
      refine wpAnyH_take (i := 5) (oi := { dst := some 19, op := Op.load 5 (Operand.tmp 18), type := 5, pos := "ref.go:53", after := #[{ on := 4, ground := Ground.data }], guard := none }) (v := .int .u8 (f (q / 8) : Nat)) rfl (by kernel_rfl) (by kernel_rfl) (by kernel_rfl) (fun _ _ _ h => h) (Or.inl ⟨by rfl, fun w hSw => by have cc := hSw.1.cell (q / 8); rw [vals_get _ _ _ _ Hqn.out] at cc; go_simp⟩) hHeld ?_
      try simp only [Act.put, List.setIfInBounds_toArray, List.set_cons_zero, List.set_cons_succ]
      refine wpAnyH_take (i := 6) (oi := { dst := some 20, op := Op.move (Operand.tmp 4), type := 3, pos := "ref.go:53", after := #[], guard := none }) (v := .int .i64 (q : Int)) rfl (by kernel_rfl) (by kernel_rfl) (by kernel_rfl) (fun _ _ _ h => h) (Or.inl ⟨by rfl, fun w hSw => by go_simp⟩) hHeld ?_
      try simp only [Act.put, List.setIfInBounds_toArray, List.set_cons_zero, List.set_cons_succ]
      refine wpAnyH_take (i := 7) (oi := { dst := some 21, op := Op.binOp BinOp.rem 3 (Operand.tmp 20) (Operand.const (Value.int IntKind.i64 8)) 3, type := 3, pos := "ref.go:53", after := #[{ on := 6, ground := Ground.data }], guard := none }) (v := .int .i64 ((q : Int) % 8)) rfl (by kernel_rfl) (by kernel_rfl) (by kernel_rfl) (fun _ _ _ h => h) (Or.inl ⟨by rfl, fun w hSw => by go_simp⟩) hHeld ?_
      try simp only [Act.put, List.setIfInBounds_toArray, List.set_cons_zero, List.set_cons_succ]
      refine wpAnyH_take (i := 8) (oi := { dst := some 22, op := Op.convert 3 52 (Operand.tmp 21), type := 52, pos := "ref.go:53", after := #[{ on := 7, ground := Ground.data }], guard := none }) (v := .int .u64 ((q : Int) % 8)) rfl (by kernel_rfl) (by kernel_rfl) (by kernel_rfl) (fun _ _ _ h => h) (Or.inl ⟨by rfl, fun w hSw => by go_simp⟩) hHeld ?_
      try simp only [Act.put, List.setIfInBounds_toArray, List.set_cons_zero, List.set_cons_succ]
      refine wpAnyH_take (i := 9) (oi := { dst := some 23, op := Op.binOp BinOp.shr 5 (Operand.tmp 19) (Operand.tmp 22) 52, type := 5, pos := "ref.go:53", after := #[{ on := 5, ground := Ground.data }, { on := 8, ground := Ground.data }], guard := none }) (v := .int .u8 (((f (q / 8) : Nat) : Int) / 2 ^ (q % 8))) rfl (by kernel_rfl) (by kernel_rfl) (by kernel_rfl) (fun _ _ _ h => h) (Or.inl ⟨by rfl, fun w hSw => by go_simp⟩) hHeld ?_
      try simp only [Act.put, List.setIfInBounds_toArray, List.set_cons_zero, List.set_cons_succ]
      refine wpAnyH_take (i := 10) (oi := { dst := some 24, op := Op.binOp BinOp.and 5 (Operand.tmp 23) (Operand.const (Value.int IntKind.u8 1)) 5, type := 5, pos := "ref.go:53", after := #[{ on := 9, ground := Ground.data }], guard := none }) (v := .int .u8 (b : Nat)) rfl (by kernel_rfl) (by kernel_rfl) (by kernel_rfl) (fun _ _ _ h => h) (Or.inl ⟨by rfl, fun w hSw => by go_simp⟩) hHeld ?_
      try simp only [Act.put, List.setIfInBounds_toArray, List.set_cons_zero, List.set_cons_succ]
      refine wpAnyH_ready (rs := [0]) (by kernel_rfl) (by simp) ?_
      refine AllReadyH.cons (o := { dst := some 14, op := Op.load 23 (Operand.tmp 3), type := 23, pos := "ref.go:53", after := #[], guard := none }) rfl (fun K hK => ?_) AllReadyH.nil
      rw [if_pos (by rfl)]
      refine wp_load_row 23 _ rfl (w.heap.size + 1) rfl 23 (vals .u8 32 (byt r)) (0, 0) _ O_0.out Tryd.underlying23 rfl (by rw [vals_size]; exact cells23) ?_
      refine hK.out _ _ hHeld (fun hHeld => ?_)
      clear hK K
      try simp only [Act.put, List.setIfInBounds_toArray, List.set_cons_zero, List.set_cons_succ]
      refine wpAnyH_ready (rs := [11]) (by kernel_rfl) (by simp) ?_
      refine AllReadyH.cons (o := { dst := some 25, op := Op.call { callee := Callee.value (Operand.func 27), args := #[Operand.tmp 14, Operand.tmp 24], argTypes := #[23, 5] }, type := 23, pos := "ref.go:53", after := #[{ on := 0, ground := Ground.data }, { on := 10, ground := Ground.data }], guard := none }) rfl (fun K hK => ?_) AllReadyH.nil
      go_simp
      refine (rTwice_at r b _ _ (by rfl) HHb.out).mono ?_
      rw [← HN2.out]
      unfold ba
      rintro e x1 ⟨rfl, hb⟩
      have O_1 := hide (O_0.out.call hb)
      dsimp only
      refine hK.out _ _ (hHeld.call hb) (fun hHeld => ?_)
      clear hK K hb
      try simp only [Act.put, List.setIfInBounds_toArray, List.set_cons_zero, List.set_cons_succ]
      refine wpAnyH_ready (rs := [12]) (by kernel_rfl) (by simp) ?_
      refine AllReadyH.cons (o := { dst := none, op := Op.store 23 (Operand.tmp 3) (Operand.tmp 25), type := 0, pos := "ref.go:53", after := #[{ on := 11, ground := Ground.data }, { on := 11, ground := Ground.chain }, { on := 0, ground := Ground.phase }, { on := 1, ground := Ground.phase }, { on := 2, ground := Ground.phase }, { on := 3, ground := Ground.phase }, { on := 4, ground := Ground.phase }, { on := 5, ground := Ground.phase }, { on := 6, ground := Ground.phase }, { on := 7, ground := Ground.phase }, { on := 8, ground := Ground.phase }, { on := 9, ground := Ground.phase }, { on := 10, ground := Ground.phase }, { on := 11, ground := Ground.phase }], guard := none }) rfl (fun K hK => ?_) AllReadyH.nil
      rw [if_pos (by rfl)]
      refine wp_store_row 23 _ _ rfl (w.heap.size + 1) (vals .u8 32 (byt n2)) rfl rfl 23 _ O_1.out (by rw [vals_size]; exact cells23) (by rw [vals_size, vals_size]) (vals_one _ _ _) ?_
      refine hK.out _ _ (hHeld.row Hp.out _) (fun hHeld => ?_)
      clear hK K
      simp only [Act.put]
      refine wpAnyH_done (by kernel_rfl) ?_ _
      have O_2 := hide (O_1.out.row (vals .u8 32 (byt n2)))
      have S_2 := hide hHeld
      clear O_0 O_1 hHeld Hbit hq0 hd0 hd4 hdw hdw' hdn hr hr' hr0 hr4 hrw hrn hf8
      obtain ⟨x2, hx2⟩ : ∃ x2, x2 = x1.setRow (w.heap.size + 1) (vals .u8 32 (byt n2)) := ⟨_, rfl⟩
      rw [← hx2]
      rw [← hx2] at O_2 S_2
      clear hx2
      go_upto_region 6 with (fail)
      obtain ⟨c, hc⟩ : ∃ c, decide (n2 < qL) = c := ⟨_, rfl⟩
      have Hc := hide hc
      clear hc
      refine wp_region_held_drew (S := fun w' => Below x2.heap.size x2 w') (by kernel_rfl) (Below.refl _ _).drew (fun hHeld => ?_)
      refine wpAnyH_take (i := 0) (oi := { dst := some 26, op := Op.load 23 (Operand.tmp 3), type := 23, pos := "ref.go:54", after := #[], guard := none }) (v := .agg (vals .u8 32 (byt n2))) rfl (by kernel_rfl) (by kernel_rfl) (by kernel_rfl) (fun _ _ _ h => h) (yields_blk O_2.out (by rfl) 23 _ rfl rfl _ Tryd.underlying23 rfl (by rw [vals_size]; exact cells23)) hHeld ?_
      try simp only [Act.put, List.setIfInBounds_toArray, List.set_cons_zero, List.set_cons_succ]
      refine wpAnyH_ready (rs := [1]) (by kernel_rfl) (by simp) ?_
      refine AllReadyH.cons (o := { dst := some 27, op := Op.call { callee := Callee.value (Operand.func 15), args := #[], argTypes := #[] }, type := 23, pos := "ref.go:54", after := #[], guard := none }) rfl (fun K hK => ?_) AllReadyH.nil
      go_simp
      refine (rOrder_at _ _ (by rfl)).mono ?_
      unfold ba
      rintro e x3 ⟨rfl, hb⟩
      have HTx3 := hide (hHeld.trans (hb.mono hHeld.size))
      dsimp only
      refine hK.out _ _ HTx3.out (fun hHeld => ?_)
      clear hK K hb
      try simp only [Act.put, List.setIfInBounds_toArray, List.set_cons_zero, List.set_cons_succ]
      refine wpAnyH_ready (rs := [2]) (by kernel_rfl) (by simp) ?_
      refine AllReadyH.cons (o := { dst := some 28, op := Op.call { callee := Callee.value (Operand.func 23), args := #[Operand.tmp 26, Operand.tmp 27], argTypes := #[23, 23] }, type := 4, pos := "ref.go:54", after := #[{ on := 0, ground := Ground.data }, { on := 1, ground := Ground.data }, { on := 1, ground := Ground.chain }], guard := none }) rfl (fun K hK => ?_) AllReadyH.nil
      go_simp
      refine (rBelow_at n2 qL c _ _ (by rfl) HHlt.out qL_lt256 Hc.out).mono ?_
      rintro e x4 ⟨rfl, hb⟩
      have HTx4 := hide (hHeld.trans (hb.mono hHeld.size))
      dsimp only
      refine hK.out _ _ HTx4.out (fun hHeld => ?_)
      clear hK K hb
      try simp only [Act.put, List.setIfInBounds_toArray, List.set_cons_zero, List.set_cons_succ]
      refine wpAnyH_take (i := 3) (oi := { dst := some 29, op := Op.unOp UnOp.not 4 (Operand.tmp 28), type := 4, pos := "ref.go:54", after := #[{ on := 2, ground := Ground.data }], guard := none }) (v := .bool (!c)) rfl (by kernel_rfl) (by kernel_rfl) (by kernel_rfl) (fun _ _ _ h => h) (Or.inl ⟨by rfl, fun w hSw => by go_simp⟩) hHeld ?_
      try simp only [Act.put, List.setIfInBounds_toArray, List.set_cons_zero, List.set_cons_succ]
      refine wpAnyH_done (by kernel_rfl) ?_ _
      have O_4 := hide (O_2.out.call HTx4.out)
      have S_4 := hide (S_2.out.call HTx4.out)
      clear O_2 S_2 HTx3 HTx4 hHeld
      rcases c with _ | _
      · skip
        have hge : qL ≤ n2 := by have := Hc.out; simp at this; omega
        have Hge := hide hge
        have Hs : Hid (n2 - qL = s) := hide (by rw [← HHsq.out]; unfold sq; rw [if_neg (by omega)])
        clear hge
        simp only [Bool.not_false]
        go_upto_region 7 with (fail)
        refine wp_region_held_drew (S := rS N p f t w) (by kernel_rfl) ⟨S_4.out.1.drew, S_4.out.2.1.drew, S_4.out.2.2.drew⟩ (fun hHeld => ?_)
        have O_5 := hide O_4.out.drew
        clear O_4 S_4
        refine wpAnyH_ready (rs := [0, 1]) (by kernel_rfl) (by simp) ?_
        refine AllReadyH.cons (o := { dst := some 30, op := Op.load 23 (Operand.tmp 3), type := 23, pos := "ref.go:55", after := #[], guard := none }) rfl (fun K hK => ?_) ?_
        · skip
          rw [if_pos (by rfl)]
          refine wp_load_row 23 _ rfl (w.heap.size + 1) rfl 23 (vals .u8 32 (byt n2)) (0, 0) _ O_5.out Tryd.underlying23 rfl (by rw [vals_size]; exact cells23) ?_
          refine hK.out _ _ hHeld (fun hHeld => ?_)
          clear hK K
          try simp only [Act.put, List.setIfInBounds_toArray, List.set_cons_zero, List.set_cons_succ]
          refine wpAnyH_ready (rs := [1]) (by kernel_rfl) (by simp) ?_
          refine AllReadyH.cons (o := { dst := some 31, op := Op.call { callee := Callee.value (Operand.func 15), args := #[], argTypes := #[] }, type := 23, pos := "ref.go:55", after := #[], guard := none }) rfl (fun K hK => ?_) AllReadyH.nil
          go_simp
          refine (rOrder_at _ _ (by rfl)).mono ?_
          unfold ba
          rintro e x5 ⟨rfl, hb⟩
          have O_6 := hide (O_5.out.call hb)
          dsimp only
          refine hK.out _ _ (hHeld.call hb) (fun hHeld => ?_)
          clear hK K hb
          try simp only [Act.put, List.setIfInBounds_toArray, List.set_cons_zero, List.set_cons_succ]
          refine wpAnyH_ready (rs := [2]) (by kernel_rfl) (by simp) ?_
          refine AllReadyH.cons (o := { dst := some 32, op := Op.call { callee := Callee.value (Operand.func 28), args := #[Operand.tmp 30, Operand.tmp 31], argTypes := #[23, 23] }, type := 23, pos := "ref.go:55", after := #[{ on := 0, ground := Ground.data }, { on := 1, ground := Ground.data }, { on := 1, ground := Ground.chain }], guard := none }) rfl (fun K hK => ?_) AllReadyH.nil
          go_simp
          refine (rLess_at n2 qL _ _ (by rfl) Hge.out).mono ?_
          rw [Hs.out]
          unfold ba
          rintro e x6 ⟨rfl, hb⟩
          have O_7 := hide (O_6.out.call hb)
          dsimp only
          refine hK.out _ _ (hHeld.call hb) (fun hHeld => ?_)
          clear hK K hb
          try simp only [Act.put, List.setIfInBounds_toArray, List.set_cons_zero, List.set_cons_succ]
          refine wpAnyH_ready (rs := [3]) (by kernel_rfl) (by simp) ?_
          refine AllReadyH.cons (o := { dst := none, op := Op.store 23 (Operand.tmp 3) (Operand.tmp 32), type := 0, pos := "ref.go:55", after := #[{ on := 2, ground := Ground.data }, { on := 2, ground := Ground.chain }, { on := 0, ground := Ground.phase }, { on := 1, ground := Ground.phase }, { on := 2, ground := Ground.phase }], guard := none }) rfl (fun K hK => ?_) AllReadyH.nil
          rw [if_pos (by rfl)]
          refine wp_store_row 23 _ _ rfl (w.heap.size + 1) (vals .u8 32 (byt s)) rfl rfl 23 _ O_7.out (by rw [vals_size]; exact cells23) (by rw [vals_size, vals_size]) (vals_one _ _ _) ?_
          refine hK.out _ _ (hHeld.row Hp.out _) (fun hHeld => ?_)
          clear hK K
          simp only [Act.put]
          refine wpAnyH_done (by kernel_rfl) ?_ _
          have O_9 := hide (O_7.out.row (vals .u8 32 (byt s)))
          have S_9 := hide hHeld
          clear hHeld
          go_wp2
          go_roundw
          case rel => exact ⟨q, by omega, by go_num, O_9.out.cast (by rw [HSE.out]), S_9.out⟩
          case measure => simp [intOf]
        · refine AllReadyH.cons (o := { dst := some 31, op := Op.call { callee := Callee.value (Operand.func 15), args := #[], argTypes := #[] }, type := 23, pos := "ref.go:55", after := #[], guard := none }) rfl (fun K hK => ?_) AllReadyH.nil
          go_simp
          refine (rOrder_at _ _ (by rfl)).mono ?_
          unfold ba
          rintro e x5 ⟨rfl, hb⟩
          have O_6 := hide (O_5.out.call hb)
          dsimp only
          refine hK.out _ _ (hHeld.call hb) (fun hHeld => ?_)
          clear hK K hb
          try simp only [Act.put, List.setIfInBounds_toArray, List.set_cons_zero, List.set_cons_succ]
          refine wpAnyH_ready (rs := [0]) (by kernel_rfl) (by simp) ?_
          refine AllReadyH.cons (o := { dst := some 30, op := Op.load 23 (Operand.tmp 3), type := 23, pos := "ref.go:55", after := #[], guard := none }) rfl (fun K hK => ?_) AllReadyH.nil
          rw [if_pos (by rfl)]
          refine wp_load_row 23 _ rfl (w.heap.size + 1) rfl 23 (vals .u8 32 (byt n2)) (0, 0) _ O_6.out Tryd.underlying23 rfl (by rw [vals_size]; exact cells23) ?_
          refine hK.out _ _ hHeld (fun hHeld => ?_)
          clear hK K
          try simp only [Act.put, List.setIfInBounds_toArray, List.set_cons_zero, List.set_cons_succ]
          refine wpAnyH_ready (rs := [2]) (by kernel_rfl) (by simp) ?_
          refine AllReadyH.cons (o := { dst := some 32, op := Op.call { callee := Callee.value (Operand.func 28), args := #[Operand.tmp 30, Operand.tmp 31], argTypes := #[23, 23] }, type := 23, pos := "ref.go:55", after := #[{ on := 0, ground := Ground.data }, { on := 1, ground := Ground.data }, { on := 1, ground := Ground.chain }], guard := none }) rfl (fun K hK => ?_) AllReadyH.nil
          go_simp
          refine (rLess_at n2 qL _ _ (by rfl) Hge.out).mono ?_
          rw [Hs.out]
          unfold ba
          rintro e x6 ⟨rfl, hb⟩
          have O_7 := hide (O_6.out.call hb)
          dsimp only
          refine hK.out _ _ (hHeld.call hb) (fun hHeld => ?_)
          clear hK K hb
          try simp only [Act.put, List.setIfInBounds_toArray, List.set_cons_zero, List.set_cons_succ]
          refine wpAnyH_ready (rs := [3]) (by kernel_rfl) (by simp) ?_
          refine AllReadyH.cons (o := { dst := none, op := Op.store 23 (Operand.tmp 3) (Operand.tmp 32), type := 0, pos := "ref.go:55", after := #[{ on := 2, ground := Ground.data }, { on := 2, ground := Ground.chain }, { on := 0, ground := Ground.phase }, { on := 1, ground := Ground.phase }, { on := 2, ground := Ground.phase }], guard := none }) rfl (fun K hK => ?_) AllReadyH.nil
          rw [if_pos (by rfl)]
          refine wp_store_row 23 _ _ rfl (w.heap.size + 1) (vals .u8 32 (byt s)) rfl rfl 23 _ O_7.out (by rw [vals_size]; exact cells23) (by rw [vals_size, vals_size]) (vals_one _ _ _) ?_
          refine hK.out _ _ (hHeld.row Hp.out _) (fun hHeld => ?_)
          clear hK K
          simp only [Act.put]
          refine wpAnyH_done (by kernel_rfl) ?_ _
          have O_9 := hide (O_7.out.row (vals .u8 32 (byt s)))
          have S_9 := hide hHeld
          clear hHeld
          go_wp2
          go_roundw
          case rel => exact ⟨q, by omega, by go_num, O_9.out.cast (by rw [HSE.out]), S_9.out⟩
          case measure => simp [intOf]
      · skip
        have Hs : Hid (n2 = s) := hide (by have := Hc.out; simp at this; rw [← HHsq.out]; unfold sq; rw [if_pos this])
        simp only [Bool.not_true]
        go_wp2
        go_roundw
        case rel => exact ⟨q, by omega, by go_num, O_4.out.cast (by rw [Hs.out, HSE.out]), S_4.out⟩
        case measure => simp [intOf]
theorem rMod_at (N p : Nat) (f : Nat → Nat) (t : TypeId) (args : Array Value) (w : World) (h : args = #[.slice (some ⟨p, 0, none⟩) N N]) (hB : Blk w p (vals .u8 N f) t) (hf : ∀ i, f i < 256) (hN : N ≤ 100) :
    Calls Tryd.prog 19 args w fun e w' => e = .returned (ba (byt (nb f N % qL))) ∧ Below w.heap.size w w' := by subst h; exact rMod_any N p f t w hB hf hN
end Go.Proofs.YtokhmhodkakioaaDoor

/- The reference's Put and Bytes. At most 2^29 bits; no other condition. -/
import Derived.Test.YtkljpidlfddgbaaCd
namespace Go.Proofs.Ytkljpidlfddgbaa
set_option maxRecDepth 100000
open Go.RowKit Rg B


namespace R
theorem el_b : El 51 4 1 (.bool false) := ⟨Try.underlying51, by kernel_rfl, by kernel_rfl, rfl, by decide, rfl, by simp [Value.cells]; rfl⟩
/-- The cells of a Bits: its list, where it is. -/
def rb (v : Value) (t : Nat) : Array Value := #[v, Nv .i64 t]
theorem rb_0 (v : Value) (t : Nat) : (rb v t)[0]? = some v := rfl
theorem rb_1 (v : Value) (t : Nat) : (rb v t)[1]? = some (Nv .i64 t) := rfl
theorem rb_fit (S : Option Addr) (n c t : Nat) : Fit 53 (rb (.slice S n c) t) := ⟨fun _ => by kernel_rfl, by simp [rb]; exact ⟨rfl, rfl⟩⟩
theorem rb_set0 (v x : Value) (t : Nat) : (rb v t).setIfInBounds 0 x = rb x t := rfl
theorem rb_set1 (v : Value) (t s : Nat) : (rb v t).setIfInBounds 1 (Nv .i64 s) = rb v s := rfl
theorem rb_built : Try.prog.built 53 [] = some (rb (.slice none 0 0) 0) := by kernel_rfl
/-- The bits of a number. -/
def bt (X i : Nat) : Value := .bool (X.testBit i)
theorem bt_one (X i : Nat) : (bt X i).oneCell' = true := rfl
/-- A Bits of n bits, those of X, at t. -/
def RefS (u w : World) (M : List Row) (N X n t : Nat) : Prop := ∃ v, Gr u w ((N, rb v t, 53) :: M) 4 1 (.bool false) n (bt X) v
theorem gr_sl {u w : World} {L : List Row} {e : TypeId} {s n : Nat} {zv : Value} {f : Nat → Value} {v : Value} (h : Gr u w L e s zv n f v) : ∃ S c, v = .slice S n c := by
  rcases h with ⟨rfl, rfl, _⟩ | ⟨g, d, rfl, _⟩
  · exact ⟨_, _, rfl⟩
  · exact ⟨_, _, rfl⟩
theorem gr_blk {u w : World} {L : List Row} {e : TypeId} {s n : Nat} {zv : Value} {f : Nat → Value} {v : Value} (h : Gr u w L e s zv n f v) {j b : Nat} {c : Array Value} {t : TypeId} (hj : L[j]? = some (b, c, t)) : Blk w b c t := by
  have hm := List.mem_of_getElem? hj
  rcases h with ⟨_, _, hO⟩ | ⟨g, d, _, hO⟩
  · exact hO.blk _ hm
  · exact hO.blk _ (List.mem_append_left _ hm)
theorem gr_rc {u w : World} {L : List Row} {e : TypeId} {n : Nat} {zv : Value} {f : Nat → Value} {S : Option Addr} {c : Nat} (h : Gr u w L e 1 zv n f (.slice S n c)) : Rc w S n f := by
  rcases h with ⟨rfl, _, _⟩ | ⟨g, d, hv, hO⟩
  · exact .inl rfl
  · injection hv with h1 _ _
    subst h1
    refine rc_row (hO.row L.length (at_end L _)) fun i hi => ?_
    rw [Nat.zero_add, cl_get _ _ _ _ _ (by omega), if_pos (by omega)]
/-- The first row changed. -/
theorem gr_own {u w : World} {r : Row} {M : List Row} {e : TypeId} {s n : Nat} {zv : Value} {f : Nat → Value} {v : Value} (h : Gr u w (r :: M) e s zv n f v) : ∃ R, Own u w (r :: R) ∧ ∀ w' r', Own u w' (r' :: R) → Gr u w' (r' :: M) e s zv n f v := by
  rcases h with ⟨h0, hv, hO⟩ | ⟨g, d, hv, hO⟩
  · exact ⟨M, hO, fun w' r' h => .inl ⟨h0, hv, h⟩⟩
  · exact ⟨M ++ [(g, cl (zc s zv) ((n + d) * s) (n * s) f, e)], hO, fun w' r' h => .inr ⟨g, d, hv, h⟩⟩
theorem bt_next {X v c k : Nat} (hX : X < 2 ^ c) : bt (X + v % 2 ^ (k + 1) * 2 ^ c) (c + k) = .bool (decide (v / 2 ^ k % 2 = 1)) := by
  unfold bt
  rw [M.bit_put hX, if_neg (by omega), Nat.add_sub_cancel_left, M.bit_mod (by omega), M.bit_is]
theorem bt_same {X v c k i : Nat} (hX : X < 2 ^ c) (h : i < c + k) : bt (X + v % 2 ^ k * 2 ^ c) i = bt (X + v % 2 ^ (k + 1) * 2 ^ c) i := by
  unfold bt
  rw [M.bit_put hX, M.bit_put hX]
  by_cases h2 : i < c
  · rw [if_pos h2, if_pos h2]
  · rw [if_neg h2, if_neg h2, M.bit_mod (by omega), M.bit_mod (by omega)]
set_option maxHeartbeats 4000000 in
theorem RPut_c {X v c t bits : Nat} (hX : X < 2 ^ c) (hv : v < 2 ^ bits) (hb : bits ≤ 32) (hc : c ≤ 2 ^ 29) (N : Nat) (u : World) (M' : List Row) (w : World) (hG : RefS u w M' N X c t) :
    Calls Try.prog 41 #[D N, Nv .u64 v, Nv .i64 bits] w fun e w' => e = .returned (Nv .i64 0) ∧ RefS u w' M' N (X + v * 2 ^ c) (c + bits) t := by
  have hv64 : v < 18446744073709551616 := Nat.lt_of_lt_of_le hv (Nat.pow_le_pow_right (by decide) (show bits ≤ 64 by omega))
  have h2 : 2 ^ bits < 18446744073709551616 := Nat.pow_lt_pow_right (by decide) (show bits < 64 by omega)
  have Hst := hide (M.put_zero X v c)
  have Hal := hide (M.put_all (X := X) (c := c) hv)
  have HG := hide hG
  have Hv := hide hv
  clear hG hv
  go_enter Try.func41, Try.ntmps41
  go_upto_region 0 with (fail)
  refine wp_region_list (WL.out ?_)
  refine g_val (Nv .i64 0) ?_
  refine g_nil ?_
  simp only [Act.put, List.setIfInBounds_toArray, List.set_cons_succ, List.set_cons_zero]
  go_upto_region 1 with (fail)
  refine wp_region_list (WL.out ?_)
  refine g_val (Nv .i64 bits) ?_
  refine g_val (.bool false) ?_ (B.lss_int (a := bits) (c := 0) (b := false) (decide_eq_false (by omega)) w)
  refine g_val (.bool false) ?_
  refine g_val (Nv .i64 bits) ?_
  refine g_val (.bool false) ?_ (B.gtr_int (a := bits) (c := 32) (b := false) (decide_eq_false (by omega)) w)
  refine g_val (.bool false) ?_
  refine g_val (.bool false) ?_
  refine g_val (Nv .u64 v) ?_
  refine g_val (Nv .i64 bits) ?_
  refine g_val (Nv .u64 bits) ?_ (B.c_int_uint (a := bits) (d := bits) rfl (by omega) w)
  refine g_val (Nv .u64 (2 ^ bits)) ?_ (B.shl_u64_uint (a := 1) (s := bits) (d := 2 ^ bits) (by rw [Nat.one_mul]; exact Nat.mod_eq_of_lt h2) (by omega) w)
  refine g_val (.bool false) ?_ (B.geq_u64 (a := v) (c := 2 ^ bits) (b := false) (decide_eq_false (by have := Hv.out; omega)) w)
  refine g_val (.bool false) ?_
  refine g_nil ?_
  simp only [Act.put, List.setIfInBounds_toArray, List.set_cons_succ, List.set_cons_zero]
  go_upto_region 3 with (fail)
  refine wp_region_list (WL.out ?_)
  refine g_val (Nv .i64 0) ?_
  refine g_nil ?_
  simp only [Act.put, List.setIfInBounds_toArray, List.set_cons_succ, List.set_cons_zero]
  go_wp2_with (fail)
  go_loopw [7] (fun x7 wr => ∃ (k : Nat), k ≤ bits ∧ x7 = .int .i64 (k : Int) ∧ RefS u wr M' N (X + v % 2 ^ k * 2 ^ c) (c + k) t) (fun x7 _ => bits - (intOf x7).toNat)
  case atStart => exact ⟨0, Nat.zero_le _, rfl, by rw [Hst.out]; exact HG.out⟩
  case round =>
    clear HG Hst
    obtain ⟨k, hk9, rfl, ⟨y, hG⟩⟩ := hrel
    obtain ⟨S, cc, rfl⟩ := gr_sl hG
    by_cases hz : k < bits
    · have hB := gr_blk hG (j := 0) rfl
      have hdv : v / 2 ^ k < 18446744073709551616 := Nat.lt_of_le_of_lt (Nat.div_le_self ..) hv64
      obtain ⟨b, hb9⟩ : ∃ b, b = decide (v / 2 ^ k % 2 = 1) := ⟨_, rfl⟩
      obtain ⟨dv, hdv9⟩ : ∃ dv, Hid (v / 2 ^ k = dv) := ⟨_, hide rfl⟩
      rw [hdv9.out] at hdv hb9
      have Hb := hide hb9.symm
      clear hb9
      go_upto_region 4 with (fail)
      refine wp_region_list (WL.out ?_)
      refine g_val (Nv .i64 k) ?_
      refine g_val (Nv .i64 bits) ?_
      refine g_val (.bool true) ?_ (B.lss_int (a := k) (c := bits) (b := true) (decide_eq_true hz) wr)
      refine g_nil ?_
      simp only [Act.put, List.setIfInBounds_toArray, List.set_cons_succ, List.set_cons_zero]
      go_upto_region 6 with (fail)
      refine wp_region_list (WL.out ?_)
      refine g_val (D N) ?_
      refine g_val (D N) ?_
      refine g_val (D N) ?_
      refine g_val (D N) ?_
      refine g_la (.slice S (c + k) cc) ((hB.cell 0).trans (rb_0 _ _)) agg_sb ?_
      refine g_val (Nv .u64 v) ?_
      refine g_val (Nv .i64 k) ?_
      refine g_val (Nv .u64 k) ?_ (B.c_int_uint (a := k) (d := k) rfl (by omega) wr)
      refine g_val (Nv .u64 dv) ?_ (B.shr_u64_uint (a := v) (s := k) (d := dv) hdv9.out (by omega) wr)
      refine g_val (Nv .u64 (dv % 2)) ?_ (B.and_u64 (a := dv) (c := 1) (d := dv % 2) (M.and1 _) (by omega) (by omega) wr)
      refine g_val (.bool b) ?_ (B.eql_u64 (a := dv % 2) (c := 1) (b := b) (Hb.out) wr)
      refine g_ap1 (.slice S (c + k) cc) el_b #[.bool b] hG (g := bt (X + v % 2 ^ (k + 1) * 2 ^ c)) rfl (by omega) (fun i _ => bt_one _ i) (fun i hi => bt_same hX (by omega)) (fun i hi => by obtain rfl : i = 0 := (by omega); rw [show (c + k) * 1 + 0 = c + k by omega, bt_next hX, hdv9.out, Hb.out]; rfl) (by kernel_rfl) (fun q r dd w2 hO => ?_)
      refine g_val (D N) ?_
      refine g_val (D N) ?_
      refine g_sc hO 0 0 (.slice (some ⟨q, 0, none⟩) (c + k + 1) (c + k + 1 + dd)) (.slice S (c + k) cc) rfl (rb_0 _ _) (fun hc hf => st_slice 51 sz_sb rfl (by kernel_rfl) (by kernel_rfl) hc hf) (rb_set0 _ _ _) (rb_fit _ _ _ _) ?_
      intro w2 hO
      refine g_nil ?_
      simp only [Act.put, List.setIfInBounds_toArray, List.set_cons_succ, List.set_cons_zero]
      have HO : Hid (RefS u w2 M' N (X + v % 2 ^ (k + 1) * 2 ^ c) (c + (k + 1)) t) := hide ⟨_, .inr ⟨q, dd, rfl, hO⟩⟩
      clear hO hG hB
      go_upto_region 5 with (fail)
      refine wp_region_list (WL.out ?_)
      refine g_val (Nv .i64 k) ?_
      refine g_val (Nv .i64 (k + 1)) ?_ (B.add_int (a := k) (c := 1) (d := k + 1) rfl (by omega) w2)
      refine g_val (Nv .i64 (k + 1)) ?_
      refine g_nil ?_
      simp only [Act.put, List.setIfInBounds_toArray, List.set_cons_succ, List.set_cons_zero]
      go_wp2_with (fail)
      go_roundw
      case rel => exact ⟨k + 1, hz, rfl, HO.out⟩
      case measure => show bits - ((k + 1 : Nat) : Int).toNat < bits - ((k : Nat) : Int).toNat; omega
    · obtain rfl : k = bits := by omega
      rw [Hal.out] at hG
      have HG : Hid (RefS u wr M' N (X + v * 2 ^ c) (c + k) t) := hide ⟨_, hG⟩
      clear hG
      go_upto_region 4 with (fail)
      refine wp_region_list (WL.out ?_)
      refine g_val (Nv .i64 k) ?_
      refine g_val (Nv .i64 k) ?_
      refine g_val (.bool false) ?_ (B.lss_int (a := k) (c := k) (b := false) (decide_eq_false hz) wr)
      refine g_nil ?_
      simp only [Act.put, List.setIfInBounds_toArray, List.set_cons_succ, List.set_cons_zero]
      go_upto_region 7 with (fail)
      refine wp_region_list (WL.out ?_)
      refine g_val (Nv .i64 0) ?_
      refine g_nil ?_
      simp only [Act.put, List.setIfInBounds_toArray, List.set_cons_succ, List.set_cons_zero]
      go_wp2_with (fail)
      go_ret
      exact ⟨rfl, HG.out⟩
set_option maxHeartbeats 1000000 in
theorem RPut_neg {v : Nat} {b : Int} (hb : b < 0) (N : Nat) (w : World) : Ret 41 #[D N, Nv .u64 v, .int .i64 b] w (Nv .i64 1) := by
  go_enter Try.func41, Try.ntmps41
  have hO := Own.start w
  go_upto_region 0 with (fail)
  refine wp_region_list (WL.out ?_)
  refine g_val (Nv .i64 0) ?_
  refine g_nil ?_
  simp only [Act.put, List.setIfInBounds_toArray, List.set_cons_succ, List.set_cons_zero]
  go_upto_region 1 with (fail)
  refine wp_region_list (WL.out ?_)
  refine g_val (.int .i64 b) ?_
  refine g_val (.bool true) ?_ (lssI_int (a := b) (c := 0) (decide_eq_true hb) w)
  refine g_val (.bool true) ?_
  refine g_skip ?_
  refine g_skip ?_
  refine g_val (.bool true) ?_
  refine g_val (.bool true) ?_
  refine g_skip ?_
  refine g_skip ?_
  refine g_skip ?_
  refine g_skip ?_
  refine g_skip ?_
  refine g_val (.bool true) ?_
  refine g_nil ?_
  simp only [Act.put, List.setIfInBounds_toArray, List.set_cons_succ, List.set_cons_zero]
  go_upto_region 2 with (fail)
  refine wp_region_list (WL.out ?_)
  refine g_val (Nv .i64 1) ?_
  refine g_nil ?_
  simp only [Act.put, List.setIfInBounds_toArray, List.set_cons_succ, List.set_cons_zero]
  have HF := hide hO.low
  clear hO
  go_wp2_with (fail)
  go_ret
  exact ⟨rfl, HF.out⟩
set_option maxHeartbeats 1000000 in
theorem RPut_big {v : Nat} {b : Int} (hb : 32 < b) (N : Nat) (w : World) : Ret 41 #[D N, Nv .u64 v, .int .i64 b] w (Nv .i64 1) := by
  go_enter Try.func41, Try.ntmps41
  have hO := Own.start w
  go_upto_region 0 with (fail)
  refine wp_region_list (WL.out ?_)
  refine g_val (Nv .i64 0) ?_
  refine g_nil ?_
  simp only [Act.put, List.setIfInBounds_toArray, List.set_cons_succ, List.set_cons_zero]
  go_upto_region 1 with (fail)
  refine wp_region_list (WL.out ?_)
  refine g_val (.int .i64 b) ?_
  refine g_val (.bool false) ?_ (lssI_int (a := b) (c := 0) (decide_eq_false (by omega)) w)
  refine g_val (.bool false) ?_
  refine g_val (.int .i64 b) ?_
  refine g_val (.bool true) ?_ (gtrI_int (a := b) (c := 32) (decide_eq_true hb) w)
  refine g_val (.bool true) ?_
  refine g_val (.bool true) ?_
  refine g_skip ?_
  refine g_skip ?_
  refine g_skip ?_
  refine g_skip ?_
  refine g_skip ?_
  refine g_val (.bool true) ?_
  refine g_nil ?_
  simp only [Act.put, List.setIfInBounds_toArray, List.set_cons_succ, List.set_cons_zero]
  go_upto_region 2 with (fail)
  refine wp_region_list (WL.out ?_)
  refine g_val (Nv .i64 1) ?_
  refine g_nil ?_
  simp only [Act.put, List.setIfInBounds_toArray, List.set_cons_succ, List.set_cons_zero]
  have HF := hide hO.low
  clear hO
  go_wp2_with (fail)
  go_ret
  exact ⟨rfl, HF.out⟩
set_option maxHeartbeats 1000000 in
theorem RPut_wide {v : Nat} {bits : Nat} (hb : bits ≤ 32) (hv : 2 ^ bits ≤ v) (N : Nat) (w : World) : Ret 41 #[D N, Nv .u64 v, Nv .i64 bits] w (Nv .i64 1) := by
  have h2 : 2 ^ bits < 18446744073709551616 := Nat.pow_lt_pow_right (by decide) (show bits < 64 by omega)
  go_enter Try.func41, Try.ntmps41
  have hO := Own.start w
  go_upto_region 0 with (fail)
  refine wp_region_list (WL.out ?_)
  refine g_val (Nv .i64 0) ?_
  refine g_nil ?_
  simp only [Act.put, List.setIfInBounds_toArray, List.set_cons_succ, List.set_cons_zero]
  go_upto_region 1 with (fail)
  refine wp_region_list (WL.out ?_)
  refine g_val (Nv .i64 bits) ?_
  refine g_val (.bool false) ?_ (B.lss_int (a := bits) (c := 0) (b := false) (decide_eq_false (by omega)) w)
  refine g_val (.bool false) ?_
  refine g_val (Nv .i64 bits) ?_
  refine g_val (.bool false) ?_ (B.gtr_int (a := bits) (c := 32) (b := false) (decide_eq_false (by omega)) w)
  refine g_val (.bool false) ?_
  refine g_val (.bool false) ?_
  refine g_val (Nv .u64 v) ?_
  refine g_val (Nv .i64 bits) ?_
  refine g_val (Nv .u64 bits) ?_ (B.c_int_uint (a := bits) (d := bits) rfl (by omega) w)
  refine g_val (Nv .u64 (2 ^ bits)) ?_ (B.shl_u64_uint (a := 1) (s := bits) (d := 2 ^ bits) (by rw [Nat.one_mul]; exact Nat.mod_eq_of_lt h2) (by omega) w)
  refine g_val (.bool true) ?_ (B.geq_u64 (a := v) (c := 2 ^ bits) (b := true) (decide_eq_true hv) w)
  refine g_val (.bool true) ?_
  refine g_nil ?_
  simp only [Act.put, List.setIfInBounds_toArray, List.set_cons_succ, List.set_cons_zero]
  go_upto_region 2 with (fail)
  refine wp_region_list (WL.out ?_)
  refine g_val (Nv .i64 1) ?_
  refine g_nil ?_
  simp only [Act.put, List.setIfInBounds_toArray, List.set_cons_succ, List.set_cons_zero]
  have HF := hide hO.low
  clear hO
  go_wp2_with (fail)
  go_ret
  exact ⟨rfl, HF.out⟩
theorem RPut_bad {v : Nat} {b : Int} (h : W.Bad v b) (N : Nat) (w : World) : Ret 41 #[D N, Nv .u64 v, .int .i64 b] w (Nv .i64 1) := by
  rcases h with h | h | ⟨n, rfl, h1, h2⟩
  · exact RPut_neg h N w
  · exact RPut_big h N w
  · exact RPut_wide h1 h2 N w
theorem byt_bit {X i j : Nat} (h : X.testBit i = true) : byt (X % 2 ^ (i + 1)) j = if j = i / 8 then byt (X % 2 ^ i) j + 2 ^ (i % 8) else byt (X % 2 ^ i) j := by
  rw [M.mod_step, M.byt_put (M.mod_lt2 _ _) (Nat.mod_lt _ (by decide))]
  rw [M.bit_is, decide_eq_true_eq] at h
  rw [h, Nat.one_mul]
theorem byt_none {X i : Nat} (h : X.testBit i = false) : X % 2 ^ (i + 1) = X % 2 ^ i := by
  rw [M.bit_is, decide_eq_false_iff_not] at h
  rw [M.mod_step, show X / 2 ^ i % 2 = 0 by omega, Nat.zero_mul, Nat.add_zero]
theorem byt_room {X i : Nat} : byt (X % 2 ^ i) (i / 8) + 2 ^ (i % 8) < 256 := by
  have h1 := M.byt_open (M.mod_lt2 X i)
  have h5 : 2 ^ (i % 8) ≤ 2 ^ 7 := Nat.pow_le_pow_right (by decide) (by omega)
  omega
theorem pow8_lt {i : Nat} : 2 ^ (i % 8) < 256 := by
  have h5 : 2 ^ (i % 8) ≤ 2 ^ 7 := Nat.pow_le_pow_right (by decide) (by omega)
  omega
set_option maxHeartbeats 4000000 in
theorem RBytes_c {X n m t c : Nat} {S : Option Addr} (hX : X < 2 ^ n) (hm : m = (n + 7) / 8) (hn : n ≤ 2 ^ 40) (N : Nat) (w : World) (hB : Blk w N (rb (.slice S n c) t) 53) (hS : Rc w S n (bt X)) :
    Calls Try.prog 25 #[D N] w fun e w' => ∃ q, e = .returned (.slice (some ⟨q, 0, none⟩) m m) ∧ Own w w' [(q, vals .u8 m (byt X), 5)] := by
  have hm40 : m ≤ 2 ^ 40 := by omega
  have Hm := hide hm
  clear hm
  go_enter Try.func25, Try.ntmps25
  have hO := Own.start w
  go_upto_region 0 with (fail)
  refine wp_region_list (WL.out ?_)
  refine g_val (.slice none 0 0) ?_
  refine g_nil ?_
  simp only [Act.put, List.setIfInBounds_toArray, List.set_cons_succ, List.set_cons_zero]
  go_upto_region 1 with (fail)
  refine wp_region_list (WL.out ?_)
  refine g_val (D N) ?_
  refine g_val (D N) ?_
  refine g_val (D N) ?_
  refine g_la (.slice S n c) (((hB.call hO.low).cell 0).trans (rb_0 _ _)) agg_sb ?_
  refine g_val (Nv .i64 n) ?_
  refine g_val (Nv .i64 (n + 7)) ?_ (B.add_int (a := n) (c := 7) (d := n + 7) rfl (by omega) w)
  refine g_val (Nv .i64 m) ?_ (B.quo_int (a := n + 7) (c := 8) (d := m) Hm.out.symm (by omega) (by omega) w)
  refine g_new hO (fun q => .slice (some ⟨q, 0, none⟩) m m) (vals .u8 m (fun _ => 0)) 5 (fit_sl _ _) (b_mk hm40 w) ?_
  intro n12 w1 hb12 hO
  replace hO : Own w w1 [(n12, vals .u8 m (fun _ => 0), 5)] := hO
  refine g_val (.slice (some ⟨n12, 0, none⟩) m m) ?_
  refine g_nil ?_
  simp only [Act.put, List.setIfInBounds_toArray, List.set_cons_succ, List.set_cons_zero]
  go_upto_region 2 with (fail)
  refine wp_region_list (WL.out ?_)
  refine g_val (Nv .i64 0) ?_
  refine g_nil ?_
  simp only [Act.put, List.setIfInBounds_toArray, List.set_cons_succ, List.set_cons_zero]
  have HO := hide hO
  clear hO
  go_wp2_with (fail)
  go_loopw [4] (fun x4 wr => ∃ (k : Nat), k ≤ n ∧ x4 = .int .i64 (k : Int) ∧ Own w wr [(n12, vals .u8 m (byt (X % 2 ^ k)), 5)]) (fun x4 _ => n - (intOf x4).toNat)
  case atStart => exact ⟨0, Nat.zero_le _, rfl, by rw [vals_congr .u8 m (byt (X % 2 ^ 0)) (fun _ => 0) fun i _ => by rw [Nat.pow_zero, Nat.mod_one]; exact M.byt_hi (c := 0) (by decide) (Nat.zero_le _)]; exact HO.out⟩
  case round =>
    clear HO
    obtain ⟨k, hk9, rfl, hO⟩ := hrel
    by_cases hz : k < n
    · have hkm : k / 8 < m := by have := Hm.out; omega
      obtain ⟨a, rfl, hcell⟩ := hS.cell hz
      go_upto_region 3 with (fail)
      refine wp_region_list (WL.out ?_)
      refine g_val (Nv .i64 k) ?_
      refine g_val (D N) ?_
      refine g_val (D N) ?_
      refine g_val (D N) ?_
      refine g_la (.slice (some a) n c) (((hB.call hO.low).cell 0).trans (rb_0 _ _)) agg_sb ?_
      refine g_val (Nv .i64 n) ?_
      refine g_val (.bool true) ?_ (B.lss_int (a := k) (c := n) (b := true) (decide_eq_true hz) wr)
      refine g_nil ?_
      simp only [Act.put, List.setIfInBounds_toArray, List.set_cons_succ, List.set_cons_zero]
      obtain ⟨b, hb⟩ : ∃ b, Hid (X.testBit k = b) := ⟨_, hide rfl⟩
      have hcell : ∀ w', Below w.heap.size w w' → w'.cell? (a.add (k * 1)) = some (.bool b) := fun w' h => by rw [Nat.mul_one, hcell w' h, bt, hb.out]
      go_upto_region 5 with (fail)
      refine wp_region_list (WL.out ?_)
      refine g_val (D N) ?_
      refine g_val (D N) ?_
      refine g_val (D N) ?_
      refine g_la (.slice (some a) n c) (((hB.call hO.low).cell 0).trans (rb_0 _ _)) agg_sb ?_
      refine g_val (Nv .i64 k) ?_
      refine g_val (.pointer (some (a.add (k * 1)))) ?_ (b_ix (n := n) (c := c) hz Try.underlying51 sz_bool wr)
      refine g_la (.bool b) (hcell _ hO.low) agg_bool ?_
      refine g_nil ?_
      simp only [Act.put, List.setIfInBounds_toArray, List.set_cons_succ, List.set_cons_zero]
      cases b with
      | true =>
        have Hs : Hid ((vals .u8 m (byt (X % 2 ^ k))).setIfInBounds (k / 8) (.int .u8 ((byt (X % 2 ^ k) (k / 8) + 2 ^ (k % 8) : Nat) : Int)) = vals .u8 m (byt (X % 2 ^ (k + 1)))) := hide (by
          rw [vals_set]
          refine vals_congr _ _ _ _ fun i _ => ?_
          rw [byt_bit hb.out]
          by_cases h : i = k / 8
          · rw [if_pos h, if_pos h, h]
          · rw [if_neg h, if_neg h])
        have hr := byt_room (X := X) (i := k)
        go_upto_region 6 with (fail)
        refine wp_region_list (WL.out ?_)
        refine g_val (.slice (some ⟨n12, 0, none⟩) m m) ?_
        refine g_val (Nv .i64 k) ?_
        refine g_val (Nv .i64 (k / 8)) ?_ (B.quo_int (a := k) (c := 8) (d := k / 8) rfl (by omega) (by omega) wr)
        refine g_val (.slice (some ⟨n12, 0, none⟩) m m) ?_
        refine g_val (Nv .i64 k) ?_
        refine g_val (Nv .i64 (k / 8)) ?_ (B.quo_int (a := k) (c := 8) (d := k / 8) rfl (by omega) (by omega) wr)
        refine g_val (E n12 (k / 8)) ?_ (b_ias (n := m) (c := m) hkm wr)
        refine g_lc hO 0 (k / 8) (Nv .u8 (byt (X % 2 ^ k) (k / 8))) rfl (vals_get _ _ _ _ hkm) agg_u8 ?_
        refine g_val (Nv .i64 k) ?_
        refine g_val (Nv .i64 (k % 8)) ?_ (B.rem_int (a := k) (c := 8) (d := k % 8) rfl (by omega) (by omega) wr)
        refine g_val (Nv .u64 (k % 8)) ?_ (B.c_int_uint (a := k % 8) (d := k % 8) rfl (by omega) wr)
        refine g_val (Nv .u8 (2 ^ (k % 8))) ?_ (B.shl_u8_uint (a := 1) (s := k % 8) (d := 2 ^ (k % 8)) (by rw [Nat.one_mul]; exact Nat.mod_eq_of_lt pow8_lt) (by omega) wr)
        refine g_val (Nv .u8 ((byt (X % 2 ^ k) (k / 8)) + (2 ^ (k % 8)))) ?_ (B.add_u8 (a := byt (X % 2 ^ k) (k / 8)) (c := 2 ^ (k % 8)) (d := (byt (X % 2 ^ k) (k / 8)) + (2 ^ (k % 8))) rfl hr wr)
        refine g_val (E n12 (k / 8)) ?_ (b_ias (n := m) (c := m) hkm wr)
        refine g_sc hO 0 (k / 8) (Nv .u8 (byt (X % 2 ^ k) (k / 8) + 2 ^ (k % 8))) (Nv .u8 (byt (X % 2 ^ k) (k / 8))) rfl (vals_get _ _ _ _ hkm) (fun hc hf => st_int 5 sz_u8 rfl (by kernel_rfl) (by kernel_rfl) hc hf) (Hs.out) (fit_sl _ _) ?_
        intro w2 hO
        replace hO : Own w w2 [(n12, vals .u8 m (byt (X % 2 ^ (k + 1))), 5)] := hO
        refine g_nil ?_
        simp only [Act.put, List.setIfInBounds_toArray, List.set_cons_succ, List.set_cons_zero]
        have HO := hide hO
        clear hO
        go_upto_region 4 with (fail)
        refine wp_region_list (WL.out ?_)
        refine g_val (Nv .i64 k) ?_
        refine g_val (Nv .i64 (k + 1)) ?_ (B.add_int (a := k) (c := 1) (d := k + 1) rfl (by omega) w2)
        refine g_val (Nv .i64 (k + 1)) ?_
        refine g_nil ?_
        simp only [Act.put, List.setIfInBounds_toArray, List.set_cons_succ, List.set_cons_zero]
        go_wp2_with (fail)
        go_roundw
        case rel => exact ⟨k + 1, hz, rfl, HO.out⟩
        case measure => show n - ((k + 1 : Nat) : Int).toNat < n - ((k : Nat) : Int).toNat; omega
      | false =>
        rw [← byt_none hb.out] at hO
        have HO := hide hO
        clear hO
        go_upto_region 4 with (fail)
        refine wp_region_list (WL.out ?_)
        refine g_val (Nv .i64 k) ?_
        refine g_val (Nv .i64 (k + 1)) ?_ (B.add_int (a := k) (c := 1) (d := k + 1) rfl (by omega) wr)
        refine g_val (Nv .i64 (k + 1)) ?_
        refine g_nil ?_
        simp only [Act.put, List.setIfInBounds_toArray, List.set_cons_succ, List.set_cons_zero]
        go_wp2_with (fail)
        go_roundw
        case rel => exact ⟨k + 1, hz, rfl, HO.out⟩
        case measure => show n - ((k + 1 : Nat) : Int).toNat < n - ((k : Nat) : Int).toNat; omega
    · obtain rfl : k = n := by omega
      rw [Nat.mod_eq_of_lt hX] at hO
      go_upto_region 3 with (fail)
      refine wp_region_list (WL.out ?_)
      refine g_val (Nv .i64 k) ?_
      refine g_val (D N) ?_
      refine g_val (D N) ?_
      refine g_val (D N) ?_
      refine g_la (.slice S k c) (((hB.call hO.low).cell 0).trans (rb_0 _ _)) agg_sb ?_
      refine g_val (Nv .i64 k) ?_
      refine g_val (.bool false) ?_ (B.lss_int (a := k) (c := k) (b := false) (decide_eq_false hz) wr)
      refine g_nil ?_
      simp only [Act.put, List.setIfInBounds_toArray, List.set_cons_succ, List.set_cons_zero]
      have HO := hide hO
      clear hO
      go_upto_region 7 with (fail)
      refine wp_region_list (WL.out ?_)
      refine g_val (.slice (some ⟨n12, 0, none⟩) m m) ?_
      refine g_val (.slice (some ⟨n12, 0, none⟩) m m) ?_
      refine g_nil ?_
      simp only [Act.put, List.setIfInBounds_toArray, List.set_cons_succ, List.set_cons_zero]
      go_wp2_with (fail)
      go_ret
      exact ⟨n12, rfl, HO.out⟩
end R
end Go.Proofs.Ytkljpidlfddgbaa

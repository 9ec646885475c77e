/- The reference's New, Left, Take. At most 2^26 bytes; no other condition. -/
import Derived.Test.YtkljpidlfddgbaaCe
import Derived.Test.YtkljpidlfddgbaaRl
namespace Go.Proofs.Ytkljpidlfddgbaa
set_option maxRecDepth 100000
open Go.RowKit Rg B


namespace R
theorem RPut_p {X v c t bits : Nat} (hX : X < 2 ^ c) (hv : v < 2 ^ bits) (hb : bits ≤ 32) (hc : c ≤ 2 ^ 29) (N : Nat) (u : World) (M' : List Row) (w : World) (hG : RefS u w M' N X c t) : RetP 41 #[D N, Nv .u64 v, Nv .i64 bits] w fun x w' => x = Nv .i64 0 ∧ RefS u w' M' N (X + v * 2 ^ c) (c + bits) t :=
  (RPut_c hX hv hb hc N u M' w hG).mono fun _ _ h => ⟨_, h.1, rfl, h.2⟩
theorem tk_true {X t k : Nat} (h : X.testBit (t + k) = true) : M.tk X t k + 2 ^ k = M.tk X t (k + 1) := by
  rw [M.bit_is, decide_eq_true_eq] at h
  rw [M.tk_step, h, Nat.one_mul]
theorem tk_false {X t k : Nat} (h : X.testBit (t + k) = false) : M.tk X t k = M.tk X t (k + 1) := by
  rw [M.bit_is, decide_eq_false_iff_not] at h
  rw [M.tk_step, show X / 2 ^ (t + k) % 2 = 0 by omega, Nat.zero_mul, Nat.add_zero]
theorem zero_true {X t k : Nat} (b : Bool) (h : X.testBit (t + k) = b) (hz : decide (M.tk X t k = 0) = true) : decide (M.tk X t (k + 1) = 0) = !b := by
  rw [decide_eq_true_eq] at hz
  cases b with
  | true =>
    rw [← tk_true h, hz, Nat.zero_add]
    exact decide_eq_false (Nat.ne_of_gt (Nat.two_pow_pos _))
  | false => rw [← tk_false h]; exact decide_eq_true hz
theorem zero_false {X t k : Nat} (hz : decide (M.tk X t k = 0) = false) : decide (M.tk X t (k + 1) = 0) = false := by
  rw [decide_eq_false_iff_not] at hz ⊢
  rw [M.tk_step]
  omega
theorem RefS.call {u w w' : World} {M' : List Row} {N X n t : Nat} (h : RefS u w M' N X n t) (hb : Below w.heap.size w w') : RefS u w' M' N X n t := by
  obtain ⟨v, hG⟩ := h
  exact ⟨v, hG.call hb⟩
set_option maxHeartbeats 1000000 in
theorem RLeft_c {n t c : Nat} {S : Option Addr} (hn : n ≤ 2 ^ 40) (ht : t ≤ n) (N : Nat) (w : World) (hB : Blk w N (rb (.slice S n c) t) 53) : Ret 55 #[D N] w (Nv .i64 (n - t)) := by
  go_enter Try.func55, Try.ntmps55
  have hO := Own.start w
  go_upto_region 0 with (fail)
  refine wp_region_list (WL.out ?_)
  refine g_val (Nv .i64 0) ?_
  refine g_nil ?_
  simp only [Act.put, List.setIfInBounds_toArray, List.set_cons_succ, List.set_cons_zero]
  go_upto_region 1 with (fail)
  refine Rg.pd [] (fun _ => [(3, D N), (4, D N), (5, D N), (6, .slice S n c), (7, Nv .i64 n), (8, D N), (9, D N), (10, E N 1), (11, Nv .i64 t), (12, Nv .i64 (n - t)), (2, Nv .i64 (n - t))]) (OI w (fun _ _ => [])) (fun _ => 0) hO.drew (Rg.ac nv (Rg.ac nv (Rg.ac nv (Rg.ac (nco (.slice S n c) hB (rb_0 _ _) agg_sb) (Rg.ac nv (Rg.ac nv (Rg.ac nv (Rg.ac nv (Rg.ac (nco (Nv .i64 t) hB (rb_1 _ _) agg_int) (Rg.ac (nx (fun _ => Nv .i64 (n - t)) (fun _ w => B.sub_int (a := n) (c := t) (d := n - t) (by omega) (by omega) w)) (Rg.ac nv Rg.an))))))))))) ?_
  intro ν w1 hO
  replace hO : Own w w1 [] := hO
  simp only [Rg.putL, Act.put, List.setIfInBounds_toArray, List.set_cons_succ, List.set_cons_zero]
  clear ν
  have HF := hide hO.low
  clear hO
  go_wp2_with (fail)
  go_ret
  exact ⟨rfl, HF.out⟩
set_option maxHeartbeats 4000000 in
theorem RNew_c {S : Option Addr} {n c : Nat} {f : Nat → Nat} (hf : ∀ i, f i < 256) (hn : n ≤ 2 ^ 26) (w : World) (hS : Rc w S n (by8 f)) :
    Calls Try.prog 28 #[.slice S n c] w fun e w' => ∃ N, e = .returned (D N) ∧ RefS w w' [] N (nb f n) (8 * n) 0 := by
  go_enter Try.func28, Try.ntmps28
  have hO := Own.start w
  go_upto_region 0 with (fail)
  refine wp_region_list (WL.out ?_)
  refine g_val (.pointer none) ?_
  refine g_nil ?_
  simp only [Act.put, List.setIfInBounds_toArray, List.set_cons_succ, List.set_cons_zero]
  go_upto_region 1 with (fail)
  refine wp_region_list (WL.out ?_)
  refine g_val (A (rb (.slice none 0 0) 0)) ?_ (run_bd 53 _ rfl [] (by kernel_rfl) _ rb_built w)
  refine g_new hO D (rb (.slice none 0 0) 0) 53 (rb_fit _ _ _ _) (run_box 53 _ rfl _ (by kernel_rfl) w) ?_
  intro n6 w1 _ hO
  replace hO : Own w w1 [(n6, rb (.slice none 0 0) 0, 53)] := hO
  refine g_val (D n6) ?_
  refine g_nil ?_
  simp only [Act.put, List.setIfInBounds_toArray, List.set_cons_succ, List.set_cons_zero]
  go_upto_region 2 with (fail)
  refine wp_region_list (WL.out ?_)
  refine g_val (Nv .i64 0) ?_
  refine g_nil ?_
  simp only [Act.put, List.setIfInBounds_toArray, List.set_cons_succ, List.set_cons_zero]
  have HG : Hid (RefS w w1 [] n6 (nb f 0) (8 * 0) 0) := hide ⟨_, .inl ⟨rfl, rfl, hO⟩⟩
  clear hO
  go_wp2_with (fail)
  go_loopw [4] (fun x4 wr => ∃ (k : Nat), k ≤ n ∧ x4 = .int .i64 (k : Int) ∧ RefS w wr [] n6 (nb f k) (8 * k) 0) (fun x4 _ => n - (intOf x4).toNat)
  case atStart => exact ⟨0, Nat.zero_le _, rfl, HG.out⟩
  case round =>
    clear HG
    obtain ⟨k, hk9, rfl, hG⟩ := hrel
    by_cases hz : k < n
    · obtain ⟨a, rfl, hcell⟩ := hS.cell hz
      have hcell : ∀ w', Below w.heap.size w w' → w'.cell? (a.add (k * 1)) = some (Nv .u8 (f k)) := fun w' h => by rw [Nat.mul_one, hcell w' h]; rfl
      have hlow : Below w.heap.size w wr := by obtain ⟨v, hG'⟩ := hG; exact hG'.low
      have HG := hide hG
      clear hG
      go_upto_region 3 with (fail)
      refine wp_region_list (WL.out ?_)
      refine g_val (Nv .i64 k) ?_
      refine g_val (.slice (some a) n c) ?_
      refine g_val (Nv .i64 n) ?_
      refine g_val (.bool true) ?_ (B.lss_int (a := k) (c := n) (b := true) (decide_eq_true hz) wr)
      refine g_nil ?_
      simp only [Act.put, List.setIfInBounds_toArray, List.set_cons_succ, List.set_cons_zero]
      go_upto_region 5 with (fail)
      refine wp_region_list (WL.out ?_)
      refine g_val (D n6) ?_
      refine g_val (.slice (some a) n c) ?_
      refine g_val (Nv .i64 k) ?_
      refine g_val (.pointer (some (a.add (k * 1)))) ?_ (b_ix (n := n) (c := c) hz Try.underlying44 sz_u8 wr)
      refine g_la (Nv .u8 (f k)) (hcell _ hlow) agg_u8 ?_
      refine g_val (Nv .u64 (f k)) ?_ (B.c_u8_u64 (a := f k) (d := f k) rfl (Nat.lt_trans (hf k) (by decide)) wr)
      refine g_any 41 #[D n6, Nv .u64 (f k), Nv .i64 8] (RPut_p (nb_lt f hf k) (show f k < 2 ^ 8 from hf k) (by decide) (by omega) n6 w [] wr HG.out) ?_
      rintro _ w2 ⟨rfl, hG⟩
      refine g_nil ?_
      simp only [Act.put, List.setIfInBounds_toArray, List.set_cons_succ, List.set_cons_zero]
      rw [← M.nb_step] at hG
      have HG2 := hide hG
      clear hG HG hlow
      go_upto_region 4 with (fail)
      refine wp_region_list (WL.out ?_)
      refine g_val (Nv .i64 k) ?_
      refine g_val (Nv .i64 (k + 1)) ?_ (B.add_int (a := k) (c := 1) (d := k + 1) rfl (by omega) w2)
      refine g_val (Nv .i64 (k + 1)) ?_
      refine g_nil ?_
      simp only [Act.put, List.setIfInBounds_toArray, List.set_cons_succ, List.set_cons_zero]
      go_wp2_with (fail)
      go_roundw
      case rel => exact ⟨k + 1, hz, rfl, HG2.out⟩
      case measure => show n - ((k + 1 : Nat) : Int).toNat < n - ((k : Nat) : Int).toNat; omega
    · obtain rfl : k = n := by omega
      have HG := hide hG
      clear hG
      go_upto_region 3 with (fail)
      refine wp_region_list (WL.out ?_)
      refine g_val (Nv .i64 k) ?_
      refine g_val (.slice S k c) ?_
      refine g_val (Nv .i64 k) ?_
      refine g_val (.bool false) ?_ (B.lss_int (a := k) (c := k) (b := false) (decide_eq_false hz) wr)
      refine g_nil ?_
      simp only [Act.put, List.setIfInBounds_toArray, List.set_cons_succ, List.set_cons_zero]
      go_upto_region 6 with (fail)
      refine wp_region_list (WL.out ?_)
      refine g_val (D n6) ?_
      refine g_val (D n6) ?_
      refine g_nil ?_
      simp only [Act.put, List.setIfInBounds_toArray, List.set_cons_succ, List.set_cons_zero]
      go_wp2_with (fail)
      go_ret
      exact ⟨n6, rfl, HG.out⟩
set_option maxHeartbeats 1000000 in
theorem RTake_neg {b : Int} (hb : b < 0) (N : Nat) (w : World) : Ret 43 #[D N, .int .i64 b] w (.tuple #[Nv .u64 0, Nv .i64 1]) := by
  go_enter Try.func43, Try.ntmps43
  have hO := Own.start w
  go_upto_region 0 with (fail)
  refine wp_region_list (WL.out ?_)
  refine g_val (Nv .u64 0) ?_
  refine g_val (Nv .i64 0) ?_
  refine g_nil ?_
  simp only [Act.put, List.setIfInBounds_toArray, List.set_cons_succ, List.set_cons_zero]
  go_upto_region 1 with (fail)
  refine wp_region_list (WL.out ?_)
  refine g_val (.int .i64 b) ?_
  refine g_val (.bool true) ?_ (lssI_int (a := b) (c := 0) (decide_eq_true hb) w)
  refine g_val (.bool true) ?_
  refine g_skip ?_
  refine g_skip ?_
  refine g_val (.bool true) ?_
  refine g_nil ?_
  simp only [Act.put, List.setIfInBounds_toArray, List.set_cons_succ, List.set_cons_zero]
  go_upto_region 2 with (fail)
  refine wp_region_list (WL.out ?_)
  refine g_val (Nv .u64 0) ?_
  refine g_val (Nv .i64 1) ?_
  refine g_nil ?_
  simp only [Act.put, List.setIfInBounds_toArray, List.set_cons_succ, List.set_cons_zero]
  have HF := hide hO.low
  clear hO
  go_wp2_with (fail)
  go_ret2
  exact ⟨rfl, HF.out⟩
set_option maxHeartbeats 1000000 in
theorem RTake_big {b : Int} (hb : 32 < b) (N : Nat) (w : World) : Ret 43 #[D N, .int .i64 b] w (.tuple #[Nv .u64 0, Nv .i64 1]) := by
  go_enter Try.func43, Try.ntmps43
  have hO := Own.start w
  go_upto_region 0 with (fail)
  refine wp_region_list (WL.out ?_)
  refine g_val (Nv .u64 0) ?_
  refine g_val (Nv .i64 0) ?_
  refine g_nil ?_
  simp only [Act.put, List.setIfInBounds_toArray, List.set_cons_succ, List.set_cons_zero]
  go_upto_region 1 with (fail)
  refine wp_region_list (WL.out ?_)
  refine g_val (.int .i64 b) ?_
  refine g_val (.bool false) ?_ (lssI_int (a := b) (c := 0) (decide_eq_false (by omega)) w)
  refine g_val (.bool false) ?_
  refine g_val (.int .i64 b) ?_
  refine g_val (.bool true) ?_ (gtrI_int (a := b) (c := 32) (decide_eq_true hb) w)
  refine g_val (.bool true) ?_
  refine g_nil ?_
  simp only [Act.put, List.setIfInBounds_toArray, List.set_cons_succ, List.set_cons_zero]
  go_upto_region 2 with (fail)
  refine wp_region_list (WL.out ?_)
  refine g_val (Nv .u64 0) ?_
  refine g_val (Nv .i64 1) ?_
  refine g_nil ?_
  simp only [Act.put, List.setIfInBounds_toArray, List.set_cons_succ, List.set_cons_zero]
  have HF := hide hO.low
  clear hO
  go_wp2_with (fail)
  go_ret2
  exact ⟨rfl, HF.out⟩
set_option maxHeartbeats 1000000 in
theorem RTake_more {n t c : Nat} {S : Option Addr} {b : Nat} (hb : b ≤ 32) (hv : n < t + b) (hn : n ≤ 2 ^ 40) (ht : t ≤ n) (N : Nat) (w : World) (hB : Blk w N (rb (.slice S n c) t) 53) : Ret 43 #[D N, Nv .i64 b] w (.tuple #[Nv .u64 0, Nv .i64 120]) := by
  go_enter Try.func43, Try.ntmps43
  have hO := Own.start w
  go_upto_region 0 with (fail)
  refine wp_region_list (WL.out ?_)
  refine g_val (Nv .u64 0) ?_
  refine g_val (Nv .i64 0) ?_
  refine g_nil ?_
  simp only [Act.put, List.setIfInBounds_toArray, List.set_cons_succ, List.set_cons_zero]
  go_upto_region 1 with (fail)
  refine wp_region_list (WL.out ?_)
  refine g_val (Nv .i64 b) ?_
  refine g_val (.bool false) ?_ (B.lss_int (a := b) (c := 0) (b := false) (decide_eq_false (by omega)) w)
  refine g_val (.bool false) ?_
  refine g_val (Nv .i64 b) ?_
  refine g_val (.bool false) ?_ (B.gtr_int (a := b) (c := 32) (b := false) (decide_eq_false (by omega)) w)
  refine g_val (.bool false) ?_
  refine g_nil ?_
  simp only [Act.put, List.setIfInBounds_toArray, List.set_cons_succ, List.set_cons_zero]
  go_upto_region 3 with (fail)
  refine wp_region_list (WL.out ?_)
  refine g_val (Nv .i64 b) ?_
  refine g_val (D N) ?_
  refine g_call hO 55 #[D N] (Nv .i64 (n - t)) (RLeft_c hn ht N w hB) ?_
  intro w1 hb16 hO
  refine g_val (.bool true) ?_ (B.gtr_int (a := b) (c := n - t) (b := true) (decide_eq_true (by omega)) w1)
  refine g_nil ?_
  simp only [Act.put, List.setIfInBounds_toArray, List.set_cons_succ, List.set_cons_zero]
  go_upto_region 4 with (fail)
  refine wp_region_list (WL.out ?_)
  refine g_val (Nv .u64 0) ?_
  refine g_val (Nv .i64 120) ?_
  refine g_nil ?_
  simp only [Act.put, List.setIfInBounds_toArray, List.set_cons_succ, List.set_cons_zero]
  have HF := hide hO.low
  clear hO hB
  go_wp2_with (fail)
  go_ret2
  exact ⟨rfl, HF.out⟩
set_option maxHeartbeats 4000000 in
theorem RTake_c {X n t bits : Nat} (hb : bits ≤ 32) (hn : n ≤ 2 ^ 40) (ht : t + bits ≤ n) (N : Nat) (u : World) (M' : List Row) (w : World) (hG : RefS u w M' N X n t) :
    Calls Try.prog 43 #[D N, Nv .i64 bits] w fun e w' => e = .returned (.tuple #[Nv .u64 (M.tk X t bits), Nv .i64 0]) ∧ RefS u w' M' N X n (t + bits) := by
  obtain ⟨y, hG⟩ := hG
  obtain ⟨S, cc, rfl⟩ := gr_sl hG
  have hB := gr_blk hG (j := 0) rfl
  go_enter Try.func43, Try.ntmps43
  have hO := Own.start w
  go_upto_region 0 with (fail)
  refine wp_region_list (WL.out ?_)
  refine g_val (Nv .u64 0) ?_
  refine g_val (Nv .i64 0) ?_
  refine g_nil ?_
  simp only [Act.put, List.setIfInBounds_toArray, List.set_cons_succ, List.set_cons_zero]
  go_upto_region 1 with (fail)
  refine wp_region_list (WL.out ?_)
  refine g_val (Nv .i64 bits) ?_
  refine g_val (.bool false) ?_ (B.lss_int (a := bits) (c := 0) (b := false) (decide_eq_false (by omega)) w)
  refine g_val (.bool false) ?_
  refine g_val (Nv .i64 bits) ?_
  refine g_val (.bool false) ?_ (B.gtr_int (a := bits) (c := 32) (b := false) (decide_eq_false (by omega)) w)
  refine g_val (.bool false) ?_
  refine g_nil ?_
  simp only [Act.put, List.setIfInBounds_toArray, List.set_cons_succ, List.set_cons_zero]
  go_upto_region 3 with (fail)
  refine wp_region_list (WL.out ?_)
  refine g_val (Nv .i64 bits) ?_
  refine g_val (D N) ?_
  refine g_call hO 55 #[D N] (Nv .i64 (n - t)) (RLeft_c hn (by omega) N w (hB.call hO.low)) ?_
  intro w1 hb16 hO
  refine g_val (.bool false) ?_ (B.gtr_int (a := bits) (c := n - t) (b := false) (decide_eq_false (by omega)) w1)
  refine g_nil ?_
  simp only [Act.put, List.setIfInBounds_toArray, List.set_cons_succ, List.set_cons_zero]
  go_upto_region 5 with (fail)
  refine wp_region_list (WL.out ?_)
  refine g_val (Nv .u64 0) ?_
  refine g_nil ?_
  simp only [Act.put, List.setIfInBounds_toArray, List.set_cons_succ, List.set_cons_zero]
  go_upto_region 6 with (fail)
  refine wp_region_list (WL.out ?_)
  refine g_val (Nv .i64 0) ?_
  refine g_nil ?_
  simp only [Act.put, List.setIfInBounds_toArray, List.set_cons_succ, List.set_cons_zero]
  have HG := hide (hG.call hO.low)
  clear hO hG hB
  go_wp2_with (fail)
  go_loopw [6, 7] (fun x6 x7 wr => ∃ (k s : Nat), k ≤ bits ∧ x6 = .int .u64 ((M.tk X t k : Nat) : Int) ∧ x7 = .int .i64 (k : Int) ∧ s = t + k ∧ RefS u wr M' N X n s) (fun _ x7 _ => bits - (intOf x7).toNat)
  case atStart => exact ⟨0, t, Nat.zero_le _, by rw [M.tk_zero], rfl, rfl, _, HG.out⟩
  case round =>
    clear HG
    obtain ⟨k, s, hk9, rfl, rfl, hs, y, hG⟩ := hrel
    obtain ⟨S, cc, rfl⟩ := gr_sl hG
    by_cases hz : k < bits
    · have hB := gr_blk hG (j := 0) rfl
      have hsn : s < n := by omega
      have hk33 : k < 33 := by omega
      obtain ⟨a, rfl, hcell⟩ := (gr_rc hG).cell hsn
      obtain ⟨b, hb8⟩ : ∃ b, Hid (X.testBit (t + k) = b) := ⟨_, hide rfl⟩
      have hcell : ∀ w', Below wr.heap.size wr w' → w'.cell? (a.add (s * 1)) = some (.bool b) := fun w' h => by rw [Nat.mul_one, hcell w' h, bt, hs, hb8.out]
      have hl1 := W.tk_lt64 (Y := X) (t := t) (k := k + 1) (by omega)
      have hl2 : 2 ^ k < 18446744073709551616 := Nat.pow_lt_pow_right (by decide) (show k < 64 by omega)
      have hO := Own.start wr
      go_upto_region 7 with (fail)
      refine wp_region_list (WL.out ?_)
      refine g_val (Nv .i64 k) ?_
      refine g_val (Nv .i64 bits) ?_
      refine g_val (.bool true) ?_ (B.lss_int (a := k) (c := bits) (b := true) (decide_eq_true hz) wr)
      refine g_nil ?_
      simp only [Act.put, List.setIfInBounds_toArray, List.set_cons_succ, List.set_cons_zero]
      go_upto_region 9 with (fail)
      refine Rg.pd [] (fun _ => [(23, D N), (24, D N), (25, D N), (26, .slice (some a) n cc), (27, D N), (28, D N), (29, E N 1), (30, Nv .i64 s), (31, .pointer (some (a.add (s * 1)))), (32, .bool b)]) (OI wr (fun _ _ => [])) (fun _ => 0) hO.drew (Rg.ac nv (Rg.ac nv (Rg.ac nv (Rg.ac (nco (.slice (some a) n cc) hB (rb_0 _ _) agg_sb) (Rg.ac nv (Rg.ac nv (Rg.ac nv (Rg.ac (nco (Nv .i64 s) hB (rb_1 _ _) agg_int) (Rg.ac (nx (fun _ => .pointer (some (a.add (s * 1)))) (fun _ w => b_ix (n := n) (c := cc) hsn Try.underlying51 sz_bool w)) (Rg.ac (nca (.bool b) hcell agg_bool) Rg.an)))))))))) ?_
      intro ν w2 hO
      replace hO : Own wr w2 [] := hO
      simp only [Rg.putL, Act.put, List.setIfInBounds_toArray, List.set_cons_succ, List.set_cons_zero]
      clear ν
      replace hG := hG.call hO.low
      clear hO hB hcell
      cases b with
      | true =>
        go_upto_region 10 with (fail)
        refine wp_region_list (WL.out ?_)
        refine g_val (Nv .u64 (M.tk X t k)) ?_
        refine g_val (Nv .i64 k) ?_
        refine g_val (Nv .u64 k) ?_ (B.c_int_uint (a := k) (d := k) rfl (by omega) w2)
        refine g_val (Nv .u64 (2 ^ k)) ?_ (B.shl_u64_uint (a := 1) (s := k) (d := 2 ^ k) (by rw [Nat.one_mul]; exact Nat.mod_eq_of_lt hl2) (by omega) w2)
        refine g_val (Nv .u64 (M.tk X t (k + 1))) ?_ (B.add_u64 (a := M.tk X t k) (c := 2 ^ k) (d := M.tk X t (k + 1)) (tk_true hb8.out) hl1 w2)
        refine g_val (Nv .u64 (M.tk X t (k + 1))) ?_
        refine g_nil ?_
        simp only [Act.put, List.setIfInBounds_toArray, List.set_cons_succ, List.set_cons_zero]
        obtain ⟨R, hO, hback⟩ := gr_own hG
        clear hG
        go_upto_region 11 with (fail)
        refine wp_region_list (WL.out ?_)
        refine g_val (D N) ?_
        refine g_val (D N) ?_
        refine g_val (E N 1) ?_
        refine g_lc hO 0 1 (Nv .i64 s) rfl (rb_1 _ _) agg_int ?_
        refine g_val (Nv .i64 (s + 1)) ?_ (B.add_int (a := s) (c := 1) (d := s + 1) (by omega) (by omega) w2)
        refine g_val (D N) ?_
        refine g_val (E N 1) ?_
        refine g_sc hO 0 1 (Nv .i64 (s + 1)) (Nv .i64 s) rfl (rb_1 _ _) (fun hc hf => st_int 3 sz_int rfl (by kernel_rfl) (by kernel_rfl) hc hf) (rb_set1 _ _ _) (rb_fit _ _ _ _) ?_
        intro w3 hO
        refine g_nil ?_
        simp only [Act.put, List.setIfInBounds_toArray, List.set_cons_succ, List.set_cons_zero]
        have HG := hide (hback _ _ hO)
        clear hO hback
        go_upto_region 8 with (fail)
        refine wp_region_list (WL.out ?_)
        refine g_val (Nv .i64 k) ?_
        refine g_val (Nv .i64 (k + 1)) ?_ (B.add_int (a := k) (c := 1) (d := k + 1) rfl (by omega) w3)
        refine g_val (Nv .i64 (k + 1)) ?_
        refine g_nil ?_
        simp only [Act.put, List.setIfInBounds_toArray, List.set_cons_succ, List.set_cons_zero]
        go_wp2_with (fail)
        go_roundw
        case rel => exact ⟨k + 1, s + 1, hz, rfl, rfl, by omega, _, HG.out⟩
        case measure => show bits - ((k + 1 : Nat) : Int).toNat < bits - ((k : Nat) : Int).toNat; omega
      | false =>
        rw [tk_false hb8.out]
        obtain ⟨R, hO, hback⟩ := gr_own hG
        clear hG
        go_upto_region 11 with (fail)
        refine wp_region_list (WL.out ?_)
        refine g_val (D N) ?_
        refine g_val (D N) ?_
        refine g_val (E N 1) ?_
        refine g_lc hO 0 1 (Nv .i64 s) rfl (rb_1 _ _) agg_int ?_
        refine g_val (Nv .i64 (s + 1)) ?_ (B.add_int (a := s) (c := 1) (d := s + 1) (by omega) (by omega) w2)
        refine g_val (D N) ?_
        refine g_val (E N 1) ?_
        refine g_sc hO 0 1 (Nv .i64 (s + 1)) (Nv .i64 s) rfl (rb_1 _ _) (fun hc hf => st_int 3 sz_int rfl (by kernel_rfl) (by kernel_rfl) hc hf) (rb_set1 _ _ _) (rb_fit _ _ _ _) ?_
        intro w3 hO
        refine g_nil ?_
        simp only [Act.put, List.setIfInBounds_toArray, List.set_cons_succ, List.set_cons_zero]
        have HG := hide (hback _ _ hO)
        clear hO hback
        go_upto_region 8 with (fail)
        refine wp_region_list (WL.out ?_)
        refine g_val (Nv .i64 k) ?_
        refine g_val (Nv .i64 (k + 1)) ?_ (B.add_int (a := k) (c := 1) (d := k + 1) rfl (by omega) w3)
        refine g_val (Nv .i64 (k + 1)) ?_
        refine g_nil ?_
        simp only [Act.put, List.setIfInBounds_toArray, List.set_cons_succ, List.set_cons_zero]
        go_wp2_with (fail)
        go_roundw
        case rel => exact ⟨k + 1, s + 1, hz, rfl, rfl, by omega, _, HG.out⟩
        case measure => show bits - ((k + 1 : Nat) : Int).toNat < bits - ((k : Nat) : Int).toNat; omega
    · obtain rfl : k = bits := by omega
      subst hs
      have HG := hide hG
      clear hG
      go_upto_region 7 with (fail)
      refine wp_region_list (WL.out ?_)
      refine g_val (Nv .i64 k) ?_
      refine g_val (Nv .i64 k) ?_
      refine g_val (.bool false) ?_ (B.lss_int (a := k) (c := k) (b := false) (decide_eq_false hz) wr)
      refine g_nil ?_
      simp only [Act.put, List.setIfInBounds_toArray, List.set_cons_succ, List.set_cons_zero]
      go_upto_region 12 with (fail)
      refine wp_region_list (WL.out ?_)
      refine g_val (Nv .u64 (M.tk X t k)) ?_
      refine g_val (Nv .u64 (M.tk X t k)) ?_
      refine g_val (Nv .i64 0) ?_
      refine g_nil ?_
      simp only [Act.put, List.setIfInBounds_toArray, List.set_cons_succ, List.set_cons_zero]
      go_wp2_with (fail)
      go_ret2
      exact ⟨rfl, _, HG.out⟩
end R
end Go.Proofs.Ytkljpidlfddgbaa

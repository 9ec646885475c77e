/- The walk of HuffLeast. No conditions but that counts are of 32 bits. -/
import Derived.Test.YtkljpidlfddgbaaTa
import Derived.Test.YtkljpidlfddgbaaTc
import Derived.Test.YtkljpidlfddgbaaRn
namespace Go.Proofs.Ytkljpidlfddgbaa
set_option maxRecDepth 100000
open Go.RowKit Rg B

open W R
namespace Q
open H Z
set_option maxHeartbeats 8000000 in
theorem least_walk {S : Option Addr} {n c : Nat} {q : Int} {cn : Nat → Nat} (hcn : ∀ i, cn i < 4294967296) (w : World) (hS : Rc w S n (nwA cn)) : Ret 4 #[.slice S n c, .int .i64 q] w (.bool true) := by
  replace hS : Rc w S n (H.nw cn) := hS
  go_enter Try.func4, Try.ntmps4
  have hO := Own.start w
  go_upto_region 0 with (fail)
  refine wp_region_list (WL.out ?_)
  refine g_val (.bool false) ?_
  refine g_nil ?_
  simp only [Act.put, List.setIfInBounds_toArray, List.set_cons_succ, List.set_cons_zero]
  go_upto_region 1 with (fail)
  refine wp_region_list (WL.out ?_)
  refine g_call hO 13 #[] (.bool true) (Awake_c w) ?_
  intro w1 hb13 hO
  refine g_val (.bool true) ?_
  refine g_nil ?_
  simp only [Act.put, List.setIfInBounds_toArray, List.set_cons_succ, List.set_cons_zero]
  by_cases hbig : 60 < n
  · have hbig' := hbig
    go_upto_region 2 with (fail)
    refine wp_region_list (WL.out ?_)
    refine g_val (.slice S n c) ?_
    refine g_val (Nv .i64 n) ?_
    refine g_val (.bool true) ?_ (B.gtr_int (a := n) (c := 60) (b := true) (decide_eq_true hbig) w1)
    refine g_nil ?_
    simp only [Act.put, List.setIfInBounds_toArray, List.set_cons_succ, List.set_cons_zero]
    go_upto_region 3 with (fail)
    refine wp_region_list (WL.out ?_)
    refine g_val (.bool true) ?_
    refine g_val (.bool true) ?_
    refine g_nil ?_
    simp only [Act.put, List.setIfInBounds_toArray, List.set_cons_succ, List.set_cons_zero]
    have HF := hide hO.low
    clear hO
    go_wp2_with (fail)
    go_ret
    exact ⟨rfl, HF.out⟩
  · have hn : n ≤ 60 := by omega
    go_upto_region 2 with (fail)
    refine wp_region_list (WL.out ?_)
    refine g_val (.slice S n c) ?_
    refine g_val (Nv .i64 n) ?_
    refine g_val (.bool false) ?_ (B.gtr_int (a := n) (c := 60) (b := false) (decide_eq_false hbig) w1)
    refine g_nil ?_
    simp only [Act.put, List.setIfInBounds_toArray, List.set_cons_succ, List.set_cons_zero]
    clear hbig
    go_upto_region 4 with (fail)
    refine wp_region_list (WL.out ?_)
    refine g_val (Nv .i64 0) ?_
    refine g_nil ?_
    simp only [Act.put, List.setIfInBounds_toArray, List.set_cons_succ, List.set_cons_zero]
    go_upto_region 5 with (fail)
    refine wp_region_list (WL.out ?_)
    refine g_val (Nv .i64 0) ?_
    refine g_nil ?_
    simp only [Act.put, List.setIfInBounds_toArray, List.set_cons_succ, List.set_cons_zero]
    have HO := hide hO
    clear hO
    go_wp2_with (fail)
    go_loopw [6, 7] (fun x6 x7 wr => ∃ k : Nat, k ≤ n ∧ x7 = .int .i64 (k : Int) ∧ x6 = Nv .i64 (many cn k) ∧ Own w wr []) (fun _ x7 _ => n - (intOf x7).toNat)
    case atStart => exact ⟨0, Nat.zero_le _, rfl, rfl, HO.out⟩
    case round =>
      clear HO
      obtain ⟨k, hk9, rfl, rfl, hO⟩ := hrel
      by_cases hz : k < n
      · have hk0 : 0 ≤ k := Nat.zero_le _
        go_upto_region 6 with (fail)
        refine wp_region_list (WL.out ?_)
        refine g_val (Nv .i64 k) ?_
        refine g_val (.slice S n c) ?_
        refine g_val (Nv .i64 n) ?_
        refine g_val (.bool true) ?_ (B.lss_int (a := k) (c := n) (b := true) (decide_eq_true hz) wr)
        refine g_nil ?_
        simp only [Act.put, List.setIfInBounds_toArray, List.set_cons_succ, List.set_cons_zero]
        obtain ⟨a, rfl, hck⟩ := hS.cell hz
        have hmk := many_le (l := cn) (n := k)
        have hnx := many_next (cn := cn) k
        by_cases hpos : 0 < cn k
        · rw [if_pos (show 1 ≤ cn k from hpos)] at hnx
          go_upto_region 8 with (fail)
          refine wp_region_list (WL.out ?_)
          refine g_val (.slice (some a) n c) ?_
          refine g_val (Nv .i64 k) ?_
          refine g_val (.pointer (some (a.add k))) ?_ (b_ixs (n := n) (c := c) hz Try.underlying23 sz_u32 wr)
          refine g_la (Nv .u32 (cn k)) (hck wr hO.low) agg_u32 ?_
          refine g_val (.bool true) ?_ (B.gtr_u32 (a := cn k) (c := 0) (b := true) (decide_eq_true hpos) wr)
          refine g_nil ?_
          simp only [Act.put, List.setIfInBounds_toArray, List.set_cons_succ, List.set_cons_zero]
          go_upto_region 9 with (fail)
          refine wp_region_list (WL.out ?_)
          refine g_val (Nv .i64 (many cn k)) ?_
          refine g_val (Nv .i64 (many cn (k + 1))) ?_ (B.add_int (a := many cn k) (c := 1) (d := many cn (k + 1)) hnx.symm (by omega) wr)
          refine g_val (Nv .i64 (many cn (k + 1))) ?_
          refine g_nil ?_
          simp only [Act.put, List.setIfInBounds_toArray, List.set_cons_succ, List.set_cons_zero]
          have HO := hide hO
          clear hO
          go_upto_region 7 with (fail)
          refine wp_region_list (WL.out ?_)
          refine g_val (Nv .i64 k) ?_
          refine g_val (Nv .i64 (k + 1)) ?_ (B.add_int (a := k) (c := 1) (d := k + 1) rfl (by omega) wr)
          refine g_val (Nv .i64 (k + 1)) ?_
          refine g_nil ?_
          simp only [Act.put, List.setIfInBounds_toArray, List.set_cons_succ, List.set_cons_zero]
          go_wp2_with (fail)
          go_roundw
          case rel => exact ⟨k + 1, hz, rfl, rfl, HO.out⟩
          case measure => show n - ((k + 1 : Nat) : Int).toNat < n - ((k : Nat) : Int).toNat; omega
        · rw [if_neg (show ¬ 1 ≤ cn k from hpos), Nat.add_zero] at hnx
          go_upto_region 8 with (fail)
          refine wp_region_list (WL.out ?_)
          refine g_val (.slice (some a) n c) ?_
          refine g_val (Nv .i64 k) ?_
          refine g_val (.pointer (some (a.add k))) ?_ (b_ixs (n := n) (c := c) hz Try.underlying23 sz_u32 wr)
          refine g_la (Nv .u32 (cn k)) (hck wr hO.low) agg_u32 ?_
          refine g_val (.bool false) ?_ (B.gtr_u32 (a := cn k) (c := 0) (b := false) (decide_eq_false hpos) wr)
          refine g_nil ?_
          simp only [Act.put, List.setIfInBounds_toArray, List.set_cons_succ, List.set_cons_zero]
          have HO := hide hO
          clear hO
          go_upto_region 7 with (fail)
          refine wp_region_list (WL.out ?_)
          refine g_val (Nv .i64 k) ?_
          refine g_val (Nv .i64 (k + 1)) ?_ (B.add_int (a := k) (c := 1) (d := k + 1) rfl (by omega) wr)
          refine g_val (Nv .i64 (k + 1)) ?_
          refine g_nil ?_
          simp only [Act.put, List.setIfInBounds_toArray, List.set_cons_succ, List.set_cons_zero]
          go_wp2_with (fail)
          go_roundw
          case rel => exact ⟨k + 1, hz, rfl, congrArg (fun x : Nat => Value.int .i64 ((x : Nat) : Int)) hnx.symm, HO.out⟩
          case measure => show n - ((k + 1 : Nat) : Int).toNat < n - ((k : Nat) : Int).toNat; omega
      · obtain rfl : k = n := by omega
        clear hk9
        go_upto_region 6 with (fail)
        refine wp_region_list (WL.out ?_)
        refine g_val (Nv .i64 k) ?_
        refine g_val (.slice S k c) ?_
        refine g_val (Nv .i64 k) ?_
        refine g_val (.bool false) ?_ (B.lss_int (a := k) (c := k) (b := false) (decide_eq_false hz) wr)
        refine g_nil ?_
        simp only [Act.put, List.setIfInBounds_toArray, List.set_cons_succ, List.set_cons_zero]
        by_cases hq : q < 1 ∨ 15 < q
        · have Hq := hide hq
          go_upto_region 10 with (fail)
          refine wp_region_list (WL.out ?_)
          refine g_val (.slice S k c) ?_
          refine g_val (.int .i64 q) ?_
          refine g_call hO 14 #[.slice S k c, .int .i64 q] (.tuple #[.slice none 0 0, Nv .i64 1]) (PLens_bad hq wr) ?_
          intro w2 hb34 hO
          refine g_val (.tuple #[.slice none 0 0, Nv .i64 1]) ?_
          refine g_val (.slice none 0 0) ?_
          refine g_val (Nv .i64 1) ?_
          refine g_val (.slice none 0 0) ?_
          refine g_val (Nv .i64 1) ?_
          refine g_nil ?_
          simp only [Act.put, List.setIfInBounds_toArray, List.set_cons_succ, List.set_cons_zero]
          by_cases h1 : q < 1
          · have h1' := h1
            go_upto_region 11 with (fail)
            refine wp_region_list (WL.out ?_)
            refine g_val (.int .i64 q) ?_
            refine g_val (.bool true) ?_ (lssI_int (a := q) (c := 1) (decide_eq_true h1) w2)
            refine g_val (.bool true) ?_
            refine g_skip ?_
            refine g_skip ?_
            refine g_val (.bool true) ?_
            refine g_val (.bool true) ?_
            refine g_skip ?_
            refine g_skip ?_
            refine g_skip ?_
            refine g_skip ?_
            refine g_skip ?_
            refine g_val (.bool true) ?_
            refine g_nil ?_
            simp only [Act.put, List.setIfInBounds_toArray, List.set_cons_succ, List.set_cons_zero]
            go_upto_region 12 with (fail)
            refine wp_region_list (WL.out ?_)
            refine g_val (.bool true) ?_
            refine g_val (.bool true) ?_
            refine g_val (Nv .i64 1) ?_
            refine g_val (.bool true) ?_
            refine g_val (.bool true) ?_
            refine g_val (.bool true) ?_
            refine g_val (.slice none 0 0) ?_
            refine g_val (Nv .i64 0) ?_
            refine g_val (.bool true) ?_ (B.eql_int (a := 0) (c := 0) (b := true) (rfl) w2)
            refine g_val (.bool true) ?_
            refine g_val (.bool true) ?_
            refine g_nil ?_
            simp only [Act.put, List.setIfInBounds_toArray, List.set_cons_succ, List.set_cons_zero]
            have HF := hide hO.low
            clear hO
            go_wp2_with (fail)
            go_ret
            exact ⟨rfl, HF.out⟩
          · have h2 : 15 < q := by omega
            go_upto_region 11 with (fail)
            refine wp_region_list (WL.out ?_)
            refine g_val (.int .i64 q) ?_
            refine g_val (.bool false) ?_ (lssI_int (a := q) (c := 1) (decide_eq_false h1) w2)
            refine g_val (.bool false) ?_
            refine g_val (.int .i64 q) ?_
            refine g_val (.bool true) ?_ (gtrI_int (a := q) (c := 15) (decide_eq_true h2) w2)
            refine g_val (.bool true) ?_
            refine g_val (.bool true) ?_
            refine g_skip ?_
            refine g_skip ?_
            refine g_skip ?_
            refine g_skip ?_
            refine g_skip ?_
            refine g_val (.bool true) ?_
            refine g_nil ?_
            simp only [Act.put, List.setIfInBounds_toArray, List.set_cons_succ, List.set_cons_zero]
            go_upto_region 12 with (fail)
            refine wp_region_list (WL.out ?_)
            refine g_val (.bool true) ?_
            refine g_val (.bool true) ?_
            refine g_val (Nv .i64 1) ?_
            refine g_val (.bool true) ?_
            refine g_val (.bool true) ?_
            refine g_val (.bool true) ?_
            refine g_val (.slice none 0 0) ?_
            refine g_val (Nv .i64 0) ?_
            refine g_val (.bool true) ?_ (B.eql_int (a := 0) (c := 0) (b := true) (rfl) w2)
            refine g_val (.bool true) ?_
            refine g_val (.bool true) ?_
            refine g_nil ?_
            simp only [Act.put, List.setIfInBounds_toArray, List.set_cons_succ, List.set_cons_zero]
            have HF := hide hO.low
            clear hO
            go_wp2_with (fail)
            go_ret
            exact ⟨rfl, HF.out⟩
        · obtain ⟨L, rfl⟩ : ∃ L : Nat, q = (L : Int) := ⟨q.toNat, by omega⟩
          have hL1 : 1 ≤ L := by omega
          have hL : L ≤ 15 := by omega
          clear hq
          have hmk := many_le (l := cn) (n := k)
          obtain ⟨P2, hP2⟩ : ∃ P2, 2 ^ L = P2 := ⟨_, rfl⟩
          have hP15 : P2 ≤ 32768 := by rw [← hP2]; exact Nat.pow_le_pow_right (by decide) hL
          obtain ⟨m, hm⟩ : ∃ m, many cn k = m := ⟨_, rfl⟩
          rw [hm] at hmk ⊢
          have Hm := hide hm
          have HP := hide hP2
          clear hm hP2
          by_cases hfit : m ≤ P2
          · have Hfit : Hid (many cn k ≤ 2 ^ L) := hide (by rw [Hm.out, HP.out]; exact hfit)
            go_upto_region 10 with (fail)
            refine wp_region_list (WL.out ?_)
            refine g_val (.slice S k c) ?_
            refine g_val (Nv .i64 L) ?_
            refine g_any 14 #[.slice S k c, Nv .i64 L] (PLens_y hcn (by omega) hL1 hL Hfit.out wr (hS.low hO.low)) ?_
            rintro _ w2 ⟨q1, rfl, hO2⟩
            have hO9 := own_join hO hO2
            clear hO hO2
            have hO := hO9
            clear hO9
            replace hO : Own w w2 [(q1, ints k (zt cn k L), 3)] := hO
            refine g_val (.tuple #[.slice (some (⟨q1, 0, none⟩ : Addr)) k k, Nv .i64 0]) ?_
            refine g_val (.slice (some (⟨q1, 0, none⟩ : Addr)) k k) ?_
            refine g_val (Nv .i64 0) ?_
            refine g_val (.slice (some (⟨q1, 0, none⟩ : Addr)) k k) ?_
            refine g_val (Nv .i64 0) ?_
            refine g_nil ?_
            simp only [Act.put, List.setIfInBounds_toArray, List.set_cons_succ, List.set_cons_zero]
            have Hz : Hid (∀ i, i < k → 0 ≤ (zt cn k L) i ∧ (zt cn k L) i ≤ 15) := hide (fun i hi => by have h9 := okC_tl hL1 hL Hfit.out i hi; omega)
            go_upto_region 11 with (fail)
            refine wp_region_list (WL.out ?_)
            refine g_val (Nv .i64 L) ?_
            refine g_val (.bool false) ?_ (B.lss_int (a := L) (c := 1) (b := false) (decide_eq_false (by omega)) w2)
            refine g_val (.bool false) ?_
            refine g_val (Nv .i64 L) ?_
            refine g_val (.bool false) ?_ (B.gtr_int (a := L) (c := 15) (b := false) (decide_eq_false (by omega)) w2)
            refine g_val (.bool false) ?_
            refine g_val (.bool false) ?_
            refine g_val (Nv .i64 m) ?_
            refine g_val (Nv .i64 L) ?_
            refine g_val (Nv .u64 L) ?_ (B.c_int_uint (a := L) (d := L) rfl (by omega) w2)
            refine g_val (Nv .i64 P2) ?_ (shl_iu (a := 1) (s := L) (by rw [Nat.one_mul]; exact HP.out) (by omega) (by omega) w2)
            refine g_val (.bool false) ?_ (B.gtr_int (a := m) (c := P2) (b := false) (decide_eq_false (by omega)) w2)
            refine g_val (.bool false) ?_
            refine g_nil ?_
            simp only [Act.put, List.setIfInBounds_toArray, List.set_cons_succ, List.set_cons_zero]
            go_upto_region 13 with (fail)
            refine wp_region_list (WL.out ?_)
            refine g_val (Nv .i64 0) ?_
            refine g_val (.bool false) ?_
            refine g_val (.bool false) ?_
            refine g_val (.slice (some (⟨q1, 0, none⟩ : Addr)) k k) ?_
            refine g_val (Nv .i64 k) ?_
            refine g_val (.slice S k c) ?_
            refine g_val (Nv .i64 k) ?_
            refine g_val (.bool false) ?_ (B.neq_int (a := k) (c := k) (b := false) (decide_eq_false (fun h => h rfl)) w2)
            refine g_val (.bool false) ?_
            refine g_nil ?_
            simp only [Act.put, List.setIfInBounds_toArray, List.set_cons_succ, List.set_cons_zero]
            go_upto_region 15 with (fail)
            refine wp_region_list (WL.out ?_)
            refine g_val (.slice S k c) ?_
            refine g_val (.slice (some (⟨q1, 0, none⟩ : Addr)) k k) ?_
            refine g_val (Nv .i64 L) ?_
            refine g_call hO 15 #[.slice S k c, .slice (some (⟨q1, 0, none⟩ : Addr)) k k, Nv .i64 L] (.tuple #[Nv .u64 (cst cn (zt cn k L) k), .bool true]) (CostT_c (by omega) hL1 hL Hfit.out hcn w2 (hS.low hO.low) (rc_int (hO.row 0 rfl))) ?_
            intro w3 hb73 hO
            refine g_val (.tuple #[Nv .u64 (cst cn (zt cn k L) k), .bool true]) ?_
            refine g_val (Nv .u64 (cst cn (zt cn k L) k)) ?_
            refine g_val (.bool true) ?_
            refine g_val (Nv .u64 (cst cn (zt cn k L) k)) ?_
            refine g_val (.bool true) ?_
            refine g_nil ?_
            simp only [Act.put, List.setIfInBounds_toArray, List.set_cons_succ, List.set_cons_zero]
            go_upto_region 16 with (fail)
            refine wp_region_list (WL.out ?_)
            refine g_val (.bool true) ?_
            refine g_val (.bool false) ?_
            refine g_nil ?_
            simp only [Act.put, List.setIfInBounds_toArray, List.set_cons_succ, List.set_cons_zero]
            by_cases h0 : m = 0
            · have hc0 : cst cn (zt cn k L) k = 0 := cst_none (by rw [Hm.out]; exact h0)
              rw [hc0]
              go_upto_region 18 with (fail)
              refine wp_region_list (WL.out ?_)
              refine g_val (Nv .i64 m) ?_
              refine g_val (.bool true) ?_ (B.eql_int (a := m) (c := 0) (b := true) (decide_eq_true h0) w3)
              refine g_nil ?_
              simp only [Act.put, List.setIfInBounds_toArray, List.set_cons_succ, List.set_cons_zero]
              go_upto_region 19 with (fail)
              refine wp_region_list (WL.out ?_)
              refine g_val (.bool true) ?_
              refine g_val (.bool true) ?_
              refine g_val (Nv .u64 0) ?_
              refine g_val (.bool true) ?_
              refine g_val (.bool true) ?_
              refine g_val (.bool true) ?_
              refine g_nil ?_
              simp only [Act.put, List.setIfInBounds_toArray, List.set_cons_succ, List.set_cons_zero]
              have HF := hide hO.low
              clear hO
              go_wp2_with (fail)
              go_ret
              exact ⟨rfl, HF.out⟩
            · have h0' := h0
              go_upto_region 18 with (fail)
              refine wp_region_list (WL.out ?_)
              refine g_val (Nv .i64 m) ?_
              refine g_val (.bool false) ?_ (B.eql_int (a := m) (c := 0) (b := false) (decide_eq_false h0) w3)
              refine g_nil ?_
              simp only [Act.put, List.setIfInBounds_toArray, List.set_cons_succ, List.set_cons_zero]
              go_upto_region 20 with (fail)
              refine wp_region_list (WL.out ?_)
              refine g_val (.slice (some (⟨q1, 0, none⟩ : Addr)) k k) ?_
              refine g_call hO 16 #[.slice (some (⟨q1, 0, none⟩ : Addr)) k k] (Nv .i64 (room (ln (zt cn k L)) k)) (RoomT_c Hz.out (by omega) w3 (rc_int (hO.row 0 rfl))) ?_
              intro w4 hb86 hO
              refine g_val (Nv .i64 (room (ln (zt cn k L)) k)) ?_
              refine g_nil ?_
              simp only [Act.put, List.setIfInBounds_toArray, List.set_cons_succ, List.set_cons_zero]
              have hrm := one_half (okW_tl (cn := cn) (n := k) (L := L) (by omega) hL1 hL Hfit.out (by rw [Hm.out]; exact h0))
              rw [many_tl hL1 hL Hfit.out, Hm.out] at hrm
              by_cases h1 : m = 1
              · have hr : room (ln (zt cn k L)) k = 16384 := hrm.1.1 h1
                rw [hr]
                go_upto_region 21 with (fail)
                refine wp_region_list (WL.out ?_)
                refine g_val (Nv .i64 m) ?_
                refine g_val (.bool true) ?_ (B.eql_int (a := m) (c := 1) (b := true) (decide_eq_true h1) w4)
                refine g_nil ?_
                simp only [Act.put, List.setIfInBounds_toArray, List.set_cons_succ, List.set_cons_zero]
                go_upto_region 22 with (fail)
                refine wp_region_list (WL.out ?_)
                refine g_val (.bool true) ?_
                refine g_val (.bool true) ?_
                refine g_val (Nv .i64 16384) ?_
                refine g_val (.bool true) ?_ (B.eql_int (a := 16384) (c := 16384) (b := true) (rfl) w4)
                refine g_val (.bool true) ?_
                refine g_val (.bool true) ?_
                refine g_nil ?_
                simp only [Act.put, List.setIfInBounds_toArray, List.set_cons_succ, List.set_cons_zero]
                have HF := hide hO.low
                clear hO
                go_wp2_with (fail)
                go_ret
                exact ⟨rfl, HF.out⟩
              · have hr : room (ln (zt cn k L)) k = 32768 := hrm.2 h1
                rw [hr]
                go_upto_region 21 with (fail)
                refine wp_region_list (WL.out ?_)
                refine g_val (Nv .i64 m) ?_
                refine g_val (.bool false) ?_ (B.eql_int (a := m) (c := 1) (b := false) (decide_eq_false h1) w4)
                refine g_nil ?_
                simp only [Act.put, List.setIfInBounds_toArray, List.set_cons_succ, List.set_cons_zero]
                go_upto_region 23 with (fail)
                refine wp_region_list (WL.out ?_)
                refine g_val (.bool true) ?_
                refine g_val (.bool true) ?_
                refine g_val (Nv .i64 32768) ?_
                refine g_val (.bool true) ?_ (B.eql_int (a := 32768) (c := 32768) (b := true) (rfl) w4)
                refine g_val (.bool true) ?_
                refine g_val (.bool true) ?_
                refine g_val (Nv .u64 (cst cn (zt cn k L) k)) ?_
                refine g_val (.slice S k c) ?_
                refine g_val (Nv .i64 L) ?_
                refine g_any 17 #[.slice S k c, Nv .i64 L] (Least_c hn hL1 hL hcn w4 (hS.low hO.low)) ?_
                rintro _ w5 ⟨hb5, s9, hu9, hp9, rfl⟩
                have hO9 := hO.call hb5
                clear hO
                have hO := hO9
                clear hO9
                refine g_val (.bool true) ?_ (B.eql_u64 (a := cst cn (zt cn k L) k) (c := wLeast s9 L) (b := true) (decide_eq_true (cst_wl hL1 hL Hfit.out (by rw [Hm.out]; omega) hu9 hp9)) w5)
                refine g_val (.bool true) ?_
                refine g_val (.bool true) ?_
                refine g_nil ?_
                simp only [Act.put, List.setIfInBounds_toArray, List.set_cons_succ, List.set_cons_zero]
                clear hb5
                have HF := hide hO.low
                clear hO
                go_wp2_with (fail)
                go_ret
                exact ⟨rfl, HF.out⟩
          · have Hfit : Hid (¬ many cn k ≤ 2 ^ L) := hide (by rw [Hm.out, HP.out]; exact hfit)
            go_upto_region 10 with (fail)
            refine wp_region_list (WL.out ?_)
            refine g_val (.slice S k c) ?_
            refine g_val (Nv .i64 L) ?_
            refine g_call hO 14 #[.slice S k c, Nv .i64 L] (.tuple #[.slice none 0 0, Nv .i64 1]) (PLens_n hcn (by omega) hL1 hL Hfit.out wr (hS.low hO.low)) ?_
            intro w2 hb34 hO
            refine g_val (.tuple #[.slice none 0 0, Nv .i64 1]) ?_
            refine g_val (.slice none 0 0) ?_
            refine g_val (Nv .i64 1) ?_
            refine g_val (.slice none 0 0) ?_
            refine g_val (Nv .i64 1) ?_
            refine g_nil ?_
            simp only [Act.put, List.setIfInBounds_toArray, List.set_cons_succ, List.set_cons_zero]
            go_upto_region 11 with (fail)
            refine wp_region_list (WL.out ?_)
            refine g_val (Nv .i64 L) ?_
            refine g_val (.bool false) ?_ (B.lss_int (a := L) (c := 1) (b := false) (decide_eq_false (by omega)) w2)
            refine g_val (.bool false) ?_
            refine g_val (Nv .i64 L) ?_
            refine g_val (.bool false) ?_ (B.gtr_int (a := L) (c := 15) (b := false) (decide_eq_false (by omega)) w2)
            refine g_val (.bool false) ?_
            refine g_val (.bool false) ?_
            refine g_val (Nv .i64 m) ?_
            refine g_val (Nv .i64 L) ?_
            refine g_val (Nv .u64 L) ?_ (B.c_int_uint (a := L) (d := L) rfl (by omega) w2)
            refine g_val (Nv .i64 P2) ?_ (shl_iu (a := 1) (s := L) (by rw [Nat.one_mul]; exact HP.out) (by omega) (by omega) w2)
            refine g_val (.bool true) ?_ (B.gtr_int (a := m) (c := P2) (b := true) (decide_eq_true (by omega)) w2)
            refine g_val (.bool true) ?_
            refine g_nil ?_
            simp only [Act.put, List.setIfInBounds_toArray, List.set_cons_succ, List.set_cons_zero]
            go_upto_region 12 with (fail)
            refine wp_region_list (WL.out ?_)
            refine g_val (.bool true) ?_
            refine g_val (.bool true) ?_
            refine g_val (Nv .i64 1) ?_
            refine g_val (.bool true) ?_
            refine g_val (.bool true) ?_
            refine g_val (.bool true) ?_
            refine g_val (.slice none 0 0) ?_
            refine g_val (Nv .i64 0) ?_
            refine g_val (.bool true) ?_ (B.eql_int (a := 0) (c := 0) (b := true) (rfl) w2)
            refine g_val (.bool true) ?_
            refine g_val (.bool true) ?_
            refine g_nil ?_
            simp only [Act.put, List.setIfInBounds_toArray, List.set_cons_succ, List.set_cons_zero]
            have HF := hide hO.low
            clear hO
            go_wp2_with (fail)
            go_ret
            exact ⟨rfl, HF.out⟩
end Q
end Go.Proofs.Ytkljpidlfddgbaa

/- The reference of stage 13: Room, some, Same. Lengths to 15; no other condition. -/
import Derived.Test.YtkljpidlfddgbaaBm
import Derived.Test.YtkljpidlfddgbaaBn
import Derived.Test.YtkljpidlfddgbaaBl
import Derived.Test.YtkljpidlfddgbaaHw
namespace Go.Proofs.Ytkljpidlfddgbaa
set_option maxRecDepth 100000
open Go.RowKit Rg B


namespace B
theorem shi_uint {ρ : Operand → Value} {o : Oper} {x y : Operand} {a s d : Nat} (h : a * 2 ^ s = d) (hd : d < 9223372036854775808) (hs : s < 64) (w : World) (ho : o.op = .binOp .shl 3 x y 29 := by rfl) (hx : ρ x = Nv .i64 a := by kernel_rfl) (hy : ρ y = Nv .u64 s := by kernel_rfl) : (execOp ρ o).run Try.prog w = .ok (.value (Nv .i64 d)) w := by
  have h0 : (0 : Int) ≤ (s : Int) := by omega
  have h3 : (s : Int) < 64 := by omega
  have h1 : IntKind.i64.wrap ((a : Int) * 2 ^ s) = (d : Int) := by rw [show (a : Int) * 2 ^ s = ((a * 2 ^ s : Nat) : Int) by simp, h]; exact w_i64 _ hd
  clear h
  unfold execOp
  simp only [ho, hx, hy]
  go_simp
theorem b_ixs {ty e : TypeId} {ρ : Operand → Value} {o : Oper} {x y : Operand} {a : Addr} {k n c : Nat} (hk : k < n) (hu : Try.prog.underlying ty = some (.slice e)) (hc : ∀ w, (sizeOf e).run Try.prog w = .ok 1 w) (w : World) (ho : o.op = .indexAddr ty x y := by rfl) (hx : ρ x = .slice (some a) n c := by kernel_rfl) (hy : ρ y = Nv .i64 k := by kernel_rfl) : (execOp ρ o).run Try.prog w = .ok (.value (.pointer (some (a.add k)))) w := by
  have h := b_ix (s := 1) hk hu hc w ho hx hy
  rwa [Nat.mul_one] at h
theorem agg_u32 (w : World) : (isAgg 24).run Try.prog w = .ok false w := by kernel_rfl
theorem sz_u32 (w : World) : (sizeOf 24).run Try.prog w = .ok 1 w := by kernel_rfl
end B
namespace H
/-- Numbers in cells. -/
def ni (l : Nat → Nat) (i : Nat) : Value := .int .i64 ((l i : Nat) : Int)
def nw (l : Nat → Nat) (i : Nat) : Value := .int .u32 ((l i : Nat) : Int)
theorem room_le {l : Nat → Nat} {n : Nat} : room l n ≤ n * 2 ^ 14 := by
  rw [← sg_const]
  refine sg_le fun i _ => ?_
  split
  · exact Nat.pow_le_pow_right (by decide) (by omega)
  · exact Nat.zero_le _
theorem room_yes {l : Nat → Nat} {k : Nat} (h : 0 < l k) : room l k + 2 ^ (15 - l k) = room l (k + 1) := by
  show _ = room l k + (if 1 ≤ l k then 2 ^ (15 - l k) else 0)
  rw [if_pos (show 1 ≤ l k from h)]
theorem room_no {l : Nat → Nat} {k : Nat} (h : ¬ 0 < l k) : room l k = room l (k + 1) := by
  show _ = room l k + (if 1 ≤ l k then 2 ^ (15 - l k) else 0)
  rw [if_neg (show ¬ 1 ≤ l k from h), Nat.add_zero]
/-- How many are above 0. -/
def many (l : Nat → Nat) (n : Nat) : Nat := sg n fun k => if 1 ≤ l k then 1 else 0
theorem many_le {l : Nat → Nat} {n : Nat} : many l n ≤ n := by
  have := sg_le (n := n) (g := fun k => if 1 ≤ l k then 1 else 0) (h := fun _ => 1) fun i _ => by
    show (if 1 ≤ l i then 1 else 0) ≤ 1
    split <;> omega
  rw [sg_const, Nat.mul_one] at this
  exact this
theorem many_yes {l : Nat → Nat} {k : Nat} (h : 0 < l k) : many l k + 1 = many l (k + 1) := by
  show _ = many l k + (if 1 ≤ l k then 1 else 0)
  rw [if_pos (show 1 ≤ l k from h)]
theorem many_no {l : Nat → Nat} {k : Nat} (h : ¬ 0 < l k) : many l k = many l (k + 1) := by
  show _ = many l k + (if 1 ≤ l k then 1 else 0)
  rw [if_neg (show ¬ 1 ≤ l k from h), Nat.add_zero]
set_option maxHeartbeats 4000000 in
theorem Room_c {S : Option Addr} {n c : Nat} {l : Nat → Nat} (hl : ∀ i, l i ≤ 15) (hn : n ≤ 2 ^ 30) (w : World) (hS : Rc w S n (ni l)) : Ret 16 #[.slice S n c] w (Nv .i64 (room l n)) := by
  go_enter Try.func16, Try.ntmps16
  have hO := Own.start w
  go_upto_region 0 with (fail)
  refine wp_region_list (WL.out ?_)
  refine g_val (Nv .i64 0) ?_
  refine g_nil ?_
  simp only [Act.put, List.setIfInBounds_toArray, List.set_cons_succ, List.set_cons_zero]
  go_upto_region 1 with (fail)
  refine wp_region_list (WL.out ?_)
  refine g_val (Nv .i64 0) ?_
  refine g_nil ?_
  simp only [Act.put, List.setIfInBounds_toArray, List.set_cons_succ, List.set_cons_zero]
  go_upto_region 2 with (fail)
  refine wp_region_list (WL.out ?_)
  refine g_val (Nv .i64 0) ?_
  refine g_nil ?_
  simp only [Act.put, List.setIfInBounds_toArray, List.set_cons_succ, List.set_cons_zero]
  have HO := hide hO
  clear hO
  go_wp2_with (fail)
  go_loopw [3, 4] (fun x3 x4 wr => ∃ k : Nat, k ≤ n ∧ x4 = .int .i64 (k : Int) ∧ x3 = Nv .i64 (room l k) ∧ Own w wr []) (fun _ x4 _ => n - (intOf x4).toNat)
  case atStart => exact ⟨0, Nat.zero_le _, rfl, rfl, HO.out⟩
  case round =>
    clear HO
    obtain ⟨k, hk9, rfl, rfl, hO⟩ := hrel
    by_cases hz : k < n
    · have hk0 : 0 ≤ k := Nat.zero_le _
      go_upto_region 3 with (fail)
      refine wp_region_list (WL.out ?_)
      refine g_val (Nv .i64 k) ?_
      refine g_val (.slice S n c) ?_
      refine g_val (Nv .i64 n) ?_
      refine g_val (.bool true) ?_ (B.lss_int (a := k) (c := n) (b := true) (decide_eq_true hz) wr)
      refine g_nil ?_
      simp only [Act.put, List.setIfInBounds_toArray, List.set_cons_succ, List.set_cons_zero]
      obtain ⟨a, rfl, hc⟩ := hS.cell hz
      have hlk := hl k
      by_cases hp : 0 < l k
      · have hrm := room_le (l := l) (n := k)
        go_upto_region 5 with (fail)
        refine wp_region_list (WL.out ?_)
        refine g_val (.slice (some a) n c) ?_
        refine g_val (Nv .i64 k) ?_
        refine g_val (.pointer (some (a.add k))) ?_ (b_ixs (n := n) (c := c) hz Try.underlying25 sz_int wr)
        refine g_la (Nv .i64 (l k)) (hc _ hO.low) agg_int ?_
        refine g_val (.bool true) ?_ (B.gtr_int (a := l k) (c := 0) (b := true) (decide_eq_true hp) wr)
        refine g_nil ?_
        simp only [Act.put, List.setIfInBounds_toArray, List.set_cons_succ, List.set_cons_zero]
        have hpw : 2 ^ (15 - l k) ≤ 2 ^ 15 := Nat.pow_le_pow_right (by decide) (by omega)
        go_upto_region 6 with (fail)
        refine wp_region_list (WL.out ?_)
        refine g_val (Nv .i64 (room l k)) ?_
        refine g_val (.slice (some a) n c) ?_
        refine g_val (Nv .i64 k) ?_
        refine g_val (.pointer (some (a.add k))) ?_ (b_ixs (n := n) (c := c) hz Try.underlying25 sz_int wr)
        refine g_la (Nv .i64 (l k)) (hc _ hO.low) agg_int ?_
        refine g_val (Nv .i64 (15 - l k)) ?_ (B.sub_int (a := 15) (c := l k) (d := 15 - l k) (by omega) (by omega) wr)
        refine g_val (Nv .u64 (15 - l k)) ?_ (B.c_int_uint (a := 15 - l k) (d := 15 - l k) rfl (by omega) wr)
        refine g_val (Nv .i64 (2 ^ (15 - l k))) ?_ (shi_uint (a := 1) (s := 15 - l k) (by rw [Nat.one_mul]) (by omega) (by omega) wr)
        refine g_val (Nv .i64 (room l (k + 1))) ?_ (B.add_int (a := room l k) (c := 2 ^ (15 - l k)) (d := room l (k + 1)) (room_yes hp) (by have := room_yes (l := l) hp; omega) wr)
        refine g_val (Nv .i64 (room l (k + 1))) ?_
        refine g_nil ?_
        simp only [Act.put, List.setIfInBounds_toArray, List.set_cons_succ, List.set_cons_zero]
        have HO := hide hO
        clear hO
        go_upto_region 4 with (fail)
        refine wp_region_list (WL.out ?_)
        refine g_val (Nv .i64 k) ?_
        refine g_val (Nv .i64 (k + 1)) ?_ (B.add_int (a := k) (c := 1) (d := k + 1) rfl (by omega) wr)
        refine g_val (Nv .i64 (k + 1)) ?_
        refine g_nil ?_
        simp only [Act.put, List.setIfInBounds_toArray, List.set_cons_succ, List.set_cons_zero]
        go_wp2_with (fail)
        go_roundw
        case rel => exact ⟨k + 1, hz, rfl, rfl, HO.out⟩
        case measure => show n - ((k + 1 : Nat) : Int).toNat < n - ((k : Nat) : Int).toNat; omega
      · have e := room_no (l := l) hp
        go_upto_region 5 with (fail)
        refine wp_region_list (WL.out ?_)
        refine g_val (.slice (some a) n c) ?_
        refine g_val (Nv .i64 k) ?_
        refine g_val (.pointer (some (a.add k))) ?_ (b_ixs (n := n) (c := c) hz Try.underlying25 sz_int wr)
        refine g_la (Nv .i64 (l k)) (hc _ hO.low) agg_int ?_
        refine g_val (.bool false) ?_ (B.gtr_int (a := l k) (c := 0) (b := false) (decide_eq_false hp) wr)
        refine g_nil ?_
        simp only [Act.put, List.setIfInBounds_toArray, List.set_cons_succ, List.set_cons_zero]
        have HO := hide hO
        clear hO
        go_upto_region 4 with (fail)
        refine wp_region_list (WL.out ?_)
        refine g_val (Nv .i64 k) ?_
        refine g_val (Nv .i64 (k + 1)) ?_ (B.add_int (a := k) (c := 1) (d := k + 1) rfl (by omega) wr)
        refine g_val (Nv .i64 (k + 1)) ?_
        refine g_nil ?_
        simp only [Act.put, List.setIfInBounds_toArray, List.set_cons_succ, List.set_cons_zero]
        go_wp2_with (fail)
        go_roundw
        case rel => exact ⟨k + 1, hz, rfl, by rw [e], HO.out⟩
        case measure => show n - ((k + 1 : Nat) : Int).toNat < n - ((k : Nat) : Int).toNat; omega
    · obtain rfl : k = n := by omega
      clear hk9
      go_upto_region 3 with (fail)
      refine wp_region_list (WL.out ?_)
      refine g_val (Nv .i64 k) ?_
      refine g_val (.slice S k c) ?_
      refine g_val (Nv .i64 k) ?_
      refine g_val (.bool false) ?_ (B.lss_int (a := k) (c := k) (b := false) (decide_eq_false hz) wr)
      refine g_nil ?_
      simp only [Act.put, List.setIfInBounds_toArray, List.set_cons_succ, List.set_cons_zero]
      have HF := hide hO.low
      clear hO
      go_upto_region 7 with (fail)
      refine wp_region_list (WL.out ?_)
      refine g_val (Nv .i64 (room l k)) ?_
      refine g_val (Nv .i64 (room l k)) ?_
      refine g_nil ?_
      simp only [Act.put, List.setIfInBounds_toArray, List.set_cons_succ, List.set_cons_zero]
      go_wp2_with (fail)
      go_ret
      exact ⟨rfl, HF.out⟩
set_option maxHeartbeats 4000000 in
theorem Some_c {S : Option Addr} {n c : Nat} {l : Nat → Nat} (hl : ∀ i, l i ≤ 15) (hn : n ≤ 2 ^ 30) (w : World) (hS : Rc w S n (ni l)) : Ret 38 #[.slice S n c] w (Nv .i64 (many l n)) := by
  go_enter Try.func38, Try.ntmps38
  have hO := Own.start w
  go_upto_region 0 with (fail)
  refine wp_region_list (WL.out ?_)
  refine g_val (Nv .i64 0) ?_
  refine g_nil ?_
  simp only [Act.put, List.setIfInBounds_toArray, List.set_cons_succ, List.set_cons_zero]
  go_upto_region 1 with (fail)
  refine wp_region_list (WL.out ?_)
  refine g_val (Nv .i64 0) ?_
  refine g_nil ?_
  simp only [Act.put, List.setIfInBounds_toArray, List.set_cons_succ, List.set_cons_zero]
  go_upto_region 2 with (fail)
  refine wp_region_list (WL.out ?_)
  refine g_val (Nv .i64 0) ?_
  refine g_nil ?_
  simp only [Act.put, List.setIfInBounds_toArray, List.set_cons_succ, List.set_cons_zero]
  have HO := hide hO
  clear hO
  go_wp2_with (fail)
  go_loopw [3, 4] (fun x3 x4 wr => ∃ k : Nat, k ≤ n ∧ x4 = .int .i64 (k : Int) ∧ x3 = Nv .i64 (many l k) ∧ Own w wr []) (fun _ x4 _ => n - (intOf x4).toNat)
  case atStart => exact ⟨0, Nat.zero_le _, rfl, rfl, HO.out⟩
  case round =>
    clear HO
    obtain ⟨k, hk9, rfl, rfl, hO⟩ := hrel
    by_cases hz : k < n
    · have hk0 : 0 ≤ k := Nat.zero_le _
      go_upto_region 3 with (fail)
      refine wp_region_list (WL.out ?_)
      refine g_val (Nv .i64 k) ?_
      refine g_val (.slice S n c) ?_
      refine g_val (Nv .i64 n) ?_
      refine g_val (.bool true) ?_ (B.lss_int (a := k) (c := n) (b := true) (decide_eq_true hz) wr)
      refine g_nil ?_
      simp only [Act.put, List.setIfInBounds_toArray, List.set_cons_succ, List.set_cons_zero]
      obtain ⟨a, rfl, hc⟩ := hS.cell hz
      have hlk := hl k
      by_cases hp : 0 < l k
      · have hrm := many_le (l := l) (n := k)
        go_upto_region 5 with (fail)
        refine wp_region_list (WL.out ?_)
        refine g_val (.slice (some a) n c) ?_
        refine g_val (Nv .i64 k) ?_
        refine g_val (.pointer (some (a.add k))) ?_ (b_ixs (n := n) (c := c) hz Try.underlying25 sz_int wr)
        refine g_la (Nv .i64 (l k)) (hc _ hO.low) agg_int ?_
        refine g_val (.bool true) ?_ (B.gtr_int (a := l k) (c := 0) (b := true) (decide_eq_true hp) wr)
        refine g_nil ?_
        simp only [Act.put, List.setIfInBounds_toArray, List.set_cons_succ, List.set_cons_zero]
        go_upto_region 6 with (fail)
        refine wp_region_list (WL.out ?_)
        refine g_val (Nv .i64 (many l k)) ?_
        refine g_val (Nv .i64 (many l (k + 1))) ?_ (B.add_int (a := many l k) (c := 1) (d := many l (k + 1)) (many_yes hp) (by have := many_yes (l := l) hp; omega) wr)
        refine g_val (Nv .i64 (many l (k + 1))) ?_
        refine g_nil ?_
        simp only [Act.put, List.setIfInBounds_toArray, List.set_cons_succ, List.set_cons_zero]
        have HO := hide hO
        clear hO
        go_upto_region 4 with (fail)
        refine wp_region_list (WL.out ?_)
        refine g_val (Nv .i64 k) ?_
        refine g_val (Nv .i64 (k + 1)) ?_ (B.add_int (a := k) (c := 1) (d := k + 1) rfl (by omega) wr)
        refine g_val (Nv .i64 (k + 1)) ?_
        refine g_nil ?_
        simp only [Act.put, List.setIfInBounds_toArray, List.set_cons_succ, List.set_cons_zero]
        go_wp2_with (fail)
        go_roundw
        case rel => exact ⟨k + 1, hz, rfl, rfl, HO.out⟩
        case measure => show n - ((k + 1 : Nat) : Int).toNat < n - ((k : Nat) : Int).toNat; omega
      · have e := many_no (l := l) hp
        go_upto_region 5 with (fail)
        refine wp_region_list (WL.out ?_)
        refine g_val (.slice (some a) n c) ?_
        refine g_val (Nv .i64 k) ?_
        refine g_val (.pointer (some (a.add k))) ?_ (b_ixs (n := n) (c := c) hz Try.underlying25 sz_int wr)
        refine g_la (Nv .i64 (l k)) (hc _ hO.low) agg_int ?_
        refine g_val (.bool false) ?_ (B.gtr_int (a := l k) (c := 0) (b := false) (decide_eq_false hp) wr)
        refine g_nil ?_
        simp only [Act.put, List.setIfInBounds_toArray, List.set_cons_succ, List.set_cons_zero]
        have HO := hide hO
        clear hO
        go_upto_region 4 with (fail)
        refine wp_region_list (WL.out ?_)
        refine g_val (Nv .i64 k) ?_
        refine g_val (Nv .i64 (k + 1)) ?_ (B.add_int (a := k) (c := 1) (d := k + 1) rfl (by omega) wr)
        refine g_val (Nv .i64 (k + 1)) ?_
        refine g_nil ?_
        simp only [Act.put, List.setIfInBounds_toArray, List.set_cons_succ, List.set_cons_zero]
        go_wp2_with (fail)
        go_roundw
        case rel => exact ⟨k + 1, hz, rfl, by rw [e], HO.out⟩
        case measure => show n - ((k + 1 : Nat) : Int).toNat < n - ((k : Nat) : Int).toNat; omega
    · obtain rfl : k = n := by omega
      clear hk9
      go_upto_region 3 with (fail)
      refine wp_region_list (WL.out ?_)
      refine g_val (Nv .i64 k) ?_
      refine g_val (.slice S k c) ?_
      refine g_val (Nv .i64 k) ?_
      refine g_val (.bool false) ?_ (B.lss_int (a := k) (c := k) (b := false) (decide_eq_false hz) wr)
      refine g_nil ?_
      simp only [Act.put, List.setIfInBounds_toArray, List.set_cons_succ, List.set_cons_zero]
      have HF := hide hO.low
      clear hO
      go_upto_region 7 with (fail)
      refine wp_region_list (WL.out ?_)
      refine g_val (Nv .i64 (many l k)) ?_
      refine g_val (Nv .i64 (many l k)) ?_
      refine g_nil ?_
      simp only [Act.put, List.setIfInBounds_toArray, List.set_cons_succ, List.set_cons_zero]
      go_wp2_with (fail)
      go_ret
      exact ⟨rfl, HF.out⟩
set_option maxHeartbeats 4000000 in
theorem Same_c {S T : Option Addr} {n c d : Nat} {f : Nat → Nat} (hn : n ≤ 2 ^ 40) (w : World) (hS : Rc w S n (nw f)) (hT : Rc w T n (nw f)) : Ret 20 #[.slice S n c, .slice T n d] w (.bool true) := by
  go_enter Try.func20, Try.ntmps20
  have hO := Own.start w
  go_upto_region 0 with (fail)
  refine wp_region_list (WL.out ?_)
  refine g_val (.bool false) ?_
  refine g_nil ?_
  simp only [Act.put, List.setIfInBounds_toArray, List.set_cons_succ, List.set_cons_zero]
  go_upto_region 1 with (fail)
  refine wp_region_list (WL.out ?_)
  refine g_val (.slice S n c) ?_
  refine g_val (Nv .i64 n) ?_
  refine g_val (.slice T n d) ?_
  refine g_val (Nv .i64 n) ?_
  refine g_val (.bool false) ?_ (B.neq_int (a := n) (c := n) (b := false) (decide_eq_false (fun h => h rfl)) w)
  refine g_nil ?_
  simp only [Act.put, List.setIfInBounds_toArray, List.set_cons_succ, List.set_cons_zero]
  go_upto_region 3 with (fail)
  refine wp_region_list (WL.out ?_)
  refine g_val (Nv .i64 0) ?_
  refine g_nil ?_
  simp only [Act.put, List.setIfInBounds_toArray, List.set_cons_succ, List.set_cons_zero]
  have HO := hide hO
  clear hO
  go_wp2_with (fail)
  go_loopw [5] (fun x5 wr => ∃ k : Nat, k ≤ n ∧ x5 = .int .i64 (k : Int) ∧ Own w wr []) (fun x5 _ => n - (intOf x5).toNat)
  case atStart => exact ⟨0, Nat.zero_le _, rfl, HO.out⟩
  case round =>
    clear HO
    obtain ⟨k, hk9, rfl, hO⟩ := hrel
    by_cases hz : k < n
    · have hk0 : 0 ≤ k := Nat.zero_le _
      go_upto_region 4 with (fail)
      refine wp_region_list (WL.out ?_)
      refine g_val (Nv .i64 k) ?_
      refine g_val (.slice S n c) ?_
      refine g_val (Nv .i64 n) ?_
      refine g_val (.bool true) ?_ (B.lss_int (a := k) (c := n) (b := true) (decide_eq_true hz) wr)
      refine g_nil ?_
      simp only [Act.put, List.setIfInBounds_toArray, List.set_cons_succ, List.set_cons_zero]
      obtain ⟨a, rfl, hc⟩ := hS.cell hz
      obtain ⟨b, rfl, hd⟩ := hT.cell hz
      have hlow := hO.low
      have HO9 := hide hO
      clear hO
      have hO := Own.start wr
      go_upto_region 6 with (fail)
      refine Rg.pd [] (fun ν => [(17, .slice (some a) n c), (18, Nv .i64 k), (19, .pointer (some (a.add k))), (20, Nv .u32 (f k)), (21, .slice (some b) n d), (22, Nv .i64 k), (23, .pointer (some (b.add k))), (24, Nv .u32 (f k)), (25, .bool false)]) (OI wr (fun _ _ => [])) (fun _ => 0) hO.drew (Rg.ac nv (Rg.ac nv (Rg.ac (nx (fun _ => .pointer (some (a.add k))) (fun _ w => b_ixs (n := n) (c := c) hz Try.underlying23 sz_u32 w)) (Rg.ac (nca (Nv .u32 (f k)) (fun w' h => hc w' (hlow.trans (h.mono hlow.size))) B.agg_u32) (Rg.ac nv (Rg.ac nv (Rg.ac (nx (fun _ => .pointer (some (b.add k))) (fun _ w => b_ixs (n := n) (c := d) hz Try.underlying23 sz_u32 w)) (Rg.ac (nca (Nv .u32 (f k)) (fun w' h => hd w' (hlow.trans (h.mono hlow.size))) B.agg_u32) (Rg.ac (nx (fun _ => .bool false) (fun _ w => B.neq_u32 (a := f k) (c := f k) (b := false) (decide_eq_false (fun h => h rfl)) w)) Rg.an))))))))) ?_
      intro ν w1 hO
      replace hO : Own wr w1 [] := hO
      simp only [Rg.putL, Act.put, List.setIfInBounds_toArray, List.set_cons_succ, List.set_cons_zero]
      clear ν
      have hO9 := HO9.out.call hO.low
      clear hO
      have hO := hO9
      clear hO9 HO9
      have HO := hide hO
      clear hO
      go_upto_region 5 with (fail)
      refine wp_region_list (WL.out ?_)
      refine g_val (Nv .i64 k) ?_
      refine g_val (Nv .i64 (k + 1)) ?_ (B.add_int (a := k) (c := 1) (d := k + 1) rfl (by omega) w1)
      refine g_val (Nv .i64 (k + 1)) ?_
      refine g_nil ?_
      simp only [Act.put, List.setIfInBounds_toArray, List.set_cons_succ, List.set_cons_zero]
      go_wp2_with (fail)
      go_roundw
      case rel => exact ⟨k + 1, hz, rfl, HO.out⟩
      case measure => show n - ((k + 1 : Nat) : Int).toNat < n - ((k : Nat) : Int).toNat; omega
    · obtain rfl : k = n := by omega
      clear hk9
      go_upto_region 4 with (fail)
      refine wp_region_list (WL.out ?_)
      refine g_val (Nv .i64 k) ?_
      refine g_val (.slice S k c) ?_
      refine g_val (Nv .i64 k) ?_
      refine g_val (.bool false) ?_ (B.lss_int (a := k) (c := k) (b := false) (decide_eq_false hz) wr)
      refine g_nil ?_
      simp only [Act.put, List.setIfInBounds_toArray, List.set_cons_succ, List.set_cons_zero]
      have HF := hide hO.low
      clear hO
      go_upto_region 8 with (fail)
      refine wp_region_list (WL.out ?_)
      refine g_val (.bool true) ?_
      refine g_nil ?_
      simp only [Act.put, List.setIfInBounds_toArray, List.set_cons_succ, List.set_cons_zero]
      go_wp2_with (fail)
      go_ret
      exact ⟨rfl, HF.out⟩
end H
end Go.Proofs.Ytkljpidlfddgbaa

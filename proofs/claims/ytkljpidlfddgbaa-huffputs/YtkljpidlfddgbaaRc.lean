/- The reference of stage 13: Put. Less than 2^29 bits; no other condition. -/
import Derived.Test.YtkljpidlfddgbaaRb
import Derived.Test.YtkljpidlfddgbaaCf
namespace Go.Proofs.Ytkljpidlfddgbaa
set_option maxRecDepth 100000
open Go.RowKit Rg B


open R
namespace B
section
variable {ρ : Operand → Value} {o : Oper} {x y : Operand}
theorem geqI_int {a c : Int} {b : Bool} (h : decide (c ≤ a) = b) (w : World) (ho : o.op = .binOp .geq 3 x y 3 := by rfl) (hx : ρ x = .int .i64 a := by kernel_rfl) (hy : ρ y = .int .i64 c := by kernel_rfl) : (execOp ρ o).run Try.prog w = .ok (.value (.bool b)) w := by
  subst h
  unfold execOp
  simp only [ho, hx, hy]
  by_cases h : c ≤ a
  · rw [decide_eq_true h]; go_simp
  · rw [decide_eq_false h]; go_simp
theorem subI_int {a c d : Int} (h : a - c = d) (h1 : -9223372036854775808 ≤ d) (h2 : d < 9223372036854775808) (w : World) (ho : o.op = .binOp .sub 3 x y 3 := by rfl) (hx : ρ x = .int .i64 a := by kernel_rfl) (hy : ρ y = .int .i64 c := by kernel_rfl) : (execOp ρ o).run Try.prog w = .ok (.value (.int .i64 d)) w := by
  have e : IntKind.i64.wrap (a - c) = d := by
    rw [h]
    unfold IntKind.wrap
    simp [IntKind.bits, IntKind.signed]
    omega
  clear h
  unfold execOp
  simp only [ho, hx, hy]
  go_simp
end
end B
namespace H
theorem Words_yes {S : Option Addr} {n c : Nat} {z : Nat → Int} (hok : okW z n) (w : World) (hS : Rc w S n (zi z)) : RetP 19 #[.slice S n c] w fun x w' => ∃ q, x = .tuple #[.slice (some ⟨q, 0, none⟩) n n, Nv .i64 0] ∧ Own w w' [(q, vals .u32 n (wd (ln z) n), 24)] := by
  refine (Words_c (by have := hok.1; omega) w hS).mono fun e w' hh => ?_
  obtain ⟨v, he, ⟨_, q, hv, hO⟩ | ⟨hno, _⟩⟩ := hh
  · exact ⟨v, he, q, hv, hO⟩
  · exact absurd hok hno
theorem Words_no {S : Option Addr} {n c : Nat} {z : Nat → Int} (hn : n ≤ 2 ^ 30) (hok : ¬ okW z n) (w : World) (hS : Rc w S n (zi z)) : Ret 19 #[.slice S n c] w (.tuple #[.slice none 0 0, Nv .i64 130]) := by
  refine (Words_c hn w hS).mono fun e w' hh => ?_
  obtain ⟨v, he, ⟨hy, _⟩ | ⟨_, hv, hb⟩⟩ := hh
  · exact absurd hy hok
  · exact ⟨hv ▸ he, hb⟩
theorem RefS_join {u w w' : World} {M' : List Row} {r : Row} {N X n t : Nat} (h : RefS u w M' N X n t) (h' : Own w w' [r]) : RefS u w' (r :: M') N X n t := by
  obtain ⟨v, hG⟩ := h
  have hp : ∀ (a : Row) (L : List Row), (a :: L ++ [r]).Perm (a :: r :: L) := fun a L => List.Perm.cons _ List.perm_append_comm
  rcases hG with ⟨h0, hv, hO⟩ | ⟨g, d, hv, hO⟩
  · exact ⟨v, .inl ⟨h0, hv, (own_join hO h').perm (hp _ _)⟩⟩
  · exact ⟨v, .inr ⟨g, d, hv, (own_join hO h').perm ((hp _ (M' ++ _)).trans (by rw [List.cons_append, List.cons_append])) ⟩⟩
theorem RefS_drop {u w : World} {M' : List Row} {r : Row} {N X n t : Nat} (h : RefS u w (r :: M') N X n t) : RefS u w M' N X n t := by
  obtain ⟨v, hG⟩ := h
  rcases hG with ⟨h0, hv, hO⟩ | ⟨g, d, hv, hO⟩
  · exact ⟨v, .inl ⟨h0, hv, hO.sub ((List.sublist_cons_self r M').cons_cons _)⟩⟩
  · exact ⟨v, .inr ⟨g, d, hv, hO.sub (((List.sublist_cons_self r _)).cons_cons _)⟩⟩
theorem RefS_low {u w : World} {M' : List Row} {N X n t : Nat} (h : RefS u w M' N X n t) : Below u.heap.size u w := by
  obtain ⟨v, hG⟩ := h
  exact hG.low
theorem RefS_row {u w : World} {M' : List Row} {b : Nat} {c : Array Value} {ty : TypeId} {N X n t : Nat} (h : RefS u w ((b, c, ty) :: M') N X n t) : Blk w b c ty := by
  obtain ⟨v, hG⟩ := h
  exact gr_blk hG (j := 1) rfl
/-- The first k bits of a word of m, the highest first, as they are put. -/
def hb (wv m : Nat) : Nat → Nat
  | 0 => 0
  | k + 1 => hb wv m k + wv / 2 ^ (m - 1 - k) % 2 * 2 ^ k
theorem hb_lt (wv m : Nat) : ∀ k, hb wv m k < 2 ^ k
  | 0 => Nat.zero_lt_one
  | k + 1 => by
    have := hb_lt wv m k
    have h2 : wv / 2 ^ (m - 1 - k) % 2 < 2 := Nat.mod_lt _ (by decide)
    have := M.put_lt (c := k) (n := 1) this (v := wv / 2 ^ (m - 1 - k) % 2) h2
    exact this
theorem hb_step (X c wv m k : Nat) : X + hb wv m k * 2 ^ c + wv / 2 ^ (m - 1 - k) % 2 * 2 ^ (c + k) = X + hb wv m (k + 1) * 2 ^ c := by
  rw [hb, Nat.add_mul, Nat.mul_assoc, ← Nat.pow_add, Nat.add_comm k c, Nat.add_assoc]
/-- A symbol that has a word. -/
def okS (z : Nat → Int) (n : Nat) (s : Int) : Prop := okW z n ∧ ∃ i : Nat, s = (i : Int) ∧ i < n ∧ 1 ≤ ln z i
set_option maxHeartbeats 4000000 in
theorem HPut_code {S : Option Addr} {n c : Nat} {z : Nat → Int} {s : Int} (hok : ¬ okW z n) (hn : n ≤ 2 ^ 30) (N : Nat) (w : World) (hS : Rc w S n (zi z)) : Ret 23 #[D N, .slice S n c, .int .i64 s] w (Nv .i64 1) := by
  go_enter Try.func23, Try.ntmps23
  have hO := Own.start w
  go_upto_region 0 with (fail)
  refine wp_region_list (WL.out ?_)
  refine g_val (Nv .i64 0) ?_
  refine g_nil ?_
  simp only [Act.put, List.setIfInBounds_toArray, List.set_cons_succ, List.set_cons_zero]
  go_upto_region 1 with (fail)
  refine wp_region_list (WL.out ?_)
  refine g_val (.slice S n c) ?_
  refine g_call hO 19 #[.slice S n c] (.tuple #[.slice none 0 0, Nv .i64 130]) (Words_no hn hok w (hS.low hO.low)) ?_
  intro w1 hb12 hO
  refine g_val (.tuple #[.slice none 0 0, Nv .i64 130]) ?_
  refine g_val (.slice none 0 0) ?_
  refine g_val (Nv .i64 130) ?_
  refine g_val (.slice none 0 0) ?_
  refine g_val (Nv .i64 130) ?_
  refine g_nil ?_
  simp only [Act.put, List.setIfInBounds_toArray, List.set_cons_succ, List.set_cons_zero]
  go_upto_region 2 with (fail)
  refine wp_region_list (WL.out ?_)
  refine g_val (Nv .i64 130) ?_
  refine g_val (.bool true) ?_ (B.neq_errno (a := 130) (c := 0) (b := true) (rfl) w1)
  refine g_val (.bool true) ?_
  refine g_skip ?_
  refine g_skip ?_
  refine g_val (.bool true) ?_
  refine g_val (.bool true) ?_
  refine g_skip ?_
  refine g_skip ?_
  refine g_skip ?_
  refine g_skip ?_
  refine g_val (.bool true) ?_
  refine g_val (.bool true) ?_
  refine g_skip ?_
  refine g_skip ?_
  refine g_skip ?_
  refine g_skip ?_
  refine g_skip ?_
  refine g_val (.bool true) ?_
  refine g_nil ?_
  simp only [Act.put, List.setIfInBounds_toArray, List.set_cons_succ, List.set_cons_zero]
  go_upto_region 3 with (fail)
  refine wp_region_list (WL.out ?_)
  refine g_val (Nv .i64 1) ?_
  refine g_nil ?_
  simp only [Act.put, List.setIfInBounds_toArray, List.set_cons_succ, List.set_cons_zero]
  have HF := hide hO.low
  clear hO
  go_wp2_with (fail)
  go_ret
  exact ⟨rfl, HF.out⟩
set_option maxHeartbeats 4000000 in
theorem HPut_neg {S : Option Addr} {n c : Nat} {z : Nat → Int} {s : Int} (hok : okW z n) (hs : s < 0) (N : Nat) (w : World) (hS : Rc w S n (zi z)) : Ret 23 #[D N, .slice S n c, .int .i64 s] w (Nv .i64 1) := by
  go_enter Try.func23, Try.ntmps23
  have hO := Own.start w
  go_upto_region 0 with (fail)
  refine wp_region_list (WL.out ?_)
  refine g_val (Nv .i64 0) ?_
  refine g_nil ?_
  simp only [Act.put, List.setIfInBounds_toArray, List.set_cons_succ, List.set_cons_zero]
  go_upto_region 1 with (fail)
  refine wp_region_list (WL.out ?_)
  refine g_val (.slice S n c) ?_
  refine g_any 19 #[.slice S n c] (Words_yes hok w (hS.low hO.low)) ?_
  rintro _ w1 ⟨q, rfl, hN⟩
  refine g_val (.tuple #[.slice (some ⟨q, 0, none⟩) n n, Nv .i64 0]) ?_
  refine g_val (.slice (some ⟨q, 0, none⟩) n n) ?_
  refine g_val (Nv .i64 0) ?_
  refine g_val (.slice (some ⟨q, 0, none⟩) n n) ?_
  refine g_val (Nv .i64 0) ?_
  refine g_nil ?_
  simp only [Act.put, List.setIfInBounds_toArray, List.set_cons_succ, List.set_cons_zero]
  replace hO := own_join hO hN
  clear hN
  go_upto_region 2 with (fail)
  refine wp_region_list (WL.out ?_)
  refine g_val (Nv .i64 0) ?_
  refine g_val (.bool false) ?_ (B.neq_errno (a := 0) (c := 0) (b := false) (rfl) w1)
  refine g_val (.bool false) ?_
  refine g_val (.int .i64 s) ?_
  refine g_val (.bool true) ?_ (lssI_int (a := s) (c := 0) (decide_eq_true hs) w1)
  refine g_val (.bool true) ?_
  refine g_val (.bool true) ?_
  refine g_skip ?_
  refine g_skip ?_
  refine g_skip ?_
  refine g_skip ?_
  refine g_val (.bool true) ?_
  refine g_val (.bool true) ?_
  refine g_skip ?_
  refine g_skip ?_
  refine g_skip ?_
  refine g_skip ?_
  refine g_skip ?_
  refine g_val (.bool true) ?_
  refine g_nil ?_
  simp only [Act.put, List.setIfInBounds_toArray, List.set_cons_succ, List.set_cons_zero]
  go_upto_region 3 with (fail)
  refine wp_region_list (WL.out ?_)
  refine g_val (Nv .i64 1) ?_
  refine g_nil ?_
  simp only [Act.put, List.setIfInBounds_toArray, List.set_cons_succ, List.set_cons_zero]
  have HF := hide hO.low
  clear hO
  go_wp2_with (fail)
  go_ret
  exact ⟨rfl, HF.out⟩
set_option maxHeartbeats 4000000 in
theorem HPut_big {S : Option Addr} {n c : Nat} {z : Nat → Int} {i : Nat} (hok : okW z n) (hs : n ≤ i) (N : Nat) (w : World) (hS : Rc w S n (zi z)) : Ret 23 #[D N, .slice S n c, Nv .i64 i] w (Nv .i64 1) := by
  go_enter Try.func23, Try.ntmps23
  have hO := Own.start w
  go_upto_region 0 with (fail)
  refine wp_region_list (WL.out ?_)
  refine g_val (Nv .i64 0) ?_
  refine g_nil ?_
  simp only [Act.put, List.setIfInBounds_toArray, List.set_cons_succ, List.set_cons_zero]
  go_upto_region 1 with (fail)
  refine wp_region_list (WL.out ?_)
  refine g_val (.slice S n c) ?_
  refine g_any 19 #[.slice S n c] (Words_yes hok w (hS.low hO.low)) ?_
  rintro _ w1 ⟨q, rfl, hN⟩
  refine g_val (.tuple #[.slice (some ⟨q, 0, none⟩) n n, Nv .i64 0]) ?_
  refine g_val (.slice (some ⟨q, 0, none⟩) n n) ?_
  refine g_val (Nv .i64 0) ?_
  refine g_val (.slice (some ⟨q, 0, none⟩) n n) ?_
  refine g_val (Nv .i64 0) ?_
  refine g_nil ?_
  simp only [Act.put, List.setIfInBounds_toArray, List.set_cons_succ, List.set_cons_zero]
  replace hO := own_join hO hN
  clear hN
  go_upto_region 2 with (fail)
  refine wp_region_list (WL.out ?_)
  refine g_val (Nv .i64 0) ?_
  refine g_val (.bool false) ?_ (B.neq_errno (a := 0) (c := 0) (b := false) (rfl) w1)
  refine g_val (.bool false) ?_
  refine g_val (Nv .i64 i) ?_
  refine g_val (.bool false) ?_ (B.lss_int (a := i) (c := 0) (b := false) (decide_eq_false (by omega)) w1)
  refine g_val (.bool false) ?_
  refine g_val (.bool false) ?_
  refine g_val (Nv .i64 i) ?_
  refine g_val (.slice S n c) ?_
  refine g_val (Nv .i64 n) ?_
  refine g_val (.bool true) ?_ (B.geq_int (a := i) (c := n) (b := true) (decide_eq_true hs) w1)
  refine g_val (.bool true) ?_
  refine g_val (.bool true) ?_
  refine g_skip ?_
  refine g_skip ?_
  refine g_skip ?_
  refine g_skip ?_
  refine g_skip ?_
  refine g_val (.bool true) ?_
  refine g_nil ?_
  simp only [Act.put, List.setIfInBounds_toArray, List.set_cons_succ, List.set_cons_zero]
  go_upto_region 3 with (fail)
  refine wp_region_list (WL.out ?_)
  refine g_val (Nv .i64 1) ?_
  refine g_nil ?_
  simp only [Act.put, List.setIfInBounds_toArray, List.set_cons_succ, List.set_cons_zero]
  have HF := hide hO.low
  clear hO
  go_wp2_with (fail)
  go_ret
  exact ⟨rfl, HF.out⟩
set_option maxHeartbeats 4000000 in
theorem HPut_nil {S : Option Addr} {n c : Nat} {z : Nat → Int} {i : Nat} (hok : okW z n) (hs : i < n) (h0 : ln z i = 0) (N : Nat) (w : World) (hS : Rc w S n (zi z)) : Ret 23 #[D N, .slice S n c, Nv .i64 i] w (Nv .i64 1) := by
  go_enter Try.func23, Try.ntmps23
  have hO := Own.start w
  go_upto_region 0 with (fail)
  refine wp_region_list (WL.out ?_)
  refine g_val (Nv .i64 0) ?_
  refine g_nil ?_
  simp only [Act.put, List.setIfInBounds_toArray, List.set_cons_succ, List.set_cons_zero]
  go_upto_region 1 with (fail)
  refine wp_region_list (WL.out ?_)
  refine g_val (.slice S n c) ?_
  refine g_any 19 #[.slice S n c] (Words_yes hok w (hS.low hO.low)) ?_
  rintro _ w1 ⟨q, rfl, hN⟩
  refine g_val (.tuple #[.slice (some ⟨q, 0, none⟩) n n, Nv .i64 0]) ?_
  refine g_val (.slice (some ⟨q, 0, none⟩) n n) ?_
  refine g_val (Nv .i64 0) ?_
  refine g_val (.slice (some ⟨q, 0, none⟩) n n) ?_
  refine g_val (Nv .i64 0) ?_
  refine g_nil ?_
  simp only [Act.put, List.setIfInBounds_toArray, List.set_cons_succ, List.set_cons_zero]
  replace hO := own_join hO hN
  clear hN
  obtain ⟨a, rfl, hc⟩ := hS.cell hs
  rw [zi, ln_eq (hok.2.1 i hs)] at hc
  go_upto_region 2 with (fail)
  refine wp_region_list (WL.out ?_)
  refine g_val (Nv .i64 0) ?_
  refine g_val (.bool false) ?_ (B.neq_errno (a := 0) (c := 0) (b := false) (rfl) w1)
  refine g_val (.bool false) ?_
  refine g_val (Nv .i64 i) ?_
  refine g_val (.bool false) ?_ (B.lss_int (a := i) (c := 0) (b := false) (decide_eq_false (by omega)) w1)
  refine g_val (.bool false) ?_
  refine g_val (.bool false) ?_
  refine g_val (Nv .i64 i) ?_
  refine g_val (.slice (some a) n c) ?_
  refine g_val (Nv .i64 n) ?_
  refine g_val (.bool false) ?_ (B.geq_int (a := i) (c := n) (b := false) (decide_eq_false (by omega)) w1)
  refine g_val (.bool false) ?_
  refine g_val (.bool false) ?_
  refine g_val (.slice (some a) n c) ?_
  refine g_val (Nv .i64 i) ?_
  refine g_val (.pointer (some (a.add i))) ?_ (b_ixs (n := n) (c := c) hs Try.underlying25 sz_int w1)
  refine g_la (Nv .i64 (ln z i)) (hc _ hO.low) agg_int ?_
  refine g_val (.bool true) ?_ (B.eql_int (a := ln z i) (c := 0) (b := true) (decide_eq_true h0) w1)
  refine g_val (.bool true) ?_
  refine g_nil ?_
  simp only [Act.put, List.setIfInBounds_toArray, List.set_cons_succ, List.set_cons_zero]
  go_upto_region 3 with (fail)
  refine wp_region_list (WL.out ?_)
  refine g_val (Nv .i64 1) ?_
  refine g_nil ?_
  simp only [Act.put, List.setIfInBounds_toArray, List.set_cons_succ, List.set_cons_zero]
  have HF := hide hO.low
  clear hO
  go_wp2_with (fail)
  go_ret
  exact ⟨rfl, HF.out⟩
theorem HPut_bad {S : Option Addr} {n c : Nat} {z : Nat → Int} {s : Int} (h : ¬ okS z n s) (hn : n ≤ 2 ^ 30) (N : Nat) (w : World) (hS : Rc w S n (zi z)) : Ret 23 #[D N, .slice S n c, .int .i64 s] w (Nv .i64 1) := by
  by_cases hok : okW z n
  · by_cases hs : s < 0
    · exact HPut_neg hok hs N w hS
    · obtain ⟨i, rfl⟩ : ∃ i : Nat, s = (i : Int) := ⟨s.toNat, by omega⟩
      by_cases hi : i < n
      · by_cases h0 : ln z i = 0
        · exact HPut_nil hok hi h0 N w hS
        · exact absurd ⟨hok, i, rfl, hi, by omega⟩ h
      · exact HPut_big hok (by omega) N w hS
  · exact HPut_code hok hn N w hS
set_option maxHeartbeats 4000000 in
theorem HPut_c {S : Option Addr} {n c i X c0 t m : Nat} {z : Nat → Int} (hok : okW z n) (hs : i < n) (hm : m = ln z i) (h1 : 1 ≤ m) (hX : X < 2 ^ c0) (hc0 : c0 + 15 ≤ 2 ^ 29) (N : Nat) (u : World) (M' : List Row) (w : World) (hS : Rc u S n (zi z)) (hG : RefS u w M' N X c0 t) :
    RetP 23 #[D N, .slice S n c, Nv .i64 i] w fun x w' => x = Nv .i64 0 ∧ RefS u w' M' N (X + hb (word (ln z) n i) m m * 2 ^ c0) (c0 + m) t := by
  have hm15 : m ≤ 15 := by rw [hm]; exact ln_le z i
  have hzi := ln_eq (hok.2.1 i hs)
  rw [← hm] at hzi
  have hr : room (ln z) n ≤ 32768 := by have := hok.2.2.2; omega
  have hwl := word_le (l := ln z) hs (by omega) (by omega) hr
  have hwd : wd (ln z) n i = word (ln z) n i := by unfold wd; rw [if_pos (by omega)]
  obtain ⟨wv, hwv⟩ : ∃ wv, word (ln z) n i = wv := ⟨_, rfl⟩
  rw [hwv] at hwl hwd ⊢
  have hSw := hS.low (RefS_low hG)
  obtain ⟨a, rfl, hc⟩ := hS.cell hs
  rw [zi, hzi] at hc
  have HG := hide hG
  have Hm := hide hm
  clear hG hm hwv hr hzi
  go_enter Try.func23, Try.ntmps23
  go_upto_region 0 with (fail)
  refine wp_region_list (WL.out ?_)
  refine g_val (Nv .i64 0) ?_
  refine g_nil ?_
  simp only [Act.put, List.setIfInBounds_toArray, List.set_cons_succ, List.set_cons_zero]
  go_upto_region 1 with (fail)
  refine wp_region_list (WL.out ?_)
  refine g_val (.slice (some a) n c) ?_
  refine g_any 19 #[.slice (some a) n c] (Words_yes hok w hSw) ?_
  rintro _ w1 ⟨q, rfl, hN⟩
  refine g_val (.tuple #[.slice (some ⟨q, 0, none⟩) n n, Nv .i64 0]) ?_
  refine g_val (.slice (some ⟨q, 0, none⟩) n n) ?_
  refine g_val (Nv .i64 0) ?_
  refine g_val (.slice (some ⟨q, 0, none⟩) n n) ?_
  refine g_val (Nv .i64 0) ?_
  refine g_nil ?_
  simp only [Act.put, List.setIfInBounds_toArray, List.set_cons_succ, List.set_cons_zero]
  replace HG := hide (RefS_join HG.out hN)
  clear hN
  have hlow := RefS_low HG.out
  go_upto_region 2 with (fail)
  refine wp_region_list (WL.out ?_)
  refine g_val (Nv .i64 0) ?_
  refine g_val (.bool false) ?_ (B.neq_errno (a := 0) (c := 0) (b := false) (rfl) w1)
  refine g_val (.bool false) ?_
  refine g_val (Nv .i64 i) ?_
  refine g_val (.bool false) ?_ (B.lss_int (a := i) (c := 0) (b := false) (decide_eq_false (by omega)) w1)
  refine g_val (.bool false) ?_
  refine g_val (.bool false) ?_
  refine g_val (Nv .i64 i) ?_
  refine g_val (.slice (some a) n c) ?_
  refine g_val (Nv .i64 n) ?_
  refine g_val (.bool false) ?_ (B.geq_int (a := i) (c := n) (b := false) (decide_eq_false (by omega)) w1)
  refine g_val (.bool false) ?_
  refine g_val (.bool false) ?_
  refine g_val (.slice (some a) n c) ?_
  refine g_val (Nv .i64 i) ?_
  refine g_val (.pointer (some (a.add i))) ?_ (b_ixs (n := n) (c := c) hs Try.underlying25 sz_int w1)
  refine g_la (Nv .i64 m) (hc _ hlow) agg_int ?_
  refine g_val (.bool false) ?_ (B.eql_int (a := m) (c := 0) (b := false) (decide_eq_false (by omega)) w1)
  refine g_val (.bool false) ?_
  refine g_nil ?_
  simp only [Act.put, List.setIfInBounds_toArray, List.set_cons_succ, List.set_cons_zero]
  go_upto_region 4 with (fail)
  refine wp_region_list (WL.out ?_)
  refine g_val (.slice (some a) n c) ?_
  refine g_val (Nv .i64 i) ?_
  refine g_val (.pointer (some (a.add i))) ?_ (b_ixs (n := n) (c := c) hs Try.underlying25 sz_int w1)
  refine g_la (Nv .i64 m) (hc _ hlow) agg_int ?_
  refine g_val (.int .i64 ((m : Int) - 1)) ?_ (subI_int (a := (m : Int)) (c := 1) rfl (by omega) (by omega) w1)
  refine g_val (.int .i64 ((m : Int) - 1)) ?_
  refine g_nil ?_
  simp only [Act.put, List.setIfInBounds_toArray, List.set_cons_succ, List.set_cons_zero]
  clear hlow
  go_wp2_with (fail)
  go_loopw [9] (fun x9 wr => ∃ (k : Nat) (e : Int), k ≤ m ∧ x9 = .int .i64 e ∧ e = (m : Int) - 1 - k ∧ RefS u wr ((q, vals .u32 n (wd (ln z) n), 24) :: M') N (X + hb wv m k * 2 ^ c0) (c0 + k) t) (fun x9 _ => (intOf x9 + 1).toNat)
  case atStart => exact ⟨0, _, Nat.zero_le _, rfl, by omega, by rw [hb, Nat.zero_mul]; exact HG.out⟩
  case round =>
    clear HG
    obtain ⟨k, e, hkm, rfl, he, hG⟩ := hrel
    by_cases hz : k < m
    · obtain ⟨j, hj⟩ : ∃ j : Nat, j = m - 1 - k := ⟨_, rfl⟩
      obtain rfl : e = (j : Int) := by omega
      have hB := RefS_row hG
      have hXk : X + hb wv m k * 2 ^ c0 < 2 ^ (c0 + k) := M.put_lt hX (hb_lt _ _ _)
      have hbit : wv / 2 ^ j % 2 < 2 ^ 1 := Nat.mod_lt _ (by decide)
      have hwj : wv / 2 ^ j ≤ wv := Nat.div_le_self _ _
      go_upto_region 5 with (fail)
      refine wp_region_list (WL.out ?_)
      refine g_val (Nv .i64 j) ?_
      refine g_val (.bool true) ?_ (B.geq_int (a := j) (c := 0) (b := true) (decide_eq_true (Nat.zero_le _)) wr)
      refine g_nil ?_
      simp only [Act.put, List.setIfInBounds_toArray, List.set_cons_succ, List.set_cons_zero]
      go_upto_region 7 with (fail)
      refine wp_region_list (WL.out ?_)
      refine g_val (D N) ?_
      refine g_val (.slice (some ⟨q, 0, none⟩) n n) ?_
      refine g_val (Nv .i64 i) ?_
      refine g_val (E q i) ?_ (b_isq (n := n) (c := n) hs Try.underlying23 sz_u32 wr)
      refine g_la (Nv .u32 wv) ((hB.cell i).trans ((vals_get _ _ _ _ hs).trans (by rw [hwd]))) agg_u32 ?_
      refine g_val (Nv .i64 j) ?_
      refine g_val (Nv .u64 j) ?_ (B.c_int_uint (a := j) (d := j) rfl (by omega) wr)
      refine g_val (Nv .u32 (wv / 2 ^ j)) ?_ (B.shr_u32_uint (a := wv) (s := j) (d := wv / 2 ^ j) rfl (by omega) wr)
      refine g_val (Nv .u32 (wv / 2 ^ j % 2)) ?_ (B.and_u32 (a := wv / 2 ^ j) (c := 1) (d := wv / 2 ^ j % 2) (M.and1 _) (by omega) (by omega) wr)
      refine g_val (Nv .u64 (wv / 2 ^ j % 2)) ?_ (B.c_u32_u64 (a := wv / 2 ^ j % 2) (d := wv / 2 ^ j % 2) rfl (by omega) wr)
      refine g_any 41 #[D N, Nv .u64 (wv / 2 ^ j % 2), Nv .i64 1] (RPut_p hXk hbit (by decide) (by omega) N u ((q, vals .u32 n (wd (ln z) n), 24) :: M') wr hG) ?_
      rintro _ w2 ⟨rfl, hG2⟩
      refine g_nil ?_
      simp only [Act.put, List.setIfInBounds_toArray, List.set_cons_succ, List.set_cons_zero]
      rw [hj, hb_step] at hG2
      have HG := hide hG2
      clear hG hG2 hB
      go_upto_region 6 with (fail)
      refine wp_region_list (WL.out ?_)
      refine g_val (Nv .i64 j) ?_
      refine g_val (.int .i64 ((j : Int) - 1)) ?_ (subI_int (a := (j : Int)) (c := 1) rfl (by omega) (by omega) w2)
      refine g_val (.int .i64 ((j : Int) - 1)) ?_
      refine g_nil ?_
      simp only [Act.put, List.setIfInBounds_toArray, List.set_cons_succ, List.set_cons_zero]
      go_wp2_with (fail)
      go_roundw
      case rel => exact ⟨k + 1, _, hz, rfl, by omega, HG.out⟩
      case measure => show ((j : Int) - 1 + 1).toNat < ((j : Int) + 1).toNat; omega
    · obtain rfl : k = m := by omega
      obtain rfl : e = -1 := by omega
      have HG := hide (RefS_drop hG)
      clear hG
      go_upto_region 5 with (fail)
      refine wp_region_list (WL.out ?_)
      refine g_val (.int .i64 (-1)) ?_
      refine g_val (.bool false) ?_ (geqI_int (a := -1) (c := 0) (b := false) rfl wr)
      refine g_nil ?_
      simp only [Act.put, List.setIfInBounds_toArray, List.set_cons_succ, List.set_cons_zero]
      go_upto_region 8 with (fail)
      refine wp_region_list (WL.out ?_)
      refine g_val (Nv .i64 0) ?_
      refine g_nil ?_
      simp only [Act.put, List.setIfInBounds_toArray, List.set_cons_succ, List.set_cons_zero]
      go_wp2_with (fail)
      go_ret
      exact ⟨_, rfl, rfl, HG.out⟩
end H
end Go.Proofs.Ytkljpidlfddgbaa

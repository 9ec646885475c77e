/- slices.Clone, New. Lengths that have words, or not; no other condition. -/
import Derived.Test.YtkljpidlfddgbaaSi
namespace Go.Proofs.Ytkljpidlfddgbaa
set_option maxRecDepth 100000
open Go.RowKit Rg B

namespace B
theorem b_ia16 {ρ : Operand → Value} {o : Oper} {x y : Operand} {n off a : Nat} (ha : a < 16) (w : World) (ho : o.op = .indexAddr 85 x y := by rfl) (hx : ρ x = E n off := by kernel_rfl) (hy : ρ y = Nv .i64 a := by kernel_rfl) : (execOp ρ o).run Try.prog w = .ok (.value (E n (off + a))) w := by
  have h1 : (0 : Int) ≤ (a : Int) := by omega
  have h2 : (a : Int) < 16 := by omega
  have h3 := Addr.add_mid n off a
  unfold execOp
  simp only [ho, hx, hy]
  go_simp
end B
namespace Q
open H
/-- The cells of a Code: three slices, and how many words have so many bits. -/
def cde (x y t : Value) (f : Nat → Nat) : Array Value := #[x, y, t] ++ vals .i64 16 f
section
variable {x y t : Value} {f : Nat → Nat}
theorem cde_size : (cde x y t f).size = 19 := by simp [cde, vals_size]
theorem cde_0 : (cde x y t f)[0]? = some x := by rw [cde, Array.getElem?_append_left (by simp)]; rfl
theorem cde_1 : (cde x y t f)[1]? = some y := by rw [cde, Array.getElem?_append_left (by simp)]; rfl
theorem cde_2 : (cde x y t f)[2]? = some t := by rw [cde, Array.getElem?_append_left (by simp)]; rfl
theorem cde_c {k : Nat} (h : k < 16) : (cde x y t f)[3 + k]? = some (.int .i64 ((f k : Nat) : Int)) := by
  rw [cde, Array.getElem?_append_right (by simp), ← vals_get .i64 16 f k h]
  simp
theorem cde_set {k v : Nat} (h : k < 16) : (cde x y t f).setIfInBounds (3 + k) (.int .i64 ((v : Nat) : Int)) = cde x y t (fun i => if i = k then v else f i) := by
  refine cl_ext (N := 19) (by simp [cde_size]) cde_size fun i hi => ?_
  by_cases h3 : 3 ≤ i
  · obtain ⟨j, rfl⟩ : ∃ j, i = 3 + j := ⟨i - 3, by omega⟩
    rw [cde_c (by omega)]
    by_cases hj : j = k
    · subst hj
      rw [Array.getElem?_setIfInBounds_self_of_lt (by rw [cde_size]; omega), if_pos rfl]
    · rw [Array.getElem?_setIfInBounds_ne (by omega), cde_c (by omega), if_neg hj]
  · rw [Array.getElem?_setIfInBounds_ne (by omega)]
    obtain rfl | rfl | rfl : i = 0 ∨ i = 1 ∨ i = 2 := by omega
    · rw [cde_0, cde_0]
    · rw [cde_1, cde_1]
    · rw [cde_2, cde_2]
theorem cde_congr {g : Nat → Nat} (h : ∀ k, k < 16 → f k = g k) : cde x y t f = cde x y t g := by unfold cde; rw [vals_congr _ _ _ _ h]
end
theorem cde_fit {A B' C : Option Addr} {a b c d e g : Nat} {f : Nat → Nat} : Fit 87 (cde (.slice A a b) (.slice B' c d) (.slice C e g) f) := ⟨fun _ => by rw [cde_size]; kernel_rfl, by
  rw [cde, Array.all_append, vals_one, Bool.and_true]; simp; exact ⟨rfl, rfl, rfl⟩⟩
theorem cde_built {A B' C : Option Addr} {a b c d e g : Nat} : Try.prog.built 87 [(0, .slice A a b), (1, .slice B' c d), (2, .slice C e g)] = some (cde (.slice A a b) (.slice B' c d) (.slice C e g) (fun _ => 0)) := by kernel_rfl
/-- How many of the first k words have i bits. -/
def cw (l : Nat → Nat) (n : Nat) : Nat → Nat → Nat
  | 0, _ => 0
  | k + 1, i => cw l n k i + if l (og l n k) = i then 1 else 0
theorem cw_le (l : Nat → Nat) (n i : Nat) : ∀ k, cw l n k i ≤ k
  | 0 => Nat.le_refl _
  | k + 1 => by
    have := cw_le l n i k
    rw [cw]
    split <;> omega
theorem cw_step {l : Nat → Nat} {n k : Nat} {x y t : Value} (h : l (og l n k) < 16) : (cde x y t (cw l n k)).setIfInBounds (3 + l (og l n k)) (.int .i64 ((cw l n k (l (og l n k)) + 1 : Nat) : Int)) = cde x y t (cw l n (k + 1)) := by
  rw [cde_set h]
  refine cde_congr fun i _ => ?_
  rw [cw]
  by_cases hi : i = l (og l n k)
  · subst hi; rw [if_pos rfl, if_pos rfl]
  · rw [if_neg hi, if_neg (fun e => hi e.symm), Nat.add_zero]
/-- A Code lies there. -/
def Cde (z : Nat → Int) (n : Nat) (w : World) (K : Nat) : Prop := ∃ qw ql d qo dd, Blk w K (cde (.slice (some ⟨qw, 0, none⟩) n n) (.slice (some ⟨ql, 0, none⟩) n (n + d)) (.slice (some ⟨qo, 0, none⟩) (many (ln z) n) (many (ln z) n + dd)) (cw (ln z) n (many (ln z) n))) 87 ∧ Blk w qw (vals .u32 n (wd (ln z) n)) 24 ∧ Blk w ql (cl zI (n + d) n (zi z)) 3 ∧ Blk w qo (cI (many (ln z) n + dd) (many (ln z) n) (og (ln z) n)) 3
theorem Cde.call {z : Nat → Int} {n K : Nat} {w w' : World} (h : Cde z n w K) (hb : Below w.heap.size w w') : Cde z n w' K := by
  obtain ⟨qw, ql, d, qo, dd, h1, h2, h3, h4⟩ := h
  exact ⟨qw, ql, d, qo, dd, h1.call hb, h2.call hb, h3.call hb, h4.call hb⟩
theorem PWords_y {S : Option Addr} {n c : Nat} {z : Nat → Int} (hok : okW z n) (w : World) (hS : Rc w S n (zi z)) : RetP 18 #[.slice S n c] w fun x w' => ∃ q, x = .tuple #[.slice (some ⟨q, 0, none⟩) n n, Nv .i64 0] ∧ Own w w' [(q, vals .u32 n (wd (ln z) n), 24)] := by
  refine (PWords_c (by have := hok.1; omega) w hS).mono fun e w' hh => ?_
  obtain ⟨v, he, ⟨_, q, hv, hO⟩ | ⟨hno, _⟩⟩ := hh
  · exact ⟨v, he, q, hv, hO⟩
  · exact absurd hok hno
theorem PWords_n {S : Option Addr} {n c : Nat} {z : Nat → Int} (hn : n ≤ 2 ^ 30) (hok : ¬ okW z n) (w : World) (hS : Rc w S n (zi z)) : Ret 18 #[.slice S n c] w (.tuple #[.slice none 0 0, Nv .i64 130]) := by
  refine (PWords_c hn w hS).mono fun e w' hh => ?_
  obtain ⟨v, he, ⟨hy, _⟩ | ⟨_, hv, hb⟩⟩ := hh
  · exact absurd hy hok
  · exact ⟨hv ▸ he, hb⟩
set_option maxHeartbeats 4000000 in
theorem Clone_c {S : Option Addr} {n c : Nat} {z : Nat → Int} (h0 : 0 < n) (hn : n ≤ 2 ^ 30) (w : World) (hS : Rc w S n (zi z)) :
    RetP 39 #[.slice S n c] w fun v w' => ∃ q d, v = .slice (some ⟨q, 0, none⟩) n (n + d) ∧ Own w w' [(q, cl zI (n + d) n (zi z), 3)] := by
  obtain ⟨a, rfl, _⟩ := hS.cell h0
  go_enter Try.func39, Try.ntmps39
  have hO := Own.start w
  go_upto_region 0 with (fail)
  refine wp_region_list (WL.out ?_)
  refine g_val (.slice none 0 0) ?_
  refine g_nil ?_
  simp only [Act.put, List.setIfInBounds_toArray, List.set_cons_succ, List.set_cons_zero]
  go_upto_region 1 with (fail)
  refine wp_region_list (WL.out ?_)
  refine g_val (.slice (some a) n c) ?_
  refine g_val (.bool false) ?_
  refine g_nil ?_
  simp only [Act.put, List.setIfInBounds_toArray, List.set_cons_succ, List.set_cons_zero]
  go_upto_region 3 with (fail)
  refine wp_region_list (WL.out ?_)
  refine g_new hO (fun q => .slice (some ⟨q, 0, none⟩) 0 0) (#[]) 3 (⟨(fun h => by cases h), by simp⟩) (by kernel_rfl) ?_
  intro n5 w1 hb5 hO
  replace hO : Own w w1 [(n5, #[], 3)] := hO
  refine g_val (.slice (some a) n c) ?_
  have hS2 : Rc w1 (some a) (n * 1) (zi z) := by rw [Nat.mul_one]; exact hS.low hO.low
  refine g_app (L := []) (n := 0) (m := n) (N := n) (c := c) (f := zi z) (g := zi z) (.slice (some ⟨n5, 0, none⟩) 0 0) el_i (.inr ⟨n5, 0, rfl, hO⟩) (.inl h0) (Nat.zero_add n) hn hS2 (fun i _ => rfl) (fun i _ => rfl) (fun i _ => by rw [Nat.zero_mul, Nat.zero_add]) (fun q dd w2 hO => ?_)
  refine g_val (.slice (some ⟨q, 0, none⟩) n (n + dd)) ?_
  refine g_nil ?_
  simp only [Act.put, List.setIfInBounds_toArray, List.set_cons_succ, List.set_cons_zero]
  have HO := hide hO
  clear hO
  go_wp2_with (fail)
  go_ret
  refine ⟨_, rfl, q, dd, rfl, ?_⟩
  have h := HO.out
  rw [Nat.mul_one, Nat.mul_one] at h
  exact h
set_option maxHeartbeats 8000000 in
theorem PNew_n {S : Option Addr} {n c : Nat} {z : Nat → Int} (hn : n ≤ 2 ^ 30) (hok : ¬ okW z n) (w : World) (hS : Rc w S n (zi z)) : Ret 21 #[.slice S n c] w (.tuple #[.pointer none, Nv .i64 130]) := by
  go_enter Try.func21, Try.ntmps21
  have hO := Own.start w
  go_upto_region 0 with (fail)
  refine wp_region_list (WL.out ?_)
  refine g_val (.pointer none) ?_
  refine g_val (Nv .i64 0) ?_
  refine g_nil ?_
  simp only [Act.put, List.setIfInBounds_toArray, List.set_cons_succ, List.set_cons_zero]
  go_upto_region 1 with (fail)
  refine wp_region_list (WL.out ?_)
  refine g_val (.slice S n c) ?_
  refine g_call hO 18 #[.slice S n c] (.tuple #[.slice none 0 0, Nv .i64 130]) (PWords_n hn hok w (hS.low hO.low)) ?_
  intro w1 hb11 hO
  refine g_val (.tuple #[.slice none 0 0, Nv .i64 130]) ?_
  refine g_val (.slice none 0 0) ?_
  refine g_val (Nv .i64 130) ?_
  refine g_val (.slice none 0 0) ?_
  refine g_val (Nv .i64 130) ?_
  refine g_nil ?_
  simp only [Act.put, List.setIfInBounds_toArray, List.set_cons_succ, List.set_cons_zero]
  go_upto_region 2 with (fail)
  refine wp_region_list (WL.out ?_)
  refine g_val (Nv .i64 130) ?_
  refine g_val (.bool true) ?_ (B.neq_errno (a := 130) (c := 0) (b := true) (decide_eq_true (by decide)) w1)
  refine g_nil ?_
  simp only [Act.put, List.setIfInBounds_toArray, List.set_cons_succ, List.set_cons_zero]
  go_upto_region 3 with (fail)
  refine wp_region_list (WL.out ?_)
  refine g_val (Nv .i64 130) ?_
  refine g_val (.pointer none) ?_
  refine g_val (Nv .i64 130) ?_
  refine g_nil ?_
  simp only [Act.put, List.setIfInBounds_toArray, List.set_cons_succ, List.set_cons_zero]
  have HF := hide hO.low
  clear hO
  go_wp2_with (fail)
  go_ret2
  exact ⟨rfl, HF.out⟩
set_option maxHeartbeats 8000000 in
theorem PNew_y {S : Option Addr} {n c : Nat} {z : Nat → Int} (hok : okW z n) (w : World) (hS : Rc w S n (zi z)) :
    RetP 21 #[.slice S n c] w fun v w' => ∃ K, v = .tuple #[D K, Nv .i64 0] ∧ Cde z n w' K ∧ Below w.heap.size w w' := by
  have hn1 : n ≤ 1000 := hok.1
  have hpos : 0 < many (ln z) n := Nat.pos_of_ne_zero hok.2.2.1
  have hmn : many (ln z) n ≤ n := many_le
  have hSl : Rc w S n (H.ni (ln z)) := hS.congr fun i hi => by unfold zi H.ni; rw [ln_eq (hok.2.1 i hi)]
  obtain ⟨m, hm⟩ : ∃ m, many (ln z) n = m := ⟨_, rfl⟩
  rw [hm] at hpos hmn
  have Hm := hide hm
  have Hok := hide hok
  clear hm hok
  go_enter Try.func21, Try.ntmps21
  have hO := Own.start w
  go_upto_region 0 with (fail)
  refine wp_region_list (WL.out ?_)
  refine g_val (.pointer none) ?_
  refine g_val (Nv .i64 0) ?_
  refine g_nil ?_
  simp only [Act.put, List.setIfInBounds_toArray, List.set_cons_succ, List.set_cons_zero]
  go_upto_region 1 with (fail)
  refine wp_region_list (WL.out ?_)
  refine g_val (.slice S n c) ?_
  refine g_any 18 #[.slice S n c] (PWords_y Hok.out w (hS.low hO.low)) ?_
  rintro _ w1 ⟨qw, rfl, hO2⟩
  replace hO := own_join hO hO2
  clear hO2
  replace hO : Own w w1 [(qw, vals .u32 n (wd (ln z) n), 24)] := hO
  refine g_val (.tuple #[.slice (some ⟨qw, 0, none⟩) n n, Nv .i64 0]) ?_
  refine g_val (.slice (some ⟨qw, 0, none⟩) n n) ?_
  refine g_val (Nv .i64 0) ?_
  refine g_val (.slice (some ⟨qw, 0, none⟩) n n) ?_
  refine g_val (Nv .i64 0) ?_
  refine g_nil ?_
  simp only [Act.put, List.setIfInBounds_toArray, List.set_cons_succ, List.set_cons_zero]
  go_upto_region 2 with (fail)
  refine wp_region_list (WL.out ?_)
  refine g_val (Nv .i64 0) ?_
  refine g_val (.bool false) ?_ (B.neq_errno (a := 0) (c := 0) (b := false) (decide_eq_false (by decide)) w1)
  refine g_nil ?_
  simp only [Act.put, List.setIfInBounds_toArray, List.set_cons_succ, List.set_cons_zero]
  go_upto_region 4 with (fail)
  refine wp_region_list (WL.out ?_)
  refine g_val (.slice (some ⟨qw, 0, none⟩) n n) ?_
  refine g_val (.slice S n c) ?_
  refine g_any 39 #[.slice S n c] (Clone_c (by omega) (by omega) w1 (hS.low hO.low)) ?_
  rintro _ w2 ⟨ql, d, rfl, hO2⟩
  replace hO := own_join hO hO2
  clear hO2
  replace hO : Own w w2 [(qw, vals .u32 n (wd (ln z) n), 24), (ql, cl zI (n + d) n (zi z), 3)] := hO
  refine g_val (.slice S n c) ?_
  refine g_any 37 #[.slice S n c] (Ord_c hn1 Hm.out hpos w2 (hSl.low hO.low)) ?_
  rintro _ w3 ⟨b9, qo, dd, rfl, hO2⟩
  replace hO := own_join hO hO2
  clear hO2
  replace hO : Own w w3 [(qw, vals .u32 n (wd (ln z) n), 24), (ql, cl zI (n + d) n (zi z), 3), (b9, #[.slice S n c], 25), (qo, cI (m + dd) m (og (ln z) n), 3)] := hO
  refine g_val (A (cde (.slice (some ⟨qw, 0, none⟩) n n) (.slice (some ⟨ql, 0, none⟩) n (n + d)) (.slice (some ⟨qo, 0, none⟩) m (m + dd)) (cw (ln z) n 0))) ?_ (run_bd 87 _ rfl [(0, .slice (some ⟨qw, 0, none⟩) n n), (1, .slice (some ⟨ql, 0, none⟩) n (n + d)), (2, .slice (some ⟨qo, 0, none⟩) m (m + dd))] (by kernel_rfl) _ cde_built w3)
  refine g_new hO D (cde (.slice (some ⟨qw, 0, none⟩) n n) (.slice (some ⟨ql, 0, none⟩) n (n + d)) (.slice (some ⟨qo, 0, none⟩) m (m + dd)) (cw (ln z) n 0)) 87 cde_fit (run_box 87 _ rfl _ (by kernel_rfl) w3) ?_
  intro K w4 _ hO
  replace hO : Own w w4 [(qw, vals .u32 n (wd (ln z) n), 24), (ql, cl zI (n + d) n (zi z), 3), (b9, #[.slice S n c], 25), (qo, cI (m + dd) m (og (ln z) n), 3), (K, cde (.slice (some ⟨qw, 0, none⟩) n n) (.slice (some ⟨ql, 0, none⟩) n (n + d)) (.slice (some ⟨qo, 0, none⟩) m (m + dd)) (cw (ln z) n 0), 87)] := hO
  refine g_val (D K) ?_
  refine g_nil ?_
  simp only [Act.put, List.setIfInBounds_toArray, List.set_cons_succ, List.set_cons_zero]
  go_upto_region 5 with (fail)
  refine wp_region_list (WL.out ?_)
  refine g_val (D K) ?_
  refine g_val (D K) ?_
  refine g_val (E K 2) ?_
  refine g_lc hO 4 2 (.slice (some ⟨qo, 0, none⟩) m (m + dd)) rfl (cde_2) agg_si ?_
  refine g_val (Nv .i64 m) ?_
  refine g_val (Nv .i64 0) ?_
  refine g_nil ?_
  simp only [Act.put, List.setIfInBounds_toArray, List.set_cons_succ, List.set_cons_zero]
  have HO := hide hO
  clear hO
  go_wp2_with (fail)
  go_loopw [29] (fun x29 wr => ∃ k : Nat, k ≤ m ∧ x29 = .int .i64 (k : Int) ∧ Own w wr [(qw, vals .u32 n (wd (ln z) n), 24), (ql, cl zI (n + d) n (zi z), 3), (b9, #[.slice S n c], 25), (qo, cI (m + dd) m (og (ln z) n), 3), (K, cde (.slice (some ⟨qw, 0, none⟩) n n) (.slice (some ⟨ql, 0, none⟩) n (n + d)) (.slice (some ⟨qo, 0, none⟩) m (m + dd)) (cw (ln z) n k), 87)]) (fun x29 _ => m - (intOf x29).toNat)
  case atStart => exact ⟨0, Nat.zero_le _, rfl, HO.out⟩
  case round =>
    clear HO
    obtain ⟨k, hk9, rfl, hO⟩ := hrel
    by_cases hz : k < m
    · have hk0 : 0 ≤ k := Nat.zero_le _
      go_upto_region 6 with (fail)
      refine wp_region_list (WL.out ?_)
      refine g_val (.bool true) ?_ (B.lss_int (a := k) (c := m) (b := true) (decide_eq_true hz) wr)
      refine g_nil ?_
      simp only [Act.put, List.setIfInBounds_toArray, List.set_cons_succ, List.set_cons_zero]
      have hA := og_mem (l := ln z) (n := n) (j := k) (by rw [Hm.out]; omega)
      go_upto_region 7 with (fail)
      refine wp_region_list (WL.out ?_)
      refine g_val (E qo k) ?_ (b_isq (n := m) (c := m + dd) hz Try.underlying25 sz_int wr)
      refine g_lc hO 3 k (Nv .i64 (og (ln z) n k)) rfl (cI_get (by omega) _ hz) agg_int ?_
      refine g_val (Nv .i64 (og (ln z) n k)) ?_
      refine g_nil ?_
      simp only [Act.put, List.setIfInBounds_toArray, List.set_cons_succ, List.set_cons_zero]
      obtain ⟨a, rfl, hcA⟩ := hSl.cell hA.1
      have hl15 := ln_le z (og (ln z) n k)
      have hcw := cw_le (ln z) n (ln z (og (ln z) n k)) k
      have Hst := hide (fun x y t => cw_step (l := ln z) (n := n) (k := k) (x := x) (y := y) (t := t) (by omega))
      go_upto_region 8 with (fail)
      refine Rg.pd [13] (fun _ => [(33, D K), (34, .slice (some a) n c), (35, Nv .i64 (og (ln z) n k)), (36, .pointer (some (a.add (og (ln z) n k)))), (37, Nv .i64 (ln z (og (ln z) n k))), (38, D K), (39, E K 3), (40, E K (3 + ln z (og (ln z) n k))), (41, Nv .i64 (cw (ln z) n k (ln z (og (ln z) n k)))), (42, Nv .i64 (cw (ln z) n k (ln z (og (ln z) n k)) + 1)), (43, D K), (44, E K 3), (45, E K (3 + ln z (og (ln z) n k)))]) (OI w (fun s ν => [[(qw, vals .u32 n (wd (ln z) n), 24), (ql, cl zI (n + d) n (zi z), 3), (b9, #[.slice (some a) n c], 25), (qo, cI (m + dd) m (og (ln z) n), 3), (K, cde (.slice (some ⟨qw, 0, none⟩) n n) (.slice (some ⟨ql, 0, none⟩) n (n + d)) (.slice (some ⟨qo, 0, none⟩) m (m + dd)) (cw (ln z) n k), 87)], [(qw, vals .u32 n (wd (ln z) n), 24), (ql, cl zI (n + d) n (zi z), 3), (b9, #[.slice (some a) n c], 25), (qo, cI (m + dd) m (og (ln z) n), 3), (K, cde (.slice (some ⟨qw, 0, none⟩) n n) (.slice (some ⟨ql, 0, none⟩) n (n + d)) (.slice (some ⟨qo, 0, none⟩) m (m + dd)) (cw (ln z) n (k + 1)), 87)]].getD s [])) (fun _ => 0) hO.drew (Rg.ac nv (Rg.ac nv (Rg.ac nv (Rg.ac (nx (fun _ => .pointer (some (a.add (og (ln z) n k)))) (fun _ w => b_ixs (n := n) (c := c) hA.1 Try.underlying25 sz_int w)) (Rg.ac (nca (Nv .i64 (ln z (og (ln z) n k))) hcA agg_int) (Rg.ac nv (Rg.ac nv (Rg.ac (nx (fun _ => E K (3 + ln z (og (ln z) n k))) (fun _ w => b_ia16 (by omega) w)) (Rg.ac (nc 0 0 4 (fun _ => 3 + ln z (og (ln z) n k)) (fun _ => Nv .i64 (cw (ln z) n k (ln z (og (ln z) n k)))) B.agg_int (fun _ => cde_c (by omega)) (at1 0 fun _ => by kernel_rfl)) (Rg.ac (nx (fun _ => Nv .i64 (cw (ln z) n k (ln z (og (ln z) n k)) + 1)) (fun _ w => B.add_int (a := cw (ln z) n k (ln z (og (ln z) n k))) (c := 1) (d := cw (ln z) n k (ln z (og (ln z) n k)) + 1) rfl (by omega) w)) (Rg.ac nv (Rg.ac nv (Rg.ac (nx (fun _ => E K (3 + ln z (og (ln z) n k))) (fun _ w => b_ia16 (by omega) w)) (Rg.ac (sl 0 4 (fun _ => 3 + ln z (og (ln z) n k)) (fun _ => Nv .i64 (cw (ln z) n k (ln z (og (ln z) n k)))) (fun _ => ((cw (ln z) n k (ln z (og (ln z) n k)) + 1 : Nat) : Int)) B.sz_int (fun _ => cde_c (by omega)) (fun _ => Hst.out _ _ _) (fun _ => cde_fit)) Rg.an)))))))))))))) ?_
      intro ν w5 hO
      replace hO : Own w w5 [(qw, vals .u32 n (wd (ln z) n), 24), (ql, cl zI (n + d) n (zi z), 3), (b9, #[.slice (some a) n c], 25), (qo, cI (m + dd) m (og (ln z) n), 3), (K, cde (.slice (some ⟨qw, 0, none⟩) n n) (.slice (some ⟨ql, 0, none⟩) n (n + d)) (.slice (some ⟨qo, 0, none⟩) m (m + dd)) (cw (ln z) n (k + 1)), 87)] := hO
      simp only [Rg.putL, Act.put, List.setIfInBounds_toArray, List.set_cons_succ, List.set_cons_zero]
      clear ν
      have HO := hide hO
      clear hO
      go_upto_region 9 with (fail)
      refine wp_region_list (WL.out ?_)
      refine g_val (Nv .i64 (k + 1)) ?_ (B.add_int (a := k) (c := 1) (d := k + 1) rfl (by omega) w5)
      refine g_val (Nv .i64 (k + 1)) ?_
      refine g_nil ?_
      simp only [Act.put, List.setIfInBounds_toArray, List.set_cons_succ, List.set_cons_zero]
      go_wp2_with (fail)
      go_roundw
      case rel => exact ⟨k + 1, hz, rfl, HO.out⟩
      case measure => show m - ((k + 1 : Nat) : Int).toNat < m - ((k : Nat) : Int).toNat; omega
    · obtain rfl : k = m := by omega
      clear hk9
      go_upto_region 6 with (fail)
      refine wp_region_list (WL.out ?_)
      refine g_val (.bool false) ?_ (B.lss_int (a := k) (c := k) (b := false) (decide_eq_false hz) wr)
      refine g_nil ?_
      simp only [Act.put, List.setIfInBounds_toArray, List.set_cons_succ, List.set_cons_zero]
      have HO := hide hO
      clear hO
      go_upto_region 10 with (fail)
      refine wp_region_list (WL.out ?_)
      refine g_val (D K) ?_
      refine g_val (D K) ?_
      refine g_val (Nv .i64 0) ?_
      refine g_nil ?_
      simp only [Act.put, List.setIfInBounds_toArray, List.set_cons_succ, List.set_cons_zero]
      go_wp2_with (fail)
      go_ret2
      refine ⟨_, rfl, K, rfl, ?_, HO.out.low⟩
      have hm := Hm.out
      unfold Cde
      rw [hm]
      exact ⟨qw, ql, d, qo, dd, HO.out.row 4 rfl, HO.out.row 0 rfl, HO.out.row 1 rfl, HO.out.row 3 rfl⟩
end Q
end Go.Proofs.Ytkljpidlfddgbaa

/- The program's Words. No conditions but the slice's length. -/
import Derived.Test.YtkljpidlfddgbaaSh
namespace Go.Proofs.Ytkljpidlfddgbaa
set_option maxRecDepth 100000
open Go.RowKit Rg B

namespace B
theorem run_cutI (A : Option Addr) (len cap c : Nat) (hc : c ≤ len) (w : World) : (Instr.slice 25 (.slice A len cap) (some (.int .i64 c)) none none).run Try.prog w = .ok (.slice (cutA A c cap) (len - c) (cap - c)) w := by
  rw [run_slice_l w 25 A len cap (by kernel_rfl) .i64 c (by omega) (by omega), show (sizeOf (Try.prog.elem 25)).run Try.prog w = .ok 1 w by rfl]
  simp [Result.andThen, sliced, cutA]
theorem b_loI {A Q : Option Addr} {len cap c n' c' : Nat} (hc : c ≤ len) (hQ : cutA A c cap = Q) (h1 : len - c = n') (h2 : cap - c = c') {ρ : Operand → Value} {o : Oper} {x y : Operand} (w : World) (ho : o.op = .slice 25 x (some y) none none := by rfl) (hx : ρ x = .slice A len cap := by kernel_rfl) (hy : ρ y = Nv .i64 c := by kernel_rfl) : (execOp ρ o).run Try.prog w = .ok (.value (.slice Q n' c')) w := by
  subst hQ h1 h2
  have e := run_cutI A len cap c hc w
  have e' : (Instr.sliceAt 25 (.slice A len cap) (some (Nv .i64 c)) none none).run Try.prog w = .ok (.slice (cutA A c cap) (len - c) (cap - c)) w := by
    unfold Instr.sliceAt
    go_simp
  unfold execOp
  rw [ho]
  dsimp only [Option.map]
  rw [hx, hy, Sem.run_bind, e']
  rfl
theorem b_isO {ty e : TypeId} {ρ : Operand → Value} {o : Oper} {x y : Operand} {q off k i n c : Nat} (hk : k < n) (hi : off + k = i) (hu : Try.prog.underlying ty = some (.slice e)) (hc : ∀ w, (sizeOf e).run Try.prog w = .ok 1 w) (w : World) (ho : o.op = .indexAddr ty x y := by rfl) (hx : ρ x = .slice (some ⟨q, off, none⟩) n c := by kernel_rfl) (hy : ρ y = Nv .i64 k := by kernel_rfl) : (execOp ρ o).run Try.prog w = .ok (.value (E q i)) w := by
  have h := b_ixs (a := ⟨q, off, none⟩) hk hu hc w ho hx hy
  rw [Addr.add_mid, hi] at h
  exact h
end B
namespace Q
open H
/-- The symbols in the order of their words, where there are some. -/
theorem Ord_c {S : Option Addr} {n c m : Nat} {l : Nat → Nat} (hn : n ≤ 1000) (hm : many l n = m) (h0 : 0 < m) (w : World) (hS : Rc w S n (H.ni l)) :
    RetP 37 #[.slice S n c] w fun v w' => ∃ b q dd, v = .slice (some ⟨q, 0, none⟩) m (m + dd) ∧ Own w w' [(b, #[.slice S n c], 25), (q, cI (m + dd) m (og l n), 3)] := by
  refine (InOrd_c hn w hS).mono fun e w' h => ?_
  obtain ⟨v, rfl, b, hG⟩ := h
  have hlen := rsg_len l n
  refine ⟨v, rfl, b, ?_⟩
  rcases hG with ⟨h1, _, _⟩ | ⟨q, dd, hv, hO⟩
  · omega
  · rw [hlen, hm] at hv
    refine ⟨q, dd, hv, ?_⟩
    rw [Nat.mul_one, Nat.mul_one, hlen, hm] at hO
    exact hO
theorem Fit_y {S : Option Addr} {n c : Nat} {z : Nat → Int} (hn : n ≤ 2 ^ 30) (h : okW z n) (w : World) (hS : Rc w S n (zi z)) : Ret 36 #[.slice S n c] w (.bool true) := by
  refine (Fit_c hn w hS).mono fun e w' h' => ?_
  obtain ⟨v, rfl, hf, hb⟩ := h'
  rcases hf with ⟨_, rfl⟩ | ⟨h2, _⟩
  · exact ⟨rfl, hb⟩
  · exact absurd h h2
theorem Fit_n {S : Option Addr} {n c : Nat} {z : Nat → Int} (hn : n ≤ 2 ^ 30) (h : ¬ okW z n) (w : World) (hS : Rc w S n (zi z)) : Ret 36 #[.slice S n c] w (.bool false) := by
  refine (Fit_c hn w hS).mono fun e w' h' => ?_
  obtain ⟨v, rfl, hf, hb⟩ := h'
  rcases hf with ⟨h2, _⟩ | ⟨_, rfl⟩
  · exact absurd h2 h
  · exact ⟨rfl, hb⟩
set_option maxHeartbeats 8000000 in
theorem PWords_c {S : Option Addr} {n c : Nat} {z : Nat → Int} (hn : n ≤ 2 ^ 30) (w : World) (hS : Rc w S n (zi z)) :
    RetP 18 #[.slice S n c] w (WordsP z n w) := by
  go_enter Try.func18, Try.ntmps18
  have hO := Own.start w
  go_upto_region 0 with (fail)
  refine wp_region_list (WL.out ?_)
  refine g_val (.slice none 0 0) ?_
  refine g_val (Nv .i64 0) ?_
  refine g_nil ?_
  simp only [Act.put, List.setIfInBounds_toArray, List.set_cons_succ, List.set_cons_zero]
  by_cases hok : okW z n
  · have hn1 : n ≤ 1000 := hok.1
    have hcnd := hok.2.1
    have hpos : 0 < many (ln z) n := Nat.pos_of_ne_zero hok.2.2.1
    have hroom : room (ln z) n ≤ 32768 := by rcases hok.2.2.2 with h | ⟨_, h⟩ <;> omega
    obtain ⟨m1, hm1⟩ : ∃ m1, many (ln z) n = m1 + 1 := ⟨many (ln z) n - 1, by omega⟩
    have hmn : m1 + 1 ≤ n := by rw [← hm1]; exact many_le
    have hSl : Rc w S n (H.ni (ln z)) := hS.congr fun i hi => by unfold zi H.ni; rw [ln_eq (hcnd i hi)]
    have Hm1 := hide hm1
    have Hok := hide hok
    have Hpos := hide hpos
    have Hcnd := hide hcnd
    have Hfit : Hid (∀ w', Below w.heap.size w w' → Ret 36 #[.slice S n c] w' (.bool true)) := hide fun w' h => Fit_y hn hok w' (hS.low h)
    clear hok hcnd hm1 hpos
    go_upto_region 1 with (fail)
    refine wp_region_list (WL.out ?_)
    refine g_val (.slice S n c) ?_
    refine g_call hO 36 #[.slice S n c] (.bool true) (Hfit.out w hO.low) ?_
    intro w1 hb10 hO
    refine g_val (.bool false) ?_
    refine g_nil ?_
    simp only [Act.put, List.setIfInBounds_toArray, List.set_cons_succ, List.set_cons_zero]
    go_upto_region 3 with (fail)
    refine wp_region_list (WL.out ?_)
    refine g_val (.slice S n c) ?_
    refine g_val (Nv .i64 n) ?_
    refine g_new hO (fun q => .slice (some ⟨q, 0, none⟩) n n) (vals .u32 n (fun _ => 0)) 24 (fit_u32 _ _) (b_mk32 (by omega) w1) ?_
    intro n14 w2 hb14 hO
    replace hO : Own w w2 [(n14, vals .u32 n (fun _ => 0), 24)] := hO
    refine g_val (.slice (some ⟨n14, 0, none⟩) n n) ?_
    refine g_nil ?_
    simp only [Act.put, List.setIfInBounds_toArray, List.set_cons_succ, List.set_cons_zero]
    rw [← pl_first (l := ln z) (n := n) Hpos.out] at hO
    go_upto_region 4 with (fail)
    refine wp_region_list (WL.out ?_)
    refine g_val (.slice S n c) ?_
    refine g_any 37 #[.slice S n c] (Ord_c hn1 Hm1.out (Nat.succ_pos m1) w2 (hSl.low hO.low)) ?_
    rintro _ w3 ⟨b9, q, dd, rfl, hO2⟩
    refine g_val (.slice (some ⟨q, 0, none⟩) (m1 + 1) (m1 + 1 + dd)) ?_
    refine g_nil ?_
    simp only [Act.put, List.setIfInBounds_toArray, List.set_cons_succ, List.set_cons_zero]
    have hO := own_join hO hO2
    clear hO2
    replace hO : Own w w3 [(n14, vals .u32 n (pl (ln z) n 1), 24), (b9, #[.slice S n c], 25), (q, cI (m1 + 1 + dd) (m1 + 1) (og (ln z) n), 3)] := hO
    obtain ⟨Q9, hQ9⟩ : ∃ Q9, cutA (some ⟨q, 0, none⟩) 1 (m1 + 1 + dd) = Q9 := ⟨_, rfl⟩
    have HQ : Hid (0 < m1 → Q9 = some ⟨q, 1, none⟩) := hide fun h => by rw [← hQ9]; unfold cutA; rw [if_neg (by omega)]; rfl
    have HQ9 := hide hQ9
    clear hQ9
    go_upto_region 5 with (fail)
    refine wp_region_list (WL.out ?_)
    refine g_val (.slice (some ⟨q, 0, none⟩) (m1 + 1) (m1 + 1 + dd)) ?_
    refine g_val (.slice Q9 m1 (m1 + dd)) ?_ (b_loI (A := some ⟨q, 0, none⟩) (len := m1 + 1) (cap := m1 + 1 + dd) (c := 1) (by omega) HQ9.out (by omega) (by omega) w3)
    refine g_val (Nv .i64 m1) ?_
    refine g_val (Nv .i64 0) ?_
    refine g_nil ?_
    simp only [Act.put, List.setIfInBounds_toArray, List.set_cons_succ, List.set_cons_zero]
    clear HQ9
    have HO := hide hO
    clear hO
    go_wp2_with (fail)
    go_loopw [20] (fun x20 wr => ∃ k : Nat, k ≤ m1 ∧ x20 = .int .i64 (k : Int) ∧ Own w wr [(n14, vals .u32 n (pl (ln z) n (k + 1)), 24), (b9, #[.slice S n c], 25), (q, cI (m1 + 1 + dd) (m1 + 1) (og (ln z) n), 3)]) (fun x20 _ => m1 - (intOf x20).toNat)
    case atStart => exact ⟨0, Nat.zero_le _, rfl, HO.out⟩
    case round =>
      clear HO
      obtain ⟨k, hk9, rfl, hO⟩ := hrel
      by_cases hz : k < m1
      · have hk0 : 0 ≤ k := Nat.zero_le _
        go_upto_region 6 with (fail)
        refine wp_region_list (WL.out ?_)
        refine g_val (.bool true) ?_ (B.lss_int (a := k) (c := m1) (b := true) (decide_eq_true hz) wr)
        refine g_nil ?_
        simp only [Act.put, List.setIfInBounds_toArray, List.set_cons_succ, List.set_cons_zero]
        obtain rfl : Q9 = some ⟨q, 1, none⟩ := HQ.out (by omega)
        have hA := og_mem (l := ln z) (n := n) (j := k) (by rw [Hm1.out]; omega)
        have hB := og_mem (l := ln z) (n := n) (j := k + 1) (by rw [Hm1.out]; omega)
        go_upto_region 7 with (fail)
        refine wp_region_list (WL.out ?_)
        refine g_val (Nv .i64 k) ?_
        refine g_val (E q (k + 1)) ?_ (b_isO (n := m1) (c := m1 + dd) (off := 1) hz (by omega) Try.underlying25 sz_int wr)
        refine g_lc hO 2 (k + 1) (Nv .i64 (og (ln z) n (k + 1))) rfl (cI_get (by omega) _ (by omega)) agg_int ?_
        refine g_val (Nv .i64 k) ?_
        refine g_val (Nv .i64 (og (ln z) n (k + 1))) ?_
        refine g_nil ?_
        simp only [Act.put, List.setIfInBounds_toArray, List.set_cons_succ, List.set_cons_zero]
        go_upto_region 8 with (fail)
        refine wp_region_list (WL.out ?_)
        refine g_val (.slice (some ⟨q, 0, none⟩) (m1 + 1) (m1 + 1 + dd)) ?_
        refine g_val (Nv .i64 k) ?_
        refine g_val (E q k) ?_ (b_isq (n := m1 + 1) (c := m1 + 1 + dd) (by omega) Try.underlying25 sz_int wr)
        refine g_lc hO 2 k (Nv .i64 (og (ln z) n k)) rfl (cI_get (by omega) _ (by omega)) agg_int ?_
        refine g_val (Nv .i64 (og (ln z) n k)) ?_
        refine g_nil ?_
        simp only [Act.put, List.setIfInBounds_toArray, List.set_cons_succ, List.set_cons_zero]
        obtain ⟨a, rfl, hcA⟩ := hSl.cell hA.1
        obtain ⟨a', ha', hcB⟩ := hSl.cell hB.1
        obtain rfl : a = a' := Option.some.inj ha'
        clear ha'
        have hle := og_le (l := ln z) (n := n) (i := k) (j := k + 1) (by omega) (by rw [Hm1.out]; omega)
        have Hpa : Hid (pl (ln z) n (k + 1) (og (ln z) n k) = word (ln z) n (og (ln z) n k)) := hide (pl_at (by omega) (by rw [Hm1.out]; omega))
        have Hnx : Hid ((word (ln z) n (og (ln z) n k) + 1) * 2 ^ (ln z (og (ln z) n (k + 1)) - ln z (og (ln z) n k)) = word (ln z) n (og (ln z) n (k + 1))) := hide (og_next (ln_le z) (by rw [Hm1.out]; omega))
        have Hst := hide (pl_set (l := ln z) (n := n) (m := k + 1) (by rw [Hm1.out]; omega))
        have hwA := word_le hA.1 hA.2 (ln_le z _) hroom
        have hwB := word_le hB.1 hB.2 (ln_le z _) hroom
        have hlA := ln_le z (og (ln z) n k)
        have hlB := ln_le z (og (ln z) n (k + 1))
        go_upto_region 9 with (fail)
        refine Rg.pd [18] (fun _ => [(29, .slice (some ⟨n14, 0, none⟩) n n), (30, Nv .i64 (og (ln z) n (k + 1))), (31, .slice (some ⟨n14, 0, none⟩) n n), (32, Nv .i64 (og (ln z) n k)), (33, E n14 (og (ln z) n k)), (34, Nv .u32 (pl (ln z) n (k + 1) (og (ln z) n k))), (35, Nv .u32 (word (ln z) n (og (ln z) n k) + 1)), (36, .slice (some a) n c), (37, Nv .i64 (og (ln z) n (k + 1))), (38, .pointer (some (a.add (og (ln z) n (k + 1))))), (39, Nv .i64 (ln z (og (ln z) n (k + 1)))), (40, .slice (some a) n c), (41, Nv .i64 (og (ln z) n k)), (42, .pointer (some (a.add (og (ln z) n k)))), (43, Nv .i64 (ln z (og (ln z) n k))), (44, Nv .i64 (ln z (og (ln z) n (k + 1)) - ln z (og (ln z) n k))), (45, Nv .u32 (word (ln z) n (og (ln z) n (k + 1)))), (46, E n14 (og (ln z) n (k + 1)))]) (OI w (fun s ν => [[(n14, vals .u32 n (pl (ln z) n (k + 1)), 24), (b9, #[.slice (some a) n c], 25), (q, cI (m1 + 1 + dd) (m1 + 1) (og (ln z) n), 3)], [(n14, vals .u32 n (pl (ln z) n (k + 1 + 1)), 24), (b9, #[.slice (some a) n c], 25), (q, cI (m1 + 1 + dd) (m1 + 1) (og (ln z) n), 3)]].getD s [])) (fun _ => 0) hO.drew (Rg.ac nv (Rg.ac nv (Rg.ac nv (Rg.ac nv (Rg.ac (nx (fun _ => E n14 (og (ln z) n k)) (fun _ w => b_isq (n := n) (c := n) hA.1 Try.underlying23 sz_u32 w)) (Rg.ac (nc 0 0 0 (fun _ => og (ln z) n k) (fun _ => Nv .u32 (pl (ln z) n (k + 1) (og (ln z) n k))) B.agg_u32 (fun _ => vals_get _ _ _ _ hA.1) (at1 0 fun _ => by kernel_rfl)) (Rg.ac (nx (fun _ => Nv .u32 (word (ln z) n (og (ln z) n k) + 1)) (fun _ w => B.add_u32 (a := pl (ln z) n (k + 1) (og (ln z) n k)) (c := 1) (d := word (ln z) n (og (ln z) n k) + 1) (by rw [Hpa.out]) (by omega) w)) (Rg.ac nv (Rg.ac nv (Rg.ac (nx (fun _ => .pointer (some (a.add (og (ln z) n (k + 1))))) (fun _ w => b_ixs (n := n) (c := c) hB.1 Try.underlying25 sz_int w)) (Rg.ac (nca (Nv .i64 (ln z (og (ln z) n (k + 1)))) hcB agg_int) (Rg.ac nv (Rg.ac nv (Rg.ac (nx (fun _ => .pointer (some (a.add (og (ln z) n k)))) (fun _ w => b_ixs (n := n) (c := c) hA.1 Try.underlying25 sz_int w)) (Rg.ac (nca (Nv .i64 (ln z (og (ln z) n k))) hcA agg_int) (Rg.ac (nx (fun _ => Nv .i64 (ln z (og (ln z) n (k + 1)) - ln z (og (ln z) n k))) (fun _ w => B.sub_int (a := ln z (og (ln z) n (k + 1))) (c := ln z (og (ln z) n k)) (d := ln z (og (ln z) n (k + 1)) - ln z (og (ln z) n k)) (by omega) (by omega) w)) (Rg.ac (nx (fun _ => Nv .u32 (word (ln z) n (og (ln z) n (k + 1)))) (fun _ w => B.shl_u32_int (a := word (ln z) n (og (ln z) n k) + 1) (s := ln z (og (ln z) n (k + 1)) - ln z (og (ln z) n k)) (d := word (ln z) n (og (ln z) n (k + 1))) (by rw [Hnx.out]; exact Nat.mod_eq_of_lt (by omega)) (by omega) w)) (Rg.ac (nx (fun _ => E n14 (og (ln z) n (k + 1))) (fun _ w => b_isq (n := n) (c := n) hB.1 Try.underlying23 sz_u32 w)) (Rg.ac (sl 0 0 (fun _ => og (ln z) n (k + 1)) (fun _ => Nv .u32 (pl (ln z) n (k + 1) (og (ln z) n (k + 1)))) (fun _ => ((word (ln z) n (og (ln z) n (k + 1)) : Nat) : Int)) B.sz_u32 (fun _ => vals_get _ _ _ _ hB.1) (fun _ => Hst.out) (fun _ => fit_u32 _ _)) Rg.an))))))))))))))))))) ?_
        intro ν w4 hO
        replace hO : Own w w4 [(n14, vals .u32 n (pl (ln z) n (k + 1 + 1)), 24), (b9, #[.slice (some a) n c], 25), (q, cI (m1 + 1 + dd) (m1 + 1) (og (ln z) n), 3)] := hO
        simp only [Rg.putL, Act.put, List.setIfInBounds_toArray, List.set_cons_succ, List.set_cons_zero]
        clear ν
        have HO := hide hO
        clear hO
        go_upto_region 10 with (fail)
        refine wp_region_list (WL.out ?_)
        refine g_val (Nv .i64 (k + 1)) ?_ (B.add_int (a := k) (c := 1) (d := k + 1) rfl (by omega) w4)
        refine g_val (Nv .i64 (k + 1)) ?_
        refine g_nil ?_
        simp only [Act.put, List.setIfInBounds_toArray, List.set_cons_succ, List.set_cons_zero]
        go_wp2_with (fail)
        go_roundw
        case rel => exact ⟨k + 1, hz, rfl, HO.out⟩
        case measure => show m1 - ((k + 1 : Nat) : Int).toNat < m1 - ((k : Nat) : Int).toNat; omega
      · obtain rfl : k = m1 := by omega
        clear hk9
        go_upto_region 6 with (fail)
        refine wp_region_list (WL.out ?_)
        refine g_val (.bool false) ?_ (B.lss_int (a := k) (c := k) (b := false) (decide_eq_false hz) wr)
        refine g_nil ?_
        simp only [Act.put, List.setIfInBounds_toArray, List.set_cons_succ, List.set_cons_zero]
        rw [show vals .u32 n (pl (ln z) n (k + 1)) = vals .u32 n (wd (ln z) n) by rw [← Hm1.out]; exact pl_last] at hO
        have HO := hide hO
        clear hO
        go_upto_region 11 with (fail)
        refine wp_region_list (WL.out ?_)
        refine g_val (.slice (some ⟨n14, 0, none⟩) n n) ?_
        refine g_val (.slice (some ⟨n14, 0, none⟩) n n) ?_
        refine g_val (Nv .i64 0) ?_
        refine g_nil ?_
        simp only [Act.put, List.setIfInBounds_toArray, List.set_cons_succ, List.set_cons_zero]
        go_wp2_with (fail)
        go_ret2
        exact ⟨_, rfl, Or.inl ⟨Hok.out, n14, rfl, HO.out.take 1⟩⟩
  · have Hno := hide hok
    have Hfit : Hid (∀ w', Below w.heap.size w w' → Ret 36 #[.slice S n c] w' (.bool false)) := hide fun w' h => Fit_n hn hok w' (hS.low h)
    clear hok
    go_upto_region 1 with (fail)
    refine wp_region_list (WL.out ?_)
    refine g_val (.slice S n c) ?_
    refine g_call hO 36 #[.slice S n c] (.bool false) (Hfit.out w hO.low) ?_
    intro w1 hb10 hO
    refine g_val (.bool true) ?_
    refine g_nil ?_
    simp only [Act.put, List.setIfInBounds_toArray, List.set_cons_succ, List.set_cons_zero]
    go_upto_region 2 with (fail)
    refine wp_region_list (WL.out ?_)
    refine g_val (.slice none 0 0) ?_
    refine g_val (Nv .i64 130) ?_
    refine g_nil ?_
    simp only [Act.put, List.setIfInBounds_toArray, List.set_cons_succ, List.set_cons_zero]
    have HF := hide hO.low
    clear hO
    go_wp2_with (fail)
    go_ret2
    exact ⟨_, rfl, Or.inr ⟨Hno.out, rfl, HF.out⟩⟩
end Q
end Go.Proofs.Ytkljpidlfddgbaa

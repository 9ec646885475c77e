/- inUse, inOrder: symbols whose number is not 0, sorted by it. At most 1000 symbols; no other condition. -/
import Derived.Test.YtkljpidlfddgbaaSf
import Derived.Test.YtkljpidlfddgbaaCe
import Derived.Shelf.Abstract
namespace Go.Proofs.Ytkljpidlfddgbaa
set_option maxRecDepth 100000
open Go.RowKit Rg B

namespace B
theorem el_i : El 25 3 1 (.int .i64 0) := ⟨Try.underlying25, by kernel_rfl, by kernel_rfl, rfl, by decide, rfl, by simp [Value.cells]; rfl⟩
theorem run_boxS {ρ : Operand → Value} {o : Oper} (t : TypeId) {x : Operand} {S : Option Addr} {n c : Nat} (w : World) (ho : o.op = .box t x := by rfl) (hx : ρ x = .slice S n c := by kernel_rfl) : (execOp ρ o).run Try.prog w = .ok (.value (D w.heap.size)) (w.alloc (.cells #[.slice S n c] t)) := by
  unfold execOp
  simp only [ho, hx]
  kernel_rfl
theorem fit_bu (S : Option Addr) (n c : Nat) : Fit 23 #[.slice S n c] := ⟨fun _ => by kernel_rfl, by simp; rfl⟩
theorem fit_bi (S : Option Addr) (n c : Nat) : Fit 25 #[.slice S n c] := ⟨fun _ => by kernel_rfl, by simp; rfl⟩
end B
namespace Q
open H
theorem ky_app {L M : List Nat} {j : Nat} (h : j < L.length) : ky (fun x => x) (L ++ M) j = ky (fun x => x) L j := by
  rw [ky_at _ (by rw [List.length_append]; omega), ky_at _ h, List.getElem_append_left h]
theorem ky_end {L : List Nat} {x : Nat} : ky (fun x => x) (L ++ [x]) L.length = x := by
  rw [ky_at _ (by rw [List.length_append, List.length_singleton]; omega)]
  simp
/-- A list in a slice that a function owns. -/
abbrev Gl (u w : World) (R : List Row) (L : List Nat) (v : Value) : Prop := Gr u w R 3 1 (.int .i64 0) L.length (ni (ky (fun x => x) L)) v
theorem upl_lst (k : Nat → Nat) (n : Nat) : lst (ky (fun x => x) (upl k n)) (upl k n).length = upl k n := ky_lst _
set_option maxHeartbeats 8000000 in
theorem InUse_c {S : Option Addr} {n c : Nat} {k : Nat → Nat} (hn : n ≤ 1000) (w : World) (hS : Rc w S n (H.nw k)) :
    RetP 32 #[.slice S n c] w fun v w' => ∃ b, Gl w w' [(b, #[.slice S n c], 23)] (rsg k n) v := by
  go_enter Try.func32, Try.ntmps32
  have hO := Own.start w
  go_upto_region 0 with (fail)
  refine wp_region_list (WL.out ?_)
  refine g_new hO D #[.slice S n c] 23 (fit_bu _ _ _) (run_boxS 23 w) ?_
  intro n1 w1 _ hO
  replace hO : Own w w1 [(n1, #[.slice S n c], 23)] := hO
  refine g_val (.slice none 0 0) ?_
  refine g_nil ?_
  simp only [Act.put, List.setIfInBounds_toArray, List.set_cons_succ, List.set_cons_zero]
  go_upto_region 1 with (fail)
  refine wp_region_list (WL.out ?_)
  refine g_val (.slice none 0 0) ?_
  refine g_nil ?_
  simp only [Act.put, List.setIfInBounds_toArray, List.set_cons_succ, List.set_cons_zero]
  go_upto_region 2 with (fail)
  refine wp_region_list (WL.out ?_)
  refine g_lc hO 0 0 (.slice S n c) rfl (rfl) agg_su ?_
  refine g_val (Nv .i64 n) ?_
  refine g_val (Nv .i64 0) ?_
  refine g_nil ?_
  simp only [Act.put, List.setIfInBounds_toArray, List.set_cons_succ, List.set_cons_zero]
  have HO := hide hO
  clear hO
  go_wp2_with (fail)
  go_loopw [3, 8] (fun x3 x8 wr => ∃ i : Nat, i ≤ n ∧ x8 = .int .i64 (i : Int) ∧ Gl w wr [(n1, #[.slice S n c], 23)] (upl k i) x3) (fun _ x8 _ => n - (intOf x8).toNat)
  case atStart => exact ⟨0, Nat.zero_le _, rfl, .inl ⟨rfl, rfl, HO.out⟩⟩
  case round =>
    clear HO
    obtain ⟨i, hi9, rfl, hG⟩ := hrel
    obtain ⟨V, cc, rfl⟩ := R.gr_sl hG
    obtain ⟨l, hl⟩ : ∃ l, upl k i = l := ⟨_, rfl⟩
    rw [hl] at hG ⊢
    have Hl := hide hl
    clear hl
    have hlen : l.length ≤ i := Hl.out ▸ upl_len k i
    obtain ⟨m, hm⟩ : ∃ m, l.length = m := ⟨_, rfl⟩
    have Hm := hide hm
    rw [hm] at hlen
    have hG : Gr w wr [(n1, #[.slice S n c], 23)] 3 1 (.int .i64 0) m (ni (ky (fun x => x) l)) (.slice V m cc) := by rw [← hm]; exact hG
    rw [hm]
    clear hm
    by_cases hz : i < n
    · obtain ⟨a, rfl, hcell⟩ := hS.cell hz
      have hlow := hG.low
      go_upto_region 3 with (fail)
      refine wp_region_list (WL.out ?_)
      refine g_val (.bool true) ?_ (B.lss_int (a := i) (c := n) (b := true) (decide_eq_true hz) wr)
      refine g_nil ?_
      simp only [Act.put, List.setIfInBounds_toArray, List.set_cons_succ, List.set_cons_zero]
      go_upto_region 4 with (fail)
      refine wp_region_list (WL.out ?_)
      refine g_val (Nv .i64 i) ?_
      refine g_val (.pointer (some (a.add i))) ?_ (b_ixs (n := n) (c := c) hz Try.underlying23 sz_u32 wr)
      refine g_la (Nv .u32 (k i)) (hcell _ hlow) agg_u32 ?_
      refine g_val (Nv .i64 i) ?_
      refine g_val (Nv .u32 (k i)) ?_
      refine g_nil ?_
      simp only [Act.put, List.setIfInBounds_toArray, List.set_cons_succ, List.set_cons_zero]
      by_cases hk : k i = 0
      · have hu : upl k (i + 1) = l := by rw [upl, if_pos hk, Hl.out]
        have HG := hide hG
        clear hG
        go_upto_region 5 with (fail)
        refine wp_region_list (WL.out ?_)
        refine g_val (Nv .u32 (k i)) ?_
        refine g_val (.bool false) ?_ (B.neq_u32 (a := k i) (c := 0) (b := false) (decide_eq_false (fun h => h hk)) wr)
        refine g_nil ?_
        simp only [Act.put, List.setIfInBounds_toArray, List.set_cons_succ, List.set_cons_zero]
        go_upto_region 7 with (fail)
        refine wp_region_list (WL.out ?_)
        refine g_val (Nv .i64 (i + 1)) ?_ (B.add_int (a := i) (c := 1) (d := i + 1) rfl (by omega) wr)
        refine g_val (Nv .i64 (i + 1)) ?_
        refine g_nil ?_
        simp only [Act.put, List.setIfInBounds_toArray, List.set_cons_succ, List.set_cons_zero]
        go_wp2_with (fail)
        go_roundw
        case rel => exact ⟨i + 1, hz, rfl, by rw [hu]; exact Hm.out ▸ HG.out⟩
        case measure => show n - ((i + 1 : Nat) : Int).toNat < n - ((i : Nat) : Int).toNat; omega
      · have hu : upl k (i + 1) = l ++ [i] := by rw [upl, if_neg hk, Hl.out]
        go_upto_region 5 with (fail)
        refine wp_region_list (WL.out ?_)
        refine g_val (Nv .u32 (k i)) ?_
        refine g_val (.bool true) ?_ (B.neq_u32 (a := k i) (c := 0) (b := true) (decide_eq_true hk) wr)
        refine g_nil ?_
        simp only [Act.put, List.setIfInBounds_toArray, List.set_cons_succ, List.set_cons_zero]
        go_upto_region 6 with (fail)
        refine wp_region_list (WL.out ?_)
        refine g_val (.slice V m cc) ?_
        refine g_val (Nv .i64 i) ?_
        refine g_ap1 (.slice V m cc) el_i #[Nv .i64 i] hG (g := ni (ky (fun x => x) (l ++ [i]))) rfl (by omega) (fun i _ => rfl) (fun j hj => by unfold ni; rw [ky_app (by rw [Hm.out]; omega)]) (fun j hj => by obtain rfl : j = 0 := (by omega); unfold ni; rw [show m * 1 + 0 = l.length by rw [Hm.out]; omega, ky_end]; rfl) (by kernel_rfl) (fun q r dd w2 hO => ?_)
        refine g_val (.slice (some ⟨q, 0, none⟩) (m + 1) (m + 1 + dd)) ?_
        refine g_nil ?_
        simp only [Act.put, List.setIfInBounds_toArray, List.set_cons_succ, List.set_cons_zero]
        have HG : Hid (Gr w w2 [(n1, #[.slice (some a) n c], 23)] 3 1 (.int .i64 0) (m + 1) (ni (ky (fun x => x) (l ++ [i]))) (.slice (some ⟨q, 0, none⟩) (m + 1) (m + 1 + dd))) := hide (.inr ⟨q, dd, rfl, hO⟩)
        clear hO hG
        go_upto_region 7 with (fail)
        refine wp_region_list (WL.out ?_)
        refine g_val (Nv .i64 (i + 1)) ?_ (B.add_int (a := i) (c := 1) (d := i + 1) rfl (by omega) w2)
        refine g_val (Nv .i64 (i + 1)) ?_
        refine g_nil ?_
        simp only [Act.put, List.setIfInBounds_toArray, List.set_cons_succ, List.set_cons_zero]
        go_wp2_with (fail)
        go_roundw
        case rel => exact ⟨i + 1, hz, rfl, (by rw [hu]; unfold Gl; rw [show (l ++ [i]).length = m + 1 by rw [List.length_append, List.length_singleton, Hm.out]]; exact HG.out)⟩
        case measure => show n - ((i + 1 : Nat) : Int).toNat < n - ((i : Nat) : Int).toNat; omega
    · obtain rfl : i = n := by omega
      go_upto_region 3 with (fail)
      refine wp_region_list (WL.out ?_)
      refine g_val (.bool false) ?_ (B.lss_int (a := i) (c := i) (b := false) (decide_eq_false hz) wr)
      refine g_nil ?_
      simp only [Act.put, List.setIfInBounds_toArray, List.set_cons_succ, List.set_cons_zero]
      have hup := upl_up k i
      rw [Hl.out] at hup
      have hlt : ∀ x ∈ l, x < i := Hl.out ▸ upl_lt k i
      have hrs : Hid (rsg k i = srt k l) := hide (by unfold rsg; rw [Hl.out])
      rcases hG with ⟨hm0, hV, hO⟩ | ⟨q, dd, hV, hO⟩
      · obtain ⟨rfl, rfl, rfl⟩ : V = none ∧ m = 0 ∧ cc = 0 := by injection hV with h1 h2 h3; exact ⟨h1, h2, h3⟩
        have hl0 : Hid (l = []) := hide (List.length_eq_zero_iff.1 Hm.out)
        go_upto_region 8 with (fail)
        refine wp_region_list (WL.out ?_)
        refine g_val (.slice none 0 0) ?_
        refine g_val (.func (.func 45) #[] #[D n1]) ?_
        refine g_call hO 44 #[.slice none 0 0, .func (.func 45) #[] #[D n1]] (.tuple #[]) (SortN_c _ wr) ?_
        intro w2 hb22 hO
        refine g_nil ?_
        simp only [Act.put, List.setIfInBounds_toArray, List.set_cons_succ, List.set_cons_zero]
        have HO := hide hO
        clear hO
        go_upto_region 9 with (fail)
        refine wp_region_list (WL.out ?_)
        refine g_val (.slice none 0 0) ?_
        refine g_val (.slice none 0 0) ?_
        refine g_nil ?_
        simp only [Act.put, List.setIfInBounds_toArray, List.set_cons_succ, List.set_cons_zero]
        go_wp2_with (fail)
        go_ret
        refine ⟨_, rfl, n1, ?_⟩
        rw [hrs.out, hl0.out]
        exact .inl ⟨rfl, rfl, HO.out⟩
      · obtain ⟨rfl, rfl⟩ : V = some ⟨q, 0, none⟩ ∧ cc = m + dd := by injection hV with h1 h2 h3; exact ⟨h1, h3⟩
        clear hV
        have hO : Own w wr ((q, cI (m + dd) m (ky (fun x => x) l), 3) :: [(n1, #[.slice S i c], 23)]) := by
          have h := hO.perm (List.perm_append_comm (l₂ := [(q, cl (zc 1 (.int .i64 0)) ((m + dd) * 1) (m * 1) (ni (ky (fun x => x) l)), 3)]))
          rw [Nat.mul_one, Nat.mul_one] at h
          exact h
        have hcmp : CmpOK 45 #[D n1] k i (m + dd) m q w [(n1, #[.slice S i c], 23)] := fun f w' hO x y hx hy => CloU_c hx hy w' (hO.row 1 rfl) (hS.low hO.low)
        have eg : ∀ args w, (callFunc 45 args).run Try.prog w = .ok (.enter 45 args) w := enters_of Try.func45 (by kernel_rfl) rfl
        have hlst : lst (ky (fun x => x) l) m = l := by rw [← Hm.out]; exact ky_lst l
        have hK : ∀ j, j < m → ky (fun x => x) l j < i := fun j hj => by have h9 := Hm.out; rw [ky_at _ (by omega)]; exact hlt _ (List.getElem_mem _)
        have hup2 : (lst (ky (fun x => x) l) m).Pairwise (· < ·) := by rw [hlst]; exact hup
        go_upto_region 8 with (fail)
        refine wp_region_list (WL.out ?_)
        refine g_val (.slice (some ⟨q, 0, none⟩) m (m + dd)) ?_
        refine g_val (.func (.func 45) #[] #[D n1]) ?_
        refine g_any 44 #[.slice (some ⟨q, 0, none⟩) m (m + dd), .func (.func 45) #[] #[D n1]] (SortS_c (K := i) (k := k) (N := m + dd) (n := m) (c := m + dd) eg (by omega) (by omega) q (ky (fun x => x) l) hK (sb_up hup2) w [(n1, #[.slice S i c], 23)] hcmp wr hO) ?_
        rintro _ w2 ⟨rfl, f2, hmg, hO⟩
        replace hO : Own w w2 [(q, cI (m + dd) m f2, 3), (n1, #[.slice S i c], 23)] := hO
        refine g_nil ?_
        simp only [Act.put, List.setIfInBounds_toArray, List.set_cons_succ, List.set_cons_zero]
        have HO := hide hO
        clear hO
        go_upto_region 9 with (fail)
        refine wp_region_list (WL.out ?_)
        refine g_val (.slice (some ⟨q, 0, none⟩) m (m + dd)) ?_
        refine g_val (.slice (some ⟨q, 0, none⟩) m (m + dd)) ?_
        refine g_nil ?_
        simp only [Act.put, List.setIfInBounds_toArray, List.set_cons_succ, List.set_cons_zero]
        have hs2 : Hid (srt k l = lst f2 m) := hide (by have h := lst_srt hmg.1 hmg.2.1 hmg.2.2 hup2; rw [hlst] at h; exact h.symm)
        go_wp2_with (fail)
        go_ret
        refine ⟨_, rfl, n1, .inr ⟨q, dd, ?_, ?_⟩⟩
        · rw [hrs.out, hs2.out, lst_len]; rfl
        · rw [hrs.out, hs2.out, lst_len, Nat.mul_one, Nat.mul_one, show cl (zc 1 (.int .i64 0)) (m + dd) m (ni (ky (fun x => x) (lst f2 m))) = cI (m + dd) m f2 from cl_congr fun j hj => by unfold ni; rw [lst_ky f2 hj]]
          exact HO.out.perm (List.perm_append_comm (l₁ := [(q, cI (m + dd) m f2, 3)]))
set_option maxHeartbeats 8000000 in
theorem InOrd_c {S : Option Addr} {n c : Nat} {k : Nat → Nat} (hn : n ≤ 1000) (w : World) (hS : Rc w S n (H.ni k)) :
    RetP 37 #[.slice S n c] w fun v w' => ∃ b, Gl w w' [(b, #[.slice S n c], 25)] (rsg k n) v := by
  go_enter Try.func37, Try.ntmps37
  have hO := Own.start w
  go_upto_region 0 with (fail)
  refine wp_region_list (WL.out ?_)
  refine g_new hO D #[.slice S n c] 25 (fit_bi _ _ _) (run_boxS 25 w) ?_
  intro n1 w1 _ hO
  replace hO : Own w w1 [(n1, #[.slice S n c], 25)] := hO
  refine g_val (.slice none 0 0) ?_
  refine g_nil ?_
  simp only [Act.put, List.setIfInBounds_toArray, List.set_cons_succ, List.set_cons_zero]
  go_upto_region 1 with (fail)
  refine wp_region_list (WL.out ?_)
  refine g_val (.slice none 0 0) ?_
  refine g_nil ?_
  simp only [Act.put, List.setIfInBounds_toArray, List.set_cons_succ, List.set_cons_zero]
  go_upto_region 2 with (fail)
  refine wp_region_list (WL.out ?_)
  refine g_lc hO 0 0 (.slice S n c) rfl (rfl) agg_si ?_
  refine g_val (Nv .i64 n) ?_
  refine g_val (Nv .i64 0) ?_
  refine g_nil ?_
  simp only [Act.put, List.setIfInBounds_toArray, List.set_cons_succ, List.set_cons_zero]
  have HO := hide hO
  clear hO
  go_wp2_with (fail)
  go_loopw [3, 8] (fun x3 x8 wr => ∃ i : Nat, i ≤ n ∧ x8 = .int .i64 (i : Int) ∧ Gl w wr [(n1, #[.slice S n c], 25)] (upl k i) x3) (fun _ x8 _ => n - (intOf x8).toNat)
  case atStart => exact ⟨0, Nat.zero_le _, rfl, .inl ⟨rfl, rfl, HO.out⟩⟩
  case round =>
    clear HO
    obtain ⟨i, hi9, rfl, hG⟩ := hrel
    obtain ⟨V, cc, rfl⟩ := R.gr_sl hG
    obtain ⟨l, hl⟩ : ∃ l, upl k i = l := ⟨_, rfl⟩
    rw [hl] at hG ⊢
    have Hl := hide hl
    clear hl
    have hlen : l.length ≤ i := Hl.out ▸ upl_len k i
    obtain ⟨m, hm⟩ : ∃ m, l.length = m := ⟨_, rfl⟩
    have Hm := hide hm
    rw [hm] at hlen
    have hG : Gr w wr [(n1, #[.slice S n c], 25)] 3 1 (.int .i64 0) m (ni (ky (fun x => x) l)) (.slice V m cc) := by rw [← hm]; exact hG
    rw [hm]
    clear hm
    by_cases hz : i < n
    · obtain ⟨a, rfl, hcell⟩ := hS.cell hz
      have hlow := hG.low
      go_upto_region 3 with (fail)
      refine wp_region_list (WL.out ?_)
      refine g_val (.bool true) ?_ (B.lss_int (a := i) (c := n) (b := true) (decide_eq_true hz) wr)
      refine g_nil ?_
      simp only [Act.put, List.setIfInBounds_toArray, List.set_cons_succ, List.set_cons_zero]
      go_upto_region 4 with (fail)
      refine wp_region_list (WL.out ?_)
      refine g_val (Nv .i64 i) ?_
      refine g_val (.pointer (some (a.add i))) ?_ (b_ixs (n := n) (c := c) hz Try.underlying25 sz_int wr)
      refine g_la (Nv .i64 (k i)) (hcell _ hlow) agg_int ?_
      refine g_val (Nv .i64 i) ?_
      refine g_val (Nv .i64 (k i)) ?_
      refine g_nil ?_
      simp only [Act.put, List.setIfInBounds_toArray, List.set_cons_succ, List.set_cons_zero]
      by_cases hk : k i = 0
      · have hu : upl k (i + 1) = l := by rw [upl, if_pos hk, Hl.out]
        have HG := hide hG
        clear hG
        go_upto_region 5 with (fail)
        refine wp_region_list (WL.out ?_)
        refine g_val (Nv .i64 (k i)) ?_
        refine g_val (.bool false) ?_ (B.gtr_int (a := k i) (c := 0) (b := false) (decide_eq_false (by omega)) wr)
        refine g_nil ?_
        simp only [Act.put, List.setIfInBounds_toArray, List.set_cons_succ, List.set_cons_zero]
        go_upto_region 7 with (fail)
        refine wp_region_list (WL.out ?_)
        refine g_val (Nv .i64 (i + 1)) ?_ (B.add_int (a := i) (c := 1) (d := i + 1) rfl (by omega) wr)
        refine g_val (Nv .i64 (i + 1)) ?_
        refine g_nil ?_
        simp only [Act.put, List.setIfInBounds_toArray, List.set_cons_succ, List.set_cons_zero]
        go_wp2_with (fail)
        go_roundw
        case rel => exact ⟨i + 1, hz, rfl, by rw [hu]; exact Hm.out ▸ HG.out⟩
        case measure => show n - ((i + 1 : Nat) : Int).toNat < n - ((i : Nat) : Int).toNat; omega
      · have hu : upl k (i + 1) = l ++ [i] := by rw [upl, if_neg hk, Hl.out]
        go_upto_region 5 with (fail)
        refine wp_region_list (WL.out ?_)
        refine g_val (Nv .i64 (k i)) ?_
        refine g_val (.bool true) ?_ (B.gtr_int (a := k i) (c := 0) (b := true) (decide_eq_true (by omega)) wr)
        refine g_nil ?_
        simp only [Act.put, List.setIfInBounds_toArray, List.set_cons_succ, List.set_cons_zero]
        go_upto_region 6 with (fail)
        refine wp_region_list (WL.out ?_)
        refine g_val (.slice V m cc) ?_
        refine g_val (Nv .i64 i) ?_
        refine g_ap1 (.slice V m cc) el_i #[Nv .i64 i] hG (g := ni (ky (fun x => x) (l ++ [i]))) rfl (by omega) (fun i _ => rfl) (fun j hj => by unfold ni; rw [ky_app (by rw [Hm.out]; omega)]) (fun j hj => by obtain rfl : j = 0 := (by omega); unfold ni; rw [show m * 1 + 0 = l.length by rw [Hm.out]; omega, ky_end]; rfl) (by kernel_rfl) (fun q r dd w2 hO => ?_)
        refine g_val (.slice (some ⟨q, 0, none⟩) (m + 1) (m + 1 + dd)) ?_
        refine g_nil ?_
        simp only [Act.put, List.setIfInBounds_toArray, List.set_cons_succ, List.set_cons_zero]
        have HG : Hid (Gr w w2 [(n1, #[.slice (some a) n c], 25)] 3 1 (.int .i64 0) (m + 1) (ni (ky (fun x => x) (l ++ [i]))) (.slice (some ⟨q, 0, none⟩) (m + 1) (m + 1 + dd))) := hide (.inr ⟨q, dd, rfl, hO⟩)
        clear hO hG
        go_upto_region 7 with (fail)
        refine wp_region_list (WL.out ?_)
        refine g_val (Nv .i64 (i + 1)) ?_ (B.add_int (a := i) (c := 1) (d := i + 1) rfl (by omega) w2)
        refine g_val (Nv .i64 (i + 1)) ?_
        refine g_nil ?_
        simp only [Act.put, List.setIfInBounds_toArray, List.set_cons_succ, List.set_cons_zero]
        go_wp2_with (fail)
        go_roundw
        case rel => exact ⟨i + 1, hz, rfl, (by rw [hu]; unfold Gl; rw [show (l ++ [i]).length = m + 1 by rw [List.length_append, List.length_singleton, Hm.out]]; exact HG.out)⟩
        case measure => show n - ((i + 1 : Nat) : Int).toNat < n - ((i : Nat) : Int).toNat; omega
    · obtain rfl : i = n := by omega
      go_upto_region 3 with (fail)
      refine wp_region_list (WL.out ?_)
      refine g_val (.bool false) ?_ (B.lss_int (a := i) (c := i) (b := false) (decide_eq_false hz) wr)
      refine g_nil ?_
      simp only [Act.put, List.setIfInBounds_toArray, List.set_cons_succ, List.set_cons_zero]
      have hup := upl_up k i
      rw [Hl.out] at hup
      have hlt : ∀ x ∈ l, x < i := Hl.out ▸ upl_lt k i
      have hrs : Hid (rsg k i = srt k l) := hide (by unfold rsg; rw [Hl.out])
      rcases hG with ⟨hm0, hV, hO⟩ | ⟨q, dd, hV, hO⟩
      · obtain ⟨rfl, rfl, rfl⟩ : V = none ∧ m = 0 ∧ cc = 0 := by injection hV with h1 h2 h3; exact ⟨h1, h2, h3⟩
        have hl0 : Hid (l = []) := hide (List.length_eq_zero_iff.1 Hm.out)
        go_upto_region 8 with (fail)
        refine wp_region_list (WL.out ?_)
        refine g_val (.slice none 0 0) ?_
        refine g_val (.func (.func 51) #[] #[D n1]) ?_
        refine g_call hO 44 #[.slice none 0 0, .func (.func 51) #[] #[D n1]] (.tuple #[]) (SortN_c _ wr) ?_
        intro w2 hb22 hO
        refine g_nil ?_
        simp only [Act.put, List.setIfInBounds_toArray, List.set_cons_succ, List.set_cons_zero]
        have HO := hide hO
        clear hO
        go_upto_region 9 with (fail)
        refine wp_region_list (WL.out ?_)
        refine g_val (.slice none 0 0) ?_
        refine g_val (.slice none 0 0) ?_
        refine g_nil ?_
        simp only [Act.put, List.setIfInBounds_toArray, List.set_cons_succ, List.set_cons_zero]
        go_wp2_with (fail)
        go_ret
        refine ⟨_, rfl, n1, ?_⟩
        rw [hrs.out, hl0.out]
        exact .inl ⟨rfl, rfl, HO.out⟩
      · obtain ⟨rfl, rfl⟩ : V = some ⟨q, 0, none⟩ ∧ cc = m + dd := by injection hV with h1 h2 h3; exact ⟨h1, h3⟩
        clear hV
        have hO : Own w wr ((q, cI (m + dd) m (ky (fun x => x) l), 3) :: [(n1, #[.slice S i c], 25)]) := by
          have h := hO.perm (List.perm_append_comm (l₂ := [(q, cl (zc 1 (.int .i64 0)) ((m + dd) * 1) (m * 1) (ni (ky (fun x => x) l)), 3)]))
          rw [Nat.mul_one, Nat.mul_one] at h
          exact h
        have hcmp : CmpOK 51 #[D n1] k i (m + dd) m q w [(n1, #[.slice S i c], 25)] := fun f w' hO x y hx hy => CloL_c hx hy w' (hO.row 1 rfl) (hS.low hO.low)
        have eg : ∀ args w, (callFunc 51 args).run Try.prog w = .ok (.enter 51 args) w := enters_of Try.func51 (by kernel_rfl) rfl
        have hlst : lst (ky (fun x => x) l) m = l := by rw [← Hm.out]; exact ky_lst l
        have hK : ∀ j, j < m → ky (fun x => x) l j < i := fun j hj => by have h9 := Hm.out; rw [ky_at _ (by omega)]; exact hlt _ (List.getElem_mem _)
        have hup2 : (lst (ky (fun x => x) l) m).Pairwise (· < ·) := by rw [hlst]; exact hup
        go_upto_region 8 with (fail)
        refine wp_region_list (WL.out ?_)
        refine g_val (.slice (some ⟨q, 0, none⟩) m (m + dd)) ?_
        refine g_val (.func (.func 51) #[] #[D n1]) ?_
        refine g_any 44 #[.slice (some ⟨q, 0, none⟩) m (m + dd), .func (.func 51) #[] #[D n1]] (SortS_c (K := i) (k := k) (N := m + dd) (n := m) (c := m + dd) eg (by omega) (by omega) q (ky (fun x => x) l) hK (sb_up hup2) w [(n1, #[.slice S i c], 25)] hcmp wr hO) ?_
        rintro _ w2 ⟨rfl, f2, hmg, hO⟩
        replace hO : Own w w2 [(q, cI (m + dd) m f2, 3), (n1, #[.slice S i c], 25)] := hO
        refine g_nil ?_
        simp only [Act.put, List.setIfInBounds_toArray, List.set_cons_succ, List.set_cons_zero]
        have HO := hide hO
        clear hO
        go_upto_region 9 with (fail)
        refine wp_region_list (WL.out ?_)
        refine g_val (.slice (some ⟨q, 0, none⟩) m (m + dd)) ?_
        refine g_val (.slice (some ⟨q, 0, none⟩) m (m + dd)) ?_
        refine g_nil ?_
        simp only [Act.put, List.setIfInBounds_toArray, List.set_cons_succ, List.set_cons_zero]
        have hs2 : Hid (srt k l = lst f2 m) := hide (by have h := lst_srt hmg.1 hmg.2.1 hmg.2.2 hup2; rw [hlst] at h; exact h.symm)
        go_wp2_with (fail)
        go_ret
        refine ⟨_, rfl, n1, .inr ⟨q, dd, ?_, ?_⟩⟩
        · rw [hrs.out, hs2.out, lst_len]; rfl
        · rw [hrs.out, hs2.out, lst_len, Nat.mul_one, Nat.mul_one, show cl (zc 1 (.int .i64 0)) (m + dd) m (ni (ky (fun x => x) (lst f2 m))) = cI (m + dd) m f2 from cl_congr fun j hj => by unfold ni; rw [lst_ky f2 hj]]
          exact HO.out.perm (List.perm_append_comm (l₁ := [(q, cI (m + dd) m f2, 3)]))
end Q
end Go.Proofs.Ytkljpidlfddgbaa

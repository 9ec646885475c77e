/- The reference of stage 13: Least. At most sixty counts; no other condition. -/
import Derived.Test.YtkljpidlfddgbaaRh
import Derived.Test.YtkljpidlfddgbaaRc
namespace Go.Proofs.Ytkljpidlfddgbaa
set_option maxRecDepth 100000
open Go.RowKit Rg B

namespace H
theorem gr_sl {u w : World} {L : List Row} {e : TypeId} {s n : Nat} {zv : Value} {f : Nat → Value} {v : Value} (h : Gr u w L e s zv n f v) : ∃ S c, v = .slice S n c := by
  rcases h with ⟨rfl, hv, _⟩ | ⟨g, d, hv, _⟩
  · exact ⟨_, _, hv⟩
  · exact ⟨_, _, hv⟩
theorem gr_own2 {u w : World} {r q : Row} {M : List Row} {e : TypeId} {s n : Nat} {zv : Value} {f : Nat → Value} {v : Value} (h : Gr u w (r :: q :: M) e s zv n f v) : ∃ R, Own u w (r :: q :: R) ∧ ∀ w' r', Own u w' (r' :: q :: R) → Gr u w' (r' :: q :: M) e s zv n f v := by
  rcases h with ⟨h0, hv, hO⟩ | ⟨g, d, hv, hO⟩
  · exact ⟨M, hO, fun w' r' h => .inl ⟨h0, hv, h⟩⟩
  · exact ⟨M ++ [(g, cl (zc s zv) ((n + d) * s) (n * s) f, e)], hO, fun w' r' h => .inr ⟨g, d, hv, h⟩⟩
set_option maxHeartbeats 16000000 in
theorem Least_c {S : Option Addr} {n c L : Nat} {cn : Nat → Nat} (hn : n ≤ 60) (hL1 : 1 ≤ L) (hL : L ≤ 15) (hcn : ∀ i, cn i < 4294967296) (w : World) (hS : Rc w S n (nw cn)) :
    RetP 17 #[.slice S n c, Nv .i64 L] w fun x w' => Below w.heap.size w w' ∧ ∃ s : List Nat, Up (fun x => x) s ∧ s.Perm (nz cn n) ∧ x = Nv .u64 (wLeast s L) := by
  go_enter Try.func17, Try.ntmps17
  go_upto_region 0 with (fail)
  refine wp_region_list (WL.out ?_)
  refine g_val (Nv .u64 0) ?_
  refine g_nil ?_
  simp only [Act.put, List.setIfInBounds_toArray, List.set_cons_succ, List.set_cons_zero]
  go_upto_region 1 with (fail)
  refine wp_region_list (WL.out ?_)
  refine g_val (.slice none 0 0) ?_
  refine g_nil ?_
  simp only [Act.put, List.setIfInBounds_toArray, List.set_cons_succ, List.set_cons_zero]
  go_upto_region 2 with (fail)
  refine wp_region_list (WL.out ?_)
  refine g_val (Nv .i64 0) ?_
  refine g_nil ?_
  simp only [Act.put, List.setIfInBounds_toArray, List.set_cons_succ, List.set_cons_zero]
  go_wp2_with (fail)
  go_loopw [5, 6] (fun x5 x6 wr => ∃ (k m c1 : Nat) (S1 : Option Addr) (l : List (Nat × Value)), k ≤ n ∧ x5 = .slice S1 m c1 ∧ x6 = .int .i64 (k : Int) ∧ m = l.length ∧ m ≤ c1 ∧ m ≤ k ∧ Up (·.1) l ∧ (l.map (·.1)).Perm (nz cn k) ∧ (∀ p ∈ l, p.1 < 2 ^ 32) ∧ HV wr n l ∧ Rc wr S1 (m * 2) (pf l) ∧ Below w.heap.size w wr) (fun _ x6 _ => n - (intOf x6).toNat)
  case atStart => exact ⟨0, 0, 0, none, [], Nat.zero_le _, rfl, rfl, rfl, Nat.le_refl _, Nat.le_refl _, List.Pairwise.nil, List.Perm.refl _, (fun p hp => nomatch hp), (fun p hp => nomatch hp), .inl rfl, Below.refl _ _⟩
  case round =>
    obtain ⟨k, m, c1, S1, l, hkn, rfl, rfl, hm, hmc, hmk, hup, hperm, hl32, hHV, hR, hlow⟩ := hrel
    have Hup := hide hup
    have Hperm := hide hperm
    have Hl32 := hide hl32
    clear hup hperm hl32
    by_cases hz : k < n
    · obtain ⟨a, rfl, hca0⟩ := hS.cell hz
      have hca : ∀ w', Below w.heap.size w w' → w'.cell? (a.add k) = some (Nv .u32 (cn k)) := hca0
      clear hca0
      have hck := hcn k
      go_upto_region 3 with (fail)
      refine wp_region_list (WL.out ?_)
      refine g_val (Nv .i64 k) ?_
      refine g_val (.slice (some a) n c) ?_
      refine g_val (Nv .i64 n) ?_
      refine g_val (.bool true) ?_ (B.lss_int (a := k) (c := n) (b := true) (decide_eq_true hz) wr)
      refine g_nil ?_
      simp only [Act.put, List.setIfInBounds_toArray, List.set_cons_succ, List.set_cons_zero]
      by_cases h0 : cn k = 0
      · have hnz : nz cn (k + 1) = nz cn k := by rw [nz, if_pos h0]
        go_upto_region 5 with (fail)
        refine wp_region_list (WL.out ?_)
        refine g_val (.slice (some a) n c) ?_
        refine g_val (Nv .i64 k) ?_
        refine g_val (.pointer (some (a.add k))) ?_ (b_ixs (n := n) (c := c) hz Try.underlying23 sz_u32 wr)
        refine g_la (Nv .u32 (cn k)) (hca _ hlow) agg_u32 ?_
        refine g_val (.bool true) ?_ (B.eql_u32 (a := cn k) (c := 0) (b := true) (decide_eq_true h0) wr)
        refine g_nil ?_
        simp only [Act.put, List.setIfInBounds_toArray, List.set_cons_succ, List.set_cons_zero]
        go_upto_region 4 with (fail)
        refine wp_region_list (WL.out ?_)
        refine g_val (Nv .i64 k) ?_
        refine g_val (Nv .i64 (k + 1)) ?_ (B.add_int (a := k) (c := 1) (d := k + 1) rfl (by omega) wr)
        refine g_val (Nv .i64 (k + 1)) ?_
        refine g_nil ?_
        simp only [Act.put, List.setIfInBounds_toArray, List.set_cons_succ, List.set_cons_zero]
        go_wp2_with (fail)
        go_roundw
        case rel => exact ⟨k + 1, m, c1, S1, l, hz, rfl, rfl, hm, hmc, by omega, Hup.out, by rw [hnz]; exact Hperm.out, Hl32.out, hHV, hR, hlow⟩
        case measure => show n - ((k + 1 : Nat) : Int).toNat < n - ((k : Nat) : Int).toNat; omega
      · have hnz : nz cn (k + 1) = cn k :: nz cn k := by rw [nz, if_neg h0]
        go_upto_region 5 with (fail)
        refine wp_region_list (WL.out ?_)
        refine g_val (.slice (some a) n c) ?_
        refine g_val (Nv .i64 k) ?_
        refine g_val (.pointer (some (a.add k))) ?_ (b_ixs (n := n) (c := c) hz Try.underlying23 sz_u32 wr)
        refine g_la (Nv .u32 (cn k)) (hca _ hlow) agg_u32 ?_
        refine g_val (.bool false) ?_ (B.eql_u32 (a := cn k) (c := 0) (b := false) (decide_eq_false h0) wr)
        refine g_nil ?_
        simp only [Act.put, List.setIfInBounds_toArray, List.set_cons_succ, List.set_cons_zero]
        have hO := Own.start wr
        go_upto_region 6 with (fail)
        refine Rf.pf (fun ν => [(28, .slice (some a) n c), (29, Nv .i64 k), (30, .pointer (some (a.add k))), (31, Nv .u32 (cn k)), (32, Nv .u64 (cn k)), (33, .slice (some a) n c), (34, Nv .i64 n), (35, .slice (some ⟨(ν 7), 0, none⟩) n n), (36, A (pcl (cn k) (ν 7) n)), (7, D (ν 9))]) (Rf.OD wr (fun D ν => ((bif D 7 then [((ν 7), ints n (fun _ => 0), 3)] else [] : List Row) ++ (bif D 9 then [((ν 9), (bif D 10 then pcl (cn k) (ν 7) n else pcz), 82)] else [] : List Row)))) (fun _ => 0) hO.drew (Rg.ac Rf.fv (Rg.ac Rf.fv (Rg.ac (Rf.fx (fun ν => .pointer (some (a.add k))) (fun ν w => b_ixs (n := n) (c := c) hz Try.underlying23 sz_u32 w)) (Rg.ac (Rf.fca (Nv .u32 (cn k)) (fun w' h => hca w' (hlow.trans (h.mono hlow.size))) B.agg_u32) (Rg.ac (Rf.fx (fun ν => Nv .u64 (cn k)) (fun ν w => B.c_u32_u64 (a := cn k) (d := cn k) rfl (by omega) w)) (Rg.ac Rf.fv (Rg.ac Rf.fv (Rg.ac (Rf.fnw (fun ν q => .slice (some ⟨q, 0, none⟩) n n) (fun ν => ints n (fun _ => 0)) 3 (fun ν w => b_mkI (by omega) w) (fun ν => fit_ints _ _) (fun D ν nw my => by have f7 := my.not; have f10 := my.nf (k := 10) f7 (by kernel_rfl); have e : ∀ b7 b9 b10 : Bool, b7 = false → b10 = false → ((((bif b7 then [((ν 7), ints n (fun _ => 0), 3)] else [] : List Row) ++ (bif b9 then [((ν 9), (bif b10 then pcl (cn k) (ν 7) n else pcz), 82)] else [] : List Row)) : List Row) ++ ([(nw, ints n (fun _ => 0), 3)] : List Row)).Perm (((bif true then [(nw, ints n (fun _ => 0), 3)] else [] : List Row) ++ (bif b9 then [((ν 9), (bif b10 then pcl (cn k) nw n else pcz), 82)] else [] : List Row))) := (by intro b7 b9 b10; intros; subst_vars; cases b9 <;> (first | exact List.Perm.refl _ | exact List.Perm.swap _ _ _)); exact e _ _ _ f7 f10)) (Rg.ac (Rf.fx (fun ν => A (pcl (cn k) (ν 7) n)) (fun ν w => run_bd 82 _ rfl [(0, Nv .u64 (cn k)), (1, .slice (some ⟨ν 7, 0, none⟩) n n)] (by kernel_rfl) _ (pcl_built _ _ _) w)) (Rg.ac (Rf.fal (fun ν => pcz) 82 (fun ν w => al_pile w) (fun ν => pcz_fit) (fun D ν nw my => by have f9 := my.not; have f10 := my.nf (k := 10) f9 (by kernel_rfl); have e : ∀ b7 b9 b10 : Bool, b9 = false → b10 = false → ((((bif b7 then [((ν 7), ints n (fun _ => 0), 3)] else [] : List Row) ++ (bif b9 then [((ν 9), (bif b10 then pcl (cn k) (ν 7) n else pcz), 82)] else [] : List Row)) : List Row) ++ ([(nw, pcz, 82)] : List Row)).Perm (((bif b7 then [((ν 7), ints n (fun _ => 0), 3)] else [] : List Row) ++ (bif true then [(nw, (bif b10 then pcl (cn k) (ν 7) n else pcz), 82)] else [] : List Row))) := (by intro b7 b9 b10; intros; subst_vars; cases b7 <;> (exact List.Perm.refl _)); exact e _ _ _ f9 f10)) (Rg.ac (Rf.fst2 1 (fun ν => (ν 9)) (fun ν => pcz) (fun ν => pcl (cn k) (ν 7) n) (fun ν => ⟨pcl_fit _ _ _, pcl_info _ _ _, rfl⟩) (fun D ν my => by have f10 := my.not; have f7 := my.pre 7 (by kernel_rfl); have f9 := my.pre 9 (by kernel_rfl); have e : ∀ b7 b9 b10 : Bool, b7 = true → b9 = true → b10 = false → (((bif b7 then [((ν 7), ints n (fun _ => 0), 3)] else [] : List Row) ++ (bif b9 then [((ν 9), (bif b10 then pcl (cn k) (ν 7) n else pcz), 82)] else [] : List Row)) : List Row)[1]? = some ((ν 9), pcz, 82) := (by intros; subst_vars; rfl); exact e _ _ _ f7 f9 f10) (fun D ν my => by have f10 := my.not; have f7 := my.pre 7 (by kernel_rfl); have f9 := my.pre 9 (by kernel_rfl); have e : ∀ b7 b9 b10 : Bool, b7 = true → b9 = true → b10 = false → (((bif b7 then [((ν 7), ints n (fun _ => 0), 3)] else [] : List Row) ++ (bif b9 then [((ν 9), (bif true then pcl (cn k) (ν 7) n else pcz), 82)] else [] : List Row)) : List Row) = (((bif b7 then [((ν 7), ints n (fun _ => 0), 3)] else [] : List Row) ++ (bif b9 then [((ν 9), (bif b10 then pcl (cn k) (ν 7) n else pcz), 82)] else [] : List Row)) : List Row).set 1 ((ν 9), pcl (cn k) (ν 7) n, 82) := (by intros; subst_vars; rfl); exact e _ _ _ f7 f9 f10)) Rg.an))))))))))) ?_
        intro D ν w1 hall hO
        have f7 : D 7 = true := hall 7 (by decide)
        have f9 : D 9 = true := hall 9 (by decide)
        have f10 : D 10 = true := hall 10 (by decide)
        replace hO : Own wr w1 [((ν 7), ints n (fun _ => 0), 3), ((ν 9), pcl (cn k) (ν 7) n, 82)] := by
          have e : ∀ b7 b9 b10 : Bool, b7 = true → b9 = true → b10 = true → Own wr w1 (((bif b7 then [((ν 7), ints n (fun _ => 0), 3)] else [] : List Row) ++ (bif b9 then [((ν 9), (bif b10 then pcl (cn k) (ν 7) n else pcz), 82)] else [] : List Row))) → Own wr w1 [((ν 7), ints n (fun _ => 0), 3), ((ν 9), pcl (cn k) (ν 7) n, 82)] := by (intros; subst_vars; assumption)
          exact e _ _ _ f7 f9 f10 hO
        clear hall f7 f9 f10
        simp only [Rg.putL, Act.put, List.setIfInBounds_toArray, List.set_cons_succ, List.set_cons_zero]
        generalize ν 7 = n35 at hO ⊢
        generalize ν 9 = n7 at hO ⊢
        clear ν D
        go_upto_region 7 with (fail)
        refine wp_region_list (WL.out ?_)
        refine g_val (E n7 1) ?_
        refine g_lc hO 1 1 (.slice (some ⟨n35, 0, none⟩) n n) rfl (pcl_1 _ _ _) agg_si ?_
        refine g_val (Nv .i64 k) ?_
        refine g_val (E n35 k) ?_ (b_isq (n := n) (c := n) hz Try.underlying25 sz_int w1)
        refine g_sc hO 0 k (.int .i64 1) (.int .i64 0) rfl (ints_get _ hz) (fun hc hf => st_int 3 sz_int rfl (by kernel_rfl) (by kernel_rfl) hc hf) (ints_set _ _ _ _) (fit_ints _ _) ?_
        intro w2 hO
        replace hO : Own wr w2 [(n35, ints n (fun i => if i = k then 1 else 0), 3), (n7, pcl (cn k) n35 n, 82)] := hO
        refine g_nil ?_
        simp only [Act.put, List.setIfInBounds_toArray, List.set_cons_succ, List.set_cons_zero]
        go_upto_region 8 with (fail)
        refine wp_region_list (WL.out ?_)
        refine g_val (Nv .i64 0) ?_
        refine g_nil ?_
        simp only [Act.put, List.setIfInBounds_toArray, List.set_cons_succ, List.set_cons_zero]
        have hB35 := hO.row 0 rfl
        have hB7 := hO.row 1 rfl
        have hlowA := hlow.trans (hO.low.mono hlow.size)
        have hHVA := hHV.call hO.low
        have hRA := hR.low hO.low
        clear hO hHV hR hlow
        go_wp2_with (fail)
        go_loopw [8] (fun x8 wr => ∃ (at_ : Nat), at_ ≤ m ∧ x8 = .int .i64 (at_ : Int) ∧ (∀ j, (hj : j < l.length) → j < at_ → l[j].1 ≤ cn k) ∧ Below w2.heap.size w2 wr) (fun x8 _ => m - (intOf x8).toNat)
        case atStart => exact ⟨0, Nat.zero_le _, rfl, (fun j _ h => absurd h (Nat.not_lt_zero j)), Below.refl _ _⟩
        case round =>
          obtain ⟨at_, ham, rfl, hat, hlowB⟩ := hrel
          have Hat := hide hat
          clear hat
          by_cases hgo : ∃ h : at_ < l.length, l[at_].1 ≤ cn k
          · obtain ⟨hltl, hle0⟩ := hgo
            have hlt : at_ < m := by omega
            obtain ⟨b, rfl, hcs0⟩ := hRA.cell (i := at_ * 2) (by omega)
            rw [pf_at0 (show at_ < l.length by omega)] at hcs0
            obtain ⟨ad, had⟩ : ∃ ad, Hid (b.add (at_ * 2) = ad) := ⟨_, hide rfl⟩
            rw [had.out] at hcs0
            obtain ⟨s0, hs0⟩ : ∃ s0, Hid ((l[at_]'(by omega)).1 = s0) := ⟨_, hide rfl⟩
            rw [hs0.out] at hcs0
            have hcs : ∀ w', Below w2.heap.size w2 w' → w'.cell? ad = some (Nv .u64 s0) := hcs0
            clear hcs0
            have hle : s0 ≤ cn k := by rw [← hs0.out]; exact hle0
            go_upto_region 9 with (fail)
            have hO := Own.start wr
            refine Rg.pd [] (fun ν => [(41, Nv .i64 at_), (42, .slice (some b) m c1), (43, Nv .i64 m), (44, .bool true), (45, .bool true), (46, .slice (some b) m c1), (47, Nv .i64 at_), (48, .pointer (some ad)), (49, .pointer (some ad)), (50, Nv .u64 s0), (51, D n7), (52, Nv .u64 (cn k)), (53, .bool true), (54, .bool true)]) (OI wr (fun _ _ => [])) (fun _ => 0) hO.drew (Rg.ac nv (Rg.ac nv (Rg.ac nv (Rg.ac (nx (fun _ => .bool true) (fun _ w => B.lss_int (a := at_) (c := m) (b := true) (decide_eq_true hlt) w)) (Rg.ac nv (Rg.ac nv (Rg.ac nv (Rg.ac (nx (fun _ => .pointer (some ad)) (fun _ w => had.out ▸ b_ix (n := m) (c := c1) (k := at_) (s := 2) hlt Try.underlying80 sz_pile w)) (Rg.ac nv (Rg.ac (nca (Nv .u64 s0) (fun w' h => hcs w' (hlowB.trans (h.mono hlowB.size))) B.agg_u64) (Rg.ac nv (Rg.ac (nca (Nv .u64 (cn k)) (fun w' h => (((hB7.call hlowB).call h).cell 0).trans (pcl_0 _ _ _)) B.agg_u64) (Rg.ac (nx (fun _ => .bool true) (fun _ w => B.leq_u64 (a := s0) (c := cn k) (b := true) (decide_eq_true hle) w)) (Rg.ac nv Rg.an)))))))))))))) ?_
            intro ν w3 hO
            replace hO : Own wr w3 [] := hO
            simp only [Rg.putL, Act.put, List.setIfInBounds_toArray, List.set_cons_succ, List.set_cons_zero]
            clear ν
            have hlowC := hlowB.trans (hO.low.mono hlowB.size)
            clear hO
            go_upto_region 10 with (fail)
            refine wp_region_list (WL.out ?_)
            refine g_val (Nv .i64 at_) ?_
            refine g_val (Nv .i64 (at_ + 1)) ?_ (B.add_int (a := at_) (c := 1) (d := at_ + 1) rfl (by omega) w3)
            refine g_val (Nv .i64 (at_ + 1)) ?_
            refine g_nil ?_
            simp only [Act.put, List.setIfInBounds_toArray, List.set_cons_succ, List.set_cons_zero]
            go_wp2_with (fail)
            go_roundw
            case rel => exact ⟨at_ + 1, hlt, rfl, (fun j hj hja => by rcases Nat.lt_or_eq_of_le (Nat.le_of_lt_succ hja) with h | h; exact Hat.out j hj h; subst h; exact hle0), hlowC⟩
            case measure => show m - ((at_ + 1 : Nat) : Int).toNat < m - ((at_ : Nat) : Int).toNat; omega
          · have hstop : ∀ h : at_ < l.length, cn k < l[at_].1 := fun h => Nat.lt_of_not_le fun h2 => hgo ⟨h, h2⟩
            clear hgo
            go_upto_region 9 with (fail)
            refine reg_waysW (fun x : Value × Value × Value × Value × Value × Value × Value × Value × Value × Value => Fr [.slice (some a) n c, Nv .i64 L, U, U, Nv .u64 0, .slice S1 m c1, Nv .i64 k, D n7, Nv .i64 at_, U, U, U, U, U, U, U, U, Nv .i64 k, .slice (some a) n c, Nv .i64 n, .bool true, u21, u22, .slice (some a) n c, Nv .i64 k, .pointer (some (a.add k)), Nv .u32 (cn k), .bool false, .slice (some a) n c, Nv .i64 k, .pointer (some (a.add k)), Nv .u32 (cn k), Nv .u64 (cn k), .slice (some a) n c, Nv .i64 n, .slice (some ⟨n35, 0, none⟩) n n, A (pcl (cn k) n35 n), E n7 1, .slice (some ⟨n35, 0, none⟩) n n, Nv .i64 k, E n35 k, Nv .i64 at_, .slice S1 m c1, Nv .i64 m, x.1, x.2.1, x.2.2.1, x.2.2.2.1, x.2.2.2.2.1, x.2.2.2.2.2.1, x.2.2.2.2.2.2.1, x.2.2.2.2.2.2.2.1, x.2.2.2.2.2.2.2.2.1, x.2.2.2.2.2.2.2.2.2, .bool false, u55, u56, u57, u58, u59, u60, u61, u62, u63, u64, u65, u66, u67, u68, U, U, U, U, U, U, U, U, U, U, U, U, U, U, U, U, U, U, U, U, U, U, U, U, U, U, U, U, U, U, U, U, U, U, U, U, U, U, U, U, U, U, U, U, U, U, U, U, U, U, U, U, U, U, U, U, U, U, U, U, U, U, U, U, U, U, U, U, U, U, U, U, U, U, U, U, U, U, U, U, U, U, U, U, U, U]) (fun w' => Own wr w' []) ?_ ?_
            · intro H
              by_cases hlt : at_ < m
              · obtain ⟨b, rfl, hcs0⟩ := hRA.cell (i := at_ * 2) (by omega)
                rw [pf_at0 (show at_ < l.length by omega)] at hcs0
                obtain ⟨ad, had⟩ : ∃ ad, Hid (b.add (at_ * 2) = ad) := ⟨_, hide rfl⟩
                rw [had.out] at hcs0
                obtain ⟨s0, hs0⟩ : ∃ s0, Hid ((l[at_]'(by omega)).1 = s0) := ⟨_, hide rfl⟩
                rw [hs0.out] at hcs0
                have hcs : ∀ w', Below w2.heap.size w2 w' → w'.cell? ad = some (Nv .u64 s0) := hcs0
                clear hcs0
                have hle : ¬ s0 ≤ cn k := by rw [← hs0.out]; exact Nat.not_le.2 (hstop (by omega))
                have hO := Own.start wr
                refine Rg.pd [] (fun ν => [(41, Nv .i64 at_), (42, .slice (some b) m c1), (43, Nv .i64 m), (44, .bool true), (45, .bool true), (46, .slice (some b) m c1), (47, Nv .i64 at_), (48, .pointer (some ad)), (49, .pointer (some ad)), (50, Nv .u64 s0), (51, D n7), (52, Nv .u64 (cn k)), (53, .bool false), (54, .bool false)]) (OI wr (fun _ _ => [])) (fun _ => 0) hO.drew (Rg.ac nv (Rg.ac nv (Rg.ac nv (Rg.ac (nx (fun _ => .bool true) (fun _ w => B.lss_int (a := at_) (c := m) (b := true) (decide_eq_true hlt) w)) (Rg.ac nv (Rg.ac nv (Rg.ac nv (Rg.ac (nx (fun _ => .pointer (some ad)) (fun _ w => had.out ▸ b_ix (n := m) (c := c1) (k := at_) (s := 2) hlt Try.underlying80 sz_pile w)) (Rg.ac nv (Rg.ac (nca (Nv .u64 s0) (fun w' h => hcs w' (hlowB.trans (h.mono hlowB.size))) B.agg_u64) (Rg.ac nv (Rg.ac (nca (Nv .u64 (cn k)) (fun w' h => (((hB7.call hlowB).call h).cell 0).trans (pcl_0 _ _ _)) B.agg_u64) (Rg.ac (nx (fun _ => .bool false) (fun _ w => B.leq_u64 (a := s0) (c := cn k) (b := false) (decide_eq_false hle) w)) (Rg.ac nv Rg.an)))))))))))))) ?_
                intro ν w3 hO
                replace hO : Own wr w3 [] := hO
                simp only [Rg.putL, Act.put, List.setIfInBounds_toArray, List.set_cons_succ, List.set_cons_zero]
                clear ν
                exact H (.bool true, .bool true, .slice (some b) m c1, Nv .i64 at_, .pointer (some ad), .pointer (some ad), Nv .u64 s0, D n7, Nv .u64 (cn k), .bool false) _ hO
              · have hO := Own.start wr
                refine Rg.pd [] (fun ν => [(41, Nv .i64 at_), (42, .slice S1 m c1), (43, Nv .i64 m), (44, .bool false), (45, .bool false), (46, U), (47, U), (48, U), (49, U), (50, U), (51, U), (52, U), (53, U), (54, .bool false)]) (OI wr (fun _ _ => [])) (fun _ => 0) hO.drew (Rg.ac nv (Rg.ac nv (Rg.ac nv (Rg.ac (nx (fun _ => .bool false) (fun _ w => B.lss_int (a := at_) (c := m) (b := false) (decide_eq_false hlt) w)) (Rg.ac nv (Rg.ac nk (Rg.ac nk (Rg.ac nk (Rg.ac nk (Rg.ac nk (Rg.ac nk (Rg.ac nk (Rg.ac nk (Rg.ac nv Rg.an)))))))))))))) ?_
                intro ν w3 hO
                replace hO : Own wr w3 [] := hO
                simp only [Rg.putL, Act.put, List.setIfInBounds_toArray, List.set_cons_succ, List.set_cons_zero]
                clear ν
                exact H (.bool false, .bool false, U, U, U, U, U, U, U, U) _ hO
            rintro ⟨x44, x45, x46, x47, x48, x49, x50, x51, x52, x53⟩ wC hO
            dsimp only
            have hlowC := hlowB.trans (hO.low.mono hlowB.size)
            clear hO
            have hB35C := hB35.call hlowC
            have hB7C := hB7.call hlowC
            have hHVC := hHVA.call hlowC
            have hRC := hRA.low hlowC
            have hlowD := hlowA.trans (hlowC.mono hlowA.size)
            clear hB35 hB7 hHVA hRA hlowA hlowB hlowC
            obtain ⟨l3, hl3⟩ : ∃ l3, l3 = l.take at_ ++ (cn k, Value.slice (some ⟨n35, 0, none⟩) n n) :: l.drop at_ := ⟨_, rfl⟩
            have hal : at_ ≤ l.length := by omega
            have hl3len : l3.length = m + 1 := by rw [hl3, ins_perm.length_eq, List.length_cons, hm]
            have hl3P : ∀ p ∈ l3, okP p := fun p hp => by
              rw [hl3] at hp
              rcases List.mem_cons.1 (ins_perm.mem_iff.1 hp) with h | h
              · subst h; exact ⟨by show cn k < 18446744073709551616; omega, _, _, _, rfl⟩
              · obtain ⟨h', f, e, _⟩ := hHVC p h; exact ⟨Nat.lt_trans (Hl32.out p h) (by decide), _, _, _, e⟩
            have hone : ∀ j, j < (m + 1) * 2 → (pf l3 j).oneCell' = true := fun j hj => pf_one hl3P (by rw [hl3len]; exact hj)
            have HoneL : Hid (∀ j, j < m * 2 → (pf l j).oneCell' = true) := hide fun j hj => pf_one (fun p hp => by obtain ⟨h', f, e, _⟩ := hHVC p hp; exact ⟨Nat.lt_trans (Hl32.out p hp) (by decide), _, _, _, e⟩) (by rw [← hm]; exact hj)
            have hO := Own.start wC
            go_upto_region 11 with (fail)
            refine Rf.plf 12 (fun ν => [(57, .slice (some ⟨ν 0, 0, none⟩) 0 0), (58, .slice S1 m c1), (59, Nv .i64 at_), (60, .slice S1 at_ c1), (61, .slice (some ⟨ν 4, 0, none⟩) (0 + at_) (0 + at_ + ν 104)), (62, A (pcl (cn k) n35 n)), (63, .slice (some ⟨ν 6, 0, none⟩) 1 1), (64, .slice (some ⟨ν 7, 0, none⟩) (0 + at_ + 1) (0 + at_ + 1 + ν 107)), (65, .slice S1 m c1), (66, Nv .i64 at_), (67, .slice (cutS S1 at_ c1 2) (m - at_) (c1 - at_)), (68, .slice (some ⟨ν 11, 0, none⟩) (0 + at_ + 1 + (m - at_)) (0 + at_ + 1 + (m - at_) + ν 111))]) (Rf.OD wC (fun D ν => ((bif D 11 then [(ν 11, cl (zc 2 zvP) ((0 + at_ + 1 + (m - at_) + ν 111) * 2) ((0 + at_ + 1 + (m - at_)) * 2) (pf l3), 82)] else bif D 7 then [(ν 7, cl (zc 2 zvP) ((0 + at_ + 1 + ν 107) * 2) ((0 + at_ + 1) * 2) (pf l3), 82)] else bif D 4 then [(ν 4, cl (zc 2 zvP) ((0 + at_ + ν 104) * 2) ((0 + at_) * 2) (pf l3), 82)] else bif D 0 then [(ν 0, #[], 82)] else []) ++ (bif D 6 then [(ν 6, pcl (cn k) n35 n, 82)] else []) : List Row))) (fun _ => 0) hO.drew (Rg.ac (Rf.fnw (fun ν q => .slice (some ⟨q, 0, none⟩) 0 0) (fun _ => #[]) 82 (fun ν w => by kernel_rfl) (fun _ => pc_nil_fit) (fun D ν nw my => by have f0 : D 0 = false := my.not; have f4 : D 4 = false := my.nf (k := 4) f0 (by kernel_rfl); have f7 : D 7 = false := my.nf (k := 7) f4 (by kernel_rfl); have f11 : D 11 = false := my.nf (k := 11) f7 (by kernel_rfl); have e : ∀ b0 b4 b6 b7 b11 : Bool, b0 = false → b4 = false → b7 = false → b11 = false → (((bif b11 then [(ν 11, cl (zc 2 zvP) ((0 + at_ + 1 + (m - at_) + ν 111) * 2) ((0 + at_ + 1 + (m - at_)) * 2) (pf l3), 82)] else bif b7 then [(ν 7, cl (zc 2 zvP) ((0 + at_ + 1 + ν 107) * 2) ((0 + at_ + 1) * 2) (pf l3), 82)] else bif b4 then [(ν 4, cl (zc 2 zvP) ((0 + at_ + ν 104) * 2) ((0 + at_) * 2) (pf l3), 82)] else bif b0 then [(ν 0, #[], 82)] else []) ++ (bif b6 then [(ν 6, pcl (cn k) n35 n, 82)] else []) : List Row) ++ ([(nw, #[], 82)] : List Row)).Perm ((bif b11 then [(ν 11, cl (zc 2 zvP) ((0 + at_ + 1 + (m - at_) + ν 111) * 2) ((0 + at_ + 1 + (m - at_)) * 2) (pf l3), 82)] else bif b7 then [(ν 7, cl (zc 2 zvP) ((0 + at_ + 1 + ν 107) * 2) ((0 + at_ + 1) * 2) (pf l3), 82)] else bif b4 then [(ν 4, cl (zc 2 zvP) ((0 + at_ + ν 104) * 2) ((0 + at_) * 2) (pf l3), 82)] else bif true then [(nw, #[], 82)] else []) ++ (bif b6 then [(ν 6, pcl (cn k) n35 n, 82)] else []) : List Row) := (by intro b0 b4 b6 b7 b11; intros; subst_vars; cases b6 <;> first | exact List.Perm.refl _ | exact List.Perm.swap _ _ _); exact e _ _ _ _ _ f0 f4 f7 f11)) (Rg.ac Rf.fv (Rg.ac Rf.fv (Rg.ac (Rf.fx (fun _ => .slice S1 at_ c1) (fun _ w => b_hiS ham hmc w)) (Rg.ac (Rf.fap (n := 0) (m := at_) (g := pf l3) (fun ν => .slice (some ⟨ν 0, 0, none⟩) 0 0) (fun ν => .slice S1 at_ c1) (fun D ν => (bif D 6 then [(ν 6, pcl (cn k) n35 n, 82)] else [] : List Row)) el_p (fun D ν w my hO => by have f0 : D 0 = true := my.pre 0 (by kernel_rfl); have f4 : D 4 = false := my.not; have f7 : D 7 = false := my.nf (k := 7) f4 (by kernel_rfl); have f11 : D 11 = false := my.nf (k := 11) f7 (by kernel_rfl); have e : ∀ b0 b4 b6 b7 b11 : Bool, b0 = true → b4 = false → b7 = false → b11 = false → Own wC w ((bif b11 then [(ν 11, cl (zc 2 zvP) ((0 + at_ + 1 + (m - at_) + ν 111) * 2) ((0 + at_ + 1 + (m - at_)) * 2) (pf l3), 82)] else bif b7 then [(ν 7, cl (zc 2 zvP) ((0 + at_ + 1 + ν 107) * 2) ((0 + at_ + 1) * 2) (pf l3), 82)] else bif b4 then [(ν 4, cl (zc 2 zvP) ((0 + at_ + ν 104) * 2) ((0 + at_) * 2) (pf l3), 82)] else bif b0 then [(ν 0, #[], 82)] else []) ++ (bif b6 then [(ν 6, pcl (cn k) n35 n, 82)] else []) : List Row) → Own wC w ((bif b6 then [(ν 6, pcl (cn k) n35 n, 82)] else [] : List Row) ++ [(ν 0, #[], 82)]) := (by intro b0 b4 b6 b7 b11; intros; subst_vars; rename_i h; cases b6; exact h; exact h.perm (List.Perm.swap _ _ _)); exact .inr ⟨ν 0, 0, rfl, e _ _ _ _ _ f0 f4 f7 f11 hO⟩) (fun ν h => by injection h with h1 _ _; cases h1) (fun D ν w my hO => src_rc el_p c1 ((hRC.low (Own.low hO)).take (at_ * 2) (by omega) |>.congr fun j hj => by rw [hl3, Nat.zero_mul, Nat.zero_add]; exact pf_take hal hj) (fun j hj => by rw [Nat.zero_mul, Nat.zero_add]; exact hone j (by omega))) (fun i hi => hone i (by omega)) (by omega) (fun D ν q d my => by have f0 : D 0 = true := my.pre 0 (by kernel_rfl); have f4 : D 4 = false := my.not; have f7 : D 7 = false := my.nf (k := 7) f4 (by kernel_rfl); have f11 : D 11 = false := my.nf (k := 11) f7 (by kernel_rfl); have e : ∀ b0 b4 b6 b7 b11 : Bool, b0 = true → b4 = false → b7 = false → b11 = false → ((bif b6 then [(ν 6, pcl (cn k) n35 n, 82)] else [] : List Row) ++ ([(q, cl (zc 2 zvP) ((0 + at_ + d) * 2) ((0 + at_) * 2) (pf l3), 82)] : List Row)).Perm ((bif b11 then [(ν 11, cl (zc 2 zvP) ((0 + at_ + 1 + (m - at_) + ν 111) * 2) ((0 + at_ + 1 + (m - at_)) * 2) (pf l3), 82)] else bif b7 then [(ν 7, cl (zc 2 zvP) ((0 + at_ + 1 + ν 107) * 2) ((0 + at_ + 1) * 2) (pf l3), 82)] else bif true then [(q, cl (zc 2 zvP) ((0 + at_ + d) * 2) ((0 + at_) * 2) (pf l3), 82)] else bif b0 then [(ν 0, #[], 82)] else []) ++ (bif b6 then [(ν 6, pcl (cn k) n35 n, 82)] else []) : List Row) := (by intro b0 b4 b6 b7 b11; intros; subst_vars; cases b6 <;> first | exact List.Perm.refl _ | exact List.Perm.swap _ _ _); exact e _ _ _ _ _ f0 f4 f7 f11)) (Rg.ac (Rf.flr (pcl (cn k) n35 n) hB7C (by kernel_rfl) Try.underlying82) (Rg.ac (Rf.fnw (fun ν q => .slice (some ⟨q, 0, none⟩) 1 1) (fun _ => pcl (cn k) n35 n) 82 (fun ν w => by kernel_rfl) (fun _ => pcl_fit _ _ _) (fun D ν nw my => by have f6 : D 6 = false := my.not; have f7 : D 7 = false := my.nf (k := 7) f6 (by kernel_rfl); have f11 : D 11 = false := my.nf (k := 11) f7 (by kernel_rfl); have e : ∀ b0 b4 b6 b7 b11 : Bool, b6 = false → b7 = false → b11 = false → (((bif b11 then [(ν 11, cl (zc 2 zvP) ((0 + at_ + 1 + (m - at_) + ν 111) * 2) ((0 + at_ + 1 + (m - at_)) * 2) (pf l3), 82)] else bif b7 then [(ν 7, cl (zc 2 zvP) ((0 + at_ + 1 + ν 107) * 2) ((0 + at_ + 1) * 2) (pf l3), 82)] else bif b4 then [(ν 4, cl (zc 2 zvP) ((0 + at_ + ν 104) * 2) ((0 + at_) * 2) (pf l3), 82)] else bif b0 then [(ν 0, #[], 82)] else []) ++ (bif b6 then [(ν 6, pcl (cn k) n35 n, 82)] else []) : List Row) ++ ([(nw, pcl (cn k) n35 n, 82)] : List Row)).Perm ((bif b11 then [(ν 11, cl (zc 2 zvP) ((0 + at_ + 1 + (m - at_) + ν 111) * 2) ((0 + at_ + 1 + (m - at_)) * 2) (pf l3), 82)] else bif b7 then [(ν 7, cl (zc 2 zvP) ((0 + at_ + 1 + ν 107) * 2) ((0 + at_ + 1) * 2) (pf l3), 82)] else bif b4 then [(ν 4, cl (zc 2 zvP) ((0 + at_ + ν 104) * 2) ((0 + at_) * 2) (pf l3), 82)] else bif b0 then [(ν 0, #[], 82)] else []) ++ (bif true then [(nw, pcl (cn k) n35 n, 82)] else []) : List Row) := (by intro b0 b4 b6 b7 b11; intros; subst_vars; cases b4 <;> cases b0 <;> exact List.Perm.refl _); exact e _ _ _ _ _ f6 f7 f11)) (Rg.ac (Rf.fap (n := 0 + at_) (m := 1) (g := pf l3) (fun ν => .slice (some ⟨ν 4, 0, none⟩) (0 + at_) (0 + at_ + ν 104)) (fun ν => .slice (some ⟨ν 6, 0, none⟩) 1 1) (fun D ν => ([(ν 6, pcl (cn k) n35 n, 82)] : List Row)) el_p (fun D ν w my hO => by have f4 : D 4 = true := my.pre 4 (by kernel_rfl); have f6 : D 6 = true := my.pre 6 (by kernel_rfl); have f7 : D 7 = false := my.not; have f11 : D 11 = false := my.nf (k := 11) f7 (by kernel_rfl); have e : ∀ b0 b4 b6 b7 b11 : Bool, b4 = true → b6 = true → b7 = false → b11 = false → Own wC w ((bif b11 then [(ν 11, cl (zc 2 zvP) ((0 + at_ + 1 + (m - at_) + ν 111) * 2) ((0 + at_ + 1 + (m - at_)) * 2) (pf l3), 82)] else bif b7 then [(ν 7, cl (zc 2 zvP) ((0 + at_ + 1 + ν 107) * 2) ((0 + at_ + 1) * 2) (pf l3), 82)] else bif b4 then [(ν 4, cl (zc 2 zvP) ((0 + at_ + ν 104) * 2) ((0 + at_) * 2) (pf l3), 82)] else bif b0 then [(ν 0, #[], 82)] else []) ++ (bif b6 then [(ν 6, pcl (cn k) n35 n, 82)] else []) : List Row) → Own wC w (([(ν 6, pcl (cn k) n35 n, 82)] : List Row) ++ [(ν 4, cl (zc 2 zvP) ((0 + at_ + ν 104) * 2) ((0 + at_) * 2) (pf l3), 82)]) := (by intro b0 b4 b6 b7 b11; intros; subst_vars; rename_i h; exact h.perm (List.Perm.swap _ _ _)); exact .inr ⟨ν 4, ν 104, rfl, e _ _ _ _ _ f4 f6 f7 f11 hO⟩) (fun ν h => by injection h with h1 _ _; cases h1) (fun D ν w my hO => by have f4 : D 4 = true := my.pre 4 (by kernel_rfl); have f6 : D 6 = true := my.pre 6 (by kernel_rfl); have f7 : D 7 = false := my.not; have f11 : D 11 = false := my.nf (k := 11) f7 (by kernel_rfl); have e : ∀ b0 b4 b6 b7 b11 : Bool, b4 = true → b6 = true → b7 = false → b11 = false → Own wC w ((bif b11 then [(ν 11, cl (zc 2 zvP) ((0 + at_ + 1 + (m - at_) + ν 111) * 2) ((0 + at_ + 1 + (m - at_)) * 2) (pf l3), 82)] else bif b7 then [(ν 7, cl (zc 2 zvP) ((0 + at_ + 1 + ν 107) * 2) ((0 + at_ + 1) * 2) (pf l3), 82)] else bif b4 then [(ν 4, cl (zc 2 zvP) ((0 + at_ + ν 104) * 2) ((0 + at_) * 2) (pf l3), 82)] else bif b0 then [(ν 0, #[], 82)] else []) ++ (bif b6 then [(ν 6, pcl (cn k) n35 n, 82)] else []) : List Row) → Own wC w [(ν 4, cl (zc 2 zvP) ((0 + at_ + ν 104) * 2) ((0 + at_) * 2) (pf l3), 82), (ν 6, pcl (cn k) n35 n, 82)] := (by intro b0 b4 b6 b7 b11; intros; subst_vars; assumption); have h := e _ _ _ _ _ f4 f6 f7 f11 hO; exact src_rc el_p 1 (rc_row (h.row 1 rfl) (fun j hj => by rw [Nat.zero_add, hl3, show (0 + at_) * 2 + j = at_ * 2 + j by omega]; exact pf_mid hal (by omega))) (fun j hj => hone _ (by omega))) (fun i hi => hone i (by omega)) (by omega) (fun D ν q d my => by have f4 : D 4 = true := my.pre 4 (by kernel_rfl); have f6 : D 6 = true := my.pre 6 (by kernel_rfl); have f7 : D 7 = false := my.not; have f11 : D 11 = false := my.nf (k := 11) f7 (by kernel_rfl); have e : ∀ b0 b4 b6 b7 b11 : Bool, b4 = true → b6 = true → b7 = false → b11 = false → (([(ν 6, pcl (cn k) n35 n, 82)] : List Row) ++ ([(q, cl (zc 2 zvP) ((0 + at_ + 1 + d) * 2) ((0 + at_ + 1) * 2) (pf l3), 82)] : List Row)).Perm ((bif b11 then [(ν 11, cl (zc 2 zvP) ((0 + at_ + 1 + (m - at_) + ν 111) * 2) ((0 + at_ + 1 + (m - at_)) * 2) (pf l3), 82)] else bif true then [(q, cl (zc 2 zvP) ((0 + at_ + 1 + d) * 2) ((0 + at_ + 1) * 2) (pf l3), 82)] else bif b4 then [(ν 4, cl (zc 2 zvP) ((0 + at_ + ν 104) * 2) ((0 + at_) * 2) (pf l3), 82)] else bif b0 then [(ν 0, #[], 82)] else []) ++ (bif b6 then [(ν 6, pcl (cn k) n35 n, 82)] else []) : List Row) := (by intro b0 b4 b6 b7 b11; intros; subst_vars; exact List.Perm.swap _ _ _); exact e _ _ _ _ _ f4 f6 f7 f11)) (Rg.ac Rf.fv (Rg.ac Rf.fv (Rg.ac (Rf.fx (fun _ => .slice (cutS S1 at_ c1 2) (m - at_) (c1 - at_)) (fun _ w => b_loS ham w)) (Rg.ac (Rf.fap (n := 0 + at_ + 1) (m := (m - at_)) (g := pf l3) (fun ν => .slice (some ⟨ν 7, 0, none⟩) (0 + at_ + 1) (0 + at_ + 1 + ν 107)) (fun ν => .slice (cutS S1 at_ c1 2) (m - at_) (c1 - at_)) (fun D ν => ([(ν 6, pcl (cn k) n35 n, 82)] : List Row)) el_p (fun D ν w my hO => by have f7 : D 7 = true := my.pre 7 (by kernel_rfl); have f6 : D 6 = true := my.cl 7 6 f7 (by kernel_rfl); have f11 : D 11 = false := my.not; have e : ∀ b0 b4 b6 b7 b11 : Bool, b7 = true → b6 = true → b11 = false → Own wC w ((bif b11 then [(ν 11, cl (zc 2 zvP) ((0 + at_ + 1 + (m - at_) + ν 111) * 2) ((0 + at_ + 1 + (m - at_)) * 2) (pf l3), 82)] else bif b7 then [(ν 7, cl (zc 2 zvP) ((0 + at_ + 1 + ν 107) * 2) ((0 + at_ + 1) * 2) (pf l3), 82)] else bif b4 then [(ν 4, cl (zc 2 zvP) ((0 + at_ + ν 104) * 2) ((0 + at_) * 2) (pf l3), 82)] else bif b0 then [(ν 0, #[], 82)] else []) ++ (bif b6 then [(ν 6, pcl (cn k) n35 n, 82)] else []) : List Row) → Own wC w (([(ν 6, pcl (cn k) n35 n, 82)] : List Row) ++ [(ν 7, cl (zc 2 zvP) ((0 + at_ + 1 + ν 107) * 2) ((0 + at_ + 1) * 2) (pf l3), 82)]) := (by intro b0 b4 b6 b7 b11; intros; subst_vars; rename_i h; exact h.perm (List.Perm.swap _ _ _)); exact .inr ⟨ν 7, ν 107, rfl, e _ _ _ _ _ f7 f6 f11 hO⟩) (fun ν h => by injection h with h1 _ _; cases h1) (fun D ν w my hO => src_rc el_p (c1 - at_) ((rc_cutA (hRC.low (Own.low hO)) hmc ham).congr fun j hj => by rw [hl3, show (0 + at_ + 1) * 2 + j = (at_ + 1) * 2 + j by omega]; exact pf_drop hal) (fun j hj => hone _ (by omega))) (fun i hi => hone i (by omega)) (by omega) (fun D ν q d my => by have f7 : D 7 = true := my.pre 7 (by kernel_rfl); have f6 : D 6 = true := my.cl 7 6 f7 (by kernel_rfl); have f11 : D 11 = false := my.not; have e : ∀ b0 b4 b6 b7 b11 : Bool, b7 = true → b6 = true → b11 = false → (([(ν 6, pcl (cn k) n35 n, 82)] : List Row) ++ ([(q, cl (zc 2 zvP) ((0 + at_ + 1 + (m - at_) + d) * 2) ((0 + at_ + 1 + (m - at_)) * 2) (pf l3), 82)] : List Row)).Perm ((bif true then [(q, cl (zc 2 zvP) ((0 + at_ + 1 + (m - at_) + d) * 2) ((0 + at_ + 1 + (m - at_)) * 2) (pf l3), 82)] else bif b7 then [(ν 7, cl (zc 2 zvP) ((0 + at_ + 1 + ν 107) * 2) ((0 + at_ + 1) * 2) (pf l3), 82)] else bif b4 then [(ν 4, cl (zc 2 zvP) ((0 + at_ + ν 104) * 2) ((0 + at_) * 2) (pf l3), 82)] else bif b0 then [(ν 0, #[], 82)] else []) ++ (bif b6 then [(ν 6, pcl (cn k) n35 n, 82)] else []) : List Row) := (by intro b0 b4 b6 b7 b11; intros; subst_vars; exact List.Perm.swap _ _ _); exact e _ _ _ _ _ f7 f6 f11)) (Rg.ac (Rf.fmu (fun ν => .slice (some ⟨ν 11, 0, none⟩) (0 + at_ + 1 + (m - at_)) (0 + at_ + 1 + (m - at_) + ν 111))) Rg.an))))))))))))) (fun ν => .slice (some ⟨ν 11, 0, none⟩) (0 + at_ + 1 + (m - at_)) (0 + at_ + 1 + (m - at_) + ν 111)) ?_
            intro D ν wD hall hO
            have f0 : D 0 = true := hall 0 (by decide)
            have f4 : D 4 = true := hall 4 (by decide)
            have f6 : D 6 = true := hall 6 (by decide)
            have f7 : D 7 = true := hall 7 (by decide)
            have f11 : D 11 = true := hall 11 (by decide)
            replace hO : Own wC wD [(ν 11, cl (zc 2 zvP) ((0 + at_ + 1 + (m - at_) + ν 111) * 2) ((0 + at_ + 1 + (m - at_)) * 2) (pf l3), 82), (ν 6, pcl (cn k) n35 n, 82)] := by
              have e : ∀ b0 b4 b6 b7 b11 : Bool, b0 = true → b4 = true → b6 = true → b7 = true → b11 = true → Own wC wD ((bif b11 then [(ν 11, cl (zc 2 zvP) ((0 + at_ + 1 + (m - at_) + ν 111) * 2) ((0 + at_ + 1 + (m - at_)) * 2) (pf l3), 82)] else bif b7 then [(ν 7, cl (zc 2 zvP) ((0 + at_ + 1 + ν 107) * 2) ((0 + at_ + 1) * 2) (pf l3), 82)] else bif b4 then [(ν 4, cl (zc 2 zvP) ((0 + at_ + ν 104) * 2) ((0 + at_) * 2) (pf l3), 82)] else bif b0 then [(ν 0, #[], 82)] else []) ++ (bif b6 then [(ν 6, pcl (cn k) n35 n, 82)] else []) : List Row) → Own wC wD [(ν 11, cl (zc 2 zvP) ((0 + at_ + 1 + (m - at_) + ν 111) * 2) ((0 + at_ + 1 + (m - at_)) * 2) (pf l3), 82), (ν 6, pcl (cn k) n35 n, 82)] := by (intros; subst_vars; assumption)
              exact e _ _ _ _ _ f0 f4 f6 f7 f11 hO
            clear hall f0 f4 f6 f7 f11
            simp only [Rg.putL, Act.put, List.setIfInBounds_toArray, List.set_cons_succ, List.set_cons_zero]
            generalize ν 0 = q0 at hO ⊢
            generalize ν 4 = q4 at hO ⊢
            generalize ν 104 = q104 at hO ⊢
            generalize ν 6 = q6 at hO ⊢
            generalize ν 7 = q7 at hO ⊢
            generalize ν 107 = q107 at hO ⊢
            generalize ν 11 = q11 at hO ⊢
            generalize ν 111 = q111 at hO ⊢
            clear ν D
            have hN : 0 + at_ + 1 + (m - at_) = m + 1 := by omega
            have hrow := hO.row 0 rfl
            rw [hN] at hrow ⊢
            have hR3 : Rc wD (some ⟨q11, 0, none⟩) ((m + 1) * 2) (pf l3) := rc_cl hrow (Nat.mul_le_mul_right 2 (Nat.le_add_right _ _))
            have hHV3 : HV wD n l3 := fun p hp => by
              rw [hl3] at hp
              rcases List.mem_cons.1 (ins_perm.mem_iff.1 hp) with h | h
              · subst h; exact ⟨n35, _, rfl, hB35C.call hO.low⟩
              · exact (hHVC.call hO.low) p h
            have hlow3 := hlowD.trans (hO.low.mono hlowD.size)
            have hup3 : Up (·.1) l3 := by rw [hl3]; exact ins_up Hup.out hal (fun j hj hja => Hat.out j hj hja) hstop
            have hperm3 : (l3.map (·.1)).Perm (nz cn (k + 1)) := by rw [hl3, hnz]; exact (ins_perm.map _).trans (Hperm.out.cons _)
            have hl323 : ∀ p ∈ l3, p.1 < 2 ^ 32 := fun p hp => by
              rw [hl3] at hp
              rcases List.mem_cons.1 (ins_perm.mem_iff.1 hp) with h | h
              · subst h; exact hck
              · exact Hl32.out p h
            have H9hR3 := hide hR3
            have H9hHV3 := hide hHV3
            have H9hlow3 := hide hlow3
            have H9hup3 := hide hup3
            have H9hperm3 := hide hperm3
            have H9hl323 := hide hl323
            clear hO hrow hR3 hHV3 hlow3 hup3 hperm3 hl323 hone HoneL hl3P hHVC hRC hlowD hB35C hB7C hN
            go_upto_region 4 with (fail)
            refine wp_region_list (WL.out ?_)
            refine g_val (Nv .i64 k) ?_
            refine g_val (Nv .i64 (k + 1)) ?_ (B.add_int (a := k) (c := 1) (d := k + 1) rfl (by omega) wD)
            refine g_val (Nv .i64 (k + 1)) ?_
            refine g_nil ?_
            simp only [Act.put, List.setIfInBounds_toArray, List.set_cons_succ, List.set_cons_zero]
            go_wp2_with (fail)
            refine ⟨⟨_, _, _, _, _, _, _, _, _, _, _, _, _, _, _, _, _, _, _, _, _, _, _, _, _, _, _, _, _, _, _, _, _, _, _, _, _, _, _, _, _, _, _, _, _, _, _, _, _, _, _, _, _, _, _, _, ?relr2, rfl⟩, ?measurer2⟩
            case relr2 => exact ⟨k + 1, m + 1, m + 1 + q111, _, l3, hz, rfl, rfl, hl3len.symm, Nat.le_add_right _ _, by omega, H9hup3.out, H9hperm3.out, H9hl323.out, H9hHV3.out, H9hR3.out, H9hlow3.out⟩
            case measurer2 => show n - ((k + 1 : Nat) : Int).toNat < n - ((k : Nat) : Int).toNat; omega
    · obtain rfl : k = n := by omega
      go_upto_region 3 with (fail)
      refine wp_region_list (WL.out ?_)
      refine g_val (Nv .i64 k) ?_
      refine g_val (.slice S k c) ?_
      refine g_val (Nv .i64 k) ?_
      refine g_val (.bool false) ?_ (B.lss_int (a := k) (c := k) (b := false) (decide_eq_false hz) wr)
      refine g_nil ?_
      simp only [Act.put, List.setIfInBounds_toArray, List.set_cons_succ, List.set_cons_zero]
      go_upto_region 12 with (fail)
      refine wp_region_list (WL.out ?_)
      refine g_val (.slice S1 m c1) ?_
      refine g_val (.slice S1 m c1) ?_
      refine g_nil ?_
      simp only [Act.put, List.setIfInBounds_toArray, List.set_cons_succ, List.set_cons_zero]
      go_upto_region 13 with (fail)
      refine wp_region_list (WL.out ?_)
      refine g_val (Nv .i64 1) ?_
      refine g_nil ?_
      simp only [Act.put, List.setIfInBounds_toArray, List.set_cons_succ, List.set_cons_zero]
      obtain ⟨s, hs⟩ : ∃ s, s = l.map (·.1) := ⟨_, rfl⟩
      have hsup : Up (fun x => x) s := by rw [hs]; exact up_map Hup.out
      have hsperm : s.Perm (nz cn k) := by rw [hs]; exact Hperm.out
      have hslen : s.length = m := by rw [hs, List.length_map, hm]
      have hs32 : ∀ x ∈ s, x < 2 ^ 32 := fun x hx => by rw [hs] at hx; obtain ⟨p, hp, rfl⟩ := List.mem_map.1 hx; exact Hl32.out p hp
      have Xhsup := hide hsup
      have Xhsperm := hide hsperm
      have Xhs32 := hide hs32
      have Hs := hide hs
      clear hsup hsperm hs32 hs Hup Hperm hS hz hkn
      go_wp2_with (fail)
      go_loopw [9, 10] (fun x9 x10 wr => ∃ (r m2 c2 : Nat) (S2 : Option Addr) (l2 : List (Nat × Value)), 1 ≤ r ∧ r ≤ L ∧ x9 = .slice S2 m2 c2 ∧ x10 = .int .i64 (r : Int) ∧ m2 = l2.length ∧ m2 ≤ c2 ∧ l2.map (·.1) = LS s r ∧ HV wr k l2 ∧ HV wr k l ∧ Rc wr S2 (m2 * 2) (pf l2) ∧ Rc wr S1 (m * 2) (pf l) ∧ Below w.heap.size w wr) (fun _ x10 _ => L - (intOf x10).toNat)
      case atStart => exact ⟨1, m, c1, S1, l, Nat.le_refl _, hL1, rfl, rfl, hm, hmc, by rw [LS_one, Hs.out], hHV, hHV, hR, hR, hlow⟩
      case round =>
        clear hHV hR hlow
        obtain ⟨r, m2, c2, S2, l2, hr1, hrL, rfl, rfl, hm2, hm2c, hl2, hHV2, hHV, hR2, hR, hlow⟩ := hrel
        have Hl2 := hide hl2
        clear hl2
        by_cases hz : r < L
        · obtain ⟨u1, hu1⟩ : ∃ u1, u1 = wr := ⟨_, rfl⟩
          subst hu1
          have hm2l : m2 ≤ 2 * m := by have h := LS_len (S := s) r; rw [← Hl2.out, List.length_map, ← hm2, hslen] at h; exact h
          have hlt : ∀ x ∈ LS s r, x < 2 ^ 46 := fun x hx => Nat.lt_of_lt_of_le (LS_lt Xhs32.out r x hx) (Nat.pow_le_pow_right (by decide) (by omega))
          go_upto_region 14 with (fail)
          refine wp_region_list (WL.out ?_)
          refine g_val (Nv .i64 r) ?_
          refine g_val (Nv .i64 L) ?_
          refine g_val (.bool true) ?_ (B.lss_int (a := r) (c := L) (b := true) (decide_eq_true hz) u1)
          refine g_nil ?_
          simp only [Act.put, List.setIfInBounds_toArray, List.set_cons_succ, List.set_cons_zero]
          go_upto_region 16 with (fail)
          refine wp_region_list (WL.out ?_)
          refine g_val (.slice none 0 0) ?_
          refine g_nil ?_
          simp only [Act.put, List.setIfInBounds_toArray, List.set_cons_succ, List.set_cons_zero]
          go_upto_region 17 with (fail)
          refine wp_region_list (WL.out ?_)
          refine g_val (Nv .i64 0) ?_
          refine g_nil ?_
          simp only [Act.put, List.setIfInBounds_toArray, List.set_cons_succ, List.set_cons_zero]
          have HG : Hid (Gr u1 u1 [] 82 2 zvP 0 (pf []) (.slice none 0 0)) := hide (.inl ⟨rfl, rfl, Own.start u1⟩)
          go_wp2_with (fail)
          go_loopw [11, 12] (fun x11 x12 wr => ∃ (q iv cq : Nat) (Sq : Option Addr) (lp : List (Nat × Value)) (Bs : List Row), 2 * q ≤ m2 ∧ iv = 2 * q ∧ x11 = .slice Sq q cq ∧ x12 = .int .i64 (iv : Int) ∧ lp.length = q ∧ lp.map (·.1) = (pr (fun x y => x + y) (LS s r)).take q ∧ PHB Bs k lp ∧ Gr u1 wr Bs 82 2 zvP q (pf lp) (.slice Sq q cq)) (fun _ x12 _ => m2 + 2 - (intOf x12).toNat)
          case atStart => exact ⟨0, 0, 0, none, [], [], Nat.zero_le _, rfl, rfl, rfl, rfl, rfl, (fun p hp => nomatch hp), HG.out⟩
          case round =>
            clear HG
            obtain ⟨q, iv, cq, Sq, lp, Bs, hq2, hiv, rfl, rfl, hlpl, hlp, hPH, hG⟩ := hrel
            have Hlp := hide hlp
            have Hiv := hide hiv
            clear hlp hiv
            by_cases hz2 : 2 * q + 1 < m2
            · have hiv1 : iv + 1 < m2 := by have := Hiv.out; omega
              have hi0 : iv < l2.length := by omega
              have hi1 : iv + 1 < l2.length := by omega
              have hlowG := hG.low
              obtain ⟨pA, hpA⟩ : ∃ p, l2[iv] = p := ⟨_, rfl⟩
              have hmA : pA ∈ l2 := hpA ▸ List.getElem_mem hi0
              obtain ⟨hA, fA, eA, hBA⟩ := hHV2 pA hmA
              obtain ⟨bA, ebA, hxA⟩ := hR2.cell (i := iv * 2) (by omega)
              obtain ⟨bA', ebA', hyA⟩ := hR2.cell (i := iv * 2 + 1) (by omega)
              rw [pf_at0 hi0, hpA] at hxA
              rw [pf_at1 hi0, hpA, eA] at hyA
              obtain ⟨pB, hpB⟩ : ∃ p, l2[iv + 1] = p := ⟨_, rfl⟩
              have hmB : pB ∈ l2 := hpB ▸ List.getElem_mem hi1
              obtain ⟨hB, fB, eB, hBB⟩ := hHV2 pB hmB
              obtain ⟨bB, ebB, hxB⟩ := hR2.cell (i := (iv + 1) * 2) (by omega)
              obtain ⟨bB', ebB', hyB⟩ := hR2.cell (i := (iv + 1) * 2 + 1) (by omega)
              rw [pf_at0 hi1, hpB] at hxB
              rw [pf_at1 hi1, hpB, eB] at hyB
              subst ebA
              obtain rfl := Option.some.inj ebA'
              obtain rfl := Option.some.inj ebB
              obtain rfl := Option.some.inj ebB'
              clear ebA' ebB ebB'
              obtain ⟨adA, hadA⟩ : ∃ ad, Hid (bA.add (iv * 2) = ad) := ⟨_, hide rfl⟩
              rw [hadA.out] at hxA
              rw [← add_add, hadA.out] at hyA
              obtain ⟨sA, hsA⟩ : ∃ s, pA.1 = s := ⟨_, rfl⟩
              rw [hsA] at hxA
              obtain ⟨adB, hadB⟩ : ∃ ad, Hid (bA.add ((iv + 1) * 2) = ad) := ⟨_, hide rfl⟩
              rw [hadB.out] at hxB
              rw [← add_add, hadB.out] at hyB
              obtain ⟨sB, hsB⟩ : ∃ s, pB.1 = s := ⟨_, rfl⟩
              rw [hsB] at hxB
              have hls : ∀ i, (h : i < l2.length) → (LS s r)[i]? = some l2[i].1 := fun i h => by rw [← Hl2.out, List.getElem?_map, List.getElem?_eq_getElem h]; rfl
              have hsAe : (LS s r)[iv]? = some sA := by rw [hls iv hi0, hpA, hsA]
              have hsBe : (LS s r)[iv + 1]? = some sB := by rw [hls (iv + 1) hi1, hpB, hsB]
              have hsAl := hlt sA (List.mem_of_getElem? hsAe)
              have hsBl := hlt sB (List.mem_of_getElem? hsBe)
              go_upto_region 18 with (fail)
              refine wp_region_list (WL.out ?_)
              refine g_val (Nv .i64 iv) ?_
              refine g_val (Nv .i64 (iv + 1)) ?_ (B.add_int (a := iv) (c := 1) (d := iv + 1) rfl (by omega) wr)
              refine g_val (.slice (some bA) m2 c2) ?_
              refine g_val (Nv .i64 m2) ?_
              refine g_val (.bool true) ?_ (B.lss_int (a := iv + 1) (c := m2) (b := true) (decide_eq_true hiv1) wr)
              refine g_nil ?_
              simp only [Act.put, List.setIfInBounds_toArray, List.set_cons_succ, List.set_cons_zero]
              have hO := Own.start wr
              go_upto_region 20 with (fail)
              refine Rf.pf (fun ν => [(82, .slice (some bA) m2 c2), (83, Nv .i64 iv), (84, .pointer (some adA)), (85, .pointer (some adA)), (86, Nv .u64 sA), (87, .slice (some bA) m2 c2), (88, Nv .i64 iv), (89, Nv .i64 (iv + 1)), (90, .pointer (some adB)), (91, .pointer (some adB)), (92, Nv .u64 sB), (93, Nv .u64 (sA + sB)), (94, .slice S k c), (95, Nv .i64 k), (96, .slice (some ⟨(ν 14), 0, none⟩) k k), (97, A (pcl (sA + sB) (ν 14) k)), (13, D (ν 16))]) (Rf.OD wr (fun D ν => ((bif D 14 then [((ν 14), ints k (fun _ => 0), 3)] else [] : List Row) ++ (bif D 16 then [((ν 16), (bif D 17 then pcl (sA + sB) (ν 14) k else pcz), 82)] else [] : List Row)))) (fun _ => 0) hO.drew (Rg.ac Rf.fv (Rg.ac Rf.fv (Rg.ac (Rf.fx (fun ν => .pointer (some adA)) (fun ν w => hadA.out ▸ b_ix (n := m2) (c := c2) (k := iv) (s := 2) (by omega) Try.underlying80 sz_pile w)) (Rg.ac Rf.fv (Rg.ac (Rf.fca (Nv .u64 sA) (fun w' h => hxA w' (hlowG.trans (h.mono hlowG.size))) B.agg_u64) (Rg.ac Rf.fv (Rg.ac Rf.fv (Rg.ac (Rf.fx (fun ν => Nv .i64 (iv + 1)) (fun ν w => B.add_int (a := iv) (c := 1) (d := iv + 1) rfl (by omega) w)) (Rg.ac (Rf.fx (fun ν => .pointer (some adB)) (fun ν w => hadB.out ▸ b_ix (n := m2) (c := c2) (k := iv + 1) (s := 2) (by omega) Try.underlying80 sz_pile w)) (Rg.ac Rf.fv (Rg.ac (Rf.fca (Nv .u64 sB) (fun w' h => hxB w' (hlowG.trans (h.mono hlowG.size))) B.agg_u64) (Rg.ac (Rf.fx (fun ν => Nv .u64 (sA + sB)) (fun ν w => B.add_u64 (a := sA) (c := sB) (d := sA + sB) rfl (by omega) w)) (Rg.ac Rf.fv (Rg.ac Rf.fv (Rg.ac (Rf.fnw (fun ν q => .slice (some ⟨q, 0, none⟩) k k) (fun ν => ints k (fun _ => 0)) 3 (fun ν w => b_mkI (by omega) w) (fun ν => fit_ints _ _) (fun D ν nw my => by have f14 := my.not; have f17 := my.nf (k := 17) f14 (by kernel_rfl); have e : ∀ b14 b16 b17 : Bool, b14 = false → b17 = false → ((((bif b14 then [((ν 14), ints k (fun _ => 0), 3)] else [] : List Row) ++ (bif b16 then [((ν 16), (bif b17 then pcl (sA + sB) (ν 14) k else pcz), 82)] else [] : List Row)) : List Row) ++ ([(nw, ints k (fun _ => 0), 3)] : List Row)).Perm (((bif true then [(nw, ints k (fun _ => 0), 3)] else [] : List Row) ++ (bif b16 then [((ν 16), (bif b17 then pcl (sA + sB) nw k else pcz), 82)] else [] : List Row))) := (by intro b14 b16 b17; intros; subst_vars; cases b16 <;> (first | exact List.Perm.refl _ | exact List.Perm.swap _ _ _)); exact e _ _ _ f14 f17)) (Rg.ac (Rf.fx (fun ν => A (pcl (sA + sB) (ν 14) k)) (fun ν w => run_bd 82 _ rfl [(0, Nv .u64 (sA + sB)), (1, .slice (some ⟨ν 14, 0, none⟩) k k)] (by kernel_rfl) _ (pcl_built _ _ _) w)) (Rg.ac (Rf.fal (fun ν => pcz) 82 (fun ν w => al_pile w) (fun ν => pcz_fit) (fun D ν nw my => by have f16 := my.not; have f17 := my.nf (k := 17) f16 (by kernel_rfl); have e : ∀ b14 b16 b17 : Bool, b16 = false → b17 = false → ((((bif b14 then [((ν 14), ints k (fun _ => 0), 3)] else [] : List Row) ++ (bif b16 then [((ν 16), (bif b17 then pcl (sA + sB) (ν 14) k else pcz), 82)] else [] : List Row)) : List Row) ++ ([(nw, pcz, 82)] : List Row)).Perm (((bif b14 then [((ν 14), ints k (fun _ => 0), 3)] else [] : List Row) ++ (bif true then [(nw, (bif b17 then pcl (sA + sB) (ν 14) k else pcz), 82)] else [] : List Row))) := (by intro b14 b16 b17; intros; subst_vars; cases b14 <;> (exact List.Perm.refl _)); exact e _ _ _ f16 f17)) (Rg.ac (Rf.fst2 1 (fun ν => (ν 16)) (fun ν => pcz) (fun ν => pcl (sA + sB) (ν 14) k) (fun ν => ⟨pcl_fit _ _ _, pcl_info _ _ _, rfl⟩) (fun D ν my => by have f17 := my.not; have f14 := my.pre 14 (by kernel_rfl); have f16 := my.pre 16 (by kernel_rfl); have e : ∀ b14 b16 b17 : Bool, b14 = true → b16 = true → b17 = false → (((bif b14 then [((ν 14), ints k (fun _ => 0), 3)] else [] : List Row) ++ (bif b16 then [((ν 16), (bif b17 then pcl (sA + sB) (ν 14) k else pcz), 82)] else [] : List Row)) : List Row)[1]? = some ((ν 16), pcz, 82) := (by intros; subst_vars; rfl); exact e _ _ _ f14 f16 f17) (fun D ν my => by have f17 := my.not; have f14 := my.pre 14 (by kernel_rfl); have f16 := my.pre 16 (by kernel_rfl); have e : ∀ b14 b16 b17 : Bool, b14 = true → b16 = true → b17 = false → (((bif b14 then [((ν 14), ints k (fun _ => 0), 3)] else [] : List Row) ++ (bif b16 then [((ν 16), (bif true then pcl (sA + sB) (ν 14) k else pcz), 82)] else [] : List Row)) : List Row) = (((bif b14 then [((ν 14), ints k (fun _ => 0), 3)] else [] : List Row) ++ (bif b16 then [((ν 16), (bif b17 then pcl (sA + sB) (ν 14) k else pcz), 82)] else [] : List Row)) : List Row).set 1 ((ν 16), pcl (sA + sB) (ν 14) k, 82) := (by intros; subst_vars; rfl); exact e _ _ _ f14 f16 f17)) Rg.an)))))))))))))))))) ?_
              intro D ν w1 hall hO
              have f14 : D 14 = true := hall 14 (by decide)
              have f16 : D 16 = true := hall 16 (by decide)
              have f17 : D 17 = true := hall 17 (by decide)
              replace hO : Own wr w1 [((ν 14), ints k (fun _ => 0), 3), ((ν 16), pcl (sA + sB) (ν 14) k, 82)] := by
                have e : ∀ b14 b16 b17 : Bool, b14 = true → b16 = true → b17 = true → Own wr w1 (((bif b14 then [((ν 14), ints k (fun _ => 0), 3)] else [] : List Row) ++ (bif b16 then [((ν 16), (bif b17 then pcl (sA + sB) (ν 14) k else pcz), 82)] else [] : List Row))) → Own wr w1 [((ν 14), ints k (fun _ => 0), 3), ((ν 16), pcl (sA + sB) (ν 14) k, 82)] := by (intros; subst_vars; assumption)
                exact e _ _ _ f14 f16 f17 hO
              clear hall f14 f16 f17
              simp only [Rg.putL, Act.put, List.setIfInBounds_toArray, List.set_cons_succ, List.set_cons_zero]
              generalize ν 14 = n96 at hO ⊢
              generalize ν 16 = n13 at hO ⊢
              clear ν D
              have HG0 := hide (gr_join hG hO)
              clear hG hO hlowG
              go_upto_region 21 with (fail)
              refine wp_region_list (WL.out ?_)
              refine g_val (Nv .i64 0) ?_
              refine g_nil ?_
              simp only [Act.put, List.setIfInBounds_toArray, List.set_cons_succ, List.set_cons_zero]
              go_wp2_with (fail)
              go_loopw [14] (fun x14 wr => ∃ (j : Nat) (f : Nat → Int), j ≤ k ∧ x14 = .int .i64 (j : Int) ∧ Gr u1 wr ((n96, ints k f, 3) :: (n13, pcl (sA + sB) n96 k, 82) :: Bs) 82 2 zvP q (pf lp) (.slice Sq q cq)) (fun x14 _ => k - (intOf x14).toNat)
              case atStart => exact ⟨0, _, Nat.zero_le _, rfl, HG0.out⟩
              case round =>
                clear HG0
                obtain ⟨j, f, hjk, rfl, hG⟩ := hrel
                by_cases hz3 : j < k
                · have hlowH := hG.low
                  go_upto_region 22 with (fail)
                  refine wp_region_list (WL.out ?_)
                  refine g_val (Nv .i64 j) ?_
                  refine g_val (.slice S k c) ?_
                  refine g_val (Nv .i64 k) ?_
                  refine g_val (.bool true) ?_ (B.lss_int (a := j) (c := k) (b := true) (decide_eq_true hz3) wr)
                  refine g_nil ?_
                  simp only [Act.put, List.setIfInBounds_toArray, List.set_cons_succ, List.set_cons_zero]
                  obtain ⟨R', hO, hback⟩ := gr_own2 hG
                  clear hG hlowH
                  go_upto_region 24 with (fail)
                  refine Rg.pd [22] (fun _ => [(104, E n13 1), (105, .slice (some ⟨n96, 0, none⟩) k k), (106, Nv .i64 j), (107, .slice (some bA) m2 c2), (108, Nv .i64 iv), (109, .pointer (some adA)), (110, .pointer (some (adA.add 1))), (111, .slice (some ⟨hA, 0, none⟩) k k), (112, Nv .i64 j), (113, E hA j), (114, .int .i64 (fA j)), (115, .slice (some bA) m2 c2), (116, Nv .i64 iv), (117, Nv .i64 (iv + 1)), (118, .pointer (some adB)), (119, .pointer (some (adB.add 1))), (120, .slice (some ⟨hB, 0, none⟩) k k), (121, Nv .i64 j), (122, E hB j), (123, .int .i64 (fB j)), (124, .int .i64 (IntKind.i64.wrap (fA j + fB j))), (125, E n96 j)]) (OI u1 (fun s ν => [((n96, ints k f, 3) :: (n13, pcl (sA + sB) n96 k, 82) :: R'), ((n96, ints k (fun i => if i = j then IntKind.i64.wrap (fA j + fB j) else f i), 3) :: (n13, pcl (sA + sB) n96 k, 82) :: R')].getD s [])) (fun _ => 0) hO.drew (Rg.ac nv (Rg.ac (nc 0 0 1 (fun _ => 1) (fun _ => .slice (some ⟨n96, 0, none⟩) k k) B.agg_si (fun _ => pcl_1 _ _ _) (at1 0 fun _ => by kernel_rfl)) (Rg.ac nv (Rg.ac nv (Rg.ac nv (Rg.ac (nx (fun _ => .pointer (some adA)) (fun _ w => hadA.out ▸ b_ix (n := m2) (c := c2) (k := iv) (s := 2) (by omega) Try.underlying80 sz_pile w)) (Rg.ac nv (Rg.ac (nca (.slice (some ⟨hA, 0, none⟩) k k) hyA agg_si) (Rg.ac nv (Rg.ac (nx (fun _ => E hA j) (fun _ w => b_isq (n := k) (c := k) hz3 Try.underlying25 sz_int w)) (Rg.ac (nco (.int .i64 (fA j)) hBA (ints_get _ hz3) agg_int) (Rg.ac nv (Rg.ac nv (Rg.ac (nx (fun _ => Nv .i64 (iv + 1)) (fun _ w => B.add_int (a := iv) (c := 1) (d := iv + 1) rfl (by omega) w)) (Rg.ac (nx (fun _ => .pointer (some adB)) (fun _ w => hadB.out ▸ b_ix (n := m2) (c := c2) (k := (iv + 1)) (s := 2) (by omega) Try.underlying80 sz_pile w)) (Rg.ac nv (Rg.ac (nca (.slice (some ⟨hB, 0, none⟩) k k) hyB agg_si) (Rg.ac nv (Rg.ac (nx (fun _ => E hB j) (fun _ w => b_isq (n := k) (c := k) hz3 Try.underlying25 sz_int w)) (Rg.ac (nco (.int .i64 (fB j)) hBB (ints_get _ hz3) agg_int) (Rg.ac (nx (fun _ => .int .i64 (IntKind.i64.wrap (fA j + fB j))) (fun _ w => addI_int w)) (Rg.ac (nx (fun _ => E n96 j) (fun _ w => b_isq (n := k) (c := k) hz3 Try.underlying25 sz_int w)) (Rg.ac (slv 0 0 (fun _ => j) (fun _ => .int .i64 (f j)) (fun _ => .int .i64 (IntKind.i64.wrap (fA j + fB j))) (fun ν w hc hf => st_int 3 sz_int rfl (by kernel_rfl) (by kernel_rfl) hc hf) (fun _ => ints_get _ hz3) (fun _ => ints_set _ _ _ _) (fun _ => fit_ints _ _)) Rg.an))))))))))))))))))))))) ?_
                  intro ν w2 hO
                  replace hO : Own u1 w2 ((n96, ints k (fun i => if i = j then IntKind.i64.wrap (fA j + fB j) else f i), 3) :: (n13, pcl (sA + sB) n96 k, 82) :: R') := hO
                  simp only [Rg.putL, Act.put, List.setIfInBounds_toArray, List.set_cons_succ, List.set_cons_zero]
                  clear ν
                  have HG := hide (hback _ _ hO)
                  clear hO hback
                  go_upto_region 23 with (fail)
                  refine wp_region_list (WL.out ?_)
                  refine g_val (Nv .i64 j) ?_
                  refine g_val (Nv .i64 (j + 1)) ?_ (B.add_int (a := j) (c := 1) (d := j + 1) rfl (by omega) w2)
                  refine g_val (Nv .i64 (j + 1)) ?_
                  refine g_nil ?_
                  simp only [Act.put, List.setIfInBounds_toArray, List.set_cons_succ, List.set_cons_zero]
                  go_wp2_with (fail)
                  go_roundw
                  case rel => exact ⟨j + 1, _, hz3, rfl, HG.out⟩
                  case measure => show k - ((j + 1 : Nat) : Int).toNat < k - ((j : Nat) : Int).toNat; omega
                · obtain rfl : j = k := by omega
                  go_upto_region 22 with (fail)
                  refine wp_region_list (WL.out ?_)
                  refine g_val (Nv .i64 j) ?_
                  refine g_val (.slice S j c) ?_
                  refine g_val (Nv .i64 j) ?_
                  refine g_val (.bool false) ?_ (B.lss_int (a := j) (c := j) (b := false) (decide_eq_false hz3) wr)
                  refine g_nil ?_
                  simp only [Act.put, List.setIfInBounds_toArray, List.set_cons_succ, List.set_cons_zero]
                  have hBP := gr_mem hG (r := (n13, pcl (sA + sB) n96 j, 82)) (List.mem_cons_of_mem _ List.mem_cons_self)
                  have hprm : ∀ x ∈ pr (fun x y => x + y) (LS s r), x < 2 * 2 ^ 46 := pr_mem hlt
                  have hPok : ∀ p ∈ lp ++ [(sA + sB, Value.slice (some ⟨n96, 0, none⟩) j j)], okP p := fun p hp => by
                    rcases List.mem_append.1 hp with h | h
                    · obtain ⟨h', f', e', _⟩ := hPH p h
                      have hx := hprm p.1 (List.mem_of_mem_take (Hlp.out ▸ List.mem_map.2 ⟨p, h, rfl⟩))
                      exact ⟨by omega, _, _, _, e'⟩
                    · rw [List.mem_singleton.1 h]; exact ⟨by show sA + sB < _; omega, _, _, _, rfl⟩
                  go_upto_region 25 with (fail)
                  refine wp_region_list (WL.out ?_)
                  refine g_val (.slice Sq q cq) ?_
                  refine g_lr (ad := ⟨n13, 0, none⟩) (pcl (sA + sB) n96 j) (fun i x hx => by rw [Addr.add_mid, Nat.zero_add, hBP.cell, ← Array.getElem?_toList]; exact hx) Try.underlying82 (by kernel_rfl) ?_
                  refine g_ap1 (.slice Sq q cq) el_p (pcl (sA + sB) n96 j) hG (g := pf (lp ++ [(sA + sB, .slice (some ⟨n96, 0, none⟩) j j)])) rfl (by omega) (fun i hi => pf_one hPok (by rw [List.length_append, hlpl]; exact hi)) (fun i hi => (pf_append (by rw [hlpl]; exact hi)).symm) (fun i hi => by rw [← hlpl]; exact pf_new hi) (by kernel_rfl) (fun g r' dd w2 hO => ?_)
                  refine g_val (.slice (some ⟨g, 0, none⟩) (q + 1) (q + 1 + dd)) ?_
                  refine g_nil ?_
                  simp only [Act.put, List.setIfInBounds_toArray, List.set_cons_succ, List.set_cons_zero]
                  have HG2 : Hid (Gr u1 w2 ((n96, ints j f, 3) :: (n13, pcl (sA + sB) n96 j, 82) :: Bs) 82 2 zvP (q + 1) (pf (lp ++ [(sA + sB, .slice (some ⟨n96, 0, none⟩) j j)])) (.slice (some ⟨g, 0, none⟩) (q + 1) (q + 1 + dd))) := hide (.inr ⟨g, dd, rfl, hO⟩)
                  clear hO hG hBP
                  go_upto_region 19 with (fail)
                  refine wp_region_list (WL.out ?_)
                  refine g_val (Nv .i64 iv) ?_
                  refine g_val (Nv .i64 (iv + 2)) ?_ (B.add_int (a := iv) (c := 2) (d := iv + 2) rfl (by omega) w2)
                  refine g_val (Nv .i64 (iv + 2)) ?_
                  refine g_nil ?_
                  simp only [Act.put, List.setIfInBounds_toArray, List.set_cons_succ, List.set_cons_zero]
                  have hmap : (lp ++ [(sA + sB, Value.slice (some ⟨n96, 0, none⟩) j j)]).map (·.1) = (pr (fun x y => x + y) (LS s r)).take (q + 1) := by
                    have hlen : (LS s r).length = m2 := by rw [← Hl2.out, List.length_map, hm2]
                    have hiv := Hiv.out
                    rw [take_next (by omega), List.map_append, Hlp.out]
                    have e1 : (LS s r)[2 * q]'(by omega) = sA := by have := hsAe; rw [hiv, List.getElem?_eq_getElem (by omega)] at this; exact Option.some.inj this
                    have e2 : (LS s r)[2 * q + 1]'(by omega) = sB := by have := hsBe; rw [hiv, List.getElem?_eq_getElem (by omega)] at this; exact Option.some.inj this
                    rw [e1, e2]; rfl
                  have hPH2 : PHB ((n96, ints j f, 3) :: (n13, pcl (sA + sB) n96 j, 82) :: Bs) j (lp ++ [(sA + sB, Value.slice (some ⟨n96, 0, none⟩) j j)]) := fun p hp => by
                    rcases List.mem_append.1 hp with h | h
                    · obtain ⟨h', f', e', hm'⟩ := hPH p h; exact ⟨h', f', e', List.mem_cons_of_mem _ (List.mem_cons_of_mem _ hm')⟩
                    · rw [List.mem_singleton.1 h]; exact ⟨n96, f, rfl, List.mem_cons_self⟩
                  have Hmap := hide hmap
                  have HPH2 := hide hPH2
                  clear hmap hPH2 hPok hprm
                  go_wp2_with (fail)
                  go_roundw
                  case rel => exact ⟨q + 1, iv + 2, _, _, _, _, by omega, by have := Hiv.out; omega, rfl, rfl, by rw [List.length_append, hlpl]; rfl, Hmap.out, HPH2.out, HG2.out⟩
                  case measure => show m2 + 2 - ((iv + 2 : Nat) : Int).toNat < m2 + 2 - ((iv : Nat) : Int).toNat; omega
            · have hq : q = m2 / 2 := by omega
              have hiv9 := Hiv.out
              have hnl : ¬ iv + 1 < m2 := by omega
              have hpr : lp.map (·.1) = pr (fun x y => x + y) (LS s r) := by
                have hlen : (LS s r).length = m2 := by rw [← Hl2.out, List.length_map, hm2]
                rw [Hlp.out]; exact List.take_of_length_le (by rw [pr_length, hlen]; omega)
              go_upto_region 18 with (fail)
              refine wp_region_list (WL.out ?_)
              refine g_val (Nv .i64 iv) ?_
              refine g_val (Nv .i64 (iv + 1)) ?_ (B.add_int (a := iv) (c := 1) (d := iv + 1) rfl (by omega) wr)
              refine g_val (.slice S2 m2 c2) ?_
              refine g_val (Nv .i64 m2) ?_
              refine g_val (.bool false) ?_ (B.lss_int (a := iv + 1) (c := m2) (b := false) (decide_eq_false hnl) wr)
              refine g_nil ?_
              simp only [Act.put, List.setIfInBounds_toArray, List.set_cons_succ, List.set_cons_zero]
              have hlowG := hG.low
              have hPokl : ∀ p ∈ l, okP p := fun p hp => by obtain ⟨h', f', e', _⟩ := hHV p hp; exact ⟨Nat.lt_trans (Hl32.out p hp) (by decide), _, _, _, e'⟩
              have hPokp : ∀ p ∈ lp, okP p := fun p hp => by
                obtain ⟨h', f', e', _⟩ := hPH p hp
                have hx := pr_mem hlt p.1 (hpr ▸ List.mem_map.2 ⟨p, hp, rfl⟩)
                exact ⟨by omega, _, _, _, e'⟩
              go_upto_region 26 with (fail)
              refine wp_region_list (WL.out ?_)
              refine g_val (.slice S1 m c1) ?_
              refine g_val (.slice Sq q cq) ?_
              refine g_any 35 #[.slice S1 m c1, .slice Sq q cq] (merged_c hm hlpl.symm hmc (gr_cap hG) (by omega) hPokl hPokp wr (hR.low hlowG) (gr_rcs hG)) ?_
              rintro xv w1 hGm
              obtain ⟨S3, c3, rfl⟩ := gr_sl hGm
              refine g_val (.slice S3 (mg (·.1) l lp).length c3) ?_
              refine g_nil ?_
              simp only [Act.put, List.setIfInBounds_toArray, List.set_cons_succ, List.set_cons_zero]
              have hlowM := hGm.low
              have hRm := gr_rcs hGm
              have hcm := gr_cap hGm
              have hHVm : HV w1 k (mg (·.1) l lp) := fun p hp => by
                rcases List.mem_append.1 ((mg_perm l lp).mem_iff.1 hp) with h | h
                · exact ((hHV.call hlowG).call hlowM) p h
                · obtain ⟨h', f', e', hm'⟩ := hPH p h; exact ⟨h', f', e', (gr_mem hG hm').call hlowM⟩
              have hmm : (mg (·.1) l lp).map (·.1) = LS s (r + 1) := by rw [mg_map, hpr, ← Hs.out]; rfl
              have hHVf := (hHV.call hlowG).call hlowM
              have hRf := (hR.low hlowG).low hlowM
              have hlowf := hlow.trans ((hlowG.trans (hlowM.mono hlowG.size)).mono hlow.size)
              have YhRm := hide hRm
              have Yhcm := hide hcm
              have YhHVm := hide hHVm
              have Yhmm := hide hmm
              have YhHVf := hide hHVf
              have YhRf := hide hRf
              have Yhlowf := hide hlowf
              clear hRm hcm hHVm hmm hHVf hRf hlowf hGm hlowM hlowG hPokl hPokp hpr hG hPH
              go_upto_region 15 with (fail)
              refine wp_region_list (WL.out ?_)
              refine g_val (Nv .i64 r) ?_
              refine g_val (Nv .i64 (r + 1)) ?_ (B.add_int (a := r) (c := 1) (d := r + 1) rfl (by omega) w1)
              refine g_val (Nv .i64 (r + 1)) ?_
              refine g_nil ?_
              simp only [Act.put, List.setIfInBounds_toArray, List.set_cons_succ, List.set_cons_zero]
              go_wp2_with (fail)
              go_roundw
              case rel => exact ⟨r + 1, _, c3, S3, mg (·.1) l lp, by omega, hz, rfl, rfl, rfl, Yhcm.out, Yhmm.out, YhHVm.out, YhHVf.out, YhRm.out, YhRf.out, Yhlowf.out⟩
              case measure => show L - ((r + 1 : Nat) : Int).toNat < L - ((r : Nat) : Int).toNat; omega
        · obtain rfl : r = L := by omega
          have hm2l : m2 ≤ 2 * m := by have h := LS_len (S := s) r; rw [← Hl2.out, List.length_map, ← hm2, hslen] at h; exact h
          have hlt : ∀ x ∈ LS s r, x < 2 ^ 47 := fun x hx => Nat.lt_of_lt_of_le (LS_lt Xhs32.out r x hx) (Nat.pow_le_pow_right (by decide) (by omega))
          go_upto_region 14 with (fail)
          refine wp_region_list (WL.out ?_)
          refine g_val (Nv .i64 r) ?_
          refine g_val (Nv .i64 r) ?_
          refine g_val (.bool false) ?_ (B.lss_int (a := r) (c := r) (b := false) (decide_eq_false hz) wr)
          refine g_nil ?_
          simp only [Act.put, List.setIfInBounds_toArray, List.set_cons_succ, List.set_cons_zero]
          go_upto_region 27 with (fail)
          refine wp_region_list (WL.out ?_)
          refine g_val (Nv .u64 0) ?_
          refine g_nil ?_
          simp only [Act.put, List.setIfInBounds_toArray, List.set_cons_succ, List.set_cons_zero]
          go_upto_region 28 with (fail)
          refine wp_region_list (WL.out ?_)
          refine g_val (Nv .i64 0) ?_
          refine g_nil ?_
          simp only [Act.put, List.setIfInBounds_toArray, List.set_cons_succ, List.set_cons_zero]
          obtain ⟨u2, hu2⟩ : ∃ u2, u2 = wr := ⟨_, rfl⟩
          subst hu2
          have Hlow := hide hlow
          clear hlow hHV hHV2 hR
          go_wp2_with (fail)
          go_loopw [15, 16] (fun x15 x16 wr => ∃ i : Nat, i ≤ min (2 * m - 2) m2 ∧ x15 = Nv .u64 (sm (fun x => x) ((LS s r).take i)) ∧ x16 = .int .i64 (i : Int) ∧ wr = u2) (fun _ x16 _ => min (2 * m - 2) m2 - (intOf x16).toNat)
          case atStart => exact ⟨0, Nat.zero_le _, rfl, rfl, rfl⟩
          case round =>
            obtain ⟨i, hi, rfl, rfl, rfl⟩ := hrel
            by_cases hz5 : i < min (2 * m - 2) m2
            · have hi2 : i < l2.length := by omega
              obtain ⟨b, rfl, hc⟩ := hR2.cell (i := i * 2) (by omega)
              rw [pf_at0 hi2] at hc
              obtain ⟨ad, had⟩ : ∃ ad, Hid (b.add (i * 2) = ad) := ⟨_, hide rfl⟩
              rw [had.out] at hc
              have hil : i < (LS s r).length := by rw [← Hl2.out, List.length_map]; exact hi2
              have hval : l2[i].1 = (LS s r)[i] := by
                have h1 : (LS s r)[i]? = some l2[i].1 := by rw [← Hl2.out, List.getElem?_map, List.getElem?_eq_getElem hi2]; rfl
                rw [List.getElem?_eq_getElem hil] at h1; exact (Option.some.inj h1).symm
              rw [hval] at hc
              have hnext := sm_take_succ (fun x => x) hil
              have hb1 := sm_take_lt hlt (i + 1)
              go_upto_region 29 with (fail)
              refine wp_region_list (WL.out ?_)
              refine g_val (Nv .i64 i) ?_
              refine g_val (.slice S1 m c1) ?_
              refine g_val (Nv .i64 m) ?_
              refine g_val (Nv .i64 (2 * m)) ?_ (B.mul_int (a := 2) (c := m) (d := 2 * m) rfl (by omega) wr)
              refine g_val (.int .i64 (((2 * m : Nat) : Int) - 2)) ?_ (subI_int (a := ((2 * m : Nat) : Int)) (c := 2) rfl (by omega) (by omega) wr)
              refine g_val (.bool true) ?_ (lssI_int (a := (i : Int)) (c := ((2 * m : Nat) : Int) - 2) (b := true) (decide_eq_true (by omega)) wr)
              refine g_val (.bool true) ?_
              refine g_val (Nv .i64 i) ?_
              refine g_val (.slice (some b) m2 c2) ?_
              refine g_val (Nv .i64 m2) ?_
              refine g_val (.bool true) ?_ (B.lss_int (a := i) (c := m2) (b := true) (decide_eq_true (by omega)) wr)
              refine g_val (.bool true) ?_
              refine g_nil ?_
              simp only [Act.put, List.setIfInBounds_toArray, List.set_cons_succ, List.set_cons_zero]
              go_upto_region 31 with (fail)
              refine wp_region_list (WL.out ?_)
              refine g_val (Nv .u64 (sm (fun x => x) ((LS s r).take i))) ?_
              refine g_val (.slice (some b) m2 c2) ?_
              refine g_val (Nv .i64 i) ?_
              refine g_val (.pointer (some ad)) ?_ (had.out ▸ b_ix (n := m2) (c := c2) (k := i) (s := 2) (by omega) Try.underlying80 sz_pile wr)
              refine g_val (.pointer (some ad)) ?_
              refine g_la (Nv .u64 ((LS s r)[i])) (hc _ (Below.refl _ _)) agg_u64 ?_
              refine g_val (Nv .u64 (sm (fun x => x) ((LS s r).take (i + 1)))) ?_ (B.add_u64 (a := sm (fun x => x) ((LS s r).take i)) (c := (LS s r)[i]) (d := sm (fun x => x) ((LS s r).take (i + 1))) hnext.symm (Nat.lt_of_le_of_lt hb1 (by omega)) wr)
              refine g_val (Nv .u64 (sm (fun x => x) ((LS s r).take (i + 1)))) ?_
              refine g_nil ?_
              simp only [Act.put, List.setIfInBounds_toArray, List.set_cons_succ, List.set_cons_zero]
              go_upto_region 30 with (fail)
              refine wp_region_list (WL.out ?_)
              refine g_val (Nv .i64 i) ?_
              refine g_val (Nv .i64 (i + 1)) ?_ (B.add_int (a := i) (c := 1) (d := i + 1) rfl (by omega) wr)
              refine g_val (Nv .i64 (i + 1)) ?_
              refine g_nil ?_
              simp only [Act.put, List.setIfInBounds_toArray, List.set_cons_succ, List.set_cons_zero]
              go_wp2_with (fail)
              go_roundw
              case rel => exact ⟨i + 1, hz5, rfl, rfl, trivial⟩
              case measure => show min (2 * m - 2) m2 - ((i + 1 : Nat) : Int).toNat < min (2 * m - 2) m2 - ((i : Nat) : Int).toNat; omega
            · have hie : i = min (2 * m - 2) m2 := by omega
              go_upto_region 29 with (fail)
              refine reg_ways (fun x : Value × Value × Value × Value × Value × Value => Fr [.slice S k c, Nv .i64 r, U, U, Nv .u64 0, .slice S1 m c1, Nv .i64 k, u7, u8, .slice S2 m2 c2, Nv .i64 r, u11, u12, u13, u14, Nv .u64 (sm (fun x => x) ((LS s r).take i)), Nv .i64 i, Nv .i64 k, .slice S k c, Nv .i64 k, .bool false, u21, u22, u23, u24, u25, u26, u27, u28, u29, u30, u31, u32, u33, u34, u35, u36, u37, u38, u39, u40, u41, u42, u43, u44, u45, u46, u47, u48, u49, u50, u51, u52, u53, u54, u55, u56, u57, u58, u59, u60, u61, u62, u63, u64, u65, u66, u67, u68, .slice S1 m c1, Nv .i64 r, Nv .i64 r, .bool false, u73, u74, u75, u76, u77, u78, u79, u80, u81, u82, u83, u84, u85, u86, u87, u88, u89, u90, u91, u92, u93, u94, u95, u96, u97, u98, u99, u100, u101, u102, u103, u104, u105, u106, u107, u108, u109, u110, u111, u112, u113, u114, u115, u116, u117, u118, u119, u120, u121, u122, u123, u124, u125, u126, u127, u128, u129, u130, u131, u132, Nv .i64 i, .slice S1 m c1, Nv .i64 m, Nv .i64 (2 * m), .int .i64 (((2 * m : Nat) : Int) - 2), x.1, x.2.1, x.2.2.1, x.2.2.2.1, x.2.2.2.2.1, x.2.2.2.2.2, .bool false, u145, u146, u147, u148, u149, u150, u151, u152, u153, U]) ?_ ?_
              · intro H
                by_cases h5 : i + 2 < 2 * m
                · refine wp_region_list (WL.out ?_)
                  refine g_val (Nv .i64 i) ?_
                  refine g_val (.slice S1 m c1) ?_
                  refine g_val (Nv .i64 m) ?_
                  refine g_val (Nv .i64 (2 * m)) ?_ (B.mul_int (a := 2) (c := m) (d := 2 * m) rfl (by omega) wr)
                  refine g_val (.int .i64 (((2 * m : Nat) : Int) - 2)) ?_ (subI_int (a := ((2 * m : Nat) : Int)) (c := 2) rfl (by omega) (by omega) wr)
                  refine g_val (.bool true) ?_ (lssI_int (a := (i : Int)) (c := ((2 * m : Nat) : Int) - 2) (b := true) (decide_eq_true (by omega)) wr)
                  refine g_val (.bool true) ?_
                  refine g_val (Nv .i64 i) ?_
                  refine g_val (.slice S2 m2 c2) ?_
                  refine g_val (Nv .i64 m2) ?_
                  refine g_val (.bool false) ?_ (B.lss_int (a := i) (c := m2) (b := false) (decide_eq_false (by omega)) wr)
                  refine g_val (.bool false) ?_
                  refine g_nil ?_
                  simp only [Act.put, List.setIfInBounds_toArray, List.set_cons_succ, List.set_cons_zero]
                  exact H (.bool true, .bool true, Nv .i64 i, .slice S2 m2 c2, Nv .i64 m2, .bool false)
                · refine wp_region_list (WL.out ?_)
                  refine g_val (Nv .i64 i) ?_
                  refine g_val (.slice S1 m c1) ?_
                  refine g_val (Nv .i64 m) ?_
                  refine g_val (Nv .i64 (2 * m)) ?_ (B.mul_int (a := 2) (c := m) (d := 2 * m) rfl (by omega) wr)
                  refine g_val (.int .i64 (((2 * m : Nat) : Int) - 2)) ?_ (subI_int (a := ((2 * m : Nat) : Int)) (c := 2) rfl (by omega) (by omega) wr)
                  refine g_val (.bool false) ?_ (lssI_int (a := (i : Int)) (c := ((2 * m : Nat) : Int) - 2) (b := false) (decide_eq_false (by omega)) wr)
                  refine g_val (.bool false) ?_
                  refine g_skip ?_
                  refine g_skip ?_
                  refine g_skip ?_
                  refine g_skip ?_
                  refine g_val (.bool false) ?_
                  refine g_nil ?_
                  simp only [Act.put, List.setIfInBounds_toArray, List.set_cons_succ, List.set_cons_zero]
                  exact H (.bool false, .bool false, U, U, U, U)
              rintro ⟨x138, x139, x140, x141, x142, x143⟩
              dsimp only
              have hres : sm (fun x => x) ((LS s r).take i) = wLeast s r := by
                unfold wLeast; rw [hslen]
                have hlen : (LS s r).length = m2 := by rw [← Hl2.out, List.length_map, hm2]
                by_cases h6 : 2 * m - 2 ≤ m2
                · rw [hie, Nat.min_eq_left h6]
                · rw [hie, Nat.min_eq_right (by omega), List.take_of_length_le (by omega), List.take_of_length_le (by omega)]
              rw [hres]
              go_upto_region 32 with (fail)
              refine wp_region_list (WL.out ?_)
              refine g_val (Nv .u64 (wLeast s r)) ?_
              refine g_val (Nv .u64 (wLeast s r)) ?_
              refine g_nil ?_
              simp only [Act.put, List.setIfInBounds_toArray, List.set_cons_succ, List.set_cons_zero]
              go_wp2_with (fail)
              go_ret
              exact ⟨_, rfl, Hlow.out, s, Xhsup.out, Xhsperm.out, rfl⟩
end H
end Go.Proofs.Ytkljpidlfddgbaa

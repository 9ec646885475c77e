/- The walk of BitsPuts. No conditions. -/
import Derived.Test.YtacopggeidbnbaaCh
namespace Go.Proofs.Ytacopggeidbnbaa
set_option maxRecDepth 100000
open Go.RowKit Rg B


open W R
namespace W
theorem ChB.low {w w' : World} {X : Nat} (hb : Below w.heap.size w w') : ∀ {q : Nat} {p : Option Addr}, ChB w X q p → ChB w' X q p
  | 0, _, h => h
  | _ + 1, _, ⟨b, p', e, hB, h⟩ => ⟨b, p', e, hB.call hb, ChB.low hb h⟩
theorem gr_drew {u w : World} {L : List Row} {e : TypeId} {s n : Nat} {zv : Value} {f : Nat → Value} {v : Value} (h : Gr u w L e s zv n f v) : Gr u w.drew L e s zv n f v := by
  rcases h with ⟨h0, hv, hO⟩ | ⟨g, d, hv, hO⟩
  · exact .inl ⟨h0, hv, hO.drew⟩
  · exact .inr ⟨g, d, hv, hO.drew⟩
/-- A Writer with the c bits of X, and the reference's with the n bits of Y. -/
def PutsS (u w : World) (NW NR X c Y n : Nat) : Prop := X < 2 ^ c ∧ Y < 2 ^ n ∧ ∃ p C, Chn C X (c / 2048) p ∧ RefS u w ((NW, wc p (op X c) c, 28) :: C) NR Y n 0
section
variable {u w : World} {NW NR X c Y n : Nat}
theorem PutsS.low (h : PutsS u w NW NR X c Y n) : Below u.heap.size u w := by
  obtain ⟨_, _, p, C, _, v, hG⟩ := h
  exact hG.low
theorem PutsS.drew (h : PutsS u w NW NR X c Y n) : PutsS u w.drew NW NR X c Y n := by
  obtain ⟨h1, h2, p, C, hC, v, hG⟩ := h
  exact ⟨h1, h2, p, C, hC, v, gr_drew hG⟩
theorem PutsS.call {w' : World} (h : PutsS u w NW NR X c Y n) (hb : Below w.heap.size w w') : PutsS u w' NW NR X c Y n := by
  obtain ⟨h1, h2, p, C, hC, v, hG⟩ := h
  exact ⟨h1, h2, p, C, hC, v, hG.call hb⟩
theorem PutsS.blk (h : PutsS u w NW NR X c Y n) : ∃ p S cc, Blk w NW (wc p (op X c) c) 28 ∧ ChB w X (c / 2048) p ∧ Blk w NR (rb (.slice S n cc) 0) 32 ∧ Rc w S n (bt Y) := by
  obtain ⟨h1, h2, p, C, hC, v, hG⟩ := h
  obtain ⟨S, cc, rfl⟩ := gr_sl hG
  refine ⟨p, S, cc, gr_blk hG (j := 1) rfl, hC.blk fun r hr => ?_, gr_blk hG (j := 0) rfl, gr_rc hG⟩
  obtain ⟨i, hi⟩ := List.getElem?_of_mem hr
  exact gr_blk hG (j := i + 2) (b := r.1) (c := r.2.1) (t := r.2.2) hi
theorem PutsS.put (v : Nat) (b : Int) (hc : c < 2 ^ 39) (h : PutsS u w NW NR X c Y n) :
    Calls Try.prog 10 #[D NW, Nv .u64 v, .int .i64 b] w fun e w' => e = .returned (Nv .i64 (nE v b)) ∧ PutsS u w' NW NR (nX X c v b) (nC c v b) Y n := by
  obtain ⟨h1, h2, p, C, hC, y, hG⟩ := h
  have hp : ∀ (W0 R0 : Row) (C R : List Row), (R0 :: W0 :: (C ++ R)).Perm (W0 :: (C ++ (R0 :: R))) := fun W0 R0 C R => (List.Perm.swap _ _ _).trans (List.Perm.cons _ List.perm_middle.symm)
  rcases hG with ⟨h0, hv, hO⟩ | ⟨g, d, hv, hO⟩
  · have hW : WrS u w [(NR, rb y 0, 32)] NW X c := ⟨h1, p, C, hO.perm (by have := hp (NW, wc p (op X c) c, 28) (NR, rb y 0, 32) C []; rwa [List.append_nil] at this), hC⟩
    refine (WPutA v b hc NW u _ w hW).mono fun e w' hh => ⟨hh.1, ?_⟩
    obtain ⟨h1', p', C', hO', hC'⟩ := hh.2
    refine ⟨h1', h2, p', C', hC', y, .inl ⟨h0, hv, hO'.perm ?_⟩⟩
    have := (hp (NW, wc p' (op (nX X c v b) (nC c v b)) (nC c v b), 28) (NR, rb y 0, 32) C' []).symm
    rwa [List.append_nil] at this
  · have hW : WrS u w [(NR, rb y 0, 32), (g, cl (zc 1 (.bool false)) ((n + d) * 1) (n * 1) (bt Y), 4)] NW X c := ⟨h1, p, C, hO.perm (hp _ _ C [(g, cl (zc 1 (.bool false)) ((n + d) * 1) (n * 1) (bt Y), 4)]), hC⟩
    refine (WPutA v b hc NW u _ w hW).mono fun e w' hh => ⟨hh.1, ?_⟩
    obtain ⟨h1', p', C', hO', hC'⟩ := hh.2
    exact ⟨h1', h2, p', C', hC', y, .inr ⟨g, d, hv, hO'.perm (hp _ _ C' [(g, cl (zc 1 (.bool false)) ((n + d) * 1) (n * 1) (bt Y), 4)]).symm⟩⟩
theorem PutsS.rput (v : Nat) (b : Int) (hn : n ≤ 2 ^ 29) (h : PutsS u w NW NR X c Y n) :
    Calls Try.prog 11 #[D NR, Nv .u64 v, .int .i64 b] w fun e w' => e = .returned (Nv .i64 (nE v b)) ∧ PutsS u w' NW NR X c (nX Y n v b) (nC n v b) := by
  obtain ⟨h1, h2, p, C, hC, hR⟩ := h
  refine (RPutA h2 v b hn NR u _ w hR).mono fun e w' hh => ⟨hh.1, h1, nX_lt h2 v b, p, C, hC, hh.2⟩
end
theorem bytes_zz {X c n : Nat} {p : Option Addr} (hn : n = (c + 7) / 8) (hc : c < 2 ^ 40) (N : Nat) (w : World) (hB : Blk w N (wc p (op X c) c) 28) (hC : ChB w X (c / 2048) p) : RetZ 13 #[D N] w (fun z => .slice (some ⟨z 0, 0, none⟩) n n) (fun z => [(z 0, vals .u8 n (byt X), 5)]) := by
  refine (Bytes_c hn hc N w hB hC).mono fun e w' hh => ?_
  obtain ⟨q, he, hO⟩ := hh
  exact ⟨fun _ => q, he, hO⟩
theorem rbytes_zz {X n m t c : Nat} {S : Option Addr} (hX : X < 2 ^ n) (hm : m = (n + 7) / 8) (hn : n ≤ 2 ^ 40) (N : Nat) (w : World) (hB : Blk w N (rb (.slice S n c) t) 32) (hS : Rc w S n (bt X)) : RetZ 14 #[D N] w (fun z => .slice (some ⟨z 0, 0, none⟩) m m) (fun z => [(z 0, vals .u8 m (byt X), 5)]) := by
  refine (RBytes_c hX hm hn N w hB hS).mono fun e w' hh => ?_
  obtain ⟨q, he, hO⟩ := hh
  exact ⟨fun _ => q, he, hO⟩
set_option maxHeartbeats 8000000 in
theorem puts_walk {S : Option Addr} {n : Nat} {V : Nat → Nat} {Z : Nat → Int} {P : Nat → Bool} {w : World} (hs : Sc w S n V Z P) (c0 : Nat) : Ret 4 #[.slice S n c0] w (.bool true) := by
  go_enter Try.func4, Try.ntmps4
  have hO := Own.start w
  go_upto_region 0 with (fail)
  refine wp_region_list (WL.out ?_)
  refine g_val (.bool false) ?_
  refine g_nil ?_
  simp only [Act.put, List.setIfInBounds_toArray, List.set_cons_succ, List.set_cons_zero]
  go_upto_region 1 with (fail)
  refine wp_region_list (WL.out ?_)
  refine g_call hO 9 #[] (.bool true) (awake_c w) ?_
  intro w1 hb9 hO
  refine g_val (.bool true) ?_
  refine g_nil ?_
  simp only [Act.put, List.setIfInBounds_toArray, List.set_cons_succ, List.set_cons_zero]
  go_upto_region 2 with (fail)
  refine wp_region_list (WL.out ?_)
  refine g_val (.bool true) ?_
  refine g_val (.bool false) ?_
  refine g_nil ?_
  simp only [Act.put, List.setIfInBounds_toArray, List.set_cons_succ, List.set_cons_zero]
  go_upto_region 4 with (fail)
  refine wp_region_list (WL.out ?_)
  refine g_val (A (wc none (fun _ => 0) 0)) ?_ (run_bd 28 _ rfl [] (by kernel_rfl) _ wc_zero w1)
  refine g_new hO D (wc none (fun _ => 0) 0) 28 (wc_fit _ _ _) (run_box 28 _ rfl _ (by kernel_rfl) w1) ?_
  intro n13 w2 _ hO
  replace hO : Own w w2 [(n13, wc none (fun _ => 0) 0, 28)] := hO
  refine g_val (D n13) ?_
  refine g_nil ?_
  simp only [Act.put, List.setIfInBounds_toArray, List.set_cons_succ, List.set_cons_zero]
  go_upto_region 5 with (fail)
  refine wp_region_list (WL.out ?_)
  refine g_val (A (rb (.slice none 0 0) 0)) ?_ (run_bd 32 _ rfl [] (by kernel_rfl) _ rb_built w2)
  refine g_new hO D (rb (.slice none 0 0) 0) 32 (rb_fit _ _ _ _) (run_box 32 _ rfl _ (by kernel_rfl) w2) ?_
  intro n15 w3 _ hO
  replace hO : Own w w3 [(n13, wc none (fun _ => 0) 0, 28), (n15, rb (.slice none 0 0) 0, 32)] := hO
  refine g_val (D n15) ?_
  refine g_nil ?_
  simp only [Act.put, List.setIfInBounds_toArray, List.set_cons_succ, List.set_cons_zero]
  go_upto_region 6 with (fail)
  refine wp_region_list (WL.out ?_)
  refine g_val (Nv .i64 0) ?_
  refine g_nil ?_
  simp only [Act.put, List.setIfInBounds_toArray, List.set_cons_succ, List.set_cons_zero]
  have HP : Hid (PutsS w w3 n13 n15 0 0 0 0) := hide ⟨by decide, by decide, none, [], rfl, .slice none 0 0, .inl ⟨rfl, rfl, by
    have e : wc none (op 0 0) 0 = wc none (fun _ => 0) 0 := wc_congr fun k _ => M.byt_hi (c := 0) (by decide) (Nat.zero_le _)
    rw [e]; exact hO.perm (List.Perm.swap _ _ _)⟩⟩
  clear hO
  go_wp2_with (fail)
  go_loopw [6] (fun x6 wr => ∃ (k X c : Nat), k ≤ n ∧ k ≤ 100 ∧ x6 = .int .i64 (k : Int) ∧ c ≤ 32 * k ∧ PutsS w wr n13 n15 X c X c) (fun x6 _ => 100 - (intOf x6).toNat)
  case atStart => exact ⟨0, 0, 0, Nat.zero_le _, Nat.zero_le _, rfl, Nat.le_refl _, HP.out⟩
  case round =>
    clear HP
    obtain ⟨k, X, c, hkn, hk100, rfl, hck, hP⟩ := hrel
    have HP := hide hP
    clear hP
    by_cases hz : k < n ∧ k < 100
    · have hc39 : c < 2 ^ 39 := by omega
      have hc29 : c ≤ 2 ^ 29 := by omega
      obtain ⟨a, rfl, hv, hb, hp⟩ := hs.at (show k < n by omega)
      obtain ⟨ad, had⟩ : ∃ ad, Hid (a.add (k * 3) = ad) := ⟨_, hide rfl⟩
      rw [had.out] at hv hb hp
      go_upto_region 7 with (fail)
      refine wp_region_list (WL.out ?_)
      refine g_val (Nv .i64 k) ?_
      refine g_val (.slice (some a) n c0) ?_
      refine g_val (Nv .i64 n) ?_
      refine g_val (.bool true) ?_ (B.lss_int (a := k) (c := n) (b := true) (decide_eq_true hz.1) wr)
      refine g_val (.bool true) ?_
      refine g_val (Nv .i64 k) ?_
      refine g_val (.bool true) ?_ (B.lss_int (a := k) (c := 100) (b := true) (decide_eq_true hz.2) wr)
      refine g_val (.bool true) ?_
      refine g_nil ?_
      simp only [Act.put, List.setIfInBounds_toArray, List.set_cons_succ, List.set_cons_zero]
      obtain ⟨v, hvk⟩ : ∃ v, V k = v := ⟨_, rfl⟩
      obtain ⟨b, hbk⟩ : ∃ b, Z k = b := ⟨_, rfl⟩
      rw [hvk] at hv
      rw [hbk] at hb
      clear hvk hbk hp
      go_upto_region 9 with (fail)
      refine Rg.pd [11] (fun _ => [(26, D n13), (27, .slice (some a) n c0), (28, Nv .i64 k), (29, .pointer (some ad)), (30, .pointer (some ad)), (31, Nv .u64 v), (32, .slice (some a) n c0), (33, Nv .i64 k), (34, .pointer (some ad)), (35, .pointer (some (ad.add 1))), (36, .int .i64 b), (37, Nv .i64 (nE v b)), (7, Nv .i64 (nE v b))]) (PI [fun wz => PutsS w wz n13 n15 X c X c, fun wz => PutsS w wz n13 n15 (nX X c v b) (nC c v b) X c]) (fun _ => 0) (HP.out.drew) (Rg.ac nv (Rg.ac nv (Rg.ac nv (Rg.ac (nx (fun _ => .pointer (some ad)) (fun _ w => had.out ▸ b_ix (n := n) (c := c0) (k := k) (s := 3) (show k < n by omega) Try.underlying23 sz_call w)) (Rg.ac nv (Rg.ac (kca (Nv .u64 v) (fun s _ w2 h => match s, h with | 0, h => PutsS.low h | 1, h => PutsS.low h | _ + 2, h => h.elim) (hv) B.agg_u64) (Rg.ac nv (Rg.ac nv (Rg.ac (nx (fun _ => .pointer (some ad)) (fun _ w => had.out ▸ b_ix (n := n) (c := c0) (k := k) (s := 3) (show k < n by omega) Try.underlying23 sz_call w)) (Rg.ac nv (Rg.ac (kca (.int .i64 b) (fun s _ w2 h => match s, h with | 0, h => PutsS.low h | 1, h => PutsS.low h | _ + 2, h => h.elim) (hb) B.agg_int) (Rg.ac (kc 0 10 (fun _ => #[D n13, Nv .u64 v, .int .i64 b]) (fun _ => Nv .i64 (nE v b)) (fun _ w3 h => PutsS.put v b hc39 h)) (Rg.ac nv Rg.an))))))))))))) ?_
      intro ν w4 hI
      replace hI : PutsS w w4 n13 n15 (nX X c v b) (nC c v b) X c := hI
      clear ν
      simp only [Rg.putL, Act.put, List.setIfInBounds_toArray, List.set_cons_succ, List.set_cons_zero]
      have HI := hide hI
      clear hI HP
      go_upto_region 10 with (fail)
      refine Rg.pd [11] (fun _ => [(38, D n15), (39, .slice (some a) n c0), (40, Nv .i64 k), (41, .pointer (some ad)), (42, .pointer (some ad)), (43, Nv .u64 v), (44, .slice (some a) n c0), (45, Nv .i64 k), (46, .pointer (some ad)), (47, .pointer (some (ad.add 1))), (48, .int .i64 b), (49, Nv .i64 (nE v b)), (8, Nv .i64 (nE v b))]) (PI [fun wz => PutsS w wz n13 n15 (nX X c v b) (nC c v b) X c, fun wz => PutsS w wz n13 n15 (nX X c v b) (nC c v b) (nX X c v b) (nC c v b)]) (fun _ => 0) (HI.out.drew) (Rg.ac nv (Rg.ac nv (Rg.ac nv (Rg.ac (nx (fun _ => .pointer (some ad)) (fun _ w => had.out ▸ b_ix (n := n) (c := c0) (k := k) (s := 3) (show k < n by omega) Try.underlying23 sz_call w)) (Rg.ac nv (Rg.ac (kca (Nv .u64 v) (fun s _ w2 h => match s, h with | 0, h => PutsS.low h | 1, h => PutsS.low h | _ + 2, h => h.elim) (hv) B.agg_u64) (Rg.ac nv (Rg.ac nv (Rg.ac (nx (fun _ => .pointer (some ad)) (fun _ w => had.out ▸ b_ix (n := n) (c := c0) (k := k) (s := 3) (show k < n by omega) Try.underlying23 sz_call w)) (Rg.ac nv (Rg.ac (kca (.int .i64 b) (fun s _ w2 h => match s, h with | 0, h => PutsS.low h | 1, h => PutsS.low h | _ + 2, h => h.elim) (hb) B.agg_int) (Rg.ac (kc 0 11 (fun _ => #[D n15, Nv .u64 v, .int .i64 b]) (fun _ => Nv .i64 (nE v b)) (fun _ w3 h => PutsS.rput v b hc29 h)) (Rg.ac nv Rg.an))))))))))))) ?_
      intro ν w5 hI
      replace hI : PutsS w w5 n13 n15 (nX X c v b) (nC c v b) (nX X c v b) (nC c v b) := hI
      clear ν
      simp only [Rg.putL, Act.put, List.setIfInBounds_toArray, List.set_cons_succ, List.set_cons_zero]
      clear HI
      have HI := hide hI
      clear hI
      have hle := nC_le c v b
      obtain ⟨X', hX'⟩ : ∃ X', nX X c v b = X' := ⟨_, rfl⟩
      obtain ⟨c', hc'⟩ : ∃ c', nC c v b = c' := ⟨_, rfl⟩
      rw [hX', hc'] at HI
      rw [hc'] at hle
      clear hX' hc'
      obtain ⟨p, S2, cc, hBW, hCW, hBR, hSR⟩ := HI.out.blk
      have hO := Own.start w5
      go_upto_region 11 with (fail)
      refine Rg.pd [5] (fun ν => [(50, Nv .i64 (nE v b)), (51, Nv .i64 (nE v b)), (52, .bool false), (53, .bool false), (54, D n13), (55, Nv .i64 c'), (56, D n15), (57, D n15), (58, D n15), (59, .slice S2 c' cc), (60, Nv .i64 c'), (61, .bool false), (62, .bool false)]) (OI w5 (fun s ν => [[], []].getD s [])) (fun _ => 0) hO.drew (Rg.ac nv (Rg.ac nv (Rg.ac (nx (fun _ => .bool false) (fun _ w => B.neq_errno (a := nE v b) (c := nE v b) (b := false) (decide_eq_false (fun h => h rfl)) w)) (Rg.ac nv (Rg.ac nv (Rg.ac (sq 0 12 (fun _ => #[D n13]) (fun _ => Nv .i64 c') (fun ν w hO => Count_c _ w (hBW.call hO.low))) (Rg.ac nv (Rg.ac nv (Rg.ac nv (Rg.ac (nca (.slice S2 c' cc) (fun w' h => ((hBR.call h).cell 0).trans (rb_0 _ _)) B.agg_sb) (Rg.ac nv (Rg.ac (nx (fun _ => .bool false) (fun _ w => B.neq_int (a := c') (c := c') (b := false) (decide_eq_false (fun h => h rfl)) w)) (Rg.ac nv Rg.an))))))))))))) ?_
      intro ν w6 hO
      replace hO : Own w5 w6 [] := hO
      simp only [Rg.putL, Act.put, List.setIfInBounds_toArray, List.set_cons_succ, List.set_cons_zero]
      clear ν
      replace HI := hide (HI.out.call hO.low)
      clear hO hBW hCW hBR hSR
      go_upto_region 8 with (fail)
      refine wp_region_list (WL.out ?_)
      refine g_val (Nv .i64 k) ?_
      refine g_val (Nv .i64 (k + 1)) ?_ (B.add_int (a := k) (c := 1) (d := k + 1) rfl (by omega) w6)
      refine g_val (Nv .i64 (k + 1)) ?_
      refine g_nil ?_
      simp only [Act.put, List.setIfInBounds_toArray, List.set_cons_succ, List.set_cons_zero]
      go_wp2_with (fail)
      go_roundw
      case rel => exact ⟨k + 1, X', c', by omega, by omega, rfl, by omega, HI.out⟩
      case measure => show 100 - ((k + 1 : Nat) : Int).toNat < 100 - ((k : Nat) : Int).toNat; omega
    · have hc40 : c < 2 ^ 40 := by omega
      go_upto_region 7 with (fail)
      refine reg_ways (fun x : Value × Value × Value × Value => Fr [.slice S n c0, U, u2, .bool true, D n13, D n15, Nv .i64 k, u7, u8, .bool true, .bool true, .bool false, A (wc none (fun _ => 0) 0), D n13, A (rb (.slice none 0 0) 0), D n15, Nv .i64 k, .slice S n c0, Nv .i64 n, x.1, x.2.1, x.2.2.1, x.2.2.2, .bool false, u24, u25, u26, u27, u28, u29, u30, u31, u32, u33, u34, u35, u36, u37, u38, u39, u40, u41, u42, u43, u44, u45, u46, u47, u48, u49, u50, u51, u52, u53, u54, u55, u56, u57, u58, u59, u60, u61, u62, U, U, U, U, U, U, U]) ?_ ?_
      · intro H
        by_cases hn9 : k < n
        · refine wp_region_list (WL.out ?_)
          refine g_val (Nv .i64 k) ?_
          refine g_val (.slice S n c0) ?_
          refine g_val (Nv .i64 n) ?_
          refine g_val (.bool true) ?_ (B.lss_int (a := k) (c := n) (b := true) (decide_eq_true hn9) wr)
          refine g_val (.bool true) ?_
          refine g_val (Nv .i64 k) ?_
          refine g_val (.bool false) ?_ (B.lss_int (a := k) (c := 100) (b := false) (decide_eq_false (by omega)) wr)
          refine g_val (.bool false) ?_
          refine g_nil ?_
          simp only [Act.put, List.setIfInBounds_toArray, List.set_cons_succ, List.set_cons_zero]
          exact H (.bool true, .bool true, Nv .i64 k, .bool false)
        · refine wp_region_list (WL.out ?_)
          refine g_val (Nv .i64 k) ?_
          refine g_val (.slice S n c0) ?_
          refine g_val (Nv .i64 n) ?_
          refine g_val (.bool false) ?_ (B.lss_int (a := k) (c := n) (b := false) (decide_eq_false hn9) wr)
          refine g_val (.bool false) ?_
          refine g_skip ?_
          refine g_skip ?_
          refine g_val (.bool false) ?_
          refine g_nil ?_
          simp only [Act.put, List.setIfInBounds_toArray, List.set_cons_succ, List.set_cons_zero]
          exact H (.bool false, .bool false, U, U)
      rintro ⟨x19, x20, x21, x22⟩
      dsimp only
      obtain ⟨m, hm⟩ : ∃ m, m = (c + 7) / 8 := ⟨_, rfl⟩
      have Hm := hide hm
      clear hm hs hz hkn
      have hXc := HP.out.1
      have hlow := hide HP.out.low
      obtain ⟨p, S2, cc, hBW, hCW, hBR, hSR⟩ := HP.out.blk
      have hO := Own.start wr
      clear HP
      go_upto_region 13 with (fail)
      refine Rg.pd [1, 4] (fun ν => [(63, D n13), (64, .slice (some ⟨(ν 1010), 0, none⟩) m m), (65, .string (sk m (byt X))), (66, D n15), (67, .slice (some ⟨(ν 1040), 0, none⟩) m m), (68, .string (sk m (byt X))), (69, .bool true), (2, .bool true)]) (OI wr (fun s ν => [[], [((ν 1010), vals .u8 m (byt X), 5)], [((ν 1010), vals .u8 m (byt X), 5), ((ν 1040), vals .u8 m (byt X), 5)]].getD s [])) (fun _ => 0) hO.drew (Rg.ac nv (Rg.ac (sz 0 1010 13 (fun _ => #[D n13]) (fun z => .slice (some ⟨(z 0), 0, none⟩) m m) (fun z => [(z 0, vals .u8 m (byt X), 5)]) (fun ν w hO => bytes_zz (p := p) Hm.out hc40 _ w (hBW.call hO.low) (hCW.low hO.low))) (Rg.ac (nss 1 2 0 m m (fun ν => (ν 1010)) (byt X) (fun i => M.byt_lt _ i) (at2 1 2 (fun _ => by kernel_rfl) (at1 2 fun _ => by kernel_rfl))) (Rg.ac nv (Rg.ac (sz 1 1040 14 (fun _ => #[D n15]) (fun z => .slice (some ⟨(z 0), 0, none⟩) m m) (fun z => [(z 0, vals .u8 m (byt X), 5)]) (fun ν w hO => rbytes_zz (S := S2) (c := cc) hXc Hm.out (Nat.le_of_lt hc40) _ w (hBR.call hO.low) (hSR.low hO.low))) (Rg.ac (nss 2 2 1 m m (fun ν => (ν 1040)) (byt X) (fun i => M.byt_lt _ i) (at1 2 fun _ => by kernel_rfl)) (Rg.ac (nx (fun _ => .bool true) (fun _ w => b_seq (s := sk m (byt X)) (t := sk m (byt X)) (b := true) (by simp) w)) (Rg.ac nv Rg.an)))))))) ?_
      intro ν w4 hO
      replace hO : Own wr w4 [((ν 1010), vals .u8 m (byt X), 5), ((ν 1040), vals .u8 m (byt X), 5)] := hO
      simp only [Rg.putL, Act.put, List.setIfInBounds_toArray, List.set_cons_succ, List.set_cons_zero]
      generalize ν 1010 = n64_0 at hO ⊢
      generalize ν 1040 = n67_0 at hO ⊢
      clear ν
      have HF := hide (hlow.out.trans (hO.low.mono hlow.out.size))
      clear hO hBW hCW hBR hSR hlow
      go_wp2_with (fail)
      go_ret
      exact ⟨rfl, HF.out⟩
end W
end Go.Proofs.Ytacopggeidbnbaa

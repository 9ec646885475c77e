/- The walk of BitsOwn. No conditions. -/
import Derived.Test.YtacopggeidbnbaaCh
namespace Go.Proofs.Ytacopggeidbnbaa
set_option maxRecDepth 100000
open Go.RowKit Rg B

open W R
namespace W
set_option maxHeartbeats 4000000 in
theorem own_walk {S S' : Option Addr} {n n' : Nat} {V V' : Nat → Nat} {Z Z' : Nat → Int} {P P' : Nat → Bool} {w : World} (hs : Sc w S n V Z P) (hs' : Sc w S' n' V' Z' P') (c0 c0' : Nat) : Ret 7 #[.slice S n c0, .slice S' n' c0'] w (.bool true) := by
  go_enter Try.func7, Try.ntmps7
  have hO := Own.start w
  go_upto_region 0 with (fail)
  refine wp_region_list (WL.out ?_)
  refine g_val (.bool false) ?_
  refine g_nil ?_
  simp only [Act.put, List.setIfInBounds_toArray, List.set_cons_succ, List.set_cons_zero]
  go_upto_region 1 with (fail)
  refine wp_region_list (WL.out ?_)
  refine g_call hO 9 #[] (.bool true) (awake_c w) ?_
  intro w1 hb14 hO
  refine g_val (.bool true) ?_
  refine g_nil ?_
  simp only [Act.put, List.setIfInBounds_toArray, List.set_cons_succ, List.set_cons_zero]
  go_upto_region 2 with (fail)
  refine wp_region_list (WL.out ?_)
  refine g_val (.bool true) ?_
  refine g_val (.bool false) ?_
  refine g_nil ?_
  simp only [Act.put, List.setIfInBounds_toArray, List.set_cons_succ, List.set_cons_zero]
  go_upto_region 4 with (fail)
  refine wp_region_list (WL.out ?_)
  refine g_val (A (wc none (fun _ => 0) 0)) ?_ (run_bd 28 _ rfl [] (by kernel_rfl) _ wc_zero w1)
  refine g_new hO D (wc none (fun _ => 0) 0) 28 (wc_fit _ _ _) (run_box 28 _ rfl _ (by kernel_rfl) w1) ?_
  intro n18 w2 _ hO
  replace hO : Own w w2 [(n18, wc none (fun _ => 0) 0, 28)] := hO
  refine g_val (D n18) ?_
  refine g_nil ?_
  simp only [Act.put, List.setIfInBounds_toArray, List.set_cons_succ, List.set_cons_zero]
  go_upto_region 5 with (fail)
  refine wp_region_list (WL.out ?_)
  refine g_val (Nv .i64 0) ?_
  refine g_nil ?_
  simp only [Act.put, List.setIfInBounds_toArray, List.set_cons_succ, List.set_cons_zero]
  have HW := hide (WrS.new (M' := []) hO)
  clear hO
  go_wp2_with (fail)
  go_loopw [7] (fun x7 wr => ∃ (k X c : Nat), k ≤ n ∧ k ≤ 50 ∧ x7 = .int .i64 (k : Int) ∧ c ≤ 32 * k ∧ WrS w wr [] n18 X c) (fun x7 _ => 50 - (intOf x7).toNat)
  case atStart => exact ⟨0, 0, 0, Nat.zero_le _, Nat.zero_le _, rfl, Nat.le_refl _, HW.out⟩
  case round =>
    clear HW
    obtain ⟨k, X, c, hkn, hk50, rfl, hinv, hW⟩ := hrel
    have HW := hide hW
    clear hW
    by_cases hz : k < n ∧ k < 50
    · have hc39 : c < 2 ^ 39 := by omega
      obtain ⟨a, rfl, hv, hb, hp⟩ := hs.at (show k < n by omega)
      obtain ⟨ad, had⟩ : ∃ ad, Hid (a.add (k * 3) = ad) := ⟨_, hide rfl⟩
      rw [had.out] at hv hb hp
      go_upto_region 6 with (fail)
      refine wp_region_list (WL.out ?_)
      refine g_val (Nv .i64 k) ?_
      refine g_val (.slice (some a) n c0) ?_
      refine g_val (Nv .i64 n) ?_
      refine g_val (.bool true) ?_ (B.lss_int (a := k) (c := n) (b := true) (decide_eq_true hz.1) wr)
      refine g_val (.bool true) ?_
      refine g_val (Nv .i64 k) ?_
      refine g_val (.bool true) ?_ (B.lss_int (a := k) (c := 50) (b := true) (decide_eq_true hz.2) wr)
      refine g_val (.bool true) ?_
      refine g_nil ?_
      simp only [Act.put, List.setIfInBounds_toArray, List.set_cons_succ, List.set_cons_zero]
      go_upto_region 8 with (fail)
      refine Rg.pd [11] (fun _ => [(29, D n18), (30, .slice (some a) n c0), (31, Nv .i64 k), (32, .pointer (some ad)), (33, .pointer (some ad)), (34, Nv .u64 (V k)), (35, .slice (some a) n c0), (36, Nv .i64 k), (37, .pointer (some ad)), (38, .pointer (some (ad.add 1))), (39, .int .i64 (Z k)), (40, Nv .i64 (nE (V k) (Z k)))]) (PI [fun wz => WrS w wz [] n18 X c, fun wz => WrS w wz [] n18 (nX X c (V k) (Z k)) (nC c (V k) (Z k))]) (fun _ => 0) (HW.out.drew) (Rg.ac nv (Rg.ac nv (Rg.ac nv (Rg.ac (nx (fun _ => .pointer (some ad)) (fun _ w => had.out ▸ b_ix (n := n) (c := c0) (k := k) (s := 3) (show k < n by omega) Try.underlying23 sz_call w)) (Rg.ac nv (Rg.ac (kca (Nv .u64 (V k)) (fun s _ w2 h => match s, h with | 0, h => WrS.low h | 1, h => WrS.low h | _ + 2, h => h.elim) (hv) B.agg_u64) (Rg.ac nv (Rg.ac nv (Rg.ac (nx (fun _ => .pointer (some ad)) (fun _ w => had.out ▸ b_ix (n := n) (c := c0) (k := k) (s := 3) (show k < n by omega) Try.underlying23 sz_call w)) (Rg.ac nv (Rg.ac (kca (.int .i64 (Z k)) (fun s _ w2 h => match s, h with | 0, h => WrS.low h | 1, h => WrS.low h | _ + 2, h => h.elim) (hb) B.agg_int) (Rg.ac (kc 0 10 (fun _ => #[D n18, Nv .u64 (V k), .int .i64 (Z k)]) (fun _ => Nv .i64 (nE (V k) (Z k))) (fun _ w3 h => WPutA (V k) (Z k) hc39 n18 w [] w3 h)) Rg.an)))))))))))) ?_
      intro ν w3 hI
      replace hI : WrS w w3 [] n18 (nX X c (V k) (Z k)) (nC c (V k) (Z k)) := hI
      clear ν
      simp only [Rg.putL, Act.put, List.setIfInBounds_toArray, List.set_cons_succ, List.set_cons_zero]
      have HI := hide hI
      clear hI HW
      have hle := nC_le c (V k) (Z k)
      have hge := nC_ge c (V k) (Z k)
      go_upto_region 7 with (fail)
      refine wp_region_list (WL.out ?_)
      refine g_val (Nv .i64 k) ?_
      refine g_val (Nv .i64 (k + 1)) ?_ (B.add_int (a := k) (c := 1) (d := k + 1) rfl (by omega) w3)
      refine g_val (Nv .i64 (k + 1)) ?_
      refine g_nil ?_
      simp only [Act.put, List.setIfInBounds_toArray, List.set_cons_succ, List.set_cons_zero]
      go_wp2_with (fail)
      go_roundw
      case rel => exact ⟨k + 1, _, _, by omega, by omega, rfl, by omega, HI.out⟩
      case measure => show 50 - ((k + 1 : Nat) : Int).toNat < 50 - ((k : Nat) : Int).toNat; omega
    · have hz' : ¬ (k < n ∧ k < 50) := hz
      go_upto_region 6 with (fail)
      refine reg_ways (fun x : Value × Value × Value × Value => Fr [.slice S n c0, .slice S' n' c0', U, U, .bool false, .bool true, D n18, Nv .i64 k, U, U, U, U, U, U, .bool true, .bool true, .bool false, A (wc none (fun _ => 0) 0), D n18, Nv .i64 k, .slice S n c0, Nv .i64 n, x.1, x.2.1, x.2.2.1, x.2.2.2, .bool false, u27, u28, u29, u30, u31, u32, u33, u34, u35, u36, u37, u38, u39, u40, U, U, U, U, U, U, U, U, U, U, U, U, U, U, U, U, U, U, U, U, U, U, U, U, U, U, U, U, U, U, U, U, U, U, U, U, U, U, U, U, U, U, U, U, U, U, U, U, U, U, U, U, U, U, U, U]) ?_ ?_
      · intro H
        by_cases hn9 : k < n
        · refine wp_region_list (WL.out ?_)
          refine g_val (Nv .i64 k) ?_
          refine g_val (.slice S n c0) ?_
          refine g_val (Nv .i64 n) ?_
          refine g_val (.bool true) ?_ (B.lss_int (a := k) (c := n) (b := true) (decide_eq_true hn9) wr)
          refine g_val (.bool true) ?_
          refine g_val (Nv .i64 k) ?_
          refine g_val (.bool false) ?_ (B.lss_int (a := k) (c := 50) (b := false) (decide_eq_false (by omega)) wr)
          refine g_val (.bool false) ?_
          refine g_nil ?_
          simp only [Act.put, List.setIfInBounds_toArray, List.set_cons_succ, List.set_cons_zero]
          exact H (.bool true, .bool true, Nv .i64 k, .bool false)
        · refine wp_region_list (WL.out ?_)
          refine g_val (Nv .i64 k) ?_
          refine g_val (.slice S n c0) ?_
          refine g_val (Nv .i64 n) ?_
          refine g_val (.bool false) ?_ (B.lss_int (a := k) (c := n) (b := false) (decide_eq_false hn9) wr)
          refine g_val (.bool false) ?_
          refine g_skip ?_
          refine g_skip ?_
          refine g_val (.bool false) ?_
          refine g_nil ?_
          simp only [Act.put, List.setIfInBounds_toArray, List.set_cons_succ, List.set_cons_zero]
          exact H (.bool false, .bool false, U, U)
      rintro ⟨x22, x23, x24, x25⟩
      dsimp only
      clear hs hz hz' hkn
      have hc1 : c ≤ 1600 := by omega
      obtain ⟨X1, hX1⟩ : ∃ X1, X1 = X := ⟨_, rfl⟩
      obtain ⟨c1, hc1e⟩ : ∃ c1, c1 = c := ⟨_, rfl⟩
      obtain ⟨k1, hk1⟩ : ∃ k1 : Nat, k1 = k := ⟨_, rfl⟩
      rw [← hk1]
      clear hk1
      rw [← hX1, ← hc1e] at HW
      rw [← hc1e] at hc1
      clear hX1 hc1e hinv hk50 X c
      obtain ⟨m, hm⟩ : ∃ m, m = (c1 + 7) / 8 := ⟨_, rfl⟩
      have Hm := hide hm
      clear hm
      go_upto_region 9 with (fail)
      refine wp_region_list (WL.out ?_)
      refine g_val (D n18) ?_
      refine g_any 13 #[D n18] (WBytes (n := m) Hm.out (by omega) n18 w [] wr HW.out) ?_
      rintro _ w3 ⟨q, rfl, hW⟩
      refine g_val (.slice (some ⟨q, 0, none⟩) m m) ?_
      refine g_nil ?_
      simp only [Act.put, List.setIfInBounds_toArray, List.set_cons_succ, List.set_cons_zero]
      clear HW
      have HW := hide hW
      clear hW
      replace HW : Hid (WrS w w3 [(q, vals .u8 m (byt X1), 5)] n18 X1 c1) := HW
      go_upto_region 10 with (fail)
      refine wp_region_list (WL.out ?_)
      refine g_val (.slice (some ⟨q, 0, none⟩) m m) ?_
      refine g_val (.string (sk m (byt X1))) ?_ (b_str (n := m) (c := m) w3 (rc_row (HW.out.row 0 rfl) fun i hi => by rw [Nat.zero_add]; exact vals_get _ _ _ _ hi) (fun i => M.byt_lt X1 i))
      refine g_val (.string (sk m (byt X1))) ?_
      refine g_nil ?_
      simp only [Act.put, List.setIfInBounds_toArray, List.set_cons_succ, List.set_cons_zero]
      go_upto_region 11 with (fail)
      refine wp_region_list (WL.out ?_)
      refine g_val (D n18) ?_
      refine g_ret 12 #[D n18] (Nv .i64 c1) (WCount n18 w [(q, vals .u8 m (byt X1), 5)] w3 HW.out) ?_
      intro w4 hbb
      refine g_val (Nv .i64 c1) ?_
      refine g_nil ?_
      simp only [Act.put, List.setIfInBounds_toArray, List.set_cons_succ, List.set_cons_zero]
      replace HW := hide (HW.out.call hbb)
      clear hbb
      go_upto_region 12 with (fail)
      refine wp_region_list (WL.out ?_)
      refine g_val (Nv .i64 0) ?_
      refine g_nil ?_
      simp only [Act.put, List.setIfInBounds_toArray, List.set_cons_succ, List.set_cons_zero]
      go_wp2_with (fail)
      go_loopw [11] (fun x11 wr => ∃ (k X c : Nat), k ≤ n' ∧ k ≤ 50 ∧ x11 = .int .i64 (k : Int) ∧ (c1 ≤ c ∧ c ≤ c1 + 32 * k ∧ X % 2 ^ c1 = X1) ∧ WrS w wr [(q, vals .u8 m (byt X1), 5)] n18 X c) (fun x11 _ => 50 - (intOf x11).toNat)
      case atStart => exact ⟨0, X1, c1, Nat.zero_le _, Nat.zero_le _, rfl, ⟨Nat.le_refl _, Nat.le_refl _, Nat.mod_eq_of_lt HW.out.1⟩, HW.out⟩
      case round =>
        clear HW
        obtain ⟨k, X, c, hkn, hk50, rfl, hinv, hW⟩ := hrel
        have HW := hide hW
        clear hW
        by_cases hz : k < n' ∧ k < 50
        · have hc39 : c < 2 ^ 39 := by omega
          obtain ⟨a, rfl, hv, hb, hp⟩ := hs'.at (show k < n' by omega)
          obtain ⟨ad, had⟩ : ∃ ad, Hid (a.add (k * 3) = ad) := ⟨_, hide rfl⟩
          rw [had.out] at hv hb hp
          go_upto_region 13 with (fail)
          refine wp_region_list (WL.out ?_)
          refine g_val (Nv .i64 k) ?_
          refine g_val (.slice (some a) n' c0') ?_
          refine g_val (Nv .i64 n') ?_
          refine g_val (.bool true) ?_ (B.lss_int (a := k) (c := n') (b := true) (decide_eq_true hz.1) wr)
          refine g_val (.bool true) ?_
          refine g_val (Nv .i64 k) ?_
          refine g_val (.bool true) ?_ (B.lss_int (a := k) (c := 50) (b := true) (decide_eq_true hz.2) wr)
          refine g_val (.bool true) ?_
          refine g_nil ?_
          simp only [Act.put, List.setIfInBounds_toArray, List.set_cons_succ, List.set_cons_zero]
          go_upto_region 15 with (fail)
          refine Rg.pd [11] (fun _ => [(57, D n18), (58, .slice (some a) n' c0'), (59, Nv .i64 k), (60, .pointer (some ad)), (61, .pointer (some ad)), (62, Nv .u64 (V' k)), (63, .slice (some a) n' c0'), (64, Nv .i64 k), (65, .pointer (some ad)), (66, .pointer (some (ad.add 1))), (67, .int .i64 (Z' k)), (68, Nv .i64 (nE (V' k) (Z' k)))]) (PI [fun wz => WrS w wz [(q, vals .u8 m (byt X1), 5)] n18 X c, fun wz => WrS w wz [(q, vals .u8 m (byt X1), 5)] n18 (nX X c (V' k) (Z' k)) (nC c (V' k) (Z' k))]) (fun _ => 0) (HW.out.drew) (Rg.ac nv (Rg.ac nv (Rg.ac nv (Rg.ac (nx (fun _ => .pointer (some ad)) (fun _ w => had.out ▸ b_ix (n := n') (c := c0') (k := k) (s := 3) (show k < n' by omega) Try.underlying23 sz_call w)) (Rg.ac nv (Rg.ac (kca (Nv .u64 (V' k)) (fun s _ w2 h => match s, h with | 0, h => WrS.low h | 1, h => WrS.low h | _ + 2, h => h.elim) (hv) B.agg_u64) (Rg.ac nv (Rg.ac nv (Rg.ac (nx (fun _ => .pointer (some ad)) (fun _ w => had.out ▸ b_ix (n := n') (c := c0') (k := k) (s := 3) (show k < n' by omega) Try.underlying23 sz_call w)) (Rg.ac nv (Rg.ac (kca (.int .i64 (Z' k)) (fun s _ w2 h => match s, h with | 0, h => WrS.low h | 1, h => WrS.low h | _ + 2, h => h.elim) (hb) B.agg_int) (Rg.ac (kc 0 10 (fun _ => #[D n18, Nv .u64 (V' k), .int .i64 (Z' k)]) (fun _ => Nv .i64 (nE (V' k) (Z' k))) (fun _ w3 h => WPutA (V' k) (Z' k) hc39 n18 w [(q, vals .u8 m (byt X1), 5)] w3 h)) Rg.an)))))))))))) ?_
          intro ν w5 hI
          replace hI : WrS w w5 [(q, vals .u8 m (byt X1), 5)] n18 (nX X c (V' k) (Z' k)) (nC c (V' k) (Z' k)) := hI
          clear ν
          simp only [Rg.putL, Act.put, List.setIfInBounds_toArray, List.set_cons_succ, List.set_cons_zero]
          have HI := hide hI
          clear hI HW
          have hle := nC_le c (V' k) (Z' k)
          have hge := nC_ge c (V' k) (Z' k)
          go_upto_region 14 with (fail)
          refine wp_region_list (WL.out ?_)
          refine g_val (Nv .i64 k) ?_
          refine g_val (Nv .i64 (k + 1)) ?_ (B.add_int (a := k) (c := 1) (d := k + 1) rfl (by omega) w5)
          refine g_val (Nv .i64 (k + 1)) ?_
          refine g_nil ?_
          simp only [Act.put, List.setIfInBounds_toArray, List.set_cons_succ, List.set_cons_zero]
          go_wp2_with (fail)
          go_roundw
          case rel => exact ⟨k + 1, _, _, by omega, by omega, rfl, ⟨by omega, by omega, by rw [nX_mod hinv.1]; exact hinv.2.2⟩, HI.out⟩
          case measure => show 50 - ((k + 1 : Nat) : Int).toNat < 50 - ((k : Nat) : Int).toNat; omega
        · have hz' : ¬ (k < n' ∧ k < 50) := hz
          go_upto_region 13 with (fail)
          refine reg_ways (fun x : Value × Value × Value × Value => Fr [.slice S n c0, .slice S' n' c0', U, U, .bool false, .bool true, D n18, Nv .i64 k1, .slice (some ⟨q, 0, none⟩) m m, .string (sk m (byt X1)), Nv .i64 c1, Nv .i64 k, U, U, .bool true, .bool true, .bool false, A (wc none (fun _ => 0) 0), D n18, Nv .i64 k1, .slice S n c0, Nv .i64 n, x22, x23, x24, x25, .bool false, u27, u28, u29, u30, u31, u32, u33, u34, u35, u36, u37, u38, u39, u40, D n18, .slice (some ⟨q, 0, none⟩) m m, .slice (some ⟨q, 0, none⟩) m m, .string (sk m (byt X1)), D n18, Nv .i64 c1, Nv .i64 k, .slice S' n' c0', Nv .i64 n', x.1, x.2.1, x.2.2.1, x.2.2.2, .bool false, u55, u56, u57, u58, u59, u60, u61, u62, u63, u64, u65, u66, u67, u68, U, U, U, U, U, U, U, U, U, U, U, U, U, U, U, U, U, U, U, U, U, U, U, U, U, U, U, U]) ?_ ?_
          · intro H
            by_cases hn9 : k < n'
            · refine wp_region_list (WL.out ?_)
              refine g_val (Nv .i64 k) ?_
              refine g_val (.slice S' n' c0') ?_
              refine g_val (Nv .i64 n') ?_
              refine g_val (.bool true) ?_ (B.lss_int (a := k) (c := n') (b := true) (decide_eq_true hn9) wr)
              refine g_val (.bool true) ?_
              refine g_val (Nv .i64 k) ?_
              refine g_val (.bool false) ?_ (B.lss_int (a := k) (c := 50) (b := false) (decide_eq_false (by omega)) wr)
              refine g_val (.bool false) ?_
              refine g_nil ?_
              simp only [Act.put, List.setIfInBounds_toArray, List.set_cons_succ, List.set_cons_zero]
              exact H (.bool true, .bool true, Nv .i64 k, .bool false)
            · refine wp_region_list (WL.out ?_)
              refine g_val (Nv .i64 k) ?_
              refine g_val (.slice S' n' c0') ?_
              refine g_val (Nv .i64 n') ?_
              refine g_val (.bool false) ?_ (B.lss_int (a := k) (c := n') (b := false) (decide_eq_false hn9) wr)
              refine g_val (.bool false) ?_
              refine g_skip ?_
              refine g_skip ?_
              refine g_val (.bool false) ?_
              refine g_nil ?_
              simp only [Act.put, List.setIfInBounds_toArray, List.set_cons_succ, List.set_cons_zero]
              exact H (.bool false, .bool false, U, U)
          rintro ⟨x50, x51, x52, x53⟩
          dsimp only
          obtain ⟨hc1c, hcc, hXX⟩ := hinv
          obtain ⟨m2, hm2⟩ : ∃ m2, m2 = (c + 7) / 8 := ⟨_, rfl⟩
          have hmm : m ≤ m2 := by have := Hm.out; omega
          have hc40 : c < 2 ^ 40 := by omega
          have Hm2 := hide hm2
          clear hm2 hs' hz hz' hkn hk50
          go_upto_region 16 with (fail)
          refine wp_region_list (WL.out ?_)
          refine g_val (D n18) ?_
          refine g_any 13 #[D n18] (WBytes (n := m2) Hm2.out hc40 n18 w [(q, vals .u8 m (byt X1), 5)] wr HW.out) ?_
          rintro _ w5 ⟨q2, rfl, hW⟩
          refine g_val (.slice (some ⟨q2, 0, none⟩) m2 m2) ?_
          refine g_nil ?_
          simp only [Act.put, List.setIfInBounds_toArray, List.set_cons_succ, List.set_cons_zero]
          clear HW
          have hO : Own w w5 [(q, vals .u8 m (byt X1), 5), (q2, vals .u8 m2 (byt X), 5)] := hW.own
          clear hW
          go_upto_region 17 with (fail)
          refine wp_region_list (WL.out ?_)
          refine g_val (.slice (some ⟨q, 0, none⟩) m m) ?_
          refine g_val (.string (sk m (byt X1))) ?_ (b_str (n := m) (c := m) w5 (rc_row (hO.row 0 rfl) fun i hi => by rw [Nat.zero_add]; exact vals_get _ _ _ _ hi) (fun i => M.byt_lt X1 i))
          refine g_val (.string (sk m (byt X1))) ?_
          refine g_val (.bool false) ?_ (b_sne (s := sk m (byt X1)) (t := sk m (byt X1)) (b := true) (by simp) w5)
          refine g_val (.bool false) ?_
          refine g_val (.slice (some ⟨q2, 0, none⟩) m2 m2) ?_
          refine g_val (Nv .i64 m2) ?_
          refine g_val (.slice (some ⟨q, 0, none⟩) m m) ?_
          refine g_val (Nv .i64 m) ?_
          refine g_val (.bool false) ?_ (B.lss_int (a := m2) (c := m) (b := false) (decide_eq_false (by omega)) w5)
          refine g_val (.bool false) ?_
          refine g_nil ?_
          simp only [Act.put, List.setIfInBounds_toArray, List.set_cons_succ, List.set_cons_zero]
          go_upto_region 19 with (fail)
          refine wp_region_list (WL.out ?_)
          refine g_val (Nv .i64 0) ?_
          refine g_nil ?_
          simp only [Act.put, List.setIfInBounds_toArray, List.set_cons_succ, List.set_cons_zero]
          have HO := hide hO
          clear hO
          go_wp2_with (fail)
          go_loopw [13] (fun x13 wr => ∃ (k : Nat), k ≤ c1 / 8 ∧ x13 = .int .i64 (k : Int) ∧ Own w wr [(q, vals .u8 m (byt X1), 5), (q2, vals .u8 m2 (byt X), 5)]) (fun x13 _ => c1 / 8 - (intOf x13).toNat)
          case atStart => exact ⟨0, Nat.zero_le _, rfl, HO.out⟩
          case round =>
            clear HO
            obtain ⟨k, hk, rfl, hO⟩ := hrel
            by_cases hz : k < c1 / 8
            · have hkm : k < m := by have := Hm.out; omega
              have hkm2 : k < m2 := by omega
              have he : byt X k = byt X1 k := by rw [← hXX]; exact (byt_mod (by omega)).symm
              go_upto_region 20 with (fail)
              refine wp_region_list (WL.out ?_)
              refine g_val (Nv .i64 k) ?_
              refine g_val (Nv .i64 c1) ?_
              refine g_val (Nv .i64 (c1 / 8)) ?_ (B.quo_int (a := c1) (c := 8) (d := c1 / 8) rfl (by omega) (by omega) wr)
              refine g_val (.bool true) ?_ (B.lss_int (a := k) (c := c1 / 8) (b := true) (decide_eq_true hz) wr)
              refine g_nil ?_
              simp only [Act.put, List.setIfInBounds_toArray, List.set_cons_succ, List.set_cons_zero]
              have hB := hO.row 0 rfl
              have hB2 := hO.row 1 rfl
              have HO := hide hO
              clear hO
              have hO := Own.start wr
              go_upto_region 22 with (fail)
              refine Rg.pd [] (fun ν => [(88, .slice (some ⟨q2, 0, none⟩) m2 m2), (89, Nv .i64 k), (90, E q2 k), (91, Nv .u8 (byt X k)), (92, .slice (some ⟨q, 0, none⟩) m m), (93, Nv .i64 k), (94, E q k), (95, Nv .u8 (byt X1 k)), (96, .bool false)]) (OI wr (fun _ _ => [])) (fun _ => 0) hO.drew (Rg.ac nv (Rg.ac nv (Rg.ac (nx (fun _ => E q2 k) (fun _ w => b_ias (n := m2) (c := m2) hkm2 w)) (Rg.ac (nca (Nv .u8 (byt X k)) (fun w' h => ((hB2.call h).cell _).trans (vals_get _ _ _ _ hkm2)) B.agg_u8) (Rg.ac nv (Rg.ac nv (Rg.ac (nx (fun _ => E q k) (fun _ w => b_ias (n := m) (c := m) hkm w)) (Rg.ac (nca (Nv .u8 (byt X1 k)) (fun w' h => ((hB.call h).cell _).trans (vals_get _ _ _ _ hkm)) B.agg_u8) (Rg.ac (nx (fun _ => .bool false) (fun _ w => B.neq_u8 (a := byt X k) (c := byt X1 k) (b := false) (decide_eq_false (by rw [he]; exact fun h => h rfl)) w)) Rg.an))))))))) ?_
              intro ν w6 hO
              replace hO : Own wr w6 [] := hO
              simp only [Rg.putL, Act.put, List.setIfInBounds_toArray, List.set_cons_succ, List.set_cons_zero]
              clear ν
              replace HO := hide (HO.out.call hO.low)
              clear hO hB hB2
              go_upto_region 21 with (fail)
              refine wp_region_list (WL.out ?_)
              refine g_val (Nv .i64 k) ?_
              refine g_val (Nv .i64 (k + 1)) ?_ (B.add_int (a := k) (c := 1) (d := k + 1) rfl (by omega) w6)
              refine g_val (Nv .i64 (k + 1)) ?_
              refine g_nil ?_
              simp only [Act.put, List.setIfInBounds_toArray, List.set_cons_succ, List.set_cons_zero]
              go_wp2_with (fail)
              go_roundw
              case rel => exact ⟨k + 1, hz, rfl, HO.out⟩
              case measure => show c1 / 8 - ((k + 1 : Nat) : Int).toNat < c1 / 8 - ((k : Nat) : Int).toNat; omega
            · have HF := hide hO.low
              clear hO
              go_upto_region 20 with (fail)
              refine wp_region_list (WL.out ?_)
              refine g_val (Nv .i64 k) ?_
              refine g_val (Nv .i64 c1) ?_
              refine g_val (Nv .i64 (c1 / 8)) ?_ (B.quo_int (a := c1) (c := 8) (d := c1 / 8) rfl (by omega) (by omega) wr)
              refine g_val (.bool false) ?_ (B.lss_int (a := k) (c := c1 / 8) (b := false) (decide_eq_false hz) wr)
              refine g_nil ?_
              simp only [Act.put, List.setIfInBounds_toArray, List.set_cons_succ, List.set_cons_zero]
              go_upto_region 24 with (fail)
              refine wp_region_list (WL.out ?_)
              refine g_val (.bool true) ?_
              refine g_nil ?_
              simp only [Act.put, List.setIfInBounds_toArray, List.set_cons_succ, List.set_cons_zero]
              go_wp2_with (fail)
              go_ret
              exact ⟨rfl, HF.out⟩
end W
end Go.Proofs.Ytacopggeidbnbaa

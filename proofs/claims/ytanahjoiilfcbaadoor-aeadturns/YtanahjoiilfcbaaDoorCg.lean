/- Walks: Stream. At most two thousand bytes below 256; the variable places as it is laid. -/
import Derived.Test.YtanahjoiilfcbaaDoorCs
namespace Go.Proofs.YtanahjoiilfcbaaDoor.C
set_option maxRecDepth 100000
open Go.RowKit Rg

/-- k bytes turned. -/
def mx (f : Nat → Nat) (k j : Nat) : Nat := if j < k then f j else 0
theorem mx_next (f : Nat → Nat) (k j : Nat) : (if j = k then f k else mx f k j) = mx f (k + 1) j := by
  unfold mx
  by_cases h : j = k
  · subst h; rw [if_pos rfl, if_pos (by omega)]
  · rw [if_neg h]
    by_cases h2 : j < k
    · rw [if_pos h2, if_pos (by omega)]
    · rw [if_neg h2, if_neg (by omega)]
theorem mx_set (f : Nat → Nat) (n k v : Nat) (hv : v = f k) : (vals .u8 n (mx f k)).setIfInBounds k (.int .u8 ((v : Nat) : Int)) = vals .u8 n (mx f (k + 1)) := by
  subst hv
  rw [vals_set]
  exact vals_congr _ _ _ _ fun j _ => mx_next f k j
/-- The block at hand behind k bytes. -/
def bh (key nonce : Nat → Nat) (cnt k : Nat) : Nat → Nat := if k = 0 then fun _ => 0 else bk key ((cnt + (k - 1) / 64) % 4294967296) nonce
theorem bh_zero (key nonce : Nat → Nat) (cnt : Nat) : bh key nonce cnt 0 = fun _ => 0 := by unfold bh; rw [if_pos rfl]
theorem mx_zero (f : Nat → Nat) : mx f 0 = fun _ => 0 := funext fun j => by unfold mx; rw [if_neg (by omega)]
theorem tm64 (k : Nat) : (k : Int).tmod 64 = ((k % 64 : Nat) : Int) := by rw [Int.tmod_eq_emod_of_nonneg (by omega)]; omega
theorem wr1 (k : Nat) (h : k < 4294967296) : wrap64 ((k : Int) + 1) = (k : Int) + 1 := by unfold wrap64; omega
theorem wr0 (k : Nat) (h : k < 4294967296) : IntKind.i64.wrap ((k : Int) + 1) = (k : Int) + 1 := by unfold IntKind.wrap; simp [IntKind.bits, IntKind.signed]; omega
theorem bh_lt (key nonce : Nat → Nat) (cnt k i : Nat) : bh key nonce cnt k i < 256 := by
  unfold bh
  by_cases h : k = 0
  · rw [if_pos h]; exact Nat.zero_lt_succ _
  · rw [if_neg h]; exact blk_lt _ _
theorem bh_next (key nonce : Nat → Nat) (cnt k : Nat) (h : k % 64 = 0) : bk key (ad cnt (k / 64)) nonce = bh key nonce cnt (k + 1) := by
  unfold bh ad
  rw [if_neg (by omega), Nat.add_sub_cancel]
theorem bh_same (key nonce : Nat → Nat) (cnt k : Nat) (h : ¬ k % 64 = 0) : bh key nonce cnt k = bh key nonce cnt (k + 1) := by
  unfold bh
  rw [if_neg (by omega), if_neg (by omega), show (k - 1) / 64 = (k + 1 - 1) / 64 by omega]
theorem sx_at (key nonce b : Nat → Nat) (cnt k : Nat) : b k ^^^ bh key nonce cnt (k + 1) (k % 64) = sx key cnt nonce b k := by
  unfold bh sx
  rw [if_neg (by omega), Nat.add_sub_cancel]
set_option maxHeartbeats 8000000 in
theorem stream_c (key nonce : Nat → Nat) (hk : ∀ i, key i < 256) (hn : ∀ i, nonce i < 256) (cnt : Nat) (hc : cnt < 4294967296) (S : Option Addr) (l : List Nat) (c : Nat) (hl : l.length ≤ 2000) (hlb : ∀ x ∈ l, x < 256) (w : World) (hG : Gl w 0 (vals .i64 32 pl)) (hS : Rds w S l) (hcn : cnt + (l.length + 63) / 64 ≤ 4294967296) :
    RetN 14 #[A (vals .u8 32 key), Nv .u32 cnt, A (vals .u8 12 nonce), .slice S l.length c] w (fun q => .tuple #[.slice (some ⟨q, 0, none⟩) l.length l.length, .int .i64 0]) (vals .u8 l.length (sx key cnt nonce (ge l))) 5 := by
  obtain ⟨n, hnl⟩ : ∃ n, Hid (n = l.length) := ⟨_, hide rfl⟩
  obtain ⟨b, hbl⟩ : ∃ b, Hid (b = ge l) := ⟨_, hide rfl⟩
  have hb : ∀ i, b i < 256 := by rw [hbl.out]; exact ge_lt hlb
  have hcell : ∀ (w' : World) (k : Nat), Below w.heap.size w w' → k < n → ∃ a, S = some a ∧ w'.cell? (a.add k) = some (.int .u8 ((b k : Nat) : Int)) := by
    intro w' k hbw hk2
    rw [hnl.out] at hk2
    rw [hbl.out]
    exact (hS.low hbw).cell hk2
  unfold RetN
  rw [← hnl.out, ← hbl.out]
  rw [← hnl.out] at hl hcn
  have Hl := hide hl
  have Hcn := hide hcn
  have Hcell := hide hcell
  have Hc := hide hc
  clear hl hcn hlb hS hcell hnl hbl
  go_enter Tryd.func14, Tryd.ntmps14
  have hO := Own.start w
  go_upto_region 0 with (fail)
  refine Rg.ps [0, 1] (fun ν => [(4, D (ν 0)), (6, D (ν 1)), (8, .slice none 0 0), (9, Nv .i64 0)]) (OI w (fun s ν => [[], [((ν 0), vals .u8 32 key, 23)], [((ν 0), vals .u8 32 key, 23), ((ν 1), vals .u8 12 nonce, 24)]].getD s [])) (fun _ => 0) hO (Rg.ac (sn 0 (fun _ => vals .u8 32 key) 23 (fun _ w => run_box 23 _ rfl _ (by kernel_rfl) w) (fun _ => fit_b32 _)) (Rg.ac (sn 1 (fun _ => vals .u8 12 nonce) 24 (fun _ w => run_box 24 _ rfl _ (by kernel_rfl) w) (fun _ => fit_b12 _)) (Rg.ac nv (Rg.ac nv Rg.an)))) ?_
  intro ν w1 hO
  replace hO : Own w w1 [((ν 0), vals .u8 32 key, 23), ((ν 1), vals .u8 12 nonce, 24)] := hO
  simp only [Rg.putL, Act.put, List.setIfInBounds_toArray, List.set_cons_succ, List.set_cons_zero]
  generalize ν 0 = n4 at hO ⊢
  generalize ν 1 = n6 at hO ⊢
  clear ν
  have hl := Hl.out
  have hcn := Hcn.out
  have hc := Hc.out
  obtain ⟨bn, hbn⟩ : ∃ m, m = (n + 63) / 64 := ⟨_, rfl⟩
  have g1 : IntKind.u64.wrap (n : Int) = (n : Int) := by rw [wrap_u64']; omega
  have g2 : IntKind.u64.wrap ((n : Int) + 64) = (n : Int) + 64 := by rw [wrap_u64']; omega
  have g3 : IntKind.u64.wrap ((n : Int) + 64 - 1) = (n : Int) + 63 := by rw [wrap_u64']; omega
  have g9 : IntKind.u64.wrap ((n : Int) + 63) = (n : Int) + 63 := by rw [wrap_u64']; omega
  have g4 : ((n : Int) + 63).tdiv 64 = (bn : Int) := by rw [Int.tdiv_eq_ediv_of_nonneg (by omega)]; omega
  have g7 : IntKind.u64.wrap (bn : Int) = (bn : Int) := by rw [wrap_u64']; omega
  have g5 : IntKind.u64.wrap (cnt : Int) = (cnt : Int) := by rw [wrap_u64']; omega
  have g6 : IntKind.u64.wrap ((cnt : Int) + (bn : Int)) = (cnt : Int) + (bn : Int) := by rw [wrap_u64']; omega
  have g8 : ¬ 4294967296 < (cnt : Int) + (bn : Int) := by omega
  clear hl hcn hc hbn
  go_upto_region 4 with (fail)
  refine Rg.ps [2] (fun ν => [(26, .slice S n c), (27, Nv .i64 n), (28, .slice (some ⟨(ν 2), 0, none⟩) n n), (11, .slice (some ⟨(ν 2), 0, none⟩) n n)]) (OI w (fun s ν => [[(n4, vals .u8 32 key, 23), (n6, vals .u8 12 nonce, 24)], [(n4, vals .u8 32 key, 23), (n6, vals .u8 12 nonce, 24), ((ν 2), vals .u8 n (fun _ => 0), 5)]].getD s [])) (fun _ => 0) hO (Rg.ac nv (Rg.ac nv (Rg.ac (sv 0 (fun _ q => .slice (some ⟨q, 0, none⟩) n n) (fun _ => vals .u8 n (fun _ => 0)) 5 (fun _ w => b_mk (by have := Hl.out; omega) w) (fun _ => fit_sl _ _)) (Rg.ac nv Rg.an)))) ?_
  intro ν w2 hO
  replace hO : Own w w2 [(n4, vals .u8 32 key, 23), (n6, vals .u8 12 nonce, 24), ((ν 2), vals .u8 n (fun _ => 0), 5)] := hO
  simp only [Rg.putL, Act.put, List.setIfInBounds_toArray, List.set_cons_succ, List.set_cons_zero]
  generalize ν 2 = n28 at hO ⊢
  clear ν
  clear g1 g2 g3 g4 g5 g6 g7 g8 g9
  go_upto_region 5 with (fail)
  refine Rg.ps [0] (fun ν => [(12, D (ν 0))]) (OI w (fun s ν => [[(n4, vals .u8 32 key, 23), (n6, vals .u8 12 nonce, 24), (n28, vals .u8 n (fun _ => 0), 5)], [(n4, vals .u8 32 key, 23), (n6, vals .u8 12 nonce, 24), (n28, vals .u8 n (fun _ => 0), 5), ((ν 0), vals .u8 64 (fun _ => 0), 39)]].getD s [])) (fun _ => 0) hO (Rg.ac (sn 0 (fun _ => vals .u8 64 (fun _ => 0)) 39 (fun _ w => al30 rfl w) (fun _ => fit_b64 _)) Rg.an) ?_
  intro ν w3 hO
  replace hO : Own w w3 [(n4, vals .u8 32 key, 23), (n6, vals .u8 12 nonce, 24), (n28, vals .u8 n (fun _ => 0), 5), ((ν 0), vals .u8 64 (fun _ => 0), 39)] := hO
  simp only [Rg.putL, Act.put, List.setIfInBounds_toArray, List.set_cons_succ, List.set_cons_zero]
  generalize ν 0 = n12 at hO ⊢
  clear ν
  have HO : Hid (Own w w3 [(n4, vals .u8 32 key, 23), (n6, vals .u8 12 nonce, 24), (n28, vals .u8 n (mx (sx key cnt nonce b) 0), 5), (n12, vals .u8 64 (bh key nonce cnt 0), 39)]) := hide (by rw [mx_zero, bh_zero]; exact hO)
  clear hO
  go_wp2_with (fail)
  go_loopw [31] (fun i wr => ∃ k : Nat, k ≤ n ∧ i = .int .i64 k ∧ Own w wr [(n4, vals .u8 32 key, 23), (n6, vals .u8 12 nonce, 24), (n28, vals .u8 n (mx (sx key cnt nonce b) k), 5), (n12, vals .u8 64 (bh key nonce cnt k), 39)]) (fun i _ => n - (intOf i).toNat)
  case atStart => exact ⟨0, by omega, rfl, HO.out⟩
  case round =>
    obtain ⟨k, hkn, rfl, hO⟩ := hrel
    have hl := Hl.out
    have hcn := Hcn.out
    by_cases hlt : k < n
    · have hq0 : (0 : Int) ≤ (k : Int) := by omega
      have hq1 : (k : Int) < (n : Int) := by omega
      obtain ⟨a, rfl, cx⟩ := Hcell.out wr k hO.low hlt
      have hk9 : k < 4294967296 := by omega
      have hk40 : k < 2 ^ 40 := by omega
      have hkd : k / 64 < 4294967296 := by omega
      have hkm : k % 64 < 64 := Nat.mod_lt _ (by omega)
      have hm1 : (k : Int).tmod 64 = ((k % 64 : Nat) : Int) := tm64 k
      have hw1 : wrap64 ((k : Int) + 1) = (k : Int) + 1 := wr1 k hk9
      have hw0 : IntKind.i64.wrap ((k : Int) + 1) = (k : Int) + 1 := wr0 k hk9
      clear hl hcn
      by_cases h64 : k % 64 = 0
      · have hz : ((k % 64 : Nat) : Int) = 0 := by rw [h64]; rfl
        have hG2 := hG
        clear hG
        go_upto_region 10 with (fail)
        clear hm1 hz
        refine Rg.ps [7, 8] (fun _ => [(39, A (vals .u8 32 key)), (40, Nv .u32 cnt), (41, Nv .i64 k), (42, Nv .i64 (k / 64)), (43, Nv .u32 (k / 64)), (44, Nv .u32 (ad cnt (k / 64))), (45, A (vals .u8 12 nonce)), (46, A (vals .u8 64 (bk key (ad cnt (k / 64)) nonce)))]) (OI w (fun s ν => [[(n4, vals .u8 32 key, 23), (n6, vals .u8 12 nonce, 24), (n28, vals .u8 n (mx (sx key cnt nonce b) k), 5), (n12, vals .u8 64 (bh key nonce cnt k), 39)], [(n4, vals .u8 32 key, 23), (n6, vals .u8 12 nonce, 24), (n28, vals .u8 n (mx (sx key cnt nonce b) k), 5), (n12, vals .u8 64 (bh key nonce cnt k), 39)], [(n4, vals .u8 32 key, 23), (n6, vals .u8 12 nonce, 24), (n28, vals .u8 n (mx (sx key cnt nonce b) k), 5), (n12, vals .u8 64 (bk key (ad cnt (k / 64)) nonce), 39)]].getD s [])) (fun _ => 0) hO (Rg.ac (nld 0 0 0 (at1 0 fun _ => by kernel_rfl) Tryd.underlying23) (Rg.ac nv (Rg.ac nv (Rg.ac (nx (fun _ => Nv .i64 (k / 64)) (fun _ w => b_quo64 hk40 w)) (Rg.ac (nx (fun _ => Nv .u32 (k / 64)) (fun _ w => b_c32 hkd w)) (Rg.ac (nx (fun _ => Nv .u32 (ad cnt (k / 64))) (fun _ w => b_add32 w)) (Rg.ac (nld 0 0 1 (at1 0 fun _ => by kernel_rfl) Tryd.underlying24) (Rg.ac (sq 0 19 (fun _ => #[A (vals .u8 32 key), Nv .u32 (ad cnt (k / 64)), A (vals .u8 12 nonce)]) (fun _ => A (vals .u8 64 (bk key (ad cnt (k / 64)) nonce))) (fun ν w hO => block_c key nonce hk hn (ad cnt (k / 64)) (ad_lt _ _) w (hG2.low hO.low))) (Rg.ac (sr 1 3 (fun _ => vals .u8 64 (bk key (ad cnt (k / 64)) nonce)) (fun _ => fit_b64 _)) Rg.an))))))))) ?_
        intro ν w4 hO
        replace hO : Own w w4 [(n4, vals .u8 32 key, 23), (n6, vals .u8 12 nonce, 24), (n28, vals .u8 n (mx (sx key cnt nonce b) k), 5), (n12, vals .u8 64 (bk key (ad cnt (k / 64)) nonce), 39)] := hO
        simp only [Rg.putL, Act.put, List.setIfInBounds_toArray, List.set_cons_succ, List.set_cons_zero]
        clear ν
        rw [bh_next key nonce cnt k h64] at hO
        go_upto_region 11 with (fail)
        refine Rg.ps [9] (fun _ => [(47, .slice (some ⟨n28, 0, none⟩) n n), (48, Nv .i64 k), (49, Nv .u8 (b k)), (50, Nv .i64 k), (51, Nv .i64 (k % 64)), (52, E n12 (k % 64)), (53, Nv .u8 (bh key nonce cnt (k + 1) (k % 64))), (54, Nv .u8 (b k ^^^ bh key nonce cnt (k + 1) (k % 64))), (55, E n28 k)]) (OI w (fun s ν => [[(n4, vals .u8 32 key, 23), (n6, vals .u8 12 nonce, 24), (n28, vals .u8 n (mx (sx key cnt nonce b) k), 5), (n12, vals .u8 64 (bh key nonce cnt (k + 1)), 39)], [(n4, vals .u8 32 key, 23), (n6, vals .u8 12 nonce, 24), (n28, vals .u8 n (mx (sx key cnt nonce b) (k + 1)), 5), (n12, vals .u8 64 (bh key nonce cnt (k + 1)), 39)]].getD s [])) (fun _ => 0) hO (Rg.ac nv (Rg.ac nv (Rg.ac nv (Rg.ac nv (Rg.ac (nx (fun _ => Nv .i64 (k % 64)) (fun _ w => b_rem64 w)) (Rg.ac (nx (fun _ => E n12 (k % 64)) (fun _ w => b_ia64 hkm w)) (Rg.ac (nc 0 0 3 (fun _ => (k % 64)) (fun _ => Nv .u8 (bh key nonce cnt (k + 1) (k % 64))) agg_u8 (fun _ => vals_get _ _ _ _ hkm) (at1 0 fun _ => by kernel_rfl)) (Rg.ac (nx (fun _ => Nv .u8 (b k ^^^ bh key nonce cnt (k + 1) (k % 64))) (fun _ w => b_xor8 (hb k) (bh_lt _ _ _ _ _) w)) (Rg.ac (nx (fun _ => E n28 k) (fun _ w => b_ias (c := n) hlt w)) (Rg.ac (sl 0 2 (fun _ => k) (fun _ => Nv .u8 (mx (sx key cnt nonce b) k k)) (fun _ => ((b k ^^^ bh key nonce cnt (k + 1) (k % 64) : Nat) : Int)) sz_u8 (fun _ => vals_get _ _ _ _ hlt) (fun _ => mx_set _ _ _ _ (sx_at key nonce b cnt k)) (fun _ => fit_sl _ _)) Rg.an)))))))))) ?_
        intro ν w5 hO
        replace hO : Own w w5 [(n4, vals .u8 32 key, 23), (n6, vals .u8 12 nonce, 24), (n28, vals .u8 n (mx (sx key cnt nonce b) (k + 1)), 5), (n12, vals .u8 64 (bh key nonce cnt (k + 1)), 39)] := hO
        simp only [Rg.putL, Act.put, List.setIfInBounds_toArray, List.set_cons_succ, List.set_cons_zero]
        clear ν
        have HO2 := hide hO
        clear hO
        go_wp2_with (fail)
        go_roundw
        case rel => exact ⟨k + 1, by omega, by go_num, HO2.out⟩
        case measure => simp [intOf]; omega
      · have hz : ¬ ((k % 64 : Nat) : Int) = 0 := fun h => h64 (Int.ofNat.inj h)
        rw [bh_same key nonce cnt k h64] at hO
        go_upto_region 11 with (fail)
        clear hm1 hz
        refine Rg.ps [9] (fun _ => [(47, .slice (some ⟨n28, 0, none⟩) n n), (48, Nv .i64 k), (49, Nv .u8 (b k)), (50, Nv .i64 k), (51, Nv .i64 (k % 64)), (52, E n12 (k % 64)), (53, Nv .u8 (bh key nonce cnt (k + 1) (k % 64))), (54, Nv .u8 (b k ^^^ bh key nonce cnt (k + 1) (k % 64))), (55, E n28 k)]) (OI w (fun s ν => [[(n4, vals .u8 32 key, 23), (n6, vals .u8 12 nonce, 24), (n28, vals .u8 n (mx (sx key cnt nonce b) k), 5), (n12, vals .u8 64 (bh key nonce cnt (k + 1)), 39)], [(n4, vals .u8 32 key, 23), (n6, vals .u8 12 nonce, 24), (n28, vals .u8 n (mx (sx key cnt nonce b) (k + 1)), 5), (n12, vals .u8 64 (bh key nonce cnt (k + 1)), 39)]].getD s [])) (fun _ => 0) hO (Rg.ac nv (Rg.ac nv (Rg.ac nv (Rg.ac nv (Rg.ac (nx (fun _ => Nv .i64 (k % 64)) (fun _ w => b_rem64 w)) (Rg.ac (nx (fun _ => E n12 (k % 64)) (fun _ w => b_ia64 hkm w)) (Rg.ac (nc 0 0 3 (fun _ => (k % 64)) (fun _ => Nv .u8 (bh key nonce cnt (k + 1) (k % 64))) agg_u8 (fun _ => vals_get _ _ _ _ hkm) (at1 0 fun _ => by kernel_rfl)) (Rg.ac (nx (fun _ => Nv .u8 (b k ^^^ bh key nonce cnt (k + 1) (k % 64))) (fun _ w => b_xor8 (hb k) (bh_lt _ _ _ _ _) w)) (Rg.ac (nx (fun _ => E n28 k) (fun _ w => b_ias (c := n) hlt w)) (Rg.ac (sl 0 2 (fun _ => k) (fun _ => Nv .u8 (mx (sx key cnt nonce b) k k)) (fun _ => ((b k ^^^ bh key nonce cnt (k + 1) (k % 64) : Nat) : Int)) sz_u8 (fun _ => vals_get _ _ _ _ hlt) (fun _ => mx_set _ _ _ _ (sx_at key nonce b cnt k)) (fun _ => fit_sl _ _)) Rg.an)))))))))) ?_
        intro ν w6 hO
        replace hO : Own w w6 [(n4, vals .u8 32 key, 23), (n6, vals .u8 12 nonce, 24), (n28, vals .u8 n (mx (sx key cnt nonce b) (k + 1)), 5), (n12, vals .u8 64 (bh key nonce cnt (k + 1)), 39)] := hO
        simp only [Rg.putL, Act.put, List.setIfInBounds_toArray, List.set_cons_succ, List.set_cons_zero]
        clear ν
        have HO2 := hide hO
        clear hO
        go_wp2_with (fail)
        go_roundw
        case rel => exact ⟨k + 1, by omega, by go_num, HO2.out⟩
        case measure => simp [intOf]; omega
    · have ek : k = n := by omega
      subst ek
      have hB : Blk wr n28 (vals .u8 k (sx key cnt nonce b)) 5 := (hO.row 2 rfl).cast (vals_congr _ _ _ _ fun j hj => if_pos hj)
      have hN := hO.new _ (List.mem_of_getElem? (show [(n4, vals .u8 32 key, 23), (n6, vals .u8 12 nonce, 24), (n28, vals .u8 k (mx (sx key cnt nonce b) k), 5), (n12, vals .u8 64 (bh key nonce cnt k), 39)][2]? = some (n28, vals .u8 k (mx (sx key cnt nonce b) k), 5) from rfl))
      have HF := hide (And.intro hO.low (And.intro hN hB))
      clear hO hB hN hl hcn
      go_wp2_with (fail)
      go_ret2
      exact ⟨n28, rfl, HF.out.1, HF.out.2.1, HF.out.2.2⟩
end Go.Proofs.YtanahjoiilfcbaaDoor.C

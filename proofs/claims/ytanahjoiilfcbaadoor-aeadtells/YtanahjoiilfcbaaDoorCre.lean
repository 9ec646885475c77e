/- Walks: the reference's Stream. At most two thousand bytes below 256. -/
import Derived.Test.YtanahjoiilfcbaaDoorCrd
namespace Go.Proofs.YtanahjoiilfcbaaDoor.C
set_option maxRecDepth 100000
open Go.RowKit Rg

set_option maxHeartbeats 4000000 in
theorem rstream_e (key nonce : Nat → Nat) (cnt : Nat) (hc : cnt < 4294967296) (S : Option Addr) (n c : Nat) (hl : n ≤ 2000) (w : World) (hcn : ¬ cnt + (n + 63) / 64 ≤ 4294967296) :
    Ret 16 #[A (vals .u8 32 key), Nv .u32 cnt, A (vals .u8 12 nonce), .slice S n c] w (.tuple #[.slice none 0 0, .int .i64 90]) := by
  have Hl := hide hl
  have Hcn := hide hcn
  have Hc := hide hc
  clear hl hcn
  go_enter Tryd.func16, Tryd.ntmps16
  have hO := Own.start w
  go_upto_region 0 with (fail)
  refine Rg.ps [0, 1] (fun ν => [(4, D (ν 0)), (6, D (ν 1)), (8, .slice none 0 0), (9, Nv .i64 0)]) (OI w (fun s ν => [[], [((ν 0), vals .u8 32 key, 23)], [((ν 0), vals .u8 32 key, 23), ((ν 1), vals .u8 12 nonce, 24)]].getD s [])) (fun _ => 0) hO (Rg.ac (sn 0 (fun _ => vals .u8 32 key) 23 (fun _ w => run_box 23 _ rfl _ (by kernel_rfl) w) (fun _ => fit_b32 _)) (Rg.ac (sn 1 (fun _ => vals .u8 12 nonce) 24 (fun _ w => run_box 24 _ rfl _ (by kernel_rfl) w) (fun _ => fit_b12 _)) (Rg.ac nv (Rg.ac nv Rg.an)))) ?_
  intro ν w1 hO
  replace hO : Own w w1 [((ν 0), vals .u8 32 key, 23), ((ν 1), vals .u8 12 nonce, 24)] := hO
  simp only [Rg.putL, Act.put, List.setIfInBounds_toArray, List.set_cons_succ, List.set_cons_zero]
  generalize ν 0 = n4 at hO ⊢
  generalize ν 1 = n6 at hO ⊢
  clear ν
  have hl := Hl.out
  have hcn := Hcn.out
  have hc := Hc.out
  obtain ⟨bn, hbn⟩ : ∃ m, m = (n + 63) / 64 := ⟨_, rfl⟩
  have g1 : IntKind.i64.wrap ((n : Int) + 63) = (n : Int) + 63 := by unfold IntKind.wrap; simp [IntKind.bits, IntKind.signed]; omega
  have g9 : wrap64 ((n : Int) + 63) = (n : Int) + 63 := by unfold wrap64; omega
  have g4 : ((n : Int) + 63).tdiv 64 = (bn : Int) := by rw [Int.tdiv_eq_ediv_of_nonneg (by omega)]; omega
  have g2 : IntKind.i64.wrap (bn : Int) = (bn : Int) := by unfold IntKind.wrap; simp [IntKind.bits, IntKind.signed]; omega
  have g3 : wrap64 (bn : Int) = (bn : Int) := by unfold wrap64; omega
  have g7 : IntKind.u64.wrap (bn : Int) = (bn : Int) := by rw [wrap_u64']; omega
  have g5 : IntKind.u64.wrap (cnt : Int) = (cnt : Int) := by rw [wrap_u64']; omega
  have g6 : IntKind.u64.wrap ((cnt : Int) + (bn : Int)) = (cnt : Int) + (bn : Int) := by rw [wrap_u64']; omega
  have g8 : 4294967296 < (cnt : Int) + (bn : Int) := by omega
  clear hl hcn hc hbn
  have HF := hide hO.low
  clear hO
  go_wp2_with (fail)
  go_ret2
  exact ⟨rfl, HF.out⟩
set_option maxHeartbeats 4000000 in
theorem rstream_z (key nonce : Nat → Nat) (cnt : Nat) (hc : cnt < 4294967296) (S : Option Addr) (c : Nat) (w : World) :
    Ret 16 #[A (vals .u8 32 key), Nv .u32 cnt, A (vals .u8 12 nonce), .slice S 0 c] w (.tuple #[.slice none 0 0, .int .i64 0]) := by
  have Hc := hide hc
  go_enter Tryd.func16, Tryd.ntmps16
  have hO := Own.start w
  go_upto_region 0 with (fail)
  refine Rg.ps [0, 1] (fun ν => [(4, D (ν 0)), (6, D (ν 1)), (8, .slice none 0 0), (9, Nv .i64 0)]) (OI w (fun s ν => [[], [((ν 0), vals .u8 32 key, 23)], [((ν 0), vals .u8 32 key, 23), ((ν 1), vals .u8 12 nonce, 24)]].getD s [])) (fun _ => 0) hO (Rg.ac (sn 0 (fun _ => vals .u8 32 key) 23 (fun _ w => run_box 23 _ rfl _ (by kernel_rfl) w) (fun _ => fit_b32 _)) (Rg.ac (sn 1 (fun _ => vals .u8 12 nonce) 24 (fun _ w => run_box 24 _ rfl _ (by kernel_rfl) w) (fun _ => fit_b12 _)) (Rg.ac nv (Rg.ac nv Rg.an)))) ?_
  intro ν w1 hO
  replace hO : Own w w1 [((ν 0), vals .u8 32 key, 23), ((ν 1), vals .u8 12 nonce, 24)] := hO
  simp only [Rg.putL, Act.put, List.setIfInBounds_toArray, List.set_cons_succ, List.set_cons_zero]
  generalize ν 0 = n4 at hO ⊢
  generalize ν 1 = n6 at hO ⊢
  clear ν
  have g5 : IntKind.u64.wrap (cnt : Int) = (cnt : Int) := by rw [wrap_u64']; omega
  have g8 : ¬ 4294967296 < (cnt : Int) := by omega
  have g4 : (63 : Int).tdiv 64 = 0 := by decide
  go_upto_region 4 with (fail)
  clear g5 g8 g4
  refine Rg.ps [1, 2] (fun ν => [(22, A (vals .u8 64 (fun _ => 0))), (11, D (ν 1))]) (OI w (fun s ν => [[(n4, vals .u8 32 key, 23), (n6, vals .u8 12 nonce, 24)], [(n4, vals .u8 32 key, 23), (n6, vals .u8 12 nonce, 24), ((ν 1), vals .u8 64 (fun _ => 0), 39)], [(n4, vals .u8 32 key, 23), (n6, vals .u8 12 nonce, 24), ((ν 1), vals .u8 64 (fun _ => 0), 39)]].getD s [])) (fun _ => 0) hO (Rg.ac (nx (fun _ => A (vals .u8 64 (fun _ => 0))) (fun _ w => run_bd 39 _ rfl [] (by kernel_rfl) _ bd_30 w)) (Rg.ac (sn 0 (fun _ => vals .u8 64 (fun _ => 0)) 39 (fun _ w => al30 rfl w) (fun _ => fit_b64 _)) (Rg.ac (sr 1 2 (fun _ => vals .u8 64 (fun _ => 0)) (fun _ => fit_b64 _)) Rg.an))) ?_
  intro ν w2 hO
  replace hO : Own w w2 [(n4, vals .u8 32 key, 23), (n6, vals .u8 12 nonce, 24), ((ν 1), vals .u8 64 (fun _ => 0), 39)] := hO
  simp only [Rg.putL, Act.put, List.setIfInBounds_toArray, List.set_cons_succ, List.set_cons_zero]
  generalize ν 1 = n11 at hO ⊢
  clear ν
  have HF := hide hO.low
  clear hO
  go_wp2_with (fail)
  go_loopw [10, 12] (fun o i wr => o = .slice none 0 0 ∧ i = .int .i64 0 ∧ Below w.heap.size w wr) (fun _ _ _ => (0 : Nat))
  case atStart => exact ⟨rfl, rfl, HF.out⟩
  case round =>
    obtain ⟨rfl, rfl, hlow⟩ := hrel
    go_wp2_with (fail)
    go_ret2
    exact ⟨rfl, hlow⟩
set_option maxHeartbeats 8000000 in
theorem rstream_c (key nonce : Nat → Nat) (hk : ∀ i, key i < 256) (hn : ∀ i, nonce i < 256) (cnt : Nat) (hc : cnt < 4294967296) (S : Option Addr) (l : List Nat) (c : Nat) (h0 : 0 < l.length) (hl : l.length ≤ 2000) (hlb : ∀ x ∈ l, x < 256) (w : World) (hS : Rds w S l) (hcn : cnt + (l.length + 63) / 64 ≤ 4294967296) :
    RetM 16 #[A (vals .u8 32 key), Nv .u32 cnt, A (vals .u8 12 nonce), .slice S l.length c] w (fun q d => .tuple #[.slice (some ⟨q, 0, none⟩) l.length (l.length + d), .int .i64 0]) (fun d => vals .u8 (l.length + d) (mx (sx key cnt nonce (ge l)) l.length)) := by
  obtain ⟨n, hnl⟩ : ∃ n, Hid (n = l.length) := ⟨_, hide rfl⟩
  obtain ⟨b, hbl⟩ : ∃ b, Hid (b = ge l) := ⟨_, hide rfl⟩
  have hb : ∀ i, b i < 256 := by rw [hbl.out]; exact ge_lt hlb
  have hcell : ∀ k, k < n → ∃ a, S = some a ∧ ∀ w' : World, Below w.heap.size w w' → w'.cell? (a.add k) = some (.int .u8 ((b k : Nat) : Int)) := by
    intro k hk2
    rw [hnl.out] at hk2
    obtain ⟨a, ha, _⟩ := hS.cell hk2
    refine ⟨a, ha, fun w' hw' => ?_⟩
    obtain ⟨a', ha', h'⟩ := (hS.low hw').cell hk2
    obtain rfl := Option.some.inj (ha.symm.trans ha')
    rw [hbl.out]; exact h'
  unfold RetM
  rw [← hnl.out, ← hbl.out]
  rw [← hnl.out] at hl hcn h0
  obtain ⟨X, hX⟩ : ∃ X, Hid (X = sx key cnt nonce b) := ⟨_, hide rfl⟩
  obtain ⟨H, hH⟩ : ∃ H, Hid (H = bh key nonce cnt) := ⟨_, hide rfl⟩
  have hH0 : H 0 = fun _ => 0 := by rw [hH.out]; exact bh_zero _ _ _
  have hHs : ∀ k, ¬ k % 64 = 0 → H k = H (k + 1) := fun k h => by rw [hH.out]; exact bh_same _ _ _ _ h
  have hHl : ∀ k i, H k i < 256 := fun k i => by rw [hH.out]; exact bh_lt _ _ _ _ _
  have hHx : ∀ k, X k = b k ^^^ H (k + 1) (k % 64) := fun k => by rw [hH.out, hX.out]; exact (sx_at _ _ _ _ _).symm
  have hblk : ∀ k, k % 64 = 0 → ∀ w', Ret 22 #[A (vals .u8 32 key), Nv .u32 (ad cnt (k / 64)), A (vals .u8 12 nonce)] w' (A (vals .u8 64 (H (k + 1)))) := fun k h w' => by
    rw [hH.out, ← bh_next key nonce cnt k h]
    exact rblock_c key nonce hk hn _ (ad_lt _ _) w'
  rw [← hX.out]
  have Hl := hide hl
  have Hcn := hide hcn
  have Hcell := hide hcell
  have Hc := hide hc
  have HH := hide hHs
  have H0 := hide h0
  have Hx := hide hHx
  clear hl hcn hlb hS hcell hnl hbl hHs h0 hHx hX hH
  go_enter Tryd.func16, Tryd.ntmps16
  have hO := Own.start w
  go_upto_region 0 with (fail)
  refine Rg.ps [0, 1] (fun ν => [(4, D (ν 0)), (6, D (ν 1)), (8, .slice none 0 0), (9, Nv .i64 0)]) (OI w (fun s ν => [[], [((ν 0), vals .u8 32 key, 23)], [((ν 0), vals .u8 32 key, 23), ((ν 1), vals .u8 12 nonce, 24)]].getD s [])) (fun _ => 0) hO (Rg.ac (sn 0 (fun _ => vals .u8 32 key) 23 (fun _ w => run_box 23 _ rfl _ (by kernel_rfl) w) (fun _ => fit_b32 _)) (Rg.ac (sn 1 (fun _ => vals .u8 12 nonce) 24 (fun _ w => run_box 24 _ rfl _ (by kernel_rfl) w) (fun _ => fit_b12 _)) (Rg.ac nv (Rg.ac nv Rg.an)))) ?_
  intro ν w1 hO
  replace hO : Own w w1 [((ν 0), vals .u8 32 key, 23), ((ν 1), vals .u8 12 nonce, 24)] := hO
  simp only [Rg.putL, Act.put, List.setIfInBounds_toArray, List.set_cons_succ, List.set_cons_zero]
  generalize ν 0 = n4 at hO ⊢
  generalize ν 1 = n6 at hO ⊢
  clear ν
  have hl := Hl.out
  have hcn := Hcn.out
  have hc := Hc.out
  obtain ⟨bn, hbn⟩ : ∃ m, m = (n + 63) / 64 := ⟨_, rfl⟩
  have g1 : IntKind.i64.wrap ((n : Int) + 63) = (n : Int) + 63 := by unfold IntKind.wrap; simp [IntKind.bits, IntKind.signed]; omega
  have g9 : wrap64 ((n : Int) + 63) = (n : Int) + 63 := by unfold wrap64; omega
  have g4 : ((n : Int) + 63).tdiv 64 = (bn : Int) := by rw [Int.tdiv_eq_ediv_of_nonneg (by omega)]; omega
  have g2 : IntKind.i64.wrap (bn : Int) = (bn : Int) := by unfold IntKind.wrap; simp [IntKind.bits, IntKind.signed]; omega
  have g3 : wrap64 (bn : Int) = (bn : Int) := by unfold wrap64; omega
  have g7 : IntKind.u64.wrap (bn : Int) = (bn : Int) := by rw [wrap_u64']; omega
  have g5 : IntKind.u64.wrap (cnt : Int) = (cnt : Int) := by rw [wrap_u64']; omega
  have g6 : IntKind.u64.wrap ((cnt : Int) + (bn : Int)) = (cnt : Int) + (bn : Int) := by rw [wrap_u64']; omega
  have g8 : ¬ 4294967296 < (cnt : Int) + (bn : Int) := by omega
  clear hl hcn hc hbn
  go_upto_region 4 with (fail)
  clear g1 g2 g3 g4 g5 g6 g7 g8 g9
  refine Rg.ps [1, 2] (fun ν => [(22, A (vals .u8 64 (fun _ => 0))), (11, D (ν 1))]) (OI w (fun s ν => [[(n4, vals .u8 32 key, 23), (n6, vals .u8 12 nonce, 24)], [(n4, vals .u8 32 key, 23), (n6, vals .u8 12 nonce, 24), ((ν 1), vals .u8 64 (fun _ => 0), 39)], [(n4, vals .u8 32 key, 23), (n6, vals .u8 12 nonce, 24), ((ν 1), vals .u8 64 (fun _ => 0), 39)]].getD s [])) (fun _ => 0) hO (Rg.ac (nx (fun _ => A (vals .u8 64 (fun _ => 0))) (fun _ w => run_bd 39 _ rfl [] (by kernel_rfl) _ bd_30 w)) (Rg.ac (sn 0 (fun _ => vals .u8 64 (fun _ => 0)) 39 (fun _ w => al30 rfl w) (fun _ => fit_b64 _)) (Rg.ac (sr 1 2 (fun _ => vals .u8 64 (fun _ => 0)) (fun _ => fit_b64 _)) Rg.an))) ?_
  intro ν w2 hO
  replace hO : Own w w2 [(n4, vals .u8 32 key, 23), (n6, vals .u8 12 nonce, 24), ((ν 1), vals .u8 64 (fun _ => 0), 39)] := hO
  simp only [Rg.putL, Act.put, List.setIfInBounds_toArray, List.set_cons_succ, List.set_cons_zero]
  generalize ν 1 = n11 at hO ⊢
  clear ν
  have HO : Hid (Own w w2 [(n4, vals .u8 32 key, 23), (n6, vals .u8 12 nonce, 24), (n11, vals .u8 64 (H 0), 39)]) := hide (by rw [hH0]; exact hO)
  clear hO hH0
  go_wp2_with (fail)
  go_loopw [10, 12] (fun o i wr => ∃ k : Nat, k ≤ n ∧ i = .int .i64 k ∧ ((k = 0 ∧ o = .slice none 0 0 ∧ Own w wr [(n4, vals .u8 32 key, 23), (n6, vals .u8 12 nonce, 24), (n11, vals .u8 64 (H k), 39)]) ∨ (0 < k ∧ ∃ g d : Nat, o = .slice (some ⟨g, 0, none⟩) k (k + d) ∧ Own w wr [(n4, vals .u8 32 key, 23), (n6, vals .u8 12 nonce, 24), (n11, vals .u8 64 (H k), 39), (g, vals .u8 (k + d) (mx X k), 5)]))) (fun _ i _ => n - (intOf i).toNat)
  case atStart => exact ⟨0, by omega, rfl, .inl ⟨rfl, rfl, HO.out⟩⟩
  case round =>
    clear HO
    obtain ⟨k, hkn, rfl, hrel⟩ := hrel
    have hl := Hl.out
    by_cases hlt : k < n
    · have hq0 : (0 : Int) ≤ (k : Int) := by omega
      have hq1 : (k : Int) < (n : Int) := by omega
      have hk9 : k < 4294967296 := by omega
      have hk40 : k < 2 ^ 40 := by omega
      have hkd : k / 64 < 4294967296 := by omega
      have hk1 : k + 1 ≤ 2 ^ 30 := by omega
      have hkm : k % 64 < 64 := Nat.mod_lt _ (by omega)
      have hw1 := wr1 k hk9
      have hw0 := wr0 k hk9
      have hXk := (Hx.out k).symm
      obtain ⟨a, rfl, hcx⟩ := Hcell.out k hlt
      clear hl
      rcases hrel with ⟨hk0, rfl, hO⟩ | ⟨hk0, g, d, rfl, hO⟩
      · have h64 : k % 64 = 0 := by rw [hk0]
        have Hk0 := hide hk0
        clear hk0
        have htm := tm64 k
        have hz : ((k % 64 : Nat) : Int) = 0 := by rw [h64]; rfl
        go_upto_region 9 with (fail)
        clear htm hz
        refine Rg.ps [7, 8] (fun _ => [(32, A (vals .u8 32 key)), (33, Nv .u32 cnt), (34, Nv .i64 k), (35, Nv .i64 (k / 64)), (36, Nv .u32 (k / 64)), (37, Nv .u32 (ad cnt (k / 64))), (38, A (vals .u8 12 nonce)), (39, A (vals .u8 64 (H (k + 1))))]) (OI w (fun s ν => [[(n4, vals .u8 32 key, 23), (n6, vals .u8 12 nonce, 24), (n11, vals .u8 64 (H k), 39)], [(n4, vals .u8 32 key, 23), (n6, vals .u8 12 nonce, 24), (n11, vals .u8 64 (H k), 39)], [(n4, vals .u8 32 key, 23), (n6, vals .u8 12 nonce, 24), (n11, vals .u8 64 (H (k + 1)), 39)]].getD s [])) (fun _ => 0) hO (Rg.ac (nld 0 0 0 (at1 0 fun _ => by kernel_rfl) Tryd.underlying23) (Rg.ac nv (Rg.ac nv (Rg.ac (nx (fun _ => Nv .i64 (k / 64)) (fun _ w => b_quo64 hk40 w)) (Rg.ac (nx (fun _ => Nv .u32 (k / 64)) (fun _ w => b_c32 hkd w)) (Rg.ac (nx (fun _ => Nv .u32 (ad cnt (k / 64))) (fun _ w => b_add32 w)) (Rg.ac (nld 0 0 1 (at1 0 fun _ => by kernel_rfl) Tryd.underlying24) (Rg.ac (sc 0 22 (fun _ => #[A (vals .u8 32 key), Nv .u32 (ad cnt (k / 64)), A (vals .u8 12 nonce)]) (fun _ => A (vals .u8 64 (H (k + 1)))) (fun _ => hblk k h64)) (Rg.ac (sr 1 2 (fun _ => vals .u8 64 (H (k + 1))) (fun _ => fit_b64 _)) Rg.an))))))))) ?_
        intro ν w3 hO
        replace hO : Own w w3 [(n4, vals .u8 32 key, 23), (n6, vals .u8 12 nonce, 24), (n11, vals .u8 64 (H (k + 1)), 39)] := hO
        simp only [Rg.putL, Act.put, List.setIfInBounds_toArray, List.set_cons_succ, List.set_cons_zero]
        clear ν
        go_upto_region 10 with (fail)
        refine Rg.pl 12 [10, 11] (fun ν => [(40, .slice none 0 0), (41, .slice (some a) n c), (42, Nv .i64 k), (43, .pointer (some (a.add k))), (44, Nv .u8 (b k)), (45, Nv .i64 k), (46, Nv .i64 (k % 64)), (47, E n11 (k % 64)), (48, Nv .u8 (H (k + 1) (k % 64))), (49, Nv .u8 (b k ^^^ H (k + 1) (k % 64))), (50, .slice (some ⟨ν 10, 0, none⟩) 1 1), (51, .slice (some ⟨ν 11, 0, none⟩) (k + 1) (k + 1 + ν 111))]) (OI w (fun s ν => [[(n4, vals .u8 32 key, 23), (n6, vals .u8 12 nonce, 24), (n11, vals .u8 64 (H (k + 1)), 39)], [(n4, vals .u8 32 key, 23), (n6, vals .u8 12 nonce, 24), (n11, vals .u8 64 (H (k + 1)), 39), ((ν 10), vals .u8 1 (fun _ => b k ^^^ H (k + 1) (k % 64)), 5)], [(n4, vals .u8 32 key, 23), (n6, vals .u8 12 nonce, 24), (n11, vals .u8 64 (H (k + 1)), 39), ((ν 11), vals .u8 (k + 1 + ν 111) (mx X (k + 1)), 5)]].getD s [])) (fun _ => 0) hO.drew (Rg.ac nv (Rg.ac nv (Rg.ac nv (Rg.ac (nx (fun _ => .pointer (some (a.add k))) (fun _ w => b_iaA (c := c) hlt w)) (Rg.ac (nca (Nv .u8 (b k)) hcx agg_u8) (Rg.ac nv (Rg.ac (nx (fun _ => Nv .i64 (k % 64)) (fun _ w => b_rem64 w)) (Rg.ac (nx (fun _ => E n11 (k % 64)) (fun _ w => b_ia64 hkm w)) (Rg.ac (nc 0 2 2 (fun _ => k % 64) (fun _ => Nv .u8 (H (k + 1) (k % 64))) agg_u8 (fun _ => vals_get _ _ _ _ hkm) (at2 0 2 (fun _ => by kernel_rfl) (at2 1 2 (fun _ => by kernel_rfl) (at1 2 fun _ => by kernel_rfl)))) (Rg.ac (nx (fun _ => Nv .u8 (b k ^^^ H (k + 1) (k % 64))) (fun _ w => b_xor8 (hb k) (hHl _ _) w)) (Rg.ac (sv 0 (fun _ q => .slice (some ⟨q, 0, none⟩) 1 1) (fun _ => vals .u8 1 (fun _ => b k ^^^ H (k + 1) (k % 64))) 5 (fun _ w => b_bs1 (p := .tmp 49) (b k ^^^ H (k + 1) (k % 64)) rfl (by kernel_rfl) w) (fun _ => fit_sl _ _)) (Rg.ac (san 1 3 k 1 X (x := .tmp 40) (y := .tmp 50) (fun ν => .slice (some ⟨ν 10, 0, none⟩) 1 1) Hk0.out Nat.one_pos (by decide) (fun ν w hO => src_one hO (j := 3) (v := b k ^^^ H (k + 1) (k % 64)) (by kernel_rfl) (Hx.out k))) (Rg.ac (nm (fun ν => .slice (some ⟨ν 11, 0, none⟩) (k + 1) (k + 1 + ν 111))) Rg.an))))))))))))) (fun ν => .slice (some ⟨ν 11, 0, none⟩) (k + 1) (k + 1 + ν 111)) ?_
        intro ν w4 hO
        replace hO : Own w w4 [(n4, vals .u8 32 key, 23), (n6, vals .u8 12 nonce, 24), (n11, vals .u8 64 (H (k + 1)), 39), ((ν 11), vals .u8 (k + 1 + ν 111) (mx X (k + 1)), 5)] := hO
        simp only [Rg.putL, Act.put, List.setIfInBounds_toArray, List.set_cons_succ, List.set_cons_zero]
        generalize ν 11 = g2 at hO ⊢
        generalize ν 111 = d2 at hO ⊢
        generalize ν 10 = q2 at hO ⊢
        replace hO := hO.take 4
        have HO2 : Hid (Own w w4 [(n4, vals .u8 32 key, 23), (n6, vals .u8 12 nonce, 24), (n11, vals .u8 64 (H (k + 1)), 39), (g2, vals .u8 ((k + 1) + d2) (mx X (k + 1)), 5)]) := hide hO
        clear ν hO
        go_wp2_with (fail)
        go_roundw
        case rel => exact ⟨(k + 1), hlt, in_succ _, .inr ⟨Nat.succ_pos _, g2, d2, rfl, HO2.out⟩⟩
        case measure => exact ms_lt hlt
      · have htm := tm64 k
        by_cases h64 : k % 64 = 0
        · have hz : ((k % 64 : Nat) : Int) = 0 := by rw [h64]; rfl
          go_upto_region 9 with (fail)
          clear htm hz
          refine Rg.ps [7, 8] (fun _ => [(32, A (vals .u8 32 key)), (33, Nv .u32 cnt), (34, Nv .i64 k), (35, Nv .i64 (k / 64)), (36, Nv .u32 (k / 64)), (37, Nv .u32 (ad cnt (k / 64))), (38, A (vals .u8 12 nonce)), (39, A (vals .u8 64 (H (k + 1))))]) (OI w (fun s ν => [[(n4, vals .u8 32 key, 23), (n6, vals .u8 12 nonce, 24), (n11, vals .u8 64 (H k), 39), (g, vals .u8 (k + d) (mx X k), 5)], [(n4, vals .u8 32 key, 23), (n6, vals .u8 12 nonce, 24), (n11, vals .u8 64 (H k), 39), (g, vals .u8 (k + d) (mx X k), 5)], [(n4, vals .u8 32 key, 23), (n6, vals .u8 12 nonce, 24), (n11, vals .u8 64 (H (k + 1)), 39), (g, vals .u8 (k + d) (mx X k), 5)]].getD s [])) (fun _ => 0) hO (Rg.ac (nld 0 0 0 (at1 0 fun _ => by kernel_rfl) Tryd.underlying23) (Rg.ac nv (Rg.ac nv (Rg.ac (nx (fun _ => Nv .i64 (k / 64)) (fun _ w => b_quo64 hk40 w)) (Rg.ac (nx (fun _ => Nv .u32 (k / 64)) (fun _ w => b_c32 hkd w)) (Rg.ac (nx (fun _ => Nv .u32 (ad cnt (k / 64))) (fun _ w => b_add32 w)) (Rg.ac (nld 0 0 1 (at1 0 fun _ => by kernel_rfl) Tryd.underlying24) (Rg.ac (sc 0 22 (fun _ => #[A (vals .u8 32 key), Nv .u32 (ad cnt (k / 64)), A (vals .u8 12 nonce)]) (fun _ => A (vals .u8 64 (H (k + 1)))) (fun _ => hblk k h64)) (Rg.ac (sr 1 2 (fun _ => vals .u8 64 (H (k + 1))) (fun _ => fit_b64 _)) Rg.an))))))))) ?_
          intro ν w5 hO
          replace hO : Own w w5 [(n4, vals .u8 32 key, 23), (n6, vals .u8 12 nonce, 24), (n11, vals .u8 64 (H (k + 1)), 39), (g, vals .u8 (k + d) (mx X k), 5)] := hO
          simp only [Rg.putL, Act.put, List.setIfInBounds_toArray, List.set_cons_succ, List.set_cons_zero]
          clear ν
          go_upto_region 10 with (fail)
          refine Rg.pl 12 [10, 11] (fun ν => [(40, .slice (some ⟨g, 0, none⟩) k (k + d)), (41, .slice (some a) n c), (42, Nv .i64 k), (43, .pointer (some (a.add k))), (44, Nv .u8 (b k)), (45, Nv .i64 k), (46, Nv .i64 (k % 64)), (47, E n11 (k % 64)), (48, Nv .u8 (H (k + 1) (k % 64))), (49, Nv .u8 (b k ^^^ H (k + 1) (k % 64))), (50, .slice (some ⟨ν 10, 0, none⟩) 1 1), (51, .slice (some ⟨ν 11, 0, none⟩) (k + 1) (k + 1 + ν 111))]) (OI w (fun s ν => [[(n4, vals .u8 32 key, 23), (n6, vals .u8 12 nonce, 24), (n11, vals .u8 64 (H (k + 1)), 39), (g, vals .u8 (k + d) (mx X k), 5)], [(n4, vals .u8 32 key, 23), (n6, vals .u8 12 nonce, 24), (n11, vals .u8 64 (H (k + 1)), 39), (g, vals .u8 (k + d) (mx X k), 5), ((ν 10), vals .u8 1 (fun _ => b k ^^^ H (k + 1) (k % 64)), 5)], [(n4, vals .u8 32 key, 23), (n6, vals .u8 12 nonce, 24), (n11, vals .u8 64 (H (k + 1)), 39), ((ν 11), vals .u8 (k + 1 + ν 111) (mx X (k + 1)), 5), ((ν 10), vals .u8 1 (fun _ => b k ^^^ H (k + 1) (k % 64)), 5)]].getD s [])) (fun _ => 0) hO.drew (Rg.ac nv (Rg.ac nv (Rg.ac nv (Rg.ac (nx (fun _ => .pointer (some (a.add k))) (fun _ w => b_iaA (c := c) hlt w)) (Rg.ac (nca (Nv .u8 (b k)) hcx agg_u8) (Rg.ac nv (Rg.ac (nx (fun _ => Nv .i64 (k % 64)) (fun _ w => b_rem64 w)) (Rg.ac (nx (fun _ => E n11 (k % 64)) (fun _ w => b_ia64 hkm w)) (Rg.ac (nc 0 2 2 (fun _ => k % 64) (fun _ => Nv .u8 (H (k + 1) (k % 64))) agg_u8 (fun _ => vals_get _ _ _ _ hkm) (at2 0 2 (fun _ => by kernel_rfl) (at2 1 2 (fun _ => by kernel_rfl) (at1 2 fun _ => by kernel_rfl)))) (Rg.ac (nx (fun _ => Nv .u8 (b k ^^^ H (k + 1) (k % 64))) (fun _ w => b_xor8 (hb k) (hHl _ _) w)) (Rg.ac (sv 0 (fun _ q => .slice (some ⟨q, 0, none⟩) 1 1) (fun _ => vals .u8 1 (fun _ => b k ^^^ H (k + 1) (k % 64))) 5 (fun _ w => b_bs1 (p := .tmp 49) (b k ^^^ H (k + 1) (k % 64)) rfl (by kernel_rfl) w) (fun _ => fit_sl _ _)) (Rg.ac (sap2 1 3 k 1 (fun _ => g) (fun _ => k + d) X (x := .tmp 40) (y := .tmp 50) (fun ν => .slice (some ⟨ν 10, 0, none⟩) 1 1) (fun _ => Nat.le_add_right _ _) hk1 (fun ν w hO => src_one hO (j := 4) (v := b k ^^^ H (k + 1) (k % 64)) (by kernel_rfl) (Hx.out k))) (Rg.ac (nm (fun ν => .slice (some ⟨ν 11, 0, none⟩) (k + 1) (k + 1 + ν 111))) Rg.an))))))))))))) (fun ν => .slice (some ⟨ν 11, 0, none⟩) (k + 1) (k + 1 + ν 111)) ?_
          intro ν w6 hO
          replace hO : Own w w6 [(n4, vals .u8 32 key, 23), (n6, vals .u8 12 nonce, 24), (n11, vals .u8 64 (H (k + 1)), 39), ((ν 11), vals .u8 (k + 1 + ν 111) (mx X (k + 1)), 5), ((ν 10), vals .u8 1 (fun _ => b k ^^^ H (k + 1) (k % 64)), 5)] := hO
          simp only [Rg.putL, Act.put, List.setIfInBounds_toArray, List.set_cons_succ, List.set_cons_zero]
          generalize ν 11 = g2 at hO ⊢
          generalize ν 111 = d2 at hO ⊢
          generalize ν 10 = q2 at hO ⊢
          replace hO := hO.take 4
          have HO2 : Hid (Own w w6 [(n4, vals .u8 32 key, 23), (n6, vals .u8 12 nonce, 24), (n11, vals .u8 64 (H (k + 1)), 39), (g2, vals .u8 ((k + 1) + d2) (mx X (k + 1)), 5)]) := hide hO
          clear ν hO
          go_wp2_with (fail)
          go_roundw
          case rel => exact ⟨(k + 1), hlt, in_succ _, .inr ⟨Nat.succ_pos _, g2, d2, rfl, HO2.out⟩⟩
          case measure => exact ms_lt hlt
        · have hz : ¬ ((k % 64 : Nat) : Int) = 0 := fun h => h64 (Int.ofNat.inj h)
          rw [HH.out k h64] at hO
          go_upto_region 10 with (fail)
          clear htm hz
          refine Rg.pl 12 [10, 11] (fun ν => [(40, .slice (some ⟨g, 0, none⟩) k (k + d)), (41, .slice (some a) n c), (42, Nv .i64 k), (43, .pointer (some (a.add k))), (44, Nv .u8 (b k)), (45, Nv .i64 k), (46, Nv .i64 (k % 64)), (47, E n11 (k % 64)), (48, Nv .u8 (H (k + 1) (k % 64))), (49, Nv .u8 (b k ^^^ H (k + 1) (k % 64))), (50, .slice (some ⟨ν 10, 0, none⟩) 1 1), (51, .slice (some ⟨ν 11, 0, none⟩) (k + 1) (k + 1 + ν 111))]) (OI w (fun s ν => [[(n4, vals .u8 32 key, 23), (n6, vals .u8 12 nonce, 24), (n11, vals .u8 64 (H (k + 1)), 39), (g, vals .u8 (k + d) (mx X k), 5)], [(n4, vals .u8 32 key, 23), (n6, vals .u8 12 nonce, 24), (n11, vals .u8 64 (H (k + 1)), 39), (g, vals .u8 (k + d) (mx X k), 5), ((ν 10), vals .u8 1 (fun _ => b k ^^^ H (k + 1) (k % 64)), 5)], [(n4, vals .u8 32 key, 23), (n6, vals .u8 12 nonce, 24), (n11, vals .u8 64 (H (k + 1)), 39), ((ν 11), vals .u8 (k + 1 + ν 111) (mx X (k + 1)), 5), ((ν 10), vals .u8 1 (fun _ => b k ^^^ H (k + 1) (k % 64)), 5)]].getD s [])) (fun _ => 0) hO.drew (Rg.ac nv (Rg.ac nv (Rg.ac nv (Rg.ac (nx (fun _ => .pointer (some (a.add k))) (fun _ w => b_iaA (c := c) hlt w)) (Rg.ac (nca (Nv .u8 (b k)) hcx agg_u8) (Rg.ac nv (Rg.ac (nx (fun _ => Nv .i64 (k % 64)) (fun _ w => b_rem64 w)) (Rg.ac (nx (fun _ => E n11 (k % 64)) (fun _ w => b_ia64 hkm w)) (Rg.ac (nc 0 2 2 (fun _ => k % 64) (fun _ => Nv .u8 (H (k + 1) (k % 64))) agg_u8 (fun _ => vals_get _ _ _ _ hkm) (at2 0 2 (fun _ => by kernel_rfl) (at2 1 2 (fun _ => by kernel_rfl) (at1 2 fun _ => by kernel_rfl)))) (Rg.ac (nx (fun _ => Nv .u8 (b k ^^^ H (k + 1) (k % 64))) (fun _ w => b_xor8 (hb k) (hHl _ _) w)) (Rg.ac (sv 0 (fun _ q => .slice (some ⟨q, 0, none⟩) 1 1) (fun _ => vals .u8 1 (fun _ => b k ^^^ H (k + 1) (k % 64))) 5 (fun _ w => b_bs1 (p := .tmp 49) (b k ^^^ H (k + 1) (k % 64)) rfl (by kernel_rfl) w) (fun _ => fit_sl _ _)) (Rg.ac (sap2 1 3 k 1 (fun _ => g) (fun _ => k + d) X (x := .tmp 40) (y := .tmp 50) (fun ν => .slice (some ⟨ν 10, 0, none⟩) 1 1) (fun _ => Nat.le_add_right _ _) hk1 (fun ν w hO => src_one hO (j := 4) (v := b k ^^^ H (k + 1) (k % 64)) (by kernel_rfl) (Hx.out k))) (Rg.ac (nm (fun ν => .slice (some ⟨ν 11, 0, none⟩) (k + 1) (k + 1 + ν 111))) Rg.an))))))))))))) (fun ν => .slice (some ⟨ν 11, 0, none⟩) (k + 1) (k + 1 + ν 111)) ?_
          intro ν w7 hO
          replace hO : Own w w7 [(n4, vals .u8 32 key, 23), (n6, vals .u8 12 nonce, 24), (n11, vals .u8 64 (H (k + 1)), 39), ((ν 11), vals .u8 (k + 1 + ν 111) (mx X (k + 1)), 5), ((ν 10), vals .u8 1 (fun _ => b k ^^^ H (k + 1) (k % 64)), 5)] := hO
          simp only [Rg.putL, Act.put, List.setIfInBounds_toArray, List.set_cons_succ, List.set_cons_zero]
          generalize ν 11 = g2 at hO ⊢
          generalize ν 111 = d2 at hO ⊢
          generalize ν 10 = q2 at hO ⊢
          replace hO := hO.take 4
          have HO2 : Hid (Own w w7 [(n4, vals .u8 32 key, 23), (n6, vals .u8 12 nonce, 24), (n11, vals .u8 64 (H (k + 1)), 39), (g2, vals .u8 ((k + 1) + d2) (mx X (k + 1)), 5)]) := hide hO
          clear ν hO
          go_wp2_with (fail)
          go_roundw
          case rel => exact ⟨(k + 1), hlt, in_succ _, .inr ⟨Nat.succ_pos _, g2, d2, rfl, HO2.out⟩⟩
          case measure => exact ms_lt hlt
    · have ek : k = n := Nat.le_antisymm hkn (Nat.not_lt.1 hlt)
      subst ek
      have h0 := H0.out
      rcases hrel with ⟨hk0, _⟩ | ⟨_, g, d, rfl, hO⟩
      · omega
      · have hB := hO.row 3 rfl
        have hN := hO.new _ (List.mem_of_getElem? (show [(n4, vals .u8 32 key, 23), (n6, vals .u8 12 nonce, 24), (n11, vals .u8 64 (H k), 39), (g, vals .u8 (k + d) (mx X k), 5)][3]? = some (g, vals .u8 (k + d) (mx X k), 5) from rfl))
        have HF := hide (And.intro hO.low (And.intro hN hB))
        clear hO hB hN hl h0
        go_wp2_with (fail)
        go_ret2
        exact ⟨g, d, rfl, HF.out.1, HF.out.2.1, HF.out.2.2⟩
end Go.Proofs.YtanahjoiilfcbaaDoor.C

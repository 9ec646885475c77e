/- Walk: the law AeadEmpty. The variables places and kept as they are laid. -/
import Derived.Test.YtanahjoiilfcbaaDoorZg
namespace Go.Proofs.YtanahjoiilfcbaaDoor.E
set_option maxRecDepth 100000
open Go.RowKit Rg

theorem src_for {w : World} {A : Option Addr} {n m c : Nat} {h F : Nat → Nat} (hS : Rd w A m h) (e : ∀ i, i < m → h i = F (n + i)) : ∃ news : List Value, Src Tryd.prog 1 25 (.slice A m c) news.length news w ∧ news = (List.range m).map fun i => Value.int .u8 ((F (n + i) : Nat) : Int) := by
  have hl : ((List.range m).map fun i => Value.int .u8 ((h i : Nat) : Int)).length = m := by simp
  exact ⟨_, by rw [hl]; exact src_rd c hS, List.map_congr_left fun i hi => by rw [e i (List.mem_range.1 hi)]⟩
set_option maxHeartbeats 8000000 in
theorem empty_walk (key nonce : Nat → Nat) (hk : ∀ i, key i < 256) (hn : ∀ i, nonce i < 256) (T : Option Addr) (n cn : Nat) (f : Nat → Nat) (hf : ∀ i, f i < 256) (_hcn : n ≤ cn) (M : Option Addr) (m cm : Nat) (g : Nat → Nat) (hg : ∀ i, g i < 256) (_hcm : m ≤ cm) (B : Option Addr) (r cr : Nat) (h : Nat → Nat) (hh : ∀ i, h i < 256) (hcr : r ≤ cr) (w : World) (hG1 : Gl w 1 (vals .u64 2 kp)) (hG0 : Gl w 0 (vals .i64 32 C.pl)) (hT : Rd w T n f) (hM : Rd w M m g) (hB : Rd w B r h) : Ret 8 #[A (vals .u8 32 key), A (vals .u8 12 nonce), .slice T n cn, .slice M m cm, .slice B r cr] w (.bool true) := by
  obtain ⟨F, hF⟩ : ∃ F, Hid (cat f n g = F) := ⟨_, hide rfl⟩
  obtain ⟨Z0, hZ0⟩ : ∃ Z, Hid (sld key nonce r h 0 (fun _ => 0) = Z) := ⟨_, hide rfl⟩
  obtain ⟨Z1, hZ1⟩ : ∃ Z, Hid (sld key nonce r h n f = Z) := ⟨_, hide rfl⟩
  obtain ⟨Z3, hZ3⟩ : ∃ Z, Hid (sld key nonce r h (0 + n + m) F = Z) := ⟨_, hide rfl⟩
  have hFl : ∀ i, F i < 256 := fun i => hF.out ▸ cat_lt hf hg i
  have HA : Hid (∀ w', Below w.heap.size w w' → Ret 9 #[] w' (.bool true)) := hide fun w' hb => awake_c w' (hG0.low hb) (hG1.low hb)
  have HS0 : Hid (r ≤ 500 → ∀ w', Below w.heap.size w w' → RetW 10 #[A (vals .u8 32 key), A (vals .u8 12 nonce), .slice none 0 0, .slice B r cr] w' (fun s => .tuple #[s, .int .i64 0]) 16 Z0) := hide fun h1 w' hb => hZ0.out ▸ seal_c key nonce hk hn none 0 0 (fun _ => 0) (fun _ => Nat.zero_lt_succ _) B r cr h hh (by omega) (by omega) hcr w' (hG0.low hb) (hG1.low hb) (.inl rfl) (hB.low hb)
  have HP0 : Hid (r ≤ 500 → ∀ q d w', Below w.heap.size w w' → Rd w' (some ⟨q, 0, none⟩) 16 Z0 → RetV 12 #[A (vals .u8 32 key), A (vals .u8 12 nonce), .slice (some ⟨q, 0, none⟩) 16 (16 + d), .slice B r cr] w' (fun s => .tuple #[s, .int .i64 0]) 0 (fun _ => 0)) := hide fun h1 q d w' hb hr => open_sealed key nonce hk hn _ 0 (16 + d) (fun _ => 0) (fun _ => Nat.zero_lt_succ _) B r cr h hh (by omega) (by omega) (by omega) hcr w' (hG0.low hb) (hG1.low hb) (by rw [hZ0.out]; exact hr) (hB.low hb)
  have HS1 : Hid (n ≤ 500 → r ≤ 500 → ∀ w', Below w.heap.size w w' → RetW 10 #[A (vals .u8 32 key), A (vals .u8 12 nonce), .slice T n cn, .slice B r cr] w' (fun s => .tuple #[s, .int .i64 0]) (n + 16) Z1) := hide fun h1 h2 w' hb => hZ1.out ▸ seal_c key nonce hk hn T n cn f hf B r cr h hh (by omega) (by omega) hcr w' (hG0.low hb) (hG1.low hb) (hT.low hb) (hB.low hb)
  have HS3 : Hid (n ≤ 500 → m ≤ 500 → r ≤ 500 → ∀ q d w', Below w.heap.size w w' → Rd w' (some ⟨q, 0, none⟩) (0 + n + m) F → RetZ 10 #[A (vals .u8 32 key), A (vals .u8 12 nonce), .slice (some ⟨q, 0, none⟩) (0 + n + m) (0 + n + m + d), .slice B r cr] w' (fun z => .tuple #[.slice (some ⟨z 0, 0, none⟩) (0 + n + m + 16) (0 + n + m + 16 + z 1), .int .i64 0]) (fun z => [(z 0, vals .u8 (0 + n + m + 16 + z 1) (C.mx Z3 (0 + n + m + 16)), 5)])) := hide fun h1 h2 h3 q d w' hb hr => (hZ3.out ▸ seal_c key nonce hk hn _ (0 + n + m) (0 + n + m + d) F hFl B r cr h hh (by omega) (by omega) hcr w' (hG0.low hb) (hG1.low hb) hr (hB.low hb)).retZ
  have HE : Hid (∀ i, i < n → Z1 i = Z3 i) := hide fun i hi => by
    rw [← hZ1.out, ← hZ3.out, sld_fst _ _ _ _ _ _ _ hi, sld_fst _ _ _ _ _ _ _ (by omega), ← hF.out]
    unfold C.sx cat
    rw [if_pos hi]
  have HZ1 : Hid (∀ i, Z1 i < 256) := hide (by rw [← hZ1.out]; exact seal_lt hf)
  have HZ3 : Hid (∀ i, Z3 i < 256) := hide (by rw [← hZ3.out]; exact seal_lt hFl)
  have HT : Hid (∀ w', Below w.heap.size w w' → ∃ news : List Value, Src Tryd.prog 1 25 (.slice T n cn) news.length news w' ∧ news = (List.range n).map fun i => Value.int .u8 ((F (0 + i) : Nat) : Int)) := hide fun w' hb => src_for (hT.low hb) fun i hi => by rw [← hF.out]; unfold cat; rw [Nat.zero_add, if_pos hi]
  have HM : Hid (∀ w', Below w.heap.size w w' → ∃ news : List Value, Src Tryd.prog 1 25 (.slice M m cm) news.length news w' ∧ news = (List.range m).map fun i => Value.int .u8 ((F (0 + n + i) : Nat) : Int)) := hide fun w' hb => src_for (hM.low hb) fun i hi => by rw [← hF.out]; unfold cat; rw [Nat.zero_add, if_neg (by omega), Nat.add_sub_cancel_left]
  clear hG0 hG1 hT hB hM hF hZ0 hZ1 hZ3 hk hn hf hh hg _hcn _hcm hcr hFl
  go_enter Tryd.func8, Tryd.ntmps8
  have hO := Own.start w
  go_upto_region 0 with (fail)
  refine wp_region_list (WL.out ?_)
  refine g_new hO D (vals .u8 32 key) 23 (fit_b32 _) (run_box 23 _ rfl _ (by kernel_rfl) w) ?_
  intro n5 w1 _ hO
  replace hO : Own w w1 [(n5, vals .u8 32 key, 23)] := hO
  refine g_new hO D (vals .u8 12 nonce) 24 (fit_b12 _) (run_box 24 _ rfl _ (by kernel_rfl) w1) ?_
  intro n6 w2 _ hO
  replace hO : Own w w2 [(n5, vals .u8 32 key, 23), (n6, vals .u8 12 nonce, 24)] := hO
  refine g_val (.bool false) ?_
  refine g_nil ?_
  simp only [Act.put, List.setIfInBounds_toArray, List.set_cons_succ, List.set_cons_zero]
  go_upto_region 1 with (fail)
  refine wp_region_list (WL.out ?_)
  refine g_call hO 9 #[] (.bool true) (HA.out w2 hO.low) ?_
  intro w3 hb20 hO
  refine g_val (.bool true) ?_
  refine g_nil ?_
  simp only [Act.put, List.setIfInBounds_toArray, List.set_cons_succ, List.set_cons_zero]
  clear HA
  by_cases h05 : 500 < n
  · go_upto_region 2 with (fail)
    refine wp_region_list (WL.out ?_)
    refine g_val (.slice T n cn) ?_
    refine g_val (Nv .i64 n) ?_
    refine g_val (.bool true) ?_ (b_gtr (a := (n : Int)) (c := 500) (decide_eq_true (by omega)) w3)
    refine g_val (.bool true) ?_
    refine g_skip ?_
    refine g_skip ?_
    refine g_skip ?_
    refine g_val (.bool true) ?_
    refine g_val (.bool true) ?_
    refine g_skip ?_
    refine g_skip ?_
    refine g_skip ?_
    refine g_val (.bool true) ?_
    refine g_nil ?_
    simp only [Act.put, List.setIfInBounds_toArray, List.set_cons_succ, List.set_cons_zero]
    have HL := hide hO.low
    clear hO
    go_wp2_with (fail)
    go_ret
    exact ⟨rfl, HL.out⟩
  by_cases h15 : 500 < m
  · go_upto_region 2 with (fail)
    refine wp_region_list (WL.out ?_)
    refine g_val (.slice T n cn) ?_
    refine g_val (Nv .i64 n) ?_
    refine g_val (.bool false) ?_ (b_gtr (a := (n : Int)) (c := 500) (decide_eq_false (by omega)) w3)
    refine g_val (.bool false) ?_
    refine g_val (.slice M m cm) ?_
    refine g_val (Nv .i64 m) ?_
    refine g_val (.bool true) ?_ (b_gtr (a := (m : Int)) (c := 500) (decide_eq_true (by omega)) w3)
    refine g_val (.bool true) ?_
    refine g_val (.bool true) ?_
    refine g_skip ?_
    refine g_skip ?_
    refine g_skip ?_
    refine g_val (.bool true) ?_
    refine g_nil ?_
    simp only [Act.put, List.setIfInBounds_toArray, List.set_cons_succ, List.set_cons_zero]
    have HL := hide hO.low
    clear hO
    go_wp2_with (fail)
    go_ret
    exact ⟨rfl, HL.out⟩
  by_cases h25 : 500 < r
  · go_upto_region 2 with (fail)
    refine wp_region_list (WL.out ?_)
    refine g_val (.slice T n cn) ?_
    refine g_val (Nv .i64 n) ?_
    refine g_val (.bool false) ?_ (b_gtr (a := (n : Int)) (c := 500) (decide_eq_false (by omega)) w3)
    refine g_val (.bool false) ?_
    refine g_val (.slice M m cm) ?_
    refine g_val (Nv .i64 m) ?_
    refine g_val (.bool false) ?_ (b_gtr (a := (m : Int)) (c := 500) (decide_eq_false (by omega)) w3)
    refine g_val (.bool false) ?_
    refine g_val (.bool false) ?_
    refine g_val (.slice B r cr) ?_
    refine g_val (Nv .i64 r) ?_
    refine g_val (.bool true) ?_ (b_gtr (a := (r : Int)) (c := 500) (decide_eq_true (by omega)) w3)
    refine g_val (.bool true) ?_
    refine g_nil ?_
    simp only [Act.put, List.setIfInBounds_toArray, List.set_cons_succ, List.set_cons_zero]
    have HL := hide hO.low
    clear hO
    go_wp2_with (fail)
    go_ret
    exact ⟨rfl, HL.out⟩
  go_upto_region 2 with (fail)
  refine wp_region_list (WL.out ?_)
  refine g_val (.slice T n cn) ?_
  refine g_val (Nv .i64 n) ?_
  refine g_val (.bool false) ?_ (b_gtr (a := (n : Int)) (c := 500) (decide_eq_false (by omega)) w3)
  refine g_val (.bool false) ?_
  refine g_val (.slice M m cm) ?_
  refine g_val (Nv .i64 m) ?_
  refine g_val (.bool false) ?_ (b_gtr (a := (m : Int)) (c := 500) (decide_eq_false (by omega)) w3)
  refine g_val (.bool false) ?_
  refine g_val (.bool false) ?_
  refine g_val (.slice B r cr) ?_
  refine g_val (Nv .i64 r) ?_
  refine g_val (.bool false) ?_ (b_gtr (a := (r : Int)) (c := 500) (decide_eq_false (by omega)) w3)
  refine g_val (.bool false) ?_
  refine g_nil ?_
  simp only [Act.put, List.setIfInBounds_toArray, List.set_cons_succ, List.set_cons_zero]
  have h1 : n ≤ 500 := by omega
  have h2 : m ≤ 500 := by omega
  have h3 : r ≤ 500 := by omega
  clear h05 h15 h25
  go_upto_region 4 with (fail)
  refine wp_region_list (WL.out ?_)
  refine g_ld hO 0 rfl Tryd.underlying23 ?_
  refine g_ld hO 1 rfl Tryd.underlying24 ?_
  refine g_val (.slice B r cr) ?_
  refine g_w hO 10 #[A (vals .u8 32 key), A (vals .u8 12 nonce), .slice none 0 0, .slice B r cr] (fun s => .tuple #[s, .int .i64 0]) 16 Z0 (HS0.out h3 w3 hO.low) ?_
  intro n39 d39 w4 hb39 hO
  replace hO : Own w w4 [(n5, vals .u8 32 key, 23), (n6, vals .u8 12 nonce, 24), (n39, vals .u8 (16 + d39) (C.mx Z0 16), 5)] := hO
  refine g_val (.tuple #[.slice (some ⟨n39, 0, none⟩) 16 (16 + d39), .int .i64 0]) ?_
  refine g_val (.slice (some ⟨n39, 0, none⟩) 16 (16 + d39)) ?_
  refine g_val (.int .i64 0) ?_
  refine g_val (.slice (some ⟨n39, 0, none⟩) 16 (16 + d39)) ?_
  refine g_val (.int .i64 0) ?_
  refine g_nil ?_
  simp only [Act.put, List.setIfInBounds_toArray, List.set_cons_succ, List.set_cons_zero]
  clear hb39 HS0
  go_upto_region 5 with (fail)
  refine wp_region_list (WL.out ?_)
  refine g_ld hO 0 rfl Tryd.underlying23 ?_
  refine g_ld hO 1 rfl Tryd.underlying24 ?_
  refine g_val (.slice (some ⟨n39, 0, none⟩) 16 (16 + d39)) ?_
  refine g_val (.slice B r cr) ?_
  refine g_v hO 12 #[A (vals .u8 32 key), A (vals .u8 12 nonce), .slice (some ⟨n39, 0, none⟩) 16 (16 + d39), .slice B r cr] (fun s => .tuple #[s, .int .i64 0]) 0 (fun _ => 0) (HP0.out h3 n39 d39 w4 hO.low (rd_blk (hO.row 2 rfl) (Nat.le_add_right _ _))) ?_
  intro S47 c47 w5 hb47 hO hn47 hR47
  refine g_val (.tuple #[.slice S47 0 c47, .int .i64 0]) ?_
  refine g_val (.slice S47 0 c47) ?_
  refine g_val (.int .i64 0) ?_
  refine g_val (.slice S47 0 c47) ?_
  refine g_val (.int .i64 0) ?_
  refine g_nil ?_
  simp only [Act.put, List.setIfInBounds_toArray, List.set_cons_succ, List.set_cons_zero]
  clear hb47 hn47 hR47 HP0
  go_upto_region 6 with (fail)
  refine wp_region_list (WL.out ?_)
  refine g_ld hO 0 rfl Tryd.underlying23 ?_
  refine g_ld hO 1 rfl Tryd.underlying24 ?_
  refine g_val (.slice T n cn) ?_
  refine g_val (.slice B r cr) ?_
  refine g_w hO 10 #[A (vals .u8 32 key), A (vals .u8 12 nonce), .slice T n cn, .slice B r cr] (fun s => .tuple #[s, .int .i64 0]) (n + 16) Z1 (HS1.out h1 h3 w5 hO.low) ?_
  intro n55 d55 w6 hb55 hO
  replace hO : Own w w6 [(n5, vals .u8 32 key, 23), (n6, vals .u8 12 nonce, 24), (n39, vals .u8 (16 + d39) (C.mx Z0 16), 5), (n55, vals .u8 (n + 16 + d55) (C.mx Z1 (n + 16)), 5)] := hO
  refine g_val (.tuple #[.slice (some ⟨n55, 0, none⟩) (n + 16) (n + 16 + d55), .int .i64 0]) ?_
  refine g_val (.slice (some ⟨n55, 0, none⟩) (n + 16) (n + 16 + d55)) ?_
  refine g_val (.int .i64 0) ?_
  refine g_val (.slice (some ⟨n55, 0, none⟩) (n + 16) (n + 16 + d55)) ?_
  refine g_val (.int .i64 0) ?_
  refine g_nil ?_
  simp only [Act.put, List.setIfInBounds_toArray, List.set_cons_succ, List.set_cons_zero]
  clear hb55 HS1
  go_upto_region 7 with (fail)
  refine Rg.pd [2, 4, 6, 8] (fun ν => [(59, A (vals .u8 32 key)), (60, A (vals .u8 12 nonce)), (61, .slice (some ⟨ν 2, 0, none⟩) 0 0), (62, .slice T n cn), (63, .slice (some ⟨ν 4, 0, none⟩) (0 + n) (0 + n + ν 104)), (64, .slice M m cm), (65, .slice (some ⟨ν 6, 0, none⟩) (0 + n + m) (0 + n + m + ν 106)), (66, .slice B r cr), (67, .tuple #[.slice (some ⟨ν 1000, 0, none⟩) (0 + n + m + 16) (0 + n + m + 16 + ν 1001), .int .i64 0]), (58, .tuple #[.slice (some ⟨ν 1000, 0, none⟩) (0 + n + m + 16) (0 + n + m + 16 + ν 1001), .int .i64 0]), (68, .slice (some ⟨ν 1000, 0, none⟩) (0 + n + m + 16) (0 + n + m + 16 + ν 1001)), (69, .int .i64 0), (18, .slice (some ⟨ν 1000, 0, none⟩) (0 + n + m + 16) (0 + n + m + 16 + ν 1001)), (19, .int .i64 0)]) (OI w (fun s ν => [[(n5, vals .u8 32 key, 23), (n6, vals .u8 12 nonce, 24), (n39, vals .u8 (16 + d39) (C.mx Z0 16), 5), (n55, vals .u8 (n + 16 + d55) (C.mx Z1 (n + 16)), 5)], [(n5, vals .u8 32 key, 23), (n6, vals .u8 12 nonce, 24), (n39, vals .u8 (16 + d39) (C.mx Z0 16), 5), (n55, vals .u8 (n + 16 + d55) (C.mx Z1 (n + 16)), 5), ((ν 2), vals .u8 0 (C.mx F 0), 5)], [(n5, vals .u8 32 key, 23), (n6, vals .u8 12 nonce, 24), (n39, vals .u8 (16 + d39) (C.mx Z0 16), 5), (n55, vals .u8 (n + 16 + d55) (C.mx Z1 (n + 16)), 5), ((ν 4), vals .u8 (0 + n + ν 104) (C.mx F (0 + n)), 5)], [(n5, vals .u8 32 key, 23), (n6, vals .u8 12 nonce, 24), (n39, vals .u8 (16 + d39) (C.mx Z0 16), 5), (n55, vals .u8 (n + 16 + d55) (C.mx Z1 (n + 16)), 5), ((ν 6), vals .u8 (0 + n + m + ν 106) (C.mx F (0 + n + m)), 5)], [(n5, vals .u8 32 key, 23), (n6, vals .u8 12 nonce, 24), (n39, vals .u8 (16 + d39) (C.mx Z0 16), 5), (n55, vals .u8 (n + 16 + d55) (C.mx Z1 (n + 16)), 5), ((ν 6), vals .u8 (0 + n + m + ν 106) (C.mx F (0 + n + m)), 5), ((ν 1000), vals .u8 (0 + n + m + 16 + ν 1001) (C.mx Z3 (0 + n + m + 16)), 5)]].getD s [])) (fun _ => 0) hO.drew (Rg.ac (nld 0 3 0 (at2 0 3 (fun ν => by kernel_rfl) (at2 1 3 (fun ν => by kernel_rfl) (at2 2 3 (fun ν => by kernel_rfl) (at1 3 fun ν => by kernel_rfl)))) Tryd.underlying23) (Rg.ac (nld 0 3 1 (at2 0 3 (fun ν => by kernel_rfl) (at2 1 3 (fun ν => by kernel_rfl) (at2 2 3 (fun ν => by kernel_rfl) (at1 3 fun ν => by kernel_rfl)))) Tryd.underlying24) (Rg.ac (sv 0 (fun _ q => .slice (some ⟨q, 0, none⟩) 0 0) (fun _ => vals .u8 0 (C.mx F 0)) 5 (fun ν w => b_bs0 (C.mx F 0) w) (fun _ => fit_sl _ _)) (Rg.ac nv (Rg.ac (C.sap2 1 4 0 n (fun ν => ν 2) (fun _ => 0) F (fun _ => .slice T n cn) (fun _ => Nat.le_refl 0) (by omega) (fun ν w hO => HT.out w (Own.low hO))) (Rg.ac nv (Rg.ac (C.sap2 2 4 (0 + n) m (fun ν => ν 4) (fun ν => 0 + n + ν 104) F (fun _ => .slice M m cm) (fun ν => Nat.le_add_right _ _) (by omega) (fun ν w hO => HM.out w (Own.low hO))) (Rg.ac nv (Rg.ac (sz 3 1000 10 (fun ν => #[A (vals .u8 32 key), A (vals .u8 12 nonce), .slice (some ⟨ν 6, 0, none⟩) (0 + n + m) (0 + n + m + ν 106), .slice B r cr]) (fun z => .tuple #[.slice (some ⟨z 0, 0, none⟩) (0 + n + m + 16) (0 + n + m + 16 + z 1), .int .i64 0]) (fun z => [(z 0, vals .u8 (0 + n + m + 16 + z 1) (C.mx Z3 (0 + n + m + 16)), 5)]) (fun ν w hO => HS3.out h1 h2 h3 (ν 6) (ν 106) w (Own.low hO) (rd_blk (N := 0 + n + m + ν 106) (t := 5) (Own.row hO 4 (by kernel_rfl)) (Nat.le_add_right _ _)))) (Rg.ac nv (Rg.ac nv (Rg.ac nv (Rg.ac nv (Rg.ac nv Rg.an)))))))))))))) ?_
  intro ν wy hO
  replace hO : Own w wy [(n5, vals .u8 32 key, 23), (n6, vals .u8 12 nonce, 24), (n39, vals .u8 (16 + d39) (C.mx Z0 16), 5), (n55, vals .u8 (n + 16 + d55) (C.mx Z1 (n + 16)), 5), ((ν 6), vals .u8 (0 + n + m + ν 106) (C.mx F (0 + n + m)), 5), ((ν 1000), vals .u8 (0 + n + m + 16 + ν 1001) (C.mx Z3 (0 + n + m + 16)), 5)] := hO
  simp only [Rg.putL, Act.put, List.setIfInBounds_toArray, List.set_cons_succ, List.set_cons_zero]
  generalize ν 1000 = qz at hO ⊢
  generalize ν 1001 = dz at hO ⊢
  generalize ν 6 = q6 at hO ⊢
  generalize ν 106 = d6 at hO ⊢
  generalize ν 4 = q4 at ⊢
  generalize ν 104 = d4 at ⊢
  generalize ν 2 = q2 at ⊢
  clear ν HS3 HT HM
  go_upto_region 8 with (fail)
  refine wp_region_list (WL.out ?_)
  refine g_val (.slice (some ⟨n55, 0, none⟩) (n + 16) (n + 16 + d55)) ?_
  refine g_val (Nv .i64 (n + 16)) ?_
  refine g_val (.slice T n cn) ?_
  refine g_val (Nv .i64 n) ?_
  refine g_val (Nv .i64 (n + 16)) ?_ (b_add (k := n) (m := 16) (by omega) (by decide) wy)
  refine g_val (.bool false) ?_ (b_neq3 (a := n + 16) (c := n + 16) rfl wy)
  refine g_val (.bool false) ?_
  refine g_val (.slice (some ⟨qz, 0, none⟩) (0 + n + m + 16) (0 + n + m + 16 + dz)) ?_
  refine g_val (Nv .i64 (0 + n + m + 16)) ?_
  refine g_val (.slice T n cn) ?_
  refine g_val (Nv .i64 n) ?_
  refine g_val (.slice M m cm) ?_
  refine g_val (Nv .i64 m) ?_
  refine g_val (Nv .i64 (n + m)) ?_ (b_add (k := n) (m := m) (by omega) (by omega) wy)
  refine g_val (Nv .i64 (n + m + 16)) ?_ (b_add (k := n + m) (m := 16) (by omega) (by decide) wy)
  refine g_val (.bool false) ?_ (b_neq3 (a := 0 + n + m + 16) (c := n + m + 16) (by omega) wy)
  refine g_val (.bool false) ?_
  refine g_nil ?_
  simp only [Act.put, List.setIfInBounds_toArray, List.set_cons_succ, List.set_cons_zero]
  have hr1 : Rd wy (some ⟨n55, 0, none⟩) n Z1 := (rd_blk (hO.row 3 rfl) (Nat.le_add_right _ _)).take n (Nat.le_add_right _ _)
  have hr2 : Rd wy (some ⟨qz, 0, none⟩) n Z3 := (rd_blk (hO.row 5 rfl) (Nat.le_add_right _ _)).take n (by omega)
  have HL := hide hO.low
  clear hO
  have hO := Own.start wy
  go_upto_region 10 with (fail)
  refine Rg.pd [] (fun _ => [(87, .bool true), (88, .bool true), (89, .slice (some ⟨n39, 0, none⟩) 16 (16 + d39)), (90, Nv .i64 16), (91, .bool true), (92, .bool true), (93, .bool true), (94, .int .i64 0), (95, .bool true), (96, .bool true), (97, .bool true), (98, .slice S47 0 c47), (99, Nv .i64 0), (100, .bool true), (101, .bool true), (102, .bool true), (103, .int .i64 0), (104, .bool true), (105, .bool true), (106, .bool true), (107, .int .i64 0), (108, .bool true), (109, .bool true), (110, .bool true), (111, .int .i64 0), (112, .bool true), (113, .bool true), (114, .bool true), (115, .slice (some ⟨n55, 0, none⟩) (n + 16) (n + 16 + d55)), (116, .slice T n cn), (117, Nv .i64 n), (118, .slice (some ⟨n55, 0, none⟩) n (n + 16 + d55)), (119, .string (C.sk (C.li n Z1))), (120, .slice (some ⟨qz, 0, none⟩) (0 + n + m + 16) (0 + n + m + 16 + dz)), (121, .slice T n cn), (122, Nv .i64 n), (123, .slice (some ⟨qz, 0, none⟩) n (0 + n + m + 16 + dz)), (124, .string (C.sk (C.li n Z3))), (125, .bool true), (126, .bool true), (10, .bool true)]) (OI wy (fun _ _ => [])) (fun _ => 0) hO.drew (Rg.ac nv (Rg.ac nv (Rg.ac nv (Rg.ac nv (Rg.ac nv (Rg.ac nv (Rg.ac nv (Rg.ac nv (Rg.ac nv (Rg.ac nv (Rg.ac nv (Rg.ac nv (Rg.ac nv (Rg.ac nv (Rg.ac nv (Rg.ac nv (Rg.ac nv (Rg.ac nv (Rg.ac nv (Rg.ac nv (Rg.ac nv (Rg.ac nv (Rg.ac nv (Rg.ac nv (Rg.ac nv (Rg.ac nv (Rg.ac nv (Rg.ac nv (Rg.ac nv (Rg.ac nv (Rg.ac nv (Rg.ac (nx (fun _ => .slice (some ⟨n55, 0, none⟩) n (n + 16 + d55)) (fun _ w => b_hi (len := n + 16) (Nat.le_add_right _ _) (Nat.le_add_right _ _) w)) (Rg.ac (nsf (c := n + 16 + d55) hr1 HZ1.out) (Rg.ac nv (Rg.ac nv (Rg.ac nv (Rg.ac (nx (fun _ => .slice (some ⟨qz, 0, none⟩) n (0 + n + m + 16 + dz)) (fun _ w => b_hi (len := 0 + n + m + 16) (by omega) (Nat.le_add_right _ _) w)) (Rg.ac (nsf (c := 0 + n + m + 16 + dz) hr2 HZ3.out) (Rg.ac (nx (fun _ => .bool true) (fun _ w => b_seq (str_eq HE.out) w)) (Rg.ac nv (Rg.ac nv Rg.an))))))))))))))))))))))))))))))))))))))))) ?_
  intro ν w7 hO
  replace hO : Own wy w7 [] := hO
  simp only [Rg.putL, Act.put, List.setIfInBounds_toArray, List.set_cons_succ, List.set_cons_zero]
  clear ν
  clear hr1 hr2 HE HZ1 HZ3
  have HM := hide hO.low
  clear hO
  go_wp2_with (fail)
  go_ret
  exact ⟨rfl, HL.out.trans (HM.out.mono HL.out.size)⟩
end Go.Proofs.YtanahjoiilfcbaaDoor.E

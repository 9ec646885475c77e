/- Walks of the reference: Stream by functions, filled, long, Tag. At most two thousand bytes below 256. -/
import Derived.Test.YtanahjoiilfcbaaDoorZg
import Derived.Test.YtanahjoiilfcbaaDoorCre
import Derived.Test.YtanahjoiilfcbaaDoorRd
namespace Go.Proofs.YtanahjoiilfcbaaDoor.E
set_option maxRecDepth 100000
open Go.RowKit Rg

theorem rstream_v (key nonce : Nat → Nat) (hk : ∀ i, key i < 256) (hn : ∀ i, nonce i < 256) (S : Option Addr) (n c : Nat) (f : Nat → Nat) (hf : ∀ i, f i < 256) (h0 : 0 < n) (hl : n ≤ 2000) (w : World) (hS : Rd w S n f) :
    RetW 16 #[A (vals .u8 32 key), Nv .u32 1, A (vals .u8 12 nonce), .slice S n c] w (fun s => .tuple #[s, .int .i64 0]) n (C.sx key 1 nonce f) := by
  have h := C.rstream_c key nonce hk hn 1 (by decide) S (C.li n f) c (by rw [C.li_len]; exact h0) (by rw [C.li_len]; exact hl) (C.li_lt n f hf) w (rds_of hS) (by rw [C.li_len]; omega)
  rw [C.li_len] at h
  refine Calls.mono h fun e w' hh => ?_
  obtain ⟨q, d, he, hb, hq, hB⟩ := hh
  have e1 : vals .u8 (n + d) (C.mx (C.sx key 1 nonce (C.ge (C.li n f))) n) = vals .u8 (n + d) (C.mx (C.sx key 1 nonce f) n) := mx_congr fun j hj => by unfold C.sx; rw [ge_li f hj]
  exact ⟨q, d, he, (Own.start w).snoc hq (hB.cast e1) hb (fit_sl _ _)⟩
theorem rstream_f (key nonce : Nat → Nat) (hk : ∀ i, key i < 256) (hn : ∀ i, nonce i < 256) (S : Option Addr) (n c : Nat) (f : Nat → Nat) (hf : ∀ i, f i < 256) (hl : n ≤ 2000) (w : World) (hS : Rd w S n f) :
    RetV 16 #[A (vals .u8 32 key), Nv .u32 1, A (vals .u8 12 nonce), .slice S n c] w (fun s => .tuple #[s, .int .i64 0]) n (C.sx key 1 nonce f) := by
  by_cases h0 : 0 < n
  · exact (rstream_v key nonce hk hn S n c f hf h0 hl w hS).retV
  · obtain rfl : n = 0 := by omega
    exact (C.rstream_z key nonce 1 (by decide) S c w).mono fun e w' hh => ⟨none, 0, hh.1, hh.2, Nat.le_refl _, .inl rfl⟩
def slen (v : Value) : Nat := match v with | .slice _ n _ => n | _ => 0
section
variable {ρ : Operand → Value} {o : Oper} {x y : Operand}
theorem b_neE {a : Nat} {b : Bool} (h : decide (a = 0) = b) (w : World) (ho : o.op = .binOp .neq 3 x y 3 := by rfl) (hx : ρ x = Nv .i64 a := by kernel_rfl) (hy : ρ y = .int .i64 0 := by kernel_rfl) : (execOp ρ o).run Tryd.prog w = .ok (.value (.bool (!b))) w := by
  unfold execOp
  simp only [ho, hx, hy]
  by_cases h0 : a = 0
  · subst h0 h; rfl
  · have h2 : ¬ (a : Int) = 0 := by omega
    rw [decide_eq_false h0] at h
    subst h
    go_simp
theorem b_shrv {k s : Nat} (hs : s < 64) (w : World) (ho : o.op = .binOp .shr 38 x y 65 := by rfl) (hx : ρ x = Nv .u64 k := by kernel_rfl) (hy : ρ y = Nv .u64 s := by kernel_rfl) : (execOp ρ o).run Tryd.prog w = .ok (.value (Nv .u64 (k / 2 ^ s))) w := by
  have h0 : (0 : Int) ≤ (s : Int) := by omega
  have h3 : (s : Int) < 64 := by omega
  have h4 : min s 64 = s := by omega
  unfold execOp
  simp only [ho, hx, hy]
  go_simp
end
theorem pad_more {n k : Nat} (h : ¬ (n + k) % 16 = 0) (hk : k ≤ pad n) : k < pad n := by unfold pad at *; omega
theorem pad_done {n k : Nat} (h : (n + k) % 16 = 0) (hk : k ≤ pad n) : k = pad n := by unfold pad at *; omega
theorem fl_hi (n : Nat) (f : Nat → Nat) (k : Nat) : fl n f (n + k) = 0 := by unfold fl; rw [if_neg (by omega)]
set_option maxHeartbeats 8000000 in
theorem filled_c (S : Option Addr) (n c : Nat) (f : Nat → Nat) (hn : n ≤ 2000) (w : World) (hS : Rd w S n f) : RetW 23 #[.slice S n c] w (fun s => s) (n + pad n) (fl n f) := by
  obtain ⟨G, hG⟩ : ∃ G, Hid (fl n f = G) := ⟨_, hide rfl⟩
  have HG : Hid ((∀ i, i < n → f i = G i) ∧ ∀ k, G (n + k) = 0) := hide (by rw [← hG.out]; exact ⟨fun i hi => by unfold fl; rw [if_pos hi], fl_hi n f⟩)
  rw [hG.out]
  have HS := hide hS
  clear hS hG
  go_enter Tryd.func23, Tryd.ntmps23
  have hO := Own.start w
  go_upto_region 0 with (fail)
  refine wp_region_list (WL.out ?_)
  refine g_val (.slice none 0 0) ?_
  refine g_nil ?_
  simp only [Act.put, List.setIfInBounds_toArray, List.set_cons_succ, List.set_cons_zero]
  go_upto_region 1 with (fail)
  refine wp_region_list (WL.out ?_)
  refine g_new hO (fun q => .slice (some ⟨q, 0, none⟩) 0 0) (vals .u8 (0 + 0) (C.mx G 0)) 5 (fit_sl _ _) (b_bs0 _ w) ?_
  intro n4 w1 hb4 hO
  replace hO : Own w w1 [(n4, vals .u8 (0 + 0) (C.mx G 0), 5)] := hO
  refine g_val (.slice S n c) ?_
  refine g_apN (c := c) (L := []) (.slice (some ⟨n4, 0, none⟩) 0 0) ⟨n4, 0, rfl, hO⟩ (HS.out.low hO.low) (Nat.zero_add n) (by omega) G (fun i hi => absurd hi (Nat.not_lt_zero i)) (fun i hi => by rw [Nat.zero_add]; exact HG.out.1 i hi) ?_
  intro q d w2 hO
  replace hO : Own w w2 [(q, vals .u8 (n + d) (C.mx G n), 5)] := hO
  refine g_val (.slice (some ⟨q, 0, none⟩) n (n + d)) ?_
  refine g_nil ?_
  simp only [Act.put, List.setIfInBounds_toArray, List.set_cons_succ, List.set_cons_zero]
  have HO : Hid (Rw w w2 [] (n + 0) G (.slice (some ⟨q, 0, none⟩) n (n + d))) := hide ⟨q, d, rfl, hO⟩
  clear hO HS
  go_wp2_with (fail)
  go_loopw [3] (fun x3 wr => ∃ k : Nat, k ≤ pad n ∧ Rw w wr [] (n + k) G x3) (fun x3 _ => n + pad n - slen x3)
  case atStart => exact ⟨0, Nat.zero_le _, HO.out⟩
  case round =>
    clear HO
    obtain ⟨k, hk9, q3, d3, rfl, hO⟩ := hrel
    have hkp := pad_le n
    by_cases hz : (n + k) % 16 = 0
    · obtain rfl := pad_done hz hk9
      go_upto_region 2 with (fail)
      refine wp_region_list (WL.out ?_)
      refine g_val (.slice (some ⟨q3, 0, none⟩) (n + pad n) (n + pad n + d3)) ?_
      refine g_val (Nv .i64 (n + pad n)) ?_
      refine g_val (Nv .i64 ((n + pad n) % 16)) ?_ (b_rem16 wr)
      refine g_val (.bool false) ?_ (b_neE (b := true) (decide_eq_true hz) wr)
      refine g_nil ?_
      simp only [Act.put, List.setIfInBounds_toArray, List.set_cons_succ, List.set_cons_zero]
      have HO2 := hide hO
      clear hO
      go_wp2_with (fail)
      go_ret
      exact ⟨q3, d3, rfl, HO2.out⟩
    · have hlt := pad_more hz hk9
      go_upto_region 2 with (fail)
      refine wp_region_list (WL.out ?_)
      refine g_val (.slice (some ⟨q3, 0, none⟩) (n + k) (n + k + d3)) ?_
      refine g_val (Nv .i64 (n + k)) ?_
      refine g_val (Nv .i64 ((n + k) % 16)) ?_ (b_rem16 wr)
      refine g_val (.bool true) ?_ (b_neE (b := false) (decide_eq_false hz) wr)
      refine g_nil ?_
      simp only [Act.put, List.setIfInBounds_toArray, List.set_cons_succ, List.set_cons_zero]
      go_upto_region 3 with (fail)
      refine wp_region_list (WL.out ?_)
      refine g_val (.slice (some ⟨q3, 0, none⟩) (n + k) (n + k + d3)) ?_
      refine g_ap1 (L := []) (.slice (some ⟨q3, 0, none⟩) (n + k) (n + k + d3)) (.inr ⟨q3, d3, rfl, hO⟩) 0 (by omega) G (fun _ _ => rfl) (HG.out.2 k) ?_
      intro q r d w1 hO
      replace hO : Own w w1 [(q, vals .u8 (n + k + 1 + d) (C.mx G (n + k + 1)), 5)] := hO
      refine g_val (.slice (some ⟨q, 0, none⟩) (n + k + 1) (n + k + 1 + d)) ?_
      refine g_nil ?_
      simp only [Act.put, List.setIfInBounds_toArray, List.set_cons_succ, List.set_cons_zero]
      have HO2 : Hid (Rw w w1 [] (n + (k + 1)) G (.slice (some ⟨q, 0, none⟩) (n + k + 1) (n + k + 1 + d))) := hide ⟨q, d, rfl, hO⟩
      clear hO
      go_wp2_with (fail)
      go_roundw
      case rel => exact ⟨k + 1, hlt, HO2.out⟩
      case measure => show n + pad n - (n + k + 1) < n + pad n - (n + k); omega
set_option maxHeartbeats 8000000 in
theorem long_c (S : Option Addr) (n c : Nat) (hn : n ≤ 2000) (w : World) : RetW 24 #[.slice S n c] w (fun s => s) 8 (ln n) := by
  go_enter Tryd.func24, Tryd.ntmps24
  have HO : Hid (Gr w w [] 0 (ln n) (.slice none 0 0)) := hide (.inl ⟨rfl, rfl, Own.start w⟩)
  go_wp2_with (fail)
  go_loopw [3, 4] (fun x3 x4 wr => ∃ k : Nat, k ≤ 8 ∧ x4 = .int .i64 k ∧ Gr w wr [] k (ln n) x3) (fun _ x4 _ => 8 - (intOf x4).toNat)
  case atStart => exact ⟨0, Nat.zero_le _, rfl, HO.out⟩
  case round =>
    clear HO
    obtain ⟨k, hk9, rfl, hGr⟩ := hrel
    by_cases hlt : k < 8
    · have hq0 : (0 : Int) ≤ (k : Int) := Int.natCast_nonneg k
      have hq1 : (k : Int) < 8 := by omega
      have hw1 := wr1 k (by omega)
      have hw0 := wr0 k (by omega)
      go_upto_region 5 with (fail)
      refine wp_region_list (WL.out ?_)
      refine g_val (u3) ?_
      refine g_val (.slice S n c) ?_
      refine g_val (Nv .i64 n) ?_
      refine g_val (Nv .u64 n) ?_ (b_cu38 (by omega) wr)
      refine g_val (Nv .i64 k) ?_
      refine g_val (Nv .i64 (8 * k)) ?_ (C.b_m8 (by omega) wr)
      refine g_val (Nv .u64 (8 * k)) ?_ (C.b_cu (by omega) wr)
      refine g_val (Nv .u64 (n / 2 ^ (8 * k))) ?_ (b_shrv (by omega) wr)
      refine g_val (Nv .u8 (n / 2 ^ (8 * k) % 256)) ?_ (b_c645 wr)
      refine g_ap1 u3 hGr (n / 2 ^ (8 * k) % 256) (by omega) (ln n) (fun _ _ => rfl) rfl ?_
      intro q r d w1 hO
      refine g_val (.slice (some ⟨q, 0, none⟩) (k + 1) (k + 1 + d)) ?_
      refine g_nil ?_
      simp only [Act.put, List.setIfInBounds_toArray, List.set_cons_succ, List.set_cons_zero]
      have HO2 : Hid (Gr w w1 [] (k + 1) (ln n) (.slice (some ⟨q, 0, none⟩) (k + 1) (k + 1 + d))) := hide (.inr ⟨q, d, rfl, hO⟩)
      clear hO hGr
      go_wp2_with (fail)
      go_roundw
      case rel => exact ⟨k + 1, hlt, in_succ k, HO2.out⟩
      case measure => exact ms_lt hlt
    · have ek : k = 8 := by omega
      subst ek
      clear hlt hk9
      rcases hGr with ⟨h0, _, _⟩ | ⟨g, d, rfl, hO⟩
      · exact absurd h0 (by decide)
      · have HO2 := hide hO
        clear hO
        go_wp2_with (fail)
        go_ret
        exact ⟨g, d, rfl, HO2.out⟩
theorem al_fst (m n : Nat) (h f : Nat → Nat) (i : Nat) (hi : i < m + pad m) : fl m h i = al m h n f i := by unfold al; show _ = (if _ then _ else _); rw [if_pos hi]
theorem al_snd (m n : Nat) (h f : Nat → Nat) (i : Nat) (hi : i < n + pad n) : fl n f i = al m h n f (m + pad m + i) := by
  unfold al; show _ = (if _ then _ else cat _ _ _ _); rw [if_neg (by omega), Nat.add_sub_cancel_left]; show _ = (if _ then _ else _); rw [if_pos hi]
theorem al_thd (m n : Nat) (h f : Nat → Nat) (i : Nat) (hi : i < 8) : ln m i = al m h n f (m + pad m + (n + pad n) + i) := by
  rw [← al_4, lg2_eq]; unfold cat; rw [if_pos hi]
theorem al_fth (m n : Nat) (h f : Nat → Nat) (i : Nat) : ln n i = al m h n f (m + pad m + (n + pad n) + 8 + i) := by
  rw [Nat.add_assoc _ 8 i, ← al_4, lg2_eq]; unfold cat; rw [if_neg (by omega), Nat.add_sub_cancel_left]
set_option maxHeartbeats 8000000 in
theorem rtagof_c (key nonce : Nat → Nat) (hk : ∀ i, key i < 256) (hn : ∀ i, nonce i < 256) (T : Option Addr) (n cn : Nat) (f : Nat → Nat) (hf : ∀ i, f i < 256) (B : Option Addr) (m cm : Nat) (h : Nat → Nat) (hh : ∀ i, h i < 256) (hn2 : n ≤ 2000) (hm2 : m ≤ 2000) (w : World) (hT : Rd w T n f) (hB : Rd w B m h) :
    Ret 17 #[A (vals .u8 32 key), A (vals .u8 12 nonce), .slice T n cn, .slice B m cm] w (A (vals .u8 16 (tga key nonce m h n f))) := by
  obtain ⟨K, hK⟩ : ∃ K, Hid (C.bk key 0 nonce = K) := ⟨_, hide rfl⟩
  obtain ⟨X, hX⟩ : ∃ X, Hid (tga key nonce m h n f = X) := ⟨_, hide rfl⟩
  obtain ⟨AL, hAL⟩ : ∃ AL, Hid (al m h n f = AL) := ⟨_, hide rfl⟩
  obtain ⟨M, hM⟩ : ∃ M, Hid (m + pad m = M) := ⟨_, hide rfl⟩
  obtain ⟨N, hN⟩ : ∃ N, Hid (n + pad n = N) := ⟨_, hide rfl⟩
  have hKl : ∀ i, K i < 256 := fun i => hK.out ▸ C.blk_lt _ _
  have HK : Hid (∀ w', Ret 22 #[A (vals .u8 32 key), Nv .u32 0, A (vals .u8 12 nonce)] w' (A (vals .u8 64 K))) := hide fun w' => hK.out ▸ C.rblock_c key nonce hk hn 0 (by decide) w'
  have HB : Hid (∀ w', Below w.heap.size w w' → RetW 23 #[.slice B m cm] w' (fun s => s) M (fl m h)) := hide fun w' hb => hM.out ▸ filled_c B m cm h hm2 w' (hB.low hb)
  have HT : Hid (∀ w', Below w.heap.size w w' → RetW 23 #[.slice T n cn] w' (fun s => s) N (fl n f)) := hide fun w' hb => hN.out ▸ filled_c T n cn f hn2 w' (hT.low hb)
  have HL : Hid (∀ w', RetW 24 #[.slice B m cm] w' (fun s => s) 8 (ln m)) := hide fun w' => long_c B m cm hm2 w'
  have HL2 : Hid (∀ w', RetW 24 #[.slice T n cn] w' (fun s => s) 8 (ln n)) := hide fun w' => long_c T n cn hn2 w'
  have HX : Hid (∀ q d w', Rd w' (some ⟨q, 0, none⟩) (M + N + 8 + 8) AL → Ret 25 #[A (vals .u8 32 K), .slice (some ⟨q, 0, none⟩) (M + N + 8 + 8) (M + N + 8 + 8 + d)] w' (A (vals .u8 16 X))) := hide fun q d w' hr => by
    have e := rtag_c K hKl (some ⟨q, 0, none⟩) (M + N + 8 + 8) (M + N + 8 + 8 + d) AL (by rw [← hAL.out]; exact al_lt hh hf) (Nat.le_add_right _ _) w' hr
    have e2 : tg K AL (M + N + 8 + 8) = X := by
      rw [← hX.out, ← hK.out, ← hAL.out, ← hM.out, ← hN.out]
      unfold tga tl
      rw [show m + pad m + (n + pad n) + 8 + 8 = m + pad m + (n + pad n + 16) by omega]
    rw [e2] at e
    exact e
  have HM : Hid (m ≤ 2000 ∧ n ≤ 2000 ∧ M ≤ 2016 ∧ N ≤ 2016) := hide (by have := pad_le m; have := pad_le n; rw [← hM.out, ← hN.out]; omega)
  have HA : Hid ((∀ i, i < M → fl m h i = AL i) ∧ (∀ i, i < N → fl n f i = AL (M + i)) ∧ (∀ i, i < 8 → ln m i = AL (M + N + i)) ∧ ∀ i, i < 8 → ln n i = AL (M + N + 8 + i)) := hide (by
    rw [← hAL.out, ← hM.out, ← hN.out]
    exact ⟨al_fst m n h f, al_snd m n h f, al_thd m n h f, fun i _ => al_fth m n h f i⟩)
  rw [hX.out]
  have HKl := hide hKl
  clear hK hX hAL hM hN hT hB hKl hk hn hf hh hn2 hm2
  go_enter Tryd.func17, Tryd.ntmps17
  have hO := Own.start w
  go_upto_region 0 with (fail)
  refine wp_region_list (WL.out ?_)
  refine g_new hO D (vals .u8 32 key) 23 (fit_b32 _) (run_box 23 _ rfl _ (by kernel_rfl) w) ?_
  intro n4 w1 _ hO
  replace hO : Own w w1 [(n4, vals .u8 32 key, 23)] := hO
  refine g_new hO D (vals .u8 12 nonce) 24 (fit_b12 _) (run_box 24 _ rfl _ (by kernel_rfl) w1) ?_
  intro n5 w2 _ hO
  replace hO : Own w w2 [(n4, vals .u8 32 key, 23), (n5, vals .u8 12 nonce, 24)] := hO
  refine g_new hO D (vals .u8 16 (fun _ => 0)) 35 (fit_b16 _) (al_b16 rfl w2) ?_
  intro n8 w3 _ hO
  replace hO : Own w w3 [(n4, vals .u8 32 key, 23), (n5, vals .u8 12 nonce, 24), (n8, vals .u8 16 (fun _ => 0), 35)] := hO
  refine g_nil ?_
  simp only [Act.put, List.setIfInBounds_toArray, List.set_cons_succ, List.set_cons_zero]
  go_upto_region 1 with (fail)
  refine wp_region_list (WL.out ?_)
  refine g_ld hO 0 rfl Tryd.underlying23 ?_
  refine g_ld hO 1 rfl Tryd.underlying24 ?_
  refine g_call hO 22 #[A (vals .u8 32 key), Nv .u32 0, A (vals .u8 12 nonce)] (A (vals .u8 64 K)) (HK.out w3) ?_
  intro w4 hb15 hO
  refine g_new hO D (vals .u8 64 (fun _ => 0)) 39 (C.fit_b64 _) (C.al30 rfl w4) ?_
  intro n9 w5 _ hO
  replace hO : Own w w5 [(n4, vals .u8 32 key, 23), (n5, vals .u8 12 nonce, 24), (n8, vals .u8 16 (fun _ => 0), 35), (n9, vals .u8 64 (fun _ => 0), 39)] := hO
  refine g_st hO 3 (e := vals .u8 64 K) rfl (C.fit_b64 _) ?_
  intro w6 hO
  replace hO : Own w w6 [(n4, vals .u8 32 key, 23), (n5, vals .u8 12 nonce, 24), (n8, vals .u8 16 (fun _ => 0), 35), (n9, vals .u8 64 K, 39)] := hO
  refine g_nil ?_
  simp only [Act.put, List.setIfInBounds_toArray, List.set_cons_succ, List.set_cons_zero]
  clear hb15 HK
  go_upto_region 2 with (fail)
  refine wp_region_list (WL.out ?_)
  refine g_val (A (vals .u8 32 (fun _ => 0))) ?_ (run_bd 23 _ rfl [] (by kernel_rfl) _ bd_b32 w6)
  refine g_new hO D (vals .u8 32 (fun _ => 0)) 23 (fit_b32 _) (al_b32 rfl w6) ?_
  intro n10 w7 _ hO
  replace hO : Own w w7 [(n4, vals .u8 32 key, 23), (n5, vals .u8 12 nonce, 24), (n8, vals .u8 16 (fun _ => 0), 35), (n9, vals .u8 64 K, 39), (n10, vals .u8 32 (fun _ => 0), 23)] := hO
  refine g_st hO 4 (e := vals .u8 32 (fun _ => 0)) rfl (fit_b32 _) ?_
  intro w8 hO
  replace hO : Own w w8 [(n4, vals .u8 32 key, 23), (n5, vals .u8 12 nonce, 24), (n8, vals .u8 16 (fun _ => 0), 35), (n9, vals .u8 64 K, 39), (n10, vals .u8 32 (fun _ => 0), 23)] := hO
  refine g_nil ?_
  simp only [Act.put, List.setIfInBounds_toArray, List.set_cons_succ, List.set_cons_zero]
  go_upto_region 3 with (fail)
  refine wp_region_list (WL.out ?_)
  refine g_val (Nv .i64 0) ?_
  refine g_nil ?_
  simp only [Act.put, List.setIfInBounds_toArray, List.set_cons_succ, List.set_cons_zero]
  replace hO : Own w w8 [(n4, vals .u8 32 key, 23), (n5, vals .u8 12 nonce, 24), (n8, vals .u8 16 (fun _ => 0), 35), (n9, vals .u8 64 K, 39), (n10, vals .u8 32 (C.mx K 0), 23)] := by rw [C.mx_zero]; exact hO
  have HO : Hid (Own w w8 [(n4, vals .u8 32 key, 23), (n5, vals .u8 12 nonce, 24), (n8, vals .u8 16 (fun _ => 0), 35), (n9, vals .u8 64 K, 39), (n10, vals .u8 32 (C.mx K 0), 23)]) := hide (hO)
  clear hO
  go_wp2_with (fail)
  go_loopw [11] (fun x11 wr => ∃ k : Nat, k ≤ 32 ∧ x11 = .int .i64 k ∧ Own w wr [(n4, vals .u8 32 key, 23), (n5, vals .u8 12 nonce, 24), (n8, vals .u8 16 (fun _ => 0), 35), (n9, vals .u8 64 K, 39), (n10, vals .u8 32 (C.mx K k), 23)]) (fun x11 _ => 32 - (intOf x11).toNat)
  case atStart => exact ⟨0, Nat.zero_le _, rfl, HO.out⟩
  case round =>
    clear HO
    obtain ⟨k, hk9, rfl, hO⟩ := hrel
    by_cases hlt : k < 32
    · have hq0 : (0 : Int) ≤ (k : Int) := Int.natCast_nonneg k
      have hq1 : (k : Int) < 32 := by omega
      have hw1 := wr1 k (by omega)
      have hw0 := wr0 k (by omega)
      go_upto_region 6 with (fail)
      refine wp_region_list (WL.out ?_)
      refine g_val (Nv .i64 k) ?_
      refine g_val (Nv .i64 k) ?_
      refine g_val (E n9 k) ?_ (C.b_ia64 (by omega) wr)
      refine g_lc hO 3 k (Nv .u8 (K k)) rfl (vals_get _ _ _ _ (by omega)) agg_u8 ?_
      refine g_val (E n10 k) ?_ (b_ia_b32 (by omega) wr)
      refine g_sc hO 4 k ((K k : Nat) : Int) _ rfl (vals_get _ _ _ _ (by omega)) sz_u8 (C.mx_set K 32 k (K k) rfl) (fit_b32 _) ?_
      intro w9 hO
      replace hO : Own w w9 [(n4, vals .u8 32 key, 23), (n5, vals .u8 12 nonce, 24), (n8, vals .u8 16 (fun _ => 0), 35), (n9, vals .u8 64 K, 39), (n10, vals .u8 32 (C.mx K (k + 1)), 23)] := hO
      refine g_nil ?_
      simp only [Act.put, List.setIfInBounds_toArray, List.set_cons_succ, List.set_cons_zero]
      have HO2 : Hid (Own w w9 [(n4, vals .u8 32 key, 23), (n5, vals .u8 12 nonce, 24), (n8, vals .u8 16 (fun _ => 0), 35), (n9, vals .u8 64 K, 39), (n10, vals .u8 32 (C.mx K (k + 1)), 23)]) := hide hO
      clear hO
      go_wp2_with (fail)
      go_roundw
      case rel => exact ⟨k + 1, hlt, in_succ k, HO2.out⟩
      case measure => exact ms_lt hlt
    · have ek : k = 32 := by omega
      subst ek
      clear hlt hk9
      replace hO : Own w wr [(n4, vals .u8 32 key, 23), (n5, vals .u8 12 nonce, 24), (n8, vals .u8 16 (fun _ => 0), 35), (n9, vals .u8 64 K, 39), (n10, vals .u8 32 K, 23)] := by rw [← mx_all 32 K]; exact hO
      go_upto_region 7 with (fail)
      refine wp_region_list (WL.out ?_)
      refine g_val (.slice B m cm) ?_
      refine g_w hO 23 #[.slice B m cm] (fun s => s) M (fl m h) (HB.out wr hO.low) ?_
      intro n27 d27 w10 hb27 hO
      replace hO : Own w w10 [(n4, vals .u8 32 key, 23), (n5, vals .u8 12 nonce, 24), (n8, vals .u8 16 (fun _ => 0), 35), (n9, vals .u8 64 K, 39), (n10, vals .u8 32 K, 23), (n27, vals .u8 (M + d27) (C.mx (fl m h) M), 5)] := hO
      refine g_val (.slice T n cn) ?_
      refine g_w hO 23 #[.slice T n cn] (fun s => s) N (fl n f) (HT.out w10 hO.low) ?_
      intro n29 d29 w11 hb29 hO
      replace hO : Own w w11 [(n4, vals .u8 32 key, 23), (n5, vals .u8 12 nonce, 24), (n8, vals .u8 16 (fun _ => 0), 35), (n9, vals .u8 64 K, 39), (n10, vals .u8 32 K, 23), (n27, vals .u8 (M + d27) (C.mx (fl m h) M), 5), (n29, vals .u8 (N + d29) (C.mx (fl n f) N), 5)] := hO
      replace hO : Own w w11 [(n4, vals .u8 32 key, 23), (n5, vals .u8 12 nonce, 24), (n8, vals .u8 16 (fun _ => 0), 35), (n9, vals .u8 64 K, 39), (n10, vals .u8 32 K, 23), (n29, vals .u8 (N + d29) (C.mx (fl n f) N), 5), (n27, vals .u8 (M + d27) (C.mx (fl m h) M), 5)] := hO.perm ((((((List.Perm.swap _ _ _).cons _).cons _).cons _).cons _).cons _)
      refine g_apN (c := N + d29) (L := [(n4, vals .u8 32 key, 23), (n5, vals .u8 12 nonce, 24), (n8, vals .u8 16 (fun _ => 0), 35), (n9, vals .u8 64 K, 39), (n10, vals .u8 32 K, 23), (n29, vals .u8 (N + d29) (C.mx (fl n f) N), 5)]) (.slice (some ⟨n27, 0, none⟩) M (M + d27)) ⟨n27, d27, rfl, hO⟩ (rd_blk (hO.row 5 rfl) (Nat.le_add_right _ _)) rfl (by have := HM.out; omega) AL (HA.out.1) (HA.out.2.1) ?_
      intro q30 d30 w12 hO
      replace hO : Own w w12 [(n4, vals .u8 32 key, 23), (n5, vals .u8 12 nonce, 24), (n8, vals .u8 16 (fun _ => 0), 35), (n9, vals .u8 64 K, 39), (n10, vals .u8 32 K, 23), (n29, vals .u8 (N + d29) (C.mx (fl n f) N), 5), (q30, vals .u8 (M + N + d30) (C.mx AL (M + N)), 5)] := hO
      refine g_val (.slice (some ⟨q30, 0, none⟩) (M + N) (M + N + d30)) ?_
      refine g_nil ?_
      simp only [Act.put, List.setIfInBounds_toArray, List.set_cons_succ, List.set_cons_zero]
      clear hb27 hb29 HB HT
      go_upto_region 8 with (fail)
      refine wp_region_list (WL.out ?_)
      refine g_val (.slice (some ⟨q30, 0, none⟩) (M + N) (M + N + d30)) ?_
      refine g_val (.slice B m cm) ?_
      refine g_w hO 24 #[.slice B m cm] (fun s => s) 8 (ln m) (HL.out w12) ?_
      intro n33 d33 w13 hb33 hO
      replace hO : Own w w13 [(n4, vals .u8 32 key, 23), (n5, vals .u8 12 nonce, 24), (n8, vals .u8 16 (fun _ => 0), 35), (n9, vals .u8 64 K, 39), (n10, vals .u8 32 K, 23), (n29, vals .u8 (N + d29) (C.mx (fl n f) N), 5), (q30, vals .u8 (M + N + d30) (C.mx AL (M + N)), 5), (n33, vals .u8 (8 + d33) (C.mx (ln m) 8), 5)] := hO
      replace hO : Own w w13 [(n4, vals .u8 32 key, 23), (n5, vals .u8 12 nonce, 24), (n8, vals .u8 16 (fun _ => 0), 35), (n9, vals .u8 64 K, 39), (n10, vals .u8 32 K, 23), (n29, vals .u8 (N + d29) (C.mx (fl n f) N), 5), (n33, vals .u8 (8 + d33) (C.mx (ln m) 8), 5), (q30, vals .u8 (M + N + d30) (C.mx AL (M + N)), 5)] := hO.perm (((((((List.Perm.swap _ _ _).cons _).cons _).cons _).cons _).cons _).cons _)
      refine g_apN (c := 8 + d33) (L := [(n4, vals .u8 32 key, 23), (n5, vals .u8 12 nonce, 24), (n8, vals .u8 16 (fun _ => 0), 35), (n9, vals .u8 64 K, 39), (n10, vals .u8 32 K, 23), (n29, vals .u8 (N + d29) (C.mx (fl n f) N), 5), (n33, vals .u8 (8 + d33) (C.mx (ln m) 8), 5)]) (.slice (some ⟨q30, 0, none⟩) (M + N) (M + N + d30)) ⟨q30, d30, rfl, hO⟩ (rd_blk (hO.row 6 rfl) (Nat.le_add_right _ _)) rfl (by have := HM.out; omega) AL (fun _ _ => rfl) (HA.out.2.2.1) ?_
      intro q34 d34 w14 hO
      replace hO : Own w w14 [(n4, vals .u8 32 key, 23), (n5, vals .u8 12 nonce, 24), (n8, vals .u8 16 (fun _ => 0), 35), (n9, vals .u8 64 K, 39), (n10, vals .u8 32 K, 23), (n29, vals .u8 (N + d29) (C.mx (fl n f) N), 5), (n33, vals .u8 (8 + d33) (C.mx (ln m) 8), 5), (q34, vals .u8 (M + N + 8 + d34) (C.mx AL (M + N + 8)), 5)] := hO
      refine g_val (.slice T n cn) ?_
      refine g_w hO 24 #[.slice T n cn] (fun s => s) 8 (ln n) (HL2.out w14) ?_
      intro n36 d36 w15 hb36 hO
      replace hO : Own w w15 [(n4, vals .u8 32 key, 23), (n5, vals .u8 12 nonce, 24), (n8, vals .u8 16 (fun _ => 0), 35), (n9, vals .u8 64 K, 39), (n10, vals .u8 32 K, 23), (n29, vals .u8 (N + d29) (C.mx (fl n f) N), 5), (n33, vals .u8 (8 + d33) (C.mx (ln m) 8), 5), (q34, vals .u8 (M + N + 8 + d34) (C.mx AL (M + N + 8)), 5), (n36, vals .u8 (8 + d36) (C.mx (ln n) 8), 5)] := hO
      replace hO : Own w w15 [(n4, vals .u8 32 key, 23), (n5, vals .u8 12 nonce, 24), (n8, vals .u8 16 (fun _ => 0), 35), (n9, vals .u8 64 K, 39), (n10, vals .u8 32 K, 23), (n29, vals .u8 (N + d29) (C.mx (fl n f) N), 5), (n33, vals .u8 (8 + d33) (C.mx (ln m) 8), 5), (n36, vals .u8 (8 + d36) (C.mx (ln n) 8), 5), (q34, vals .u8 (M + N + 8 + d34) (C.mx AL (M + N + 8)), 5)] := hO.perm ((((((((List.Perm.swap _ _ _).cons _).cons _).cons _).cons _).cons _).cons _).cons _)
      refine g_apN (c := 8 + d36) (L := [(n4, vals .u8 32 key, 23), (n5, vals .u8 12 nonce, 24), (n8, vals .u8 16 (fun _ => 0), 35), (n9, vals .u8 64 K, 39), (n10, vals .u8 32 K, 23), (n29, vals .u8 (N + d29) (C.mx (fl n f) N), 5), (n33, vals .u8 (8 + d33) (C.mx (ln m) 8), 5), (n36, vals .u8 (8 + d36) (C.mx (ln n) 8), 5)]) (.slice (some ⟨q34, 0, none⟩) (M + N + 8) (M + N + 8 + d34)) ⟨q34, d34, rfl, hO⟩ (rd_blk (hO.row 7 rfl) (Nat.le_add_right _ _)) rfl (by have := HM.out; omega) AL (fun _ _ => rfl) (HA.out.2.2.2) ?_
      intro q37 d37 w16 hO
      replace hO : Own w w16 [(n4, vals .u8 32 key, 23), (n5, vals .u8 12 nonce, 24), (n8, vals .u8 16 (fun _ => 0), 35), (n9, vals .u8 64 K, 39), (n10, vals .u8 32 K, 23), (n29, vals .u8 (N + d29) (C.mx (fl n f) N), 5), (n33, vals .u8 (8 + d33) (C.mx (ln m) 8), 5), (n36, vals .u8 (8 + d36) (C.mx (ln n) 8), 5), (q37, vals .u8 (M + N + 8 + 8 + d37) (C.mx AL (M + N + 8 + 8)), 5)] := hO
      refine g_val (.slice (some ⟨q37, 0, none⟩) (M + N + 8 + 8) (M + N + 8 + 8 + d37)) ?_
      refine g_nil ?_
      simp only [Act.put, List.setIfInBounds_toArray, List.set_cons_succ, List.set_cons_zero]
      clear hb33 hb36 HL HL2 HA
      go_upto_region 9 with (fail)
      refine wp_region_list (WL.out ?_)
      refine g_ld hO 4 rfl Tryd.underlying23 ?_
      refine g_val (.slice (some ⟨q37, 0, none⟩) (M + N + 8 + 8) (M + N + 8 + 8 + d37)) ?_
      refine g_call hO 25 #[A (vals .u8 32 K), .slice (some ⟨q37, 0, none⟩) (M + N + 8 + 8) (M + N + 8 + 8 + d37)] (A (vals .u8 16 X)) (HX.out q37 d37 w16 (rd_blk (hO.row 8 rfl) (Nat.le_add_right _ _))) ?_
      intro w17 hb40 hO
      refine g_st hO 2 (e := vals .u8 16 X) rfl (fit_b16 _) ?_
      intro w18 hO
      replace hO : Own w w18 [(n4, vals .u8 32 key, 23), (n5, vals .u8 12 nonce, 24), (n8, vals .u8 16 X, 35), (n9, vals .u8 64 K, 39), (n10, vals .u8 32 K, 23), (n29, vals .u8 (N + d29) (C.mx (fl n f) N), 5), (n33, vals .u8 (8 + d33) (C.mx (ln m) 8), 5), (n36, vals .u8 (8 + d36) (C.mx (ln n) 8), 5), (q37, vals .u8 (M + N + 8 + 8 + d37) (C.mx AL (M + N + 8 + 8)), 5)] := hO
      refine g_nil ?_
      simp only [Act.put, List.setIfInBounds_toArray, List.set_cons_succ, List.set_cons_zero]
      clear hb40 HX HM HKl
      go_wp2_with (fail)
      refine bodyPost_ret (v := A (vals .u8 16 X)) (results_cell_row Tryd.results17 _ _ n8 35 _ (0, 0) _ rfl (hO.row 2 rfl) Tryd.underlying35 rfl ((fit_b16 _).size rfl)) rfl ⟨rfl, hO.low⟩
end Go.Proofs.YtanahjoiilfcbaaDoor.E

/- Walk: the law AeadTells. The variables places and kept as they are laid. -/
import Derived.Test.YtanahjoiilfcbaaDoorZs
namespace Go.Proofs.YtanahjoiilfcbaaDoor.E
set_option maxRecDepth 100000
open Go.RowKit Rg

theorem b_eqr {a : Int} {ρ : Operand → Value} {o : Oper} {x y : Operand} (w : World) (ho : o.op = .binOp .eql 26 x y 26 := by rfl) (hx : ρ x = .int .i64 a := by kernel_rfl) (hy : ρ y = .int .i64 a := by kernel_rfl) : (execOp ρ o).run Tryd.prog w = .ok (.value (.bool true)) w := by
  unfold execOp
  simp only [ho, hx, hy]
  go_simp
set_option maxHeartbeats 8000000 in
theorem tells_walk (key nonce : Nat → Nat) (hk : ∀ i, key i < 256) (hn : ∀ i, nonce i < 256) (T : Option Addr) (n cn : Nat) (f : Nat → Nat) (hf : ∀ i, f i < 256) (_hcn : n ≤ cn) (B : Option Addr) (m cm : Nat) (h : Nat → Nat) (hh : ∀ i, h i < 256) (hcm : m ≤ cm) (w : World) (hG1 : Gl w 1 (vals .u64 2 kp)) (hG0 : Gl w 0 (vals .i64 32 C.pl)) (hT : Rd w T n f) (hB : Rd w B m h) : Ret 4 #[A (vals .u8 32 key), A (vals .u8 12 nonce), .slice T n cn, .slice B m cm] w (.bool true) := by
  obtain ⟨Z, hZ⟩ : ∃ Z, Hid (sld key nonce m h n f = Z) := ⟨_, hide rfl⟩
  obtain ⟨Y, hY⟩ : ∃ Y, Hid (C.sx key 1 nonce f = Y) := ⟨_, hide rfl⟩
  obtain ⟨b, hb⟩ : ∃ b, Hid (okO key nonce m h n f = b) := ⟨_, hide rfl⟩
  have HA : Hid (∀ w', Below w.heap.size w w' → Ret 9 #[] w' (.bool true)) := hide fun w' hb => awake_c w' (hG0.low hb) (hG1.low hb)
  have HS : Hid (n ≤ 500 → m ≤ 500 → ∀ w', Below w.heap.size w w' → RetW 10 #[A (vals .u8 32 key), A (vals .u8 12 nonce), .slice T n cn, .slice B m cm] w' (fun s => .tuple #[s, .int .i64 0]) (n + 16) Z) := hide fun h1 h2 w' hb => hZ.out ▸ seal_c key nonce hk hn T n cn f hf B m cm h hh (by omega) (by omega) hcm w' (hG0.low hb) (hG1.low hb) (hT.low hb) (hB.low hb)
  have HR : Hid (n ≤ 500 → m ≤ 500 → ∀ w', Below w.heap.size w w' → RetV 11 #[A (vals .u8 32 key), A (vals .u8 12 nonce), .slice T n cn, .slice B m cm] w' (fun s => .tuple #[s, .int .i64 0]) (n + 16) Z) := hide fun h1 h2 w' hb => hZ.out ▸ rseal_c key nonce hk hn T n cn f hf B m cm h hh (by omega) (by omega) w' (hT.low hb) (hB.low hb)
  have HP : Hid (n ≤ 500 → m ≤ 500 → ∀ w', Below w.heap.size w w' → RetV 12 #[A (vals .u8 32 key), A (vals .u8 12 nonce), .slice T n cn, .slice B m cm] w' (fun s => .tuple #[s, .int .i64 (opE b)]) (opN b n) Y) := hide fun h1 h2 w' hw' => by
    have e := open_c key nonce hk hn T n cn f hf B m cm h hh (by omega) (by omega) _hcn hcm w' (hG0.low hw') (hG1.low hw') (hT.low hw') (hB.low hw')
    rw [hb.out, hY.out] at e
    exact e
  have HQ : Hid (n ≤ 500 → m ≤ 500 → ∀ w', Below w.heap.size w w' → RetV 13 #[A (vals .u8 32 key), A (vals .u8 12 nonce), .slice T n cn, .slice B m cm] w' (fun s => .tuple #[s, .int .i64 (opE b)]) (opN b n) Y) := hide fun h1 h2 w' hw' => by
    have e := ropen_c key nonce hk hn T n cn f hf B m cm h hh (by omega) (by omega) _hcn w' (hT.low hw') (hB.low hw')
    rw [hb.out, hY.out] at e
    exact e
  have HZl : Hid (∀ i, Z i < 256) := hide (by rw [← hZ.out]; exact seal_lt hf)
  have HYl : Hid (∀ i, Y i < 256) := hide (by rw [← hY.out]; exact C.sx_lt hf)
  clear hG0 hG1 hT hB hZ hY hb hk hn hf hh _hcn hcm
  go_enter Tryd.func4, Tryd.ntmps4
  have hO := Own.start w
  go_upto_region 0 with (fail)
  refine wp_region_list (WL.out ?_)
  refine g_new hO D (vals .u8 32 key) 23 (fit_b32 _) (run_box 23 _ rfl _ (by kernel_rfl) w) ?_
  intro n4 w1 _ hO
  replace hO : Own w w1 [(n4, vals .u8 32 key, 23)] := hO
  refine g_new hO D (vals .u8 12 nonce) 24 (fit_b12 _) (run_box 24 _ rfl _ (by kernel_rfl) w1) ?_
  intro n5 w2 _ hO
  replace hO : Own w w2 [(n4, vals .u8 32 key, 23), (n5, vals .u8 12 nonce, 24)] := hO
  refine g_val (.bool false) ?_
  refine g_nil ?_
  simp only [Act.put, List.setIfInBounds_toArray, List.set_cons_succ, List.set_cons_zero]
  go_upto_region 1 with (fail)
  refine wp_region_list (WL.out ?_)
  refine g_call hO 9 #[] (.bool true) (HA.out w2 hO.low) ?_
  intro w3 hb18 hO
  refine g_val (.bool true) ?_
  refine g_nil ?_
  simp only [Act.put, List.setIfInBounds_toArray, List.set_cons_succ, List.set_cons_zero]
  clear HA
  by_cases h05 : 500 < n
  · go_upto_region 2 with (fail)
    refine wp_region_list (WL.out ?_)
    refine g_val (.slice T n cn) ?_
    refine g_val (Nv .i64 n) ?_
    refine g_val (.bool true) ?_ (b_gtr (a := (n : Int)) (c := 500) (decide_eq_true (by omega)) w3)
    refine g_val (.bool true) ?_
    refine g_skip ?_
    refine g_skip ?_
    refine g_skip ?_
    refine g_val (.bool true) ?_
    refine g_nil ?_
    simp only [Act.put, List.setIfInBounds_toArray, List.set_cons_succ, List.set_cons_zero]
    have HL := hide hO.low
    clear hO
    go_wp2_with (fail)
    go_ret
    exact ⟨rfl, HL.out⟩
  by_cases h15 : 500 < m
  · go_upto_region 2 with (fail)
    refine wp_region_list (WL.out ?_)
    refine g_val (.slice T n cn) ?_
    refine g_val (Nv .i64 n) ?_
    refine g_val (.bool false) ?_ (b_gtr (a := (n : Int)) (c := 500) (decide_eq_false (by omega)) w3)
    refine g_val (.bool false) ?_
    refine g_val (.slice B m cm) ?_
    refine g_val (Nv .i64 m) ?_
    refine g_val (.bool true) ?_ (b_gtr (a := (m : Int)) (c := 500) (decide_eq_true (by omega)) w3)
    refine g_val (.bool true) ?_
    refine g_nil ?_
    simp only [Act.put, List.setIfInBounds_toArray, List.set_cons_succ, List.set_cons_zero]
    have HL := hide hO.low
    clear hO
    go_wp2_with (fail)
    go_ret
    exact ⟨rfl, HL.out⟩
  go_upto_region 2 with (fail)
  refine wp_region_list (WL.out ?_)
  refine g_val (.slice T n cn) ?_
  refine g_val (Nv .i64 n) ?_
  refine g_val (.bool false) ?_ (b_gtr (a := (n : Int)) (c := 500) (decide_eq_false (by omega)) w3)
  refine g_val (.bool false) ?_
  refine g_val (.slice B m cm) ?_
  refine g_val (Nv .i64 m) ?_
  refine g_val (.bool false) ?_ (b_gtr (a := (m : Int)) (c := 500) (decide_eq_false (by omega)) w3)
  refine g_val (.bool false) ?_
  refine g_nil ?_
  simp only [Act.put, List.setIfInBounds_toArray, List.set_cons_succ, List.set_cons_zero]
  have h1 : n ≤ 500 := by omega
  have h2 : m ≤ 500 := by omega
  clear h05 h15
  go_upto_region 4 with (fail)
  refine wp_region_list (WL.out ?_)
  refine g_ld hO 0 rfl Tryd.underlying23 ?_
  refine g_ld hO 1 rfl Tryd.underlying24 ?_
  refine g_val (.slice T n cn) ?_
  refine g_val (.slice B m cm) ?_
  refine g_w hO 10 #[A (vals .u8 32 key), A (vals .u8 12 nonce), .slice T n cn, .slice B m cm] (fun s => .tuple #[s, .int .i64 0]) (n + 16) Z (HS.out h1 h2 w3 hO.low) ?_
  intro n33 d33 w4 hb33 hO
  replace hO : Own w w4 [(n4, vals .u8 32 key, 23), (n5, vals .u8 12 nonce, 24), (n33, vals .u8 (n + 16 + d33) (C.mx Z (n + 16)), 5)] := hO
  refine g_val (.tuple #[.slice (some ⟨n33, 0, none⟩) (n + 16) (n + 16 + d33), .int .i64 0]) ?_
  refine g_val (.slice (some ⟨n33, 0, none⟩) (n + 16) (n + 16 + d33)) ?_
  refine g_val (.int .i64 0) ?_
  refine g_val (.slice (some ⟨n33, 0, none⟩) (n + 16) (n + 16 + d33)) ?_
  refine g_val (.int .i64 0) ?_
  refine g_nil ?_
  simp only [Act.put, List.setIfInBounds_toArray, List.set_cons_succ, List.set_cons_zero]
  clear hb33 HS
  go_upto_region 5 with (fail)
  refine wp_region_list (WL.out ?_)
  refine g_ld hO 0 rfl Tryd.underlying23 ?_
  refine g_ld hO 1 rfl Tryd.underlying24 ?_
  refine g_val (.slice T n cn) ?_
  refine g_val (.slice B m cm) ?_
  refine g_v hO 11 #[A (vals .u8 32 key), A (vals .u8 12 nonce), .slice T n cn, .slice B m cm] (fun s => .tuple #[s, .int .i64 0]) (n + 16) Z (HR.out h1 h2 w4 hO.low) ?_
  intro S41 c41 w5 hb41 hO hn41 hR41
  refine g_val (.tuple #[.slice S41 (n + 16) c41, .int .i64 0]) ?_
  refine g_val (.slice S41 (n + 16) c41) ?_
  refine g_val (.int .i64 0) ?_
  refine g_val (.slice S41 (n + 16) c41) ?_
  refine g_val (.int .i64 0) ?_
  refine g_nil ?_
  simp only [Act.put, List.setIfInBounds_toArray, List.set_cons_succ, List.set_cons_zero]
  clear hb41 hn41 HR
  go_upto_region 6 with (fail)
  refine wp_region_list (WL.out ?_)
  refine g_ld hO 0 rfl Tryd.underlying23 ?_
  refine g_ld hO 1 rfl Tryd.underlying24 ?_
  refine g_val (.slice T n cn) ?_
  refine g_val (.slice B m cm) ?_
  refine g_v hO 12 #[A (vals .u8 32 key), A (vals .u8 12 nonce), .slice T n cn, .slice B m cm] (fun s => .tuple #[s, .int .i64 (opE b)]) (opN b n) Y (HP.out h1 h2 w5 hO.low) ?_
  intro S49 c49 w6 hb49 hO hn49 hR49
  refine g_val (.tuple #[.slice S49 (opN b n) c49, .int .i64 (opE b)]) ?_
  refine g_val (.slice S49 (opN b n) c49) ?_
  refine g_val (.int .i64 (opE b)) ?_
  refine g_val (.slice S49 (opN b n) c49) ?_
  refine g_val (.int .i64 (opE b)) ?_
  refine g_nil ?_
  simp only [Act.put, List.setIfInBounds_toArray, List.set_cons_succ, List.set_cons_zero]
  replace hR41 := hR41.low hb49
  clear hb49 hn49 HP
  go_upto_region 7 with (fail)
  refine wp_region_list (WL.out ?_)
  refine g_ld hO 0 rfl Tryd.underlying23 ?_
  refine g_ld hO 1 rfl Tryd.underlying24 ?_
  refine g_val (.slice T n cn) ?_
  refine g_val (.slice B m cm) ?_
  refine g_v hO 13 #[A (vals .u8 32 key), A (vals .u8 12 nonce), .slice T n cn, .slice B m cm] (fun s => .tuple #[s, .int .i64 (opE b)]) (opN b n) Y (HQ.out h1 h2 w6 hO.low) ?_
  intro S57 c57 w7 hb57 hO hn57 hR57
  refine g_val (.tuple #[.slice S57 (opN b n) c57, .int .i64 (opE b)]) ?_
  refine g_val (.slice S57 (opN b n) c57) ?_
  refine g_val (.int .i64 (opE b)) ?_
  refine g_val (.slice S57 (opN b n) c57) ?_
  refine g_val (.int .i64 (opE b)) ?_
  refine g_nil ?_
  simp only [Act.put, List.setIfInBounds_toArray, List.set_cons_succ, List.set_cons_zero]
  replace hR41 := hR41.low hb57
  replace hR49 := hR49.low hb57
  clear hb57 hn57 HQ
  have hr1 : Rd w7 (some ⟨n33, 0, none⟩) (n + 16) Z := rd_blk (hO.row 2 rfl) (Nat.le_add_right _ _)
  go_upto_region 8 with (fail)
  refine wp_region_list (WL.out ?_)
  refine g_val (.bool true) ?_
  refine g_val (.bool true) ?_
  refine g_val (.slice (some ⟨n33, 0, none⟩) (n + 16) (n + 16 + d33)) ?_
  refine g_val (.string (C.sk (C.li (n + 16) Z))) ?_ (b_strf (c := n + 16 + d33) w7 hr1 HZl.out)
  refine g_val (.slice S41 (n + 16) c41) ?_
  refine g_val (.string (C.sk (C.li (n + 16) Z))) ?_ (b_strf (c := c41) w7 hR41 HZl.out)
  refine g_val (.bool true) ?_ (b_seq (s := C.sk (C.li (n + 16) Z)) (t := C.sk (C.li (n + 16) Z)) rfl w7)
  refine g_val (.bool true) ?_
  refine g_val (.bool true) ?_
  refine g_val (.int .i64 0) ?_
  refine g_val (.int .i64 0) ?_
  refine g_val (.bool true) ?_
  refine g_val (.bool true) ?_
  refine g_val (.bool true) ?_
  refine g_val (.slice S49 (opN b n) c49) ?_
  refine g_val (.string (C.sk (C.li (opN b n) Y))) ?_ (b_strf (c := c49) w7 hR49 HYl.out)
  refine g_val (.slice S57 (opN b n) c57) ?_
  refine g_val (.string (C.sk (C.li (opN b n) Y))) ?_ (b_strf (c := c57) w7 hR57 HYl.out)
  refine g_val (.bool true) ?_ (b_seq (s := C.sk (C.li (opN b n) Y)) (t := C.sk (C.li (opN b n) Y)) rfl w7)
  refine g_val (.bool true) ?_
  refine g_val (.bool true) ?_
  refine g_val (.int .i64 (opE b)) ?_
  refine g_val (.int .i64 (opE b)) ?_
  refine g_val (.bool true) ?_ (b_eqr (a := opE b) w7)
  refine g_val (.bool true) ?_
  refine g_val (.bool true) ?_
  refine g_nil ?_
  simp only [Act.put, List.setIfInBounds_toArray, List.set_cons_succ, List.set_cons_zero]
  clear hr1 hR41 hR49 hR57 HZl HYl
  have HL := hide hO.low
  clear hO
  go_wp2_with (fail)
  go_ret
  exact ⟨rfl, HL.out⟩
end Go.Proofs.YtanahjoiilfcbaaDoor.E

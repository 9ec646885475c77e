/- Walks of the reference: Seal, Open. At most two thousand bytes below 256. -/
import Derived.Test.YtanahjoiilfcbaaDoorZr
import Derived.Test.YtanahjoiilfcbaaDoorZm
namespace Go.Proofs.YtanahjoiilfcbaaDoor.E
set_option maxRecDepth 100000
open Go.RowKit Rg

set_option maxHeartbeats 8000000 in
theorem rseal_c (key nonce : Nat → Nat) (hk : ∀ i, key i < 256) (hn : ∀ i, nonce i < 256) (T : Option Addr) (n cn : Nat) (f : Nat → Nat) (hf : ∀ i, f i < 256) (B : Option Addr) (m cm : Nat) (h : Nat → Nat) (hh : ∀ i, h i < 256) (hn2 : n ≤ 2000) (hm2 : m ≤ 2000) (w : World) (hT : Rd w T n f) (hB : Rd w B m h) :
    RetV 11 #[A (vals .u8 32 key), A (vals .u8 12 nonce), .slice T n cn, .slice B m cm] w (fun s => .tuple #[s, .int .i64 0]) (n + 16) (sld key nonce m h n f) := by
  obtain ⟨Y, hY⟩ : ∃ Y, Hid (C.sx key 1 nonce f = Y) := ⟨_, hide rfl⟩
  obtain ⟨X, hX⟩ : ∃ X, Hid (tga key nonce m h n Y = X) := ⟨_, hide rfl⟩
  obtain ⟨Z, hZ⟩ : ∃ Z, Hid (cat Y n X = Z) := ⟨_, hide rfl⟩
  have hYl : ∀ i, Y i < 256 := fun i => hY.out ▸ C.sx_lt hf i
  have HS : Hid (∀ w', Below w.heap.size w w' → RetV 16 #[A (vals .u8 32 key), Nv .u32 1, A (vals .u8 12 nonce), .slice T n cn] w' (fun s => .tuple #[s, .int .i64 0]) n Y) := hide fun w' hb => hY.out ▸ rstream_f key nonce hk hn T n cn f hf hn2 w' (hT.low hb)
  have HT : Hid (∀ S c w', Below w.heap.size w w' → Rd w' S n Y → Ret 17 #[A (vals .u8 32 key), A (vals .u8 12 nonce), .slice S n c, .slice B m cm] w' (A (vals .u8 16 X))) := hide fun S c w' hb hr => hX.out ▸ rtagof_c key nonce hk hn S n c Y hYl B m cm h hh hn2 hm2 w' hr (hB.low hb)
  have HZ : Hid ((∀ i, i < n → Y i = Z (0 + i)) ∧ ∀ i, i < 16 → X i = Z (0 + n + i)) := hide (by
    rw [← hZ.out]; unfold cat
    exact ⟨fun i hi => by rw [Nat.zero_add, if_pos hi], fun i _ => by rw [Nat.zero_add, if_neg (by omega), Nat.add_sub_cancel_left]⟩)
  have HN := hide hn2
  unfold sld
  rw [hY.out, hX.out, hZ.out]
  clear hY hX hZ hT hB hYl hn2 hm2 hk hn hf hh
  go_enter Tryd.func11, Tryd.ntmps11
  have hO := Own.start w
  go_upto_region 0 with (fail)
  refine wp_region_list (WL.out ?_)
  refine g_new hO D (vals .u8 32 key) 23 (fit_b32 _) (run_box 23 _ rfl _ (by kernel_rfl) w) ?_
  intro n4 w1 _ hO
  replace hO : Own w w1 [(n4, vals .u8 32 key, 23)] := hO
  refine g_new hO D (vals .u8 12 nonce) 24 (fit_b12 _) (run_box 24 _ rfl _ (by kernel_rfl) w1) ?_
  intro n5 w2 _ hO
  replace hO : Own w w2 [(n4, vals .u8 32 key, 23), (n5, vals .u8 12 nonce, 24)] := hO
  refine g_val (.slice none 0 0) ?_
  refine g_val (Nv .i64 0) ?_
  refine g_nil ?_
  simp only [Act.put, List.setIfInBounds_toArray, List.set_cons_succ, List.set_cons_zero]
  go_upto_region 1 with (fail)
  refine wp_region_list (WL.out ?_)
  refine g_ld hO 0 rfl Tryd.underlying23 ?_
  refine g_ld hO 1 rfl Tryd.underlying24 ?_
  refine g_val (.slice T n cn) ?_
  refine g_v hO 16 #[A (vals .u8 32 key), Nv .u32 1, A (vals .u8 12 nonce), .slice T n cn] (fun s => .tuple #[s, .int .i64 0]) n Y (HS.out w2 hO.low) ?_
  intro S17 c17 w3 hb17 hO hn17 hR17
  refine g_val (.tuple #[.slice S17 n c17, .int .i64 0]) ?_
  refine g_val (.slice S17 n c17) ?_
  refine g_val (.int .i64 0) ?_
  refine g_val (.slice S17 n c17) ?_
  refine g_val (.int .i64 0) ?_
  refine g_nil ?_
  simp only [Act.put, List.setIfInBounds_toArray, List.set_cons_succ, List.set_cons_zero]
  go_upto_region 2 with (fail)
  refine wp_region_list (WL.out ?_)
  refine g_val (.int .i64 0) ?_
  refine g_val (.bool false) ?_
  refine g_nil ?_
  simp only [Act.put, List.setIfInBounds_toArray, List.set_cons_succ, List.set_cons_zero]
  clear hb17 HS
  go_upto_region 4 with (fail)
  refine wp_region_list (WL.out ?_)
  refine g_ld hO 0 rfl Tryd.underlying23 ?_
  refine g_ld hO 1 rfl Tryd.underlying24 ?_
  have HL := hide hO.low
  clear hO
  have hO := Own.start w3
  refine g_val (.slice S17 n c17) ?_
  refine g_val (.slice B m cm) ?_
  refine g_call hO 17 #[A (vals .u8 32 key), A (vals .u8 12 nonce), .slice S17 n c17, .slice B m cm] (A (vals .u8 16 X)) (HT.out S17 c17 w3 HL.out hR17) ?_
  intro w4 hb27 hO
  refine g_new hO D (vals .u8 16 (fun _ => 0)) 35 (fit_b16 _) (al_b16 rfl w4) ?_
  intro n12 w5 _ hO
  replace hO : Own w3 w5 [(n12, vals .u8 16 (fun _ => 0), 35)] := hO
  refine g_st hO 0 (e := vals .u8 16 X) rfl (fit_b16 _) ?_
  intro w6 hO
  replace hO : Own w3 w6 [(n12, vals .u8 16 X, 35)] := hO
  refine g_nil ?_
  simp only [Act.put, List.setIfInBounds_toArray, List.set_cons_succ, List.set_cons_zero]
  clear hb27 HT
  have hr1 : Rd w6 S17 n Y := hR17.low hO.low
  have hr2 : Rd w6 (some ⟨n12, 0, none⟩) 16 X := rd_vals (hO.row 0 rfl)
  have HL2 := hide (HL.out.trans (hO.low.mono HL.out.size))
  clear hO HL
  have hO := Own.start w6
  have hn2 := HN.out
  have H1 : Hid (∀ w', Below w6.heap.size w6 w' → ∃ news : List Value, Src Tryd.prog 1 25 (.slice S17 n c17) news.length news w' ∧ news = (List.range n).map fun i => Value.int .u8 ((Z (0 + i) : Nat) : Int)) := hide fun w' hb => src_for (hr1.low hb) HZ.out.1
  have H2 : Hid (∀ w', Below w6.heap.size w6 w' → ∃ news : List Value, Src Tryd.prog 1 25 (.slice (some ⟨n12, 0, none⟩) 16 16) news.length news w' ∧ news = (List.range 16).map fun i => Value.int .u8 ((Z (0 + n + i) : Nat) : Int)) := hide fun w' hb => src_for (hr2.low hb) HZ.out.2
  clear hr1 hr2 hR17 HZ HN
  go_upto_region 5 with (fail)
  refine Rg.pd [0, 2, 4] (fun ν => [(28, .slice (some ⟨ν 0, 0, none⟩) 0 0), (29, .slice S17 n c17), (30, .slice (some ⟨ν 2, 0, none⟩) (0 + n) (0 + n + ν 102)), (31, .slice (some ⟨n12, 0, none⟩) 16 16), (32, .slice (some ⟨ν 4, 0, none⟩) (0 + n + 16) (0 + n + 16 + ν 104)), (8, .slice (some ⟨ν 4, 0, none⟩) (0 + n + 16) (0 + n + 16 + ν 104)), (9, .int .i64 0)]) (OI w6 (fun s ν => [[], [((ν 0), vals .u8 0 (C.mx Z 0), 5)], [((ν 2), vals .u8 (0 + n + ν 102) (C.mx Z (0 + n)), 5)], [((ν 4), vals .u8 (0 + n + 16 + ν 104) (C.mx Z (0 + n + 16)), 5)]].getD s [])) (fun _ => 0) hO.drew (Rg.ac (sv 0 (fun _ q => .slice (some ⟨q, 0, none⟩) 0 0) (fun _ => vals .u8 0 (C.mx Z 0)) 5 (fun ν w => b_bs0 (C.mx Z 0) w) (fun _ => fit_sl _ _)) (Rg.ac nv (Rg.ac (C.sap2 1 0 0 n (fun ν => ν 0) (fun _ => 0) Z (fun _ => .slice S17 n c17) (fun _ => Nat.le_refl 0) (by omega) (fun ν w hO => H1.out w (Own.low hO))) (Rg.ac nv (Rg.ac (C.sap2 2 0 (0 + n) 16 (fun ν => ν 2) (fun ν => 0 + n + ν 102) Z (fun _ => .slice (some ⟨n12, 0, none⟩) 16 16) (fun ν => Nat.le_add_right _ _) (by omega) (fun ν w hO => H2.out w (Own.low hO))) (Rg.ac nv (Rg.ac nv Rg.an))))))) ?_
  intro ν wy hO
  replace hO : Own w6 wy [((ν 4), vals .u8 (0 + n + 16 + ν 104) (C.mx Z (0 + n + 16)), 5)] := hO
  simp only [Rg.putL, Act.put, List.setIfInBounds_toArray, List.set_cons_succ, List.set_cons_zero]
  generalize ν 4 = q4 at hO ⊢
  generalize ν 104 = d4 at hO ⊢
  clear H1 H2
  have HF := hide (And.intro (HL2.out.trans (hO.low.mono HL2.out.size)) (rd_blk (hO.row 0 rfl) (Nat.le_add_right _ _)))
  have e16 : 0 + n + 16 = n + 16 := by rw [Nat.zero_add]
  clear hO HL2
  go_wp2_with (fail)
  go_ret2
  rw [← e16]
  exact ⟨_, _, rfl, HF.out.1, Nat.le_add_right _ _, HF.out.2⟩
set_option maxHeartbeats 8000000 in
theorem ropen_lt (key nonce : Nat → Nat) (T : Option Addr) (n cn : Nat) (f : Nat → Nat) (B : Option Addr) (m cm : Nat) (w : World) (hlt : n < 16) :
    RetV 13 #[A (vals .u8 32 key), A (vals .u8 12 nonce), .slice T n cn, .slice B m cm] w (fun s => .tuple #[s, .int .i64 110]) 0 (C.sx key 1 nonce f) := by
  go_enter Tryd.func13, Tryd.ntmps13
  have hO := Own.start w
  go_upto_region 0 with (fail)
  refine wp_region_list (WL.out ?_)
  refine g_new hO D (vals .u8 32 key) 23 (fit_b32 _) (run_box 23 _ rfl _ (by kernel_rfl) w) ?_
  intro n4 w1 _ hO
  replace hO : Own w w1 [(n4, vals .u8 32 key, 23)] := hO
  refine g_new hO D (vals .u8 12 nonce) 24 (fit_b12 _) (run_box 24 _ rfl _ (by kernel_rfl) w1) ?_
  intro n5 w2 _ hO
  replace hO : Own w w2 [(n4, vals .u8 32 key, 23), (n5, vals .u8 12 nonce, 24)] := hO
  refine g_val (.slice none 0 0) ?_
  refine g_val (Nv .i64 0) ?_
  refine g_nil ?_
  simp only [Act.put, List.setIfInBounds_toArray, List.set_cons_succ, List.set_cons_zero]
  go_upto_region 1 with (fail)
  refine wp_region_list (WL.out ?_)
  refine g_val (.slice T n cn) ?_
  refine g_val (Nv .i64 n) ?_
  refine g_val (.bool true) ?_ (b_lss (a := (n : Int)) (c := 16) (decide_eq_true (by omega)) w2)
  refine g_nil ?_
  simp only [Act.put, List.setIfInBounds_toArray, List.set_cons_succ, List.set_cons_zero]
  have HL := hide hO.low
  clear hO
  go_wp2_with (fail)
  go_ret2
  exact ⟨none, 0, rfl, HL.out, Nat.le_refl _, .inl rfl⟩
theorem li_iff {n : Nat} {f g : Nat → Nat} : C.li n f = C.li n g ↔ ∀ i, i < n → f i = g i := by
  constructor
  · intro e i hi
    have := congrArg (fun l => l[i]?) e
    simp [C.li, hi] at this
    exact this
  · exact C.li_congr n f g
section
variable {b : Bool} {ops : Array Oper} {sts : List Nat} {F : Nu → Act} {u : World} {L : Nat → Nu → List Row} {i : Nat} {o : Oper}
/-- A part of a row, told as a string. -/
theorem nst (lo hi j : Nat) (q : Nu → Nat) (off m c n : Nat) (f : Nat → Nat) (hf : ∀ i, f i < 256) (hm : off + m ≤ n) {x : Operand} (hL : ∀ s, lo ≤ s → s ≤ hi → ∀ ν, (L s ν)[j]? = some (q ν, vals .u8 n f, (rowAt (L lo ν) j).2.2)) (ho : o.op = .convert 25 9 x := by rfl) (hx : ∀ ν, (F ν).eval x = .slice (some ⟨q ν, off, none⟩) m c := by intro ν; kernel_rfl)
    (hwin : win b ops sts i lo hi = true := by kernel_rfl) (hv : ∀ ν, vof (F ν) o = .string (C.sk (C.li m fun j => f (off + j))) := by intro ν; kernel_rfl) (hw : ∀ ν, Region.wanted o (yielded ops (F ν).tmps) = true := by intro ν; kernel_rfl) (hn : sts.contains i = false := by kernel_rfl) : Ob b Tryd.prog ops sts F (OI u L) i o :=
  nw lo hi (fun _ => .string (C.sk (C.li m fun j => f (off + j)))) (fun s ν w h1 h2 hO => b_strf w (rd_row (Own.row hO j (hL s h1 h2 ν)) hm) (fun _ => hf _) ho (hx ν)) hwin hv hw hn
end
theorem b_snE {ρ : Operand → Value} {o : Oper} {x y : Operand} {n : Nat} {f g : Nat → Nat} {b : Bool} (hf : ∀ i, f i < 256) (hg : ∀ i, g i < 256) (h : decide (df f g n = 0) = b) (w : World) (ho : o.op = .binOp .neq 9 x y 9 := by rfl) (hx : ρ x = .string (C.sk (C.li n f)) := by kernel_rfl) (hy : ρ y = .string (C.sk (C.li n g)) := by kernel_rfl) : (execOp ρ o).run Tryd.prog w = .ok (.value (.bool (!b))) w := by
  have h1 := C.sk_eq (C.li n f) (C.li n g) (C.li_lt n f hf) (C.li_lt n g hg)
  have h2 : decide (C.li n f = C.li n g) = b := by
    rw [← h]
    exact decide_eq_decide.2 (li_iff.trans (df_zero f g n).symm)
  rw [h2] at h1
  unfold execOp
  simp only [ho, hx, hy]
  go_simp
set_option maxHeartbeats 8000000 in
theorem ropen_ge (key nonce : Nat → Nat) (hk : ∀ i, key i < 256) (hn : ∀ i, nonce i < 256) (T : Option Addr) (n cn : Nat) (f : Nat → Nat) (hf : ∀ i, f i < 256) (B : Option Addr) (m cm : Nat) (h : Nat → Nat) (hh : ∀ i, h i < 256) (hn2 : n ≤ 2000) (hm2 : m ≤ 2000) (hcn : n + 16 ≤ cn) (w : World) (hT : Rd w T (n + 16) f) (hB : Rd w B m h) (b : Bool) (hb : decide (df (tga key nonce m h n f) (fun j => f (n + j)) 16 = 0) = b) :
    RetV 13 #[A (vals .u8 32 key), A (vals .u8 12 nonce), .slice T (n + 16) cn, .slice B m cm] w (fun s => .tuple #[s, .int .i64 (bif b then 0 else 110)]) (bif b then n else 0) (C.sx key 1 nonce f) := by
  obtain ⟨Y, hY⟩ : ∃ Y, Hid (C.sx key 1 nonce f = Y) := ⟨_, hide rfl⟩
  obtain ⟨X, hX⟩ : ∃ X, Hid (tga key nonce m h n f = X) := ⟨_, hide rfl⟩
  obtain ⟨G, hG⟩ : ∃ G : Nat → Nat, Hid ((fun j => f (n + j)) = G) := ⟨_, hide rfl⟩
  obtain ⟨e, he⟩ : ∃ e, Hid (cn - n = e) := ⟨_, hide rfl⟩
  obtain ⟨C0, hC0⟩ : ∃ C0, Hid (cutA T n cn = C0) := ⟨_, hide rfl⟩
  have HXl : Hid (∀ i, X i < 256) := hide fun i => hX.out ▸ tga_lt _ _ _ _ _ _ i
  have HGl : Hid (∀ i, G i < 256) := hide fun i => hG.out ▸ hf _
  have hTn := hT.take n (by omega)
  have hTc : Rd w C0 16 G := by
    have := hT.cut n cn hcn
    rw [Nat.add_sub_cancel_left, hC0.out] at this
    rw [← hG.out]
    exact this
  have HTc := hide hTc
  have HS : Hid (0 < n → ∀ w', Below w.heap.size w w' → RetZ 16 #[A (vals .u8 32 key), Nv .u32 1, A (vals .u8 12 nonce), .slice T n cn] w' (fun z => .tuple #[.slice (some ⟨z 0, 0, none⟩) n (n + z 1), .int .i64 0]) (fun z => [(z 0, vals .u8 (n + z 1) (C.mx Y n), 5)])) := hide fun h0 w' hb => hY.out ▸ (rstream_v key nonce hk hn T n cn f hf h0 hn2 w' (hTn.low hb)).retZ
  have HS0 : Hid (n = 0 → ∀ w', Ret 16 #[A (vals .u8 32 key), Nv .u32 1, A (vals .u8 12 nonce), .slice T n cn] w' (.tuple #[.slice none 0 0, .int .i64 0])) := hide fun h0 w' => by rw [h0]; exact C.rstream_z key nonce 1 (by decide) T cn w'
  have HT : Hid (∀ w', Below w.heap.size w w' → Ret 17 #[A (vals .u8 32 key), A (vals .u8 12 nonce), .slice T n cn, .slice B m cm] w' (A (vals .u8 16 X))) := hide fun w' hb => hX.out ▸ rtagof_c key nonce hk hn T n cn f hf B m cm h hh hn2 hm2 w' (hTn.low hb) (hB.low hb)
  have HQ : Hid (decide (df (fun j => X (0 + j)) G 16 = 0) = b) := hide (by
    rw [← hX.out, ← hG.out, ← hb]
    refine decide_eq_decide.2 ((df_zero _ _ _).trans (Iff.trans ⟨fun hq i hi => by rw [← hq i hi, Nat.zero_add], fun hq i hi => by rw [Nat.zero_add]; exact hq i hi⟩ (df_zero _ _ _).symm)))
  have HN : Hid (n ≤ cn ∧ n + 16 ≤ cn) := hide (by omega)
  have HM : Hid (n + 16 < 2 ^ 40) := hide (by omega)
  rw [hY.out]
  clear hY hX hT hB hTn hTc hb hcn hn2 hm2 hf hh hk hn hG
  go_enter Tryd.func13, Tryd.ntmps13
  have hO := Own.start w
  go_upto_region 0 with (fail)
  refine wp_region_list (WL.out ?_)
  refine g_new hO D (vals .u8 32 key) 23 (fit_b32 _) (run_box 23 _ rfl _ (by kernel_rfl) w) ?_
  intro n4 w1 _ hO
  replace hO : Own w w1 [(n4, vals .u8 32 key, 23)] := hO
  refine g_new hO D (vals .u8 12 nonce) 24 (fit_b12 _) (run_box 24 _ rfl _ (by kernel_rfl) w1) ?_
  intro n5 w2 _ hO
  replace hO : Own w w2 [(n4, vals .u8 32 key, 23), (n5, vals .u8 12 nonce, 24)] := hO
  refine g_val (.slice none 0 0) ?_
  refine g_val (Nv .i64 0) ?_
  refine g_nil ?_
  simp only [Act.put, List.setIfInBounds_toArray, List.set_cons_succ, List.set_cons_zero]
  go_upto_region 1 with (fail)
  refine wp_region_list (WL.out ?_)
  refine g_val (.slice T (n + 16) cn) ?_
  refine g_val (Nv .i64 (n + 16)) ?_
  refine g_val (.bool false) ?_ (b_lss (a := ((n + 16 : Nat) : Int)) (c := 16) (decide_eq_false (by omega)) w2)
  refine g_nil ?_
  simp only [Act.put, List.setIfInBounds_toArray, List.set_cons_succ, List.set_cons_zero]
  go_upto_region 3 with (fail)
  refine wp_region_list (WL.out ?_)
  refine g_val (.slice T (n + 16) cn) ?_
  refine g_val (Nv .i64 (n + 16)) ?_
  refine g_val (Nv .i64 n) ?_ (b_subE HM.out rfl w2)
  refine g_val (Nv .i64 n) ?_
  refine g_nil ?_
  simp only [Act.put, List.setIfInBounds_toArray, List.set_cons_succ, List.set_cons_zero]
  go_upto_region 4 with (fail)
  refine Rf.pf (fun ν => [(18, A (vals .u8 32 key)), (19, A (vals .u8 12 nonce)), (20, .slice T (n + 16) cn), (21, Nv .i64 n), (22, .slice T n cn), (23, .slice B m cm), (24, A (vals .u8 16 X)), (11, D (ν 7))]) (Rf.OD w (fun D ν => (n4, vals .u8 32 key, 23) :: (n5, vals .u8 12 nonce, 24) :: ((bif D 7 then [((ν 7), vals .u8 16 (bif D 8 then X else (fun _ => 0)), 35)] else [] : List Row)))) (fun _ => 0) hO.drew (Rg.ac (Rf.fld 0 (fun ν => n4) (fun ν => vals .u8 32 key) (fun D ν _ => rfl) Tryd.underlying23) (Rg.ac (Rf.fld 1 (fun ν => n5) (fun ν => vals .u8 12 nonce) (fun D ν _ => rfl) Tryd.underlying24) (Rg.ac Rf.fv (Rg.ac Rf.fv (Rg.ac (Rf.fx (fun ν => .slice T n cn) (fun ν w => b_hi (c := n) (len := n + 16) (Nat.le_add_right _ _) HN.out.2 w)) (Rg.ac Rf.fv (Rg.ac (Rf.fq 17 (fun ν => #[A (vals .u8 32 key), A (vals .u8 12 nonce), .slice T n cn, .slice B m cm]) (fun ν => A (vals .u8 16 X)) (fun D ν w my hO => HT.out w (Own.low hO))) (Rg.ac (Rf.fal (fun ν => vals .u8 16 (fun _ => 0)) 35 (fun ν w => al_b16 rfl w) (fun ν => fit_b16 _) (fun D ν nw my => by have f7 := my.not; have f8 := my.nf (k := 8) f7 (by kernel_rfl); have e : ∀ b7 b8 : Bool, b7 = false → b8 = false → (((n4, vals .u8 32 key, 23) :: (n5, vals .u8 12 nonce, 24) :: ((bif b7 then [((ν 7), vals .u8 16 (bif b8 then X else (fun _ => 0)), 35)] else [] : List Row)) : List Row) ++ ([(nw, vals .u8 16 (fun _ => 0), 35)] : List Row)).Perm ((n4, vals .u8 32 key, 23) :: (n5, vals .u8 12 nonce, 24) :: ((bif true then [(nw, vals .u8 16 (bif b8 then X else (fun _ => 0)), 35)] else [] : List Row))) := (by intro b7 b8; intros; subst_vars; (exact List.Perm.refl _)); exact e _ _ f7 f8)) (Rg.ac (Rf.fst 2 (fun ν => (ν 7)) (fun ν => vals .u8 16 (fun _ => 0)) (fun ν => vals .u8 16 X) (fun ν => fit_b16 _) (fun D ν my => by have f8 := my.not; have f7 := my.pre 7 (by kernel_rfl); have e : ∀ b7 b8 : Bool, b7 = true → b8 = false → ((n4, vals .u8 32 key, 23) :: (n5, vals .u8 12 nonce, 24) :: ((bif b7 then [((ν 7), vals .u8 16 (bif b8 then X else (fun _ => 0)), 35)] else [] : List Row)) : List Row)[2]? = some ((ν 7), vals .u8 16 (fun _ => 0), 35) := (by intros; subst_vars; rfl); exact e _ _ f7 f8) (fun D ν my => by have f8 := my.not; have f7 := my.pre 7 (by kernel_rfl); have e : ∀ b7 b8 : Bool, b7 = true → b8 = false → ((n4, vals .u8 32 key, 23) :: (n5, vals .u8 12 nonce, 24) :: ((bif b7 then [((ν 7), vals .u8 16 (bif true then X else (fun _ => 0)), 35)] else [] : List Row)) : List Row) = ((n4, vals .u8 32 key, 23) :: (n5, vals .u8 12 nonce, 24) :: ((bif b7 then [((ν 7), vals .u8 16 (bif b8 then X else (fun _ => 0)), 35)] else [] : List Row)) : List Row).set 2 ((ν 7), vals .u8 16 X, 35) := (by intros; subst_vars; rfl); exact e _ _ f7 f8)) Rg.an))))))))) ?_
  intro D ν w3 hall hO
  have f7 : D 7 = true := hall 7 (by decide)
  have f8 : D 8 = true := hall 8 (by decide)
  replace hO : Own w w3 [(n4, vals .u8 32 key, 23), (n5, vals .u8 12 nonce, 24), ((ν 7), vals .u8 16 X, 35)] := by
    have e : ∀ b7 b8 : Bool, b7 = true → b8 = true → Own w w3 ((n4, vals .u8 32 key, 23) :: (n5, vals .u8 12 nonce, 24) :: ((bif b7 then [((ν 7), vals .u8 16 (bif b8 then X else (fun _ => 0)), 35)] else [] : List Row))) → Own w w3 [(n4, vals .u8 32 key, 23), (n5, vals .u8 12 nonce, 24), ((ν 7), vals .u8 16 X, 35)] := by (intros; subst_vars; assumption)
    exact e _ _ f7 f8 hO
  clear hall f7 f8
  simp only [Rg.putL, Act.put, List.setIfInBounds_toArray, List.set_cons_succ, List.set_cons_zero]
  generalize ν 7 = n11 at hO ⊢
  clear ν D
  clear HT
  go_upto_region 5 with (fail)
  refine Rg.pd [] (fun _ => [(25, .slice (some ⟨n11, 0, none⟩) 16 16), (26, .string (C.sk (C.li 16 fun j => X (0 + j)))), (27, .slice T (n + 16) cn), (28, Nv .i64 n), (29, .slice C0 16 e), (30, .string (C.sk (C.li 16 G))), (31, .bool (!b))]) (OI w (fun _ _ => [(n4, vals .u8 32 key, 23), (n5, vals .u8 12 nonce, 24), (n11, vals .u8 16 X, 35)])) (fun _ => 0) hO.drew (Rg.ac nv (Rg.ac (nst 0 0 2 (fun _ => n11) 0 16 16 16 X HXl.out (by decide) (at1 0 fun _ => by kernel_rfl)) (Rg.ac nv (Rg.ac nv (Rg.ac (nx (fun _ => .slice C0 16 e) (fun _ w => b_loE (A := T) (c := n) (cap := cn) (len := n + 16) (Nat.le_add_right _ _) (Nat.add_sub_cancel_left _ _) he.out hC0.out w)) (Rg.ac (nsf (c := e) HTc.out HGl.out) (Rg.ac (nx (fun _ => .bool (!b)) (fun _ w => b_snE (fun _ => HXl.out _) HGl.out HQ.out w)) Rg.an))))))) ?_
  intro ν w4 hO
  replace hO : Own w w4 [(n4, vals .u8 32 key, 23), (n5, vals .u8 12 nonce, 24), (n11, vals .u8 16 X, 35)] := hO
  simp only [Rg.putL, Act.put, List.setIfInBounds_toArray, List.set_cons_succ, List.set_cons_zero]
  clear ν
  clear HQ HTc HXl HGl
  cases b
  · have HL := hide hO.low
    clear hO
    go_wp2_with (fail)
    go_ret2
    exact ⟨none, 0, rfl, HL.out, Nat.le_refl _, .inl rfl⟩
  · by_cases h0 : n = 0
    · go_upto_region 7 with (fail)
      refine Rg.pd [5] (fun _ => [(32, A (vals .u8 32 key)), (33, A (vals .u8 12 nonce)), (34, .slice T (n + 16) cn), (35, Nv .i64 n), (36, .slice T n cn), (37, .tuple #[.slice none 0 0, .int .i64 0]), (38, .slice none 0 0), (39, .int .i64 0), (8, .slice none 0 0), (9, .int .i64 0)]) (OI w (fun s ν => [[(n4, vals .u8 32 key, 23), (n5, vals .u8 12 nonce, 24), (n11, vals .u8 16 X, 35)], [(n4, vals .u8 32 key, 23), (n5, vals .u8 12 nonce, 24), (n11, vals .u8 16 X, 35)]].getD s [])) (fun _ => 0) hO.drew (Rg.ac (nld 0 0 0 (at1 0 fun _ => by kernel_rfl) Tryd.underlying23) (Rg.ac (nld 0 0 1 (at1 0 fun _ => by kernel_rfl) Tryd.underlying24) (Rg.ac nv (Rg.ac nv (Rg.ac (nx (fun _ => .slice T n cn) (fun _ w => b_hi (c := n) (len := n + 16) (Nat.le_add_right _ _) HN.out.2 w)) (Rg.ac (sc 0 16 (fun _ => #[A (vals .u8 32 key), Nv .u32 1, A (vals .u8 12 nonce), .slice T n cn]) (fun _ => .tuple #[.slice none 0 0, .int .i64 0]) (fun _ => fun w => HS0.out h0 w)) (Rg.ac nv (Rg.ac nv (Rg.ac nv (Rg.ac nv Rg.an)))))))))) ?_
      intro ν w5 hO
      replace hO : Own w w5 [(n4, vals .u8 32 key, 23), (n5, vals .u8 12 nonce, 24), (n11, vals .u8 16 X, 35)] := hO
      simp only [Rg.putL, Act.put, List.setIfInBounds_toArray, List.set_cons_succ, List.set_cons_zero]
      clear ν
      have HL := hide hO.low
      clear hO
      go_wp2_with (fail)
      go_ret2
      subst h0
      exact ⟨none, 0, rfl, HL.out, Nat.le_refl _, .inl rfl⟩
    · have h1 : 0 < n := by omega
      go_upto_region 7 with (fail)
      refine Rg.pd [5] (fun ν => [(32, A (vals .u8 32 key)), (33, A (vals .u8 12 nonce)), (34, .slice T (n + 16) cn), (35, Nv .i64 n), (36, .slice T n cn), (37, .tuple #[.slice (some ⟨ν 1000, 0, none⟩) n (n + ν 1001), .int .i64 0]), (38, .slice (some ⟨ν 1000, 0, none⟩) n (n + ν 1001)), (39, .int .i64 0), (8, .slice (some ⟨ν 1000, 0, none⟩) n (n + ν 1001)), (9, .int .i64 0)]) (OI w (fun s ν => [[(n4, vals .u8 32 key, 23), (n5, vals .u8 12 nonce, 24), (n11, vals .u8 16 X, 35)], [(n4, vals .u8 32 key, 23), (n5, vals .u8 12 nonce, 24), (n11, vals .u8 16 X, 35), ((ν 1000), vals .u8 (n + ν 1001) (C.mx Y n), 5)]].getD s [])) (fun _ => 0) hO.drew (Rg.ac (nld 0 0 0 (at1 0 fun ν => by kernel_rfl) Tryd.underlying23) (Rg.ac (nld 0 0 1 (at1 0 fun ν => by kernel_rfl) Tryd.underlying24) (Rg.ac nv (Rg.ac nv (Rg.ac (nx (fun _ => .slice T n cn) (fun _ w => b_hi (c := n) (len := n + 16) (Nat.le_add_right _ _) HN.out.2 w)) (Rg.ac (sz 0 1000 16 (fun _ => #[A (vals .u8 32 key), Nv .u32 1, A (vals .u8 12 nonce), .slice T n cn]) (fun z => .tuple #[.slice (some ⟨z 0, 0, none⟩) n (n + z 1), .int .i64 0]) (fun z => [(z 0, vals .u8 (n + z 1) (C.mx Y n), 5)]) (fun ν w hO => HS.out h1 w (Own.low hO))) (Rg.ac nv (Rg.ac nv (Rg.ac nv (Rg.ac nv Rg.an)))))))))) ?_
      intro ν wy hO
      replace hO : Own w wy [(n4, vals .u8 32 key, 23), (n5, vals .u8 12 nonce, 24), (n11, vals .u8 16 X, 35), ((ν 1000), vals .u8 (n + ν 1001) (C.mx Y n), 5)] := hO
      simp only [Rg.putL, Act.put, List.setIfInBounds_toArray, List.set_cons_succ, List.set_cons_zero]
      generalize ν 1000 = qz at hO ⊢
      generalize ν 1001 = dz at hO ⊢
      have HL := hide (And.intro hO.low (rd_blk (hO.row 3 rfl) (Nat.le_add_right n dz)))
      clear hO
      go_wp2_with (fail)
      go_ret2
      exact ⟨_, n + dz, rfl, HL.out.1, Nat.le_add_right _ _, HL.out.2⟩
theorem ropen_c (key nonce : Nat → Nat) (hk : ∀ i, key i < 256) (hn : ∀ i, nonce i < 256) (T : Option Addr) (n cn : Nat) (f : Nat → Nat) (hf : ∀ i, f i < 256) (B : Option Addr) (m cm : Nat) (h : Nat → Nat) (hh : ∀ i, h i < 256) (hn2 : n ≤ 2000) (hm2 : m ≤ 2000) (hcn : n ≤ cn) (w : World) (hT : Rd w T n f) (hB : Rd w B m h) :
    RetV 13 #[A (vals .u8 32 key), A (vals .u8 12 nonce), .slice T n cn, .slice B m cm] w (fun s => .tuple #[s, .int .i64 (opE (okO key nonce m h n f))]) (opN (okO key nonce m h n f) n) (C.sx key 1 nonce f) := by
  by_cases hlt : n < 16
  · have e : okO key nonce m h n f = false := by unfold okO; rw [decide_eq_false (by omega)]; rfl
    rw [e]
    exact ropen_lt key nonce T n cn f B m cm w hlt
  · obtain ⟨N, rfl⟩ : ∃ N, n = N + 16 := ⟨n - 16, by omega⟩
    have e := ropen_ge key nonce hk hn T N cn f hf B m cm h hh (by omega) hm2 hcn w hT hB _ rfl
    have e2 : okO key nonce m h (N + 16) f = decide (df (tga key nonce m h N f) (fun j => f (N + j)) 16 = 0) := by unfold okO; rw [decide_eq_true (by omega), Bool.true_and, Nat.add_sub_cancel]
    unfold opN opE
    rw [e2, Nat.add_sub_cancel]
    exact e
end Go.Proofs.YtanahjoiilfcbaaDoor.E

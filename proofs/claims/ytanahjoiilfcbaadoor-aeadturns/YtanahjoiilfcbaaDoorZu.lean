/- Walk: the law AeadTurns. The variables places and kept as they are laid. -/
import Derived.Test.YtanahjoiilfcbaaDoorZt
import Derived.Deep.DeepCutAuto
namespace Go.Proofs.YtanahjoiilfcbaaDoor.E
set_option maxRecDepth 100000
open Go.RowKit Rg

section
variable {ρ : Operand → Value} {o : Oper} {x y : Operand}
theorem b_remE' {a c d : Nat} (h : a % c = d) (h0 : 0 < c) (w : World) (ho : o.op = .binOp .rem 3 x y 3 := by rfl) (hx : ρ x = Nv .i64 a := by kernel_rfl) (hy : ρ y = Nv .i64 c := by kernel_rfl) : (execOp ρ o).run Tryd.prog w = .ok (.value (Nv .i64 d)) w := by
  subst h
  have h1 : (a : Int).tmod (c : Int) = ((a % c : Nat) : Int) := by rw [Int.tmod_eq_emod_of_nonneg (by omega)]; exact (Int.natCast_emod _ _).symm
  have h2 : ¬ c = 0 := by omega
  unfold execOp
  simp only [ho, hx, hy]
  go_simp
theorem b_rem4u {a d : Nat} (h : a % 4 = d) (w : World) (ho : o.op = .binOp .rem 5 x y 5 := by rfl) (hx : ρ x = Nv .u8 a := by kernel_rfl) (hy : ρ y = .int .u8 4 := by kernel_rfl) : (execOp ρ o).run Tryd.prog w = .ok (.value (Nv .u8 d)) w := by
  subst h
  have h1 : (a : Int).tmod 4 = ((a % 4 : Nat) : Int) := by rw [Int.tmod_eq_emod_of_nonneg (by omega)]; omega
  unfold execOp
  simp only [ho, hx, hy]
  go_simp
theorem b_eql3 {a : Nat} (h : 0 < a) (w : World) (ho : o.op = .binOp .eql 3 x y 3 := by rfl) (hx : ρ x = Nv .i64 a := by kernel_rfl) (hy : ρ y = .int .i64 0 := by kernel_rfl) : (execOp ρ o).run Tryd.prog w = .ok (.value (.bool false)) w := by
  have h2 : ¬ a = 0 := by omega
  unfold execOp
  simp only [ho, hx, hy]
  go_simp
end
theorem chg_vals {N k b : Nat} (f : Nat → Nat) : (vals .u8 N f).setIfInBounds k (.int .u8 ((f k ^^^ b : Nat) : Int)) = vals .u8 N (chg f k b) := by
  rw [vals_set]
  refine vals_congr _ _ _ _ fun j _ => ?_
  unfold chg
  by_cases h : j = k
  · subst h; rw [if_pos rfl]
  · rw [if_neg h]
set_option maxHeartbeats 16000000 in
theorem turns_walk (key nonce : Nat → Nat) (hk : ∀ i, key i < 256) (hn : ∀ i, nonce i < 256) (T : Option Addr) (n cn : Nat) (f : Nat → Nat) (hf : ∀ i, f i < 256) (_hcn : n ≤ cn) (B : Option Addr) (m cm : Nat) (h : Nat → Nat) (hh : ∀ i, h i < 256) (hcm : m ≤ cm) (a0 : Int) (ha1 : -9223372036854775808 ≤ a0) (ha2 : a0 ≤ 9223372036854775807) (bx : Nat) (hbx : bx < 256) (wh : Nat) (w : World) (hG1 : Gl w 1 (vals .u64 2 kp)) (hG0 : Gl w 0 (vals .i64 32 C.pl)) (hT : Rd w T n f) (hB : Rd w B m h) : Ret 6 #[A (vals .u8 32 key), A (vals .u8 12 nonce), .slice T n cn, .slice B m cm, .int .i64 a0, Nv .u8 bx, Nv .u8 wh] w (.bool true) := by
  obtain ⟨Z, hZ⟩ : ∃ Z, Hid (sld key nonce m h n f = Z) := ⟨_, hide rfl⟩
  have HA : Hid (∀ w', Below w.heap.size w w' → Ret 9 #[] w' (.bool true)) := hide fun w' hb => awake_c w' (hG0.low hb) (hG1.low hb)
  have HS : Hid (n ≤ 500 → m ≤ 500 → ∀ w', Below w.heap.size w w' → RetW 10 #[A (vals .u8 32 key), A (vals .u8 12 nonce), .slice T n cn, .slice B m cm] w' (fun s => .tuple #[s, .int .i64 0]) (n + 16) Z) := hide fun h1 h2 w' hb => hZ.out ▸ seal_c key nonce hk hn T n cn f hf B m cm h hh (by omega) (by omega) hcm w' (hG0.low hb) (hG1.low hb) (hT.low hb) (hB.low hb)
  have HP : Hid (∀ (K' N' Z' h' : Nat → Nat) (mm q d r e : Nat) (w' : World), (∀ i, K' i < 256) → (∀ i, N' i < 256) → (∀ i, Z' i < 256) → (∀ i, h' i < 256) → mm ≤ 501 → n ≤ 500 → Below w.heap.size w w' → Rd w' (some ⟨q, 0, none⟩) (n + 16) Z' → Rd w' (some ⟨r, 0, none⟩) mm h' → RetV 12 #[A (vals .u8 32 K'), A (vals .u8 12 N'), .slice (some ⟨q, 0, none⟩) (n + 16) (n + 16 + d), .slice (some ⟨r, 0, none⟩) mm (mm + e)] w' (fun s => .tuple #[s, .int .i64 (opE (okO K' N' mm h' (n + 16) Z'))]) (opN (okO K' N' mm h' (n + 16) Z') (n + 16)) (C.sx K' 1 N' Z')) := hide fun K' N' Z' h' mm q d r e w' k1 k2 k3 k4 h1 h2 hw' r1 r2 => open_c K' N' k1 k2 _ (n + 16) (n + 16 + d) Z' k3 _ mm (mm + e) h' k4 (by omega) (by omega) (Nat.le_add_right _ _) (Nat.le_add_right _ _) w' (hG0.low hw') (hG1.low hw') r1 r2
  have HQ : Hid (∀ (K' N' Z' h' : Nat → Nat) (mm q d r e : Nat) (w' : World), (∀ i, K' i < 256) → (∀ i, N' i < 256) → (∀ i, Z' i < 256) → (∀ i, h' i < 256) → mm ≤ 501 → n ≤ 500 → Below w.heap.size w w' → Rd w' (some ⟨q, 0, none⟩) (n + 16) Z' → Rd w' (some ⟨r, 0, none⟩) mm h' → RetV 13 #[A (vals .u8 32 K'), A (vals .u8 12 N'), .slice (some ⟨q, 0, none⟩) (n + 16) (n + 16 + d), .slice (some ⟨r, 0, none⟩) mm (mm + e)] w' (fun s => .tuple #[s, .int .i64 (opE (okO K' N' mm h' (n + 16) Z'))]) (opN (okO K' N' mm h' (n + 16) Z') (n + 16)) (C.sx K' 1 N' Z')) := hide fun K' N' Z' h' mm q d r e w' k1 k2 k3 k4 h1 h2 hw' r1 r2 => ropen_c K' N' k1 k2 _ (n + 16) (n + 16 + d) Z' k3 _ mm (mm + e) h' k4 (by omega) (by omega) (Nat.le_add_right _ _) w' r1 r2
  have HL : Hid ((∀ i, key i < 256) ∧ (∀ i, nonce i < 256) ∧ (∀ i, Z i < 256) ∧ ∀ i, h i < 256) := hide ⟨hk, hn, by rw [← hZ.out]; exact seal_lt hf, hh⟩
  have HB := hide hB
  have Ha := hide (And.intro ha1 ha2)
  clear hG0 hG1 hT hB hZ hk hn hf hh _hcn hcm ha1 ha2
  go_enter Tryd.func6, Tryd.ntmps6
  have hO := Own.start w
  go_upto_region 0 with (fail)
  refine wp_region_list (WL.out ?_)
  refine g_new hO D (vals .u8 32 key) 23 (fit_b32 _) (run_box 23 _ rfl _ (by kernel_rfl) w) ?_
  intro n7 w1 _ hO
  replace hO : Own w w1 [(n7, vals .u8 32 key, 23)] := hO
  refine g_new hO D (vals .u8 12 nonce) 24 (fit_b12 _) (run_box 24 _ rfl _ (by kernel_rfl) w1) ?_
  intro n8 w2 _ hO
  replace hO : Own w w2 [(n7, vals .u8 32 key, 23), (n8, vals .u8 12 nonce, 24)] := hO
  refine g_val (.bool false) ?_
  refine g_nil ?_
  simp only [Act.put, List.setIfInBounds_toArray, List.set_cons_succ, List.set_cons_zero]
  go_upto_region 1 with (fail)
  refine wp_region_list (WL.out ?_)
  refine g_call hO 9 #[] (.bool true) (HA.out w2 hO.low) ?_
  intro w3 hb23 hO
  refine g_val (.bool true) ?_
  refine g_nil ?_
  simp only [Act.put, List.setIfInBounds_toArray, List.set_cons_succ, List.set_cons_zero]
  clear HA
  by_cases h05 : 500 < n
  · go_upto_region 2 with (fail)
    refine wp_region_list (WL.out ?_)
    refine g_val (.slice T n cn) ?_
    refine g_val (Nv .i64 n) ?_
    refine g_val (.bool true) ?_ (b_gtr (a := (n : Int)) (c := 500) (decide_eq_true (by omega)) w3)
    refine g_val (.bool true) ?_
    refine g_skip ?_
    refine g_skip ?_
    refine g_skip ?_
    refine g_val (.bool true) ?_
    refine g_nil ?_
    simp only [Act.put, List.setIfInBounds_toArray, List.set_cons_succ, List.set_cons_zero]
    have HL := hide hO.low
    clear hO
    go_wp2_with (fail)
    go_ret
    exact ⟨rfl, HL.out⟩
  by_cases h15 : 500 < m
  · go_upto_region 2 with (fail)
    refine wp_region_list (WL.out ?_)
    refine g_val (.slice T n cn) ?_
    refine g_val (Nv .i64 n) ?_
    refine g_val (.bool false) ?_ (b_gtr (a := (n : Int)) (c := 500) (decide_eq_false (by omega)) w3)
    refine g_val (.bool false) ?_
    refine g_val (.slice B m cm) ?_
    refine g_val (Nv .i64 m) ?_
    refine g_val (.bool true) ?_ (b_gtr (a := (m : Int)) (c := 500) (decide_eq_true (by omega)) w3)
    refine g_val (.bool true) ?_
    refine g_nil ?_
    simp only [Act.put, List.setIfInBounds_toArray, List.set_cons_succ, List.set_cons_zero]
    have HL := hide hO.low
    clear hO
    go_wp2_with (fail)
    go_ret
    exact ⟨rfl, HL.out⟩
  go_upto_region 2 with (fail)
  refine wp_region_list (WL.out ?_)
  refine g_val (.slice T n cn) ?_
  refine g_val (Nv .i64 n) ?_
  refine g_val (.bool false) ?_ (b_gtr (a := (n : Int)) (c := 500) (decide_eq_false (by omega)) w3)
  refine g_val (.bool false) ?_
  refine g_val (.slice B m cm) ?_
  refine g_val (Nv .i64 m) ?_
  refine g_val (.bool false) ?_ (b_gtr (a := (m : Int)) (c := 500) (decide_eq_false (by omega)) w3)
  refine g_val (.bool false) ?_
  refine g_nil ?_
  simp only [Act.put, List.setIfInBounds_toArray, List.set_cons_succ, List.set_cons_zero]
  have h1 : n ≤ 500 := by omega
  have h2 : m ≤ 500 := by omega
  clear h05 h15
  have HO := hide hO
  clear hO
  go_upto_if 34 with (fail)
  go_cut [4] (fun s wc => ∃ a : Nat, s = .int .i64 (a : Int) ∧ wc = w3)
  case first =>
    by_cases hneg : a0 < 0
    · have hw1 : IntKind.i64.wrap (a0 + 1) = a0 + 1 := by have := Ha.out; simp [IntKind.wrap, IntKind.bits, IntKind.signed]; omega
      have hw2 : IntKind.i64.wrap (-(a0 + 1)) = -(a0 + 1) := by have := Ha.out; simp [IntKind.wrap, IntKind.bits, IntKind.signed]; omega
      go_wp2_with (fail)
      go_meet
      exact ⟨(-(a0 + 1)).toNat, by first | go_num | (congr 1; omega), rfl⟩
    · go_wp2_with (fail)
      go_meet
      exact ⟨a0.toNat, by first | go_num | (congr 1; omega), rfl⟩
  case rest =>
    obtain ⟨a, rfl, hwc⟩ := hcut
    obtain rfl : w3 = wc := hwc.symm
    clear Ha
    have hO := HO.out
    clear HO
    go_upto_region 6 with (fail)
    refine wp_region_list (WL.out ?_)
    refine g_ld hO 0 rfl Tryd.underlying23 ?_
    refine g_ld hO 1 rfl Tryd.underlying24 ?_
    refine g_val (.slice T n cn) ?_
    refine g_val (.slice B m cm) ?_
    refine g_w hO 10 #[A (vals .u8 32 key), A (vals .u8 12 nonce), .slice T n cn, .slice B m cm] (fun s => .tuple #[s, .int .i64 0]) (n + 16) Z (HS.out h1 h2 w3 hO.low) ?_
    intro n43 d43 w4 hb43 hO
    replace hO : Own w w4 [(n7, vals .u8 32 key, 23), (n8, vals .u8 12 nonce, 24), (n43, vals .u8 (n + 16 + d43) (C.mx Z (n + 16)), 5)] := hO
    refine g_val (.tuple #[.slice (some ⟨n43, 0, none⟩) (n + 16) (n + 16 + d43), .int .i64 0]) ?_
    refine g_val (.slice (some ⟨n43, 0, none⟩) (n + 16) (n + 16 + d43)) ?_
    refine g_val (.int .i64 0) ?_
    refine g_val (.slice (some ⟨n43, 0, none⟩) (n + 16) (n + 16 + d43)) ?_
    refine g_val (.int .i64 0) ?_
    refine g_nil ?_
    simp only [Act.put, List.setIfInBounds_toArray, List.set_cons_succ, List.set_cons_zero]
    clear hb43 HS
    go_upto_region 7 with (fail)
    refine wp_region_list (WL.out ?_)
    refine g_val (.slice (some ⟨n43, 0, none⟩) (n + 16) (n + 16 + d43)) ?_
    refine g_val (Nv .i64 (n + 16)) ?_
    refine g_val (.bool false) ?_ (b_eql3 (a := n + 16) (by omega) w4)
    refine g_nil ?_
    simp only [Act.put, List.setIfInBounds_toArray, List.set_cons_succ, List.set_cons_zero]
    go_upto_region 9 with (fail)
    refine wp_region_list (WL.out ?_)
    refine g_new hO (fun q => .slice (some ⟨q, 0, none⟩) 0 0) (vals .u8 (0 + 0) (C.mx h 0)) 5 (fit_sl _ _) (b_bs0 _ w4) ?_
    intro n49 w5 hb49 hO
    replace hO : Own w w5 [(n7, vals .u8 32 key, 23), (n8, vals .u8 12 nonce, 24), (n43, vals .u8 (n + 16 + d43) (C.mx Z (n + 16)), 5), (n49, vals .u8 (0 + 0) (C.mx h 0), 5)] := hO
    refine g_val (.slice B m cm) ?_
    refine g_apN (c := cm) (L := [(n7, vals .u8 32 key, 23), (n8, vals .u8 12 nonce, 24), (n43, vals .u8 (n + 16 + d43) (C.mx Z (n + 16)), 5)]) (.slice (some ⟨n49, 0, none⟩) 0 0) ⟨n49, 0, rfl, hO⟩ (HB.out.low hO.low) (Nat.zero_add m) (by omega) h (fun i hi => absurd hi (Nat.not_lt_zero i)) (fun i _ => by rw [Nat.zero_add]) ?_
    intro qb db w6 hO
    replace hO : Own w w6 [(n7, vals .u8 32 key, 23), (n8, vals .u8 12 nonce, 24), (n43, vals .u8 (n + 16 + d43) (C.mx Z (n + 16)), 5), (qb, vals .u8 (m + db) (C.mx h m), 5)] := hO
    refine g_val (.slice (some ⟨qb, 0, none⟩) m (m + db)) ?_
    refine g_nil ?_
    simp only [Act.put, List.setIfInBounds_toArray, List.set_cons_succ, List.set_cons_zero]
    clear HB
    have hc4 : wh % 4 = 0 ∨ wh % 4 = 1 ∨ wh % 4 = 2 ∨ wh % 4 = 3 := by omega
    rcases hc4 with hc | hc | hc | hc
    · go_upto_region 10 with (fail)
      refine wp_region_list (WL.out ?_)
      refine g_val (Nv .u8 wh) ?_
      refine g_val (Nv .u8 0) ?_ (b_rem4u hc w6)
      refine g_nil ?_
      simp only [Act.put, List.setIfInBounds_toArray, List.set_cons_succ, List.set_cons_zero]
      go_upto_region 11 with (fail)
      refine wp_region_list (WL.out ?_)
      refine g_val (.bool true) ?_
      refine g_val (.bool true) ?_
      refine g_nil ?_
      simp only [Act.put, List.setIfInBounds_toArray, List.set_cons_succ, List.set_cons_zero]
      obtain ⟨p, hp⟩ : ∃ p, a % (n + 16) = p := ⟨_, rfl⟩
      have hpl : p < n + 16 := hp ▸ Nat.mod_lt _ (by omega)
      have cz : (vals .u8 (n + 16 + d43) (C.mx Z (n + 16)))[p]? = some (Nv .u8 (Z p)) := by rw [vals_get _ _ _ _ (by omega)]; unfold C.mx; rw [if_pos hpl]
      have hz := HL.out.2.2.1 p
      go_upto_region 12 with (fail)
      refine Rg.pd [15] (fun _ => [(56, .slice (some ⟨n43, 0, none⟩) (n + 16) (n + 16 + d43)), (57, Nv .i64 a), (58, .slice (some ⟨n43, 0, none⟩) (n + 16) (n + 16 + d43)), (59, Nv .i64 (n + 16)), (60, Nv .i64 p), (61, .slice (some ⟨n43, 0, none⟩) (n + 16) (n + 16 + d43)), (62, Nv .i64 a), (63, .slice (some ⟨n43, 0, none⟩) (n + 16) (n + 16 + d43)), (64, Nv .i64 (n + 16)), (65, Nv .i64 p), (66, E n43 p), (67, Nv .u8 (Z p)), (68, Nv .u8 bx), (69, Nv .u8 (Z p ^^^ bx)), (70, E n43 p)]) (OI w (fun s ν => [[(n7, vals .u8 32 key, 23), (n8, vals .u8 12 nonce, 24), (n43, vals .u8 (n + 16 + d43) (C.mx Z (n + 16)), 5), (qb, vals .u8 (m + db) (C.mx h m), 5)], [(n7, vals .u8 32 key, 23), (n8, vals .u8 12 nonce, 24), (n43, vals .u8 (n + 16 + d43) (C.mx (chg Z p bx) (n + 16)), 5), (qb, vals .u8 (m + db) (C.mx h m), 5)]].getD s [])) (fun _ => 0) hO.drew (Rg.ac nv (Rg.ac nv (Rg.ac nv (Rg.ac nv (Rg.ac (nx (fun _ => Nv .i64 p) (fun _ w => b_remE' (c := n + 16) hp (by omega) w)) (Rg.ac nv (Rg.ac nv (Rg.ac nv (Rg.ac nv (Rg.ac (nx (fun _ => Nv .i64 p) (fun _ w => b_remE' (c := n + 16) hp (by omega) w)) (Rg.ac (nx (fun _ => E n43 p) (fun _ w => C.b_ias (n := n43) (m := n + 16) (c := n + 16 + d43) hpl w)) (Rg.ac (nc 0 0 2 (fun _ => p) (fun _ => Nv .u8 (Z p)) agg_u8 (fun _ => cz) (at1 0 fun _ => by kernel_rfl)) (Rg.ac nv (Rg.ac (nx (fun _ => Nv .u8 (Z p ^^^ bx)) (fun _ w => C.b_xor8 hz hbx w)) (Rg.ac (nx (fun _ => E n43 p) (fun _ w => C.b_ias (n := n43) (m := n + 16) (c := n + 16 + d43) hpl w)) (Rg.ac (sl 0 2 (fun _ => p) (fun _ => Nv .u8 (Z p)) (fun _ => ((Z p ^^^ bx : Nat) : Int)) sz_u8 (fun _ => cz) (fun _ => chg_set Z hpl) (fun _ => fit_sl _ _)) Rg.an)))))))))))))))) ?_
      intro ν w7 hO
      replace hO : Own w w7 [(n7, vals .u8 32 key, 23), (n8, vals .u8 12 nonce, 24), (n43, vals .u8 (n + 16 + d43) (C.mx (chg Z p bx) (n + 16)), 5), (qb, vals .u8 (m + db) (C.mx h m), 5)] := hO
      simp only [Rg.putL, Act.put, List.setIfInBounds_toArray, List.set_cons_succ, List.set_cons_zero]
      clear ν
      have hZ2 : ∀ i, chg Z p bx i < 256 := chg_lt HL.out.2.2.1 hbx
      clear cz hz hp
      obtain ⟨Y, hY⟩ : ∃ Y, Hid (C.sx key 1 nonce (chg Z p bx) = Y) := ⟨_, hide rfl⟩
      obtain ⟨b, hb⟩ : ∃ b, Hid (okO key nonce m h (n + 16) (chg Z p bx) = b) := ⟨_, hide rfl⟩
      have HYl : Hid (∀ i, Y i < 256) := hide (by rw [← hY.out]; exact C.sx_lt hZ2)
      have HP2 := fun w' hw => HP.out key nonce (chg Z p bx) h m n43 d43 qb db w' HL.out.1 HL.out.2.1 hZ2 HL.out.2.2.2 (by omega) h1 hw
      have HQ2 := fun w' hw => HQ.out key nonce (chg Z p bx) h m n43 d43 qb db w' HL.out.1 HL.out.2.1 hZ2 HL.out.2.2.2 (by omega) h1 hw
      rw [hb.out, hY.out] at HP2 HQ2
      replace HP2 := hide HP2
      replace HQ2 := hide HQ2
      clear HP HQ HL hb hY hZ2
      go_upto_region 19 with (fail)
      refine wp_region_list (WL.out ?_)
      refine g_ld hO 0 rfl Tryd.underlying23 ?_
      refine g_ld hO 1 rfl Tryd.underlying24 ?_
      refine g_val (.slice (some ⟨n43, 0, none⟩) (n + 16) (n + 16 + d43)) ?_
      refine g_val (.slice (some ⟨qb, 0, none⟩) m (m + db)) ?_
      refine g_v hO 12 #[A (vals .u8 32 key), A (vals .u8 12 nonce), .slice (some ⟨n43, 0, none⟩) (n + 16) (n + 16 + d43), .slice (some ⟨qb, 0, none⟩) m (m + db)] (fun s => .tuple #[s, .int .i64 (opE b)]) (opN b (n + 16)) Y (HP2.out w7 hO.low (rd_blk (hO.row 2 rfl) (Nat.le_add_right _ _)) (rd_blk (hO.row 3 rfl) (Nat.le_add_right _ _))) ?_
      intro S104 c104 w8 hb104 hO hn104 hR104
      refine g_val (.tuple #[.slice S104 (opN b (n + 16)) c104, .int .i64 (opE b)]) ?_
      refine g_val (.slice S104 (opN b (n + 16)) c104) ?_
      refine g_val (.int .i64 (opE b)) ?_
      refine g_val (.slice S104 (opN b (n + 16)) c104) ?_
      refine g_val (.int .i64 (opE b)) ?_
      refine g_nil ?_
      simp only [Act.put, List.setIfInBounds_toArray, List.set_cons_succ, List.set_cons_zero]
      clear hb104 hn104 HP2
      go_upto_region 20 with (fail)
      refine wp_region_list (WL.out ?_)
      refine g_ld hO 0 rfl Tryd.underlying23 ?_
      refine g_ld hO 1 rfl Tryd.underlying24 ?_
      refine g_val (.slice (some ⟨n43, 0, none⟩) (n + 16) (n + 16 + d43)) ?_
      refine g_val (.slice (some ⟨qb, 0, none⟩) m (m + db)) ?_
      refine g_v hO 13 #[A (vals .u8 32 key), A (vals .u8 12 nonce), .slice (some ⟨n43, 0, none⟩) (n + 16) (n + 16 + d43), .slice (some ⟨qb, 0, none⟩) m (m + db)] (fun s => .tuple #[s, .int .i64 (opE b)]) (opN b (n + 16)) Y (HQ2.out w8 hO.low (rd_blk (hO.row 2 rfl) (Nat.le_add_right _ _)) (rd_blk (hO.row 3 rfl) (Nat.le_add_right _ _))) ?_
      intro S112 c112 w9 hb112 hO hn112 hR112
      refine g_val (.tuple #[.slice S112 (opN b (n + 16)) c112, .int .i64 (opE b)]) ?_
      refine g_val (.slice S112 (opN b (n + 16)) c112) ?_
      refine g_val (.int .i64 (opE b)) ?_
      refine g_val (.slice S112 (opN b (n + 16)) c112) ?_
      refine g_val (.int .i64 (opE b)) ?_
      refine g_nil ?_
      simp only [Act.put, List.setIfInBounds_toArray, List.set_cons_succ, List.set_cons_zero]
      replace hR104 := hR104.low hb112
      clear hb112 hn112 HQ2
      go_upto_region 21 with (fail)
      refine wp_region_list (WL.out ?_)
      refine g_val (.bool true) ?_
      refine g_val (.bool true) ?_
      refine g_val (.slice S104 (opN b (n + 16)) c104) ?_
      refine g_val (.string (C.sk (C.li (opN b (n + 16)) Y))) ?_ (b_strf (c := c104) w9 hR104 HYl.out)
      refine g_val (.slice S112 (opN b (n + 16)) c112) ?_
      refine g_val (.string (C.sk (C.li (opN b (n + 16)) Y))) ?_ (b_strf (c := c112) w9 hR112 HYl.out)
      refine g_val (.bool true) ?_ (b_seq (s := C.sk (C.li (opN b (n + 16)) Y)) (t := C.sk (C.li (opN b (n + 16)) Y)) rfl w9)
      refine g_val (.bool true) ?_
      refine g_val (.bool true) ?_
      refine g_val (.int .i64 (opE b)) ?_
      refine g_val (.int .i64 (opE b)) ?_
      refine g_val (.bool true) ?_ (b_eqr (a := opE b) w9)
      refine g_val (.bool true) ?_
      refine g_val (.bool true) ?_
      refine g_nil ?_
      simp only [Act.put, List.setIfInBounds_toArray, List.set_cons_succ, List.set_cons_zero]
      clear hR104 hR112 HYl
      have HL := hide hO.low
      clear hO
      go_wp2_with (fail)
      go_ret
      exact ⟨rfl, HL.out⟩
    · go_upto_region 10 with (fail)
      refine wp_region_list (WL.out ?_)
      refine g_val (Nv .u8 wh) ?_
      refine g_val (Nv .u8 1) ?_ (b_rem4u hc w6)
      refine g_nil ?_
      simp only [Act.put, List.setIfInBounds_toArray, List.set_cons_succ, List.set_cons_zero]
      go_upto_region 11 with (fail)
      refine wp_region_list (WL.out ?_)
      refine g_val (.bool false) ?_
      refine g_val (.bool false) ?_
      refine g_nil ?_
      simp only [Act.put, List.setIfInBounds_toArray, List.set_cons_succ, List.set_cons_zero]
      go_upto_region 13 with (fail)
      refine wp_region_list (WL.out ?_)
      refine g_val (.bool true) ?_
      refine g_val (.bool true) ?_
      refine g_nil ?_
      simp only [Act.put, List.setIfInBounds_toArray, List.set_cons_succ, List.set_cons_zero]
      obtain ⟨p, hp⟩ : ∃ p, a % 32 = p := ⟨_, rfl⟩
      have hpl : p < 32 := hp ▸ Nat.mod_lt _ (by decide)
      have hz := HL.out.1 p
      go_upto_region 14 with (fail)
      refine wp_region_list (WL.out ?_)
      refine g_val (Nv .i64 a) ?_
      refine g_val (Nv .i64 p) ?_ (b_remE' (c := 32) hp (by decide) w6)
      refine g_val (Nv .i64 a) ?_
      refine g_val (Nv .i64 p) ?_ (b_remE' (c := 32) hp (by decide) w6)
      refine g_val (E n7 p) ?_ (b_ia_b32 hpl w6)
      refine g_lc hO 0 p (Nv .u8 (key p)) rfl (vals_get _ _ _ _ hpl) agg_u8 ?_
      refine g_val (Nv .u8 bx) ?_
      refine g_val (Nv .u8 (key p ^^^ bx)) ?_ (C.b_xor8 hz hbx w6)
      refine g_val (E n7 p) ?_ (b_ia_b32 hpl w6)
      refine g_sc hO 0 p ((key p ^^^ bx : Nat) : Int) _ rfl (vals_get _ _ _ _ hpl) sz_u8 (chg_vals key) (fit_b32 _) ?_
      intro w7 hO
      replace hO : Own w w7 [(n7, vals .u8 32 (chg key p bx), 23), (n8, vals .u8 12 nonce, 24), (n43, vals .u8 (n + 16 + d43) (C.mx Z (n + 16)), 5), (qb, vals .u8 (m + db) (C.mx h m), 5)] := hO
      refine g_nil ?_
      simp only [Act.put, List.setIfInBounds_toArray, List.set_cons_succ, List.set_cons_zero]
      have hZ2 : ∀ i, chg key p bx i < 256 := chg_lt HL.out.1 hbx
      clear hz hp hpl
      obtain ⟨Y, hY⟩ : ∃ Y, Hid (C.sx (chg key p bx) 1 nonce Z = Y) := ⟨_, hide rfl⟩
      obtain ⟨b, hb⟩ : ∃ b, Hid (okO (chg key p bx) nonce m h (n + 16) Z = b) := ⟨_, hide rfl⟩
      have HYl : Hid (∀ i, Y i < 256) := hide (by rw [← hY.out]; exact C.sx_lt HL.out.2.2.1)
      have HP2 := fun w' hw => HP.out (chg key p bx) nonce Z h m n43 d43 qb db w' hZ2 HL.out.2.1 HL.out.2.2.1 HL.out.2.2.2 (by omega) h1 hw
      have HQ2 := fun w' hw => HQ.out (chg key p bx) nonce Z h m n43 d43 qb db w' hZ2 HL.out.2.1 HL.out.2.2.1 HL.out.2.2.2 (by omega) h1 hw
      rw [hb.out, hY.out] at HP2 HQ2
      replace HP2 := hide HP2
      replace HQ2 := hide HQ2
      clear HP HQ HL hb hY hZ2
      go_upto_region 19 with (fail)
      refine wp_region_list (WL.out ?_)
      refine g_ld hO 0 rfl Tryd.underlying23 ?_
      refine g_ld hO 1 rfl Tryd.underlying24 ?_
      refine g_val (.slice (some ⟨n43, 0, none⟩) (n + 16) (n + 16 + d43)) ?_
      refine g_val (.slice (some ⟨qb, 0, none⟩) m (m + db)) ?_
      refine g_v hO 12 #[A (vals .u8 32 (chg key p bx)), A (vals .u8 12 nonce), .slice (some ⟨n43, 0, none⟩) (n + 16) (n + 16 + d43), .slice (some ⟨qb, 0, none⟩) m (m + db)] (fun s => .tuple #[s, .int .i64 (opE b)]) (opN b (n + 16)) Y (HP2.out w7 hO.low (rd_blk (hO.row 2 rfl) (Nat.le_add_right _ _)) (rd_blk (hO.row 3 rfl) (Nat.le_add_right _ _))) ?_
      intro S104 c104 w8 hb104 hO hn104 hR104
      refine g_val (.tuple #[.slice S104 (opN b (n + 16)) c104, .int .i64 (opE b)]) ?_
      refine g_val (.slice S104 (opN b (n + 16)) c104) ?_
      refine g_val (.int .i64 (opE b)) ?_
      refine g_val (.slice S104 (opN b (n + 16)) c104) ?_
      refine g_val (.int .i64 (opE b)) ?_
      refine g_nil ?_
      simp only [Act.put, List.setIfInBounds_toArray, List.set_cons_succ, List.set_cons_zero]
      clear hb104 hn104 HP2
      go_upto_region 20 with (fail)
      refine wp_region_list (WL.out ?_)
      refine g_ld hO 0 rfl Tryd.underlying23 ?_
      refine g_ld hO 1 rfl Tryd.underlying24 ?_
      refine g_val (.slice (some ⟨n43, 0, none⟩) (n + 16) (n + 16 + d43)) ?_
      refine g_val (.slice (some ⟨qb, 0, none⟩) m (m + db)) ?_
      refine g_v hO 13 #[A (vals .u8 32 (chg key p bx)), A (vals .u8 12 nonce), .slice (some ⟨n43, 0, none⟩) (n + 16) (n + 16 + d43), .slice (some ⟨qb, 0, none⟩) m (m + db)] (fun s => .tuple #[s, .int .i64 (opE b)]) (opN b (n + 16)) Y (HQ2.out w8 hO.low (rd_blk (hO.row 2 rfl) (Nat.le_add_right _ _)) (rd_blk (hO.row 3 rfl) (Nat.le_add_right _ _))) ?_
      intro S112 c112 w9 hb112 hO hn112 hR112
      refine g_val (.tuple #[.slice S112 (opN b (n + 16)) c112, .int .i64 (opE b)]) ?_
      refine g_val (.slice S112 (opN b (n + 16)) c112) ?_
      refine g_val (.int .i64 (opE b)) ?_
      refine g_val (.slice S112 (opN b (n + 16)) c112) ?_
      refine g_val (.int .i64 (opE b)) ?_
      refine g_nil ?_
      simp only [Act.put, List.setIfInBounds_toArray, List.set_cons_succ, List.set_cons_zero]
      replace hR104 := hR104.low hb112
      clear hb112 hn112 HQ2
      go_upto_region 21 with (fail)
      refine wp_region_list (WL.out ?_)
      refine g_val (.bool true) ?_
      refine g_val (.bool true) ?_
      refine g_val (.slice S104 (opN b (n + 16)) c104) ?_
      refine g_val (.string (C.sk (C.li (opN b (n + 16)) Y))) ?_ (b_strf (c := c104) w9 hR104 HYl.out)
      refine g_val (.slice S112 (opN b (n + 16)) c112) ?_
      refine g_val (.string (C.sk (C.li (opN b (n + 16)) Y))) ?_ (b_strf (c := c112) w9 hR112 HYl.out)
      refine g_val (.bool true) ?_ (b_seq (s := C.sk (C.li (opN b (n + 16)) Y)) (t := C.sk (C.li (opN b (n + 16)) Y)) rfl w9)
      refine g_val (.bool true) ?_
      refine g_val (.bool true) ?_
      refine g_val (.int .i64 (opE b)) ?_
      refine g_val (.int .i64 (opE b)) ?_
      refine g_val (.bool true) ?_ (b_eqr (a := opE b) w9)
      refine g_val (.bool true) ?_
      refine g_val (.bool true) ?_
      refine g_nil ?_
      simp only [Act.put, List.setIfInBounds_toArray, List.set_cons_succ, List.set_cons_zero]
      clear hR104 hR112 HYl
      have HL := hide hO.low
      clear hO
      go_wp2_with (fail)
      go_ret
      exact ⟨rfl, HL.out⟩
    · go_upto_region 10 with (fail)
      refine wp_region_list (WL.out ?_)
      refine g_val (Nv .u8 wh) ?_
      refine g_val (Nv .u8 2) ?_ (b_rem4u hc w6)
      refine g_nil ?_
      simp only [Act.put, List.setIfInBounds_toArray, List.set_cons_succ, List.set_cons_zero]
      go_upto_region 11 with (fail)
      refine wp_region_list (WL.out ?_)
      refine g_val (.bool false) ?_
      refine g_val (.bool false) ?_
      refine g_nil ?_
      simp only [Act.put, List.setIfInBounds_toArray, List.set_cons_succ, List.set_cons_zero]
      go_upto_region 13 with (fail)
      refine wp_region_list (WL.out ?_)
      refine g_val (.bool false) ?_
      refine g_val (.bool false) ?_
      refine g_nil ?_
      simp only [Act.put, List.setIfInBounds_toArray, List.set_cons_succ, List.set_cons_zero]
      go_upto_region 15 with (fail)
      refine wp_region_list (WL.out ?_)
      refine g_val (.bool true) ?_
      refine g_val (.bool true) ?_
      refine g_nil ?_
      simp only [Act.put, List.setIfInBounds_toArray, List.set_cons_succ, List.set_cons_zero]
      obtain ⟨p, hp⟩ : ∃ p, a % 12 = p := ⟨_, rfl⟩
      have hpl : p < 12 := hp ▸ Nat.mod_lt _ (by decide)
      have hz := HL.out.2.1 p
      go_upto_region 16 with (fail)
      refine wp_region_list (WL.out ?_)
      refine g_val (Nv .i64 a) ?_
      refine g_val (Nv .i64 p) ?_ (b_remE' (c := 12) hp (by decide) w6)
      refine g_val (Nv .i64 a) ?_
      refine g_val (Nv .i64 p) ?_ (b_remE' (c := 12) hp (by decide) w6)
      refine g_val (E n8 p) ?_ (b_ia_b12 hpl w6)
      refine g_lc hO 1 p (Nv .u8 (nonce p)) rfl (vals_get _ _ _ _ hpl) agg_u8 ?_
      refine g_val (Nv .u8 bx) ?_
      refine g_val (Nv .u8 (nonce p ^^^ bx)) ?_ (C.b_xor8 hz hbx w6)
      refine g_val (E n8 p) ?_ (b_ia_b12 hpl w6)
      refine g_sc hO 1 p ((nonce p ^^^ bx : Nat) : Int) _ rfl (vals_get _ _ _ _ hpl) sz_u8 (chg_vals nonce) (fit_b12 _) ?_
      intro w7 hO
      replace hO : Own w w7 [(n7, vals .u8 32 key, 23), (n8, vals .u8 12 (chg nonce p bx), 24), (n43, vals .u8 (n + 16 + d43) (C.mx Z (n + 16)), 5), (qb, vals .u8 (m + db) (C.mx h m), 5)] := hO
      refine g_nil ?_
      simp only [Act.put, List.setIfInBounds_toArray, List.set_cons_succ, List.set_cons_zero]
      have hZ2 : ∀ i, chg nonce p bx i < 256 := chg_lt HL.out.2.1 hbx
      clear hz hp hpl
      obtain ⟨Y, hY⟩ : ∃ Y, Hid (C.sx key 1 (chg nonce p bx) Z = Y) := ⟨_, hide rfl⟩
      obtain ⟨b, hb⟩ : ∃ b, Hid (okO key (chg nonce p bx) m h (n + 16) Z = b) := ⟨_, hide rfl⟩
      have HYl : Hid (∀ i, Y i < 256) := hide (by rw [← hY.out]; exact C.sx_lt HL.out.2.2.1)
      have HP2 := fun w' hw => HP.out key (chg nonce p bx) Z h m n43 d43 qb db w' HL.out.1 hZ2 HL.out.2.2.1 HL.out.2.2.2 (by omega) h1 hw
      have HQ2 := fun w' hw => HQ.out key (chg nonce p bx) Z h m n43 d43 qb db w' HL.out.1 hZ2 HL.out.2.2.1 HL.out.2.2.2 (by omega) h1 hw
      rw [hb.out, hY.out] at HP2 HQ2
      replace HP2 := hide HP2
      replace HQ2 := hide HQ2
      clear HP HQ HL hb hY hZ2
      go_upto_region 19 with (fail)
      refine wp_region_list (WL.out ?_)
      refine g_ld hO 0 rfl Tryd.underlying23 ?_
      refine g_ld hO 1 rfl Tryd.underlying24 ?_
      refine g_val (.slice (some ⟨n43, 0, none⟩) (n + 16) (n + 16 + d43)) ?_
      refine g_val (.slice (some ⟨qb, 0, none⟩) m (m + db)) ?_
      refine g_v hO 12 #[A (vals .u8 32 key), A (vals .u8 12 (chg nonce p bx)), .slice (some ⟨n43, 0, none⟩) (n + 16) (n + 16 + d43), .slice (some ⟨qb, 0, none⟩) m (m + db)] (fun s => .tuple #[s, .int .i64 (opE b)]) (opN b (n + 16)) Y (HP2.out w7 hO.low (rd_blk (hO.row 2 rfl) (Nat.le_add_right _ _)) (rd_blk (hO.row 3 rfl) (Nat.le_add_right _ _))) ?_
      intro S104 c104 w8 hb104 hO hn104 hR104
      refine g_val (.tuple #[.slice S104 (opN b (n + 16)) c104, .int .i64 (opE b)]) ?_
      refine g_val (.slice S104 (opN b (n + 16)) c104) ?_
      refine g_val (.int .i64 (opE b)) ?_
      refine g_val (.slice S104 (opN b (n + 16)) c104) ?_
      refine g_val (.int .i64 (opE b)) ?_
      refine g_nil ?_
      simp only [Act.put, List.setIfInBounds_toArray, List.set_cons_succ, List.set_cons_zero]
      clear hb104 hn104 HP2
      go_upto_region 20 with (fail)
      refine wp_region_list (WL.out ?_)
      refine g_ld hO 0 rfl Tryd.underlying23 ?_
      refine g_ld hO 1 rfl Tryd.underlying24 ?_
      refine g_val (.slice (some ⟨n43, 0, none⟩) (n + 16) (n + 16 + d43)) ?_
      refine g_val (.slice (some ⟨qb, 0, none⟩) m (m + db)) ?_
      refine g_v hO 13 #[A (vals .u8 32 key), A (vals .u8 12 (chg nonce p bx)), .slice (some ⟨n43, 0, none⟩) (n + 16) (n + 16 + d43), .slice (some ⟨qb, 0, none⟩) m (m + db)] (fun s => .tuple #[s, .int .i64 (opE b)]) (opN b (n + 16)) Y (HQ2.out w8 hO.low (rd_blk (hO.row 2 rfl) (Nat.le_add_right _ _)) (rd_blk (hO.row 3 rfl) (Nat.le_add_right _ _))) ?_
      intro S112 c112 w9 hb112 hO hn112 hR112
      refine g_val (.tuple #[.slice S112 (opN b (n + 16)) c112, .int .i64 (opE b)]) ?_
      refine g_val (.slice S112 (opN b (n + 16)) c112) ?_
      refine g_val (.int .i64 (opE b)) ?_
      refine g_val (.slice S112 (opN b (n + 16)) c112) ?_
      refine g_val (.int .i64 (opE b)) ?_
      refine g_nil ?_
      simp only [Act.put, List.setIfInBounds_toArray, List.set_cons_succ, List.set_cons_zero]
      replace hR104 := hR104.low hb112
      clear hb112 hn112 HQ2
      go_upto_region 21 with (fail)
      refine wp_region_list (WL.out ?_)
      refine g_val (.bool true) ?_
      refine g_val (.bool true) ?_
      refine g_val (.slice S104 (opN b (n + 16)) c104) ?_
      refine g_val (.string (C.sk (C.li (opN b (n + 16)) Y))) ?_ (b_strf (c := c104) w9 hR104 HYl.out)
      refine g_val (.slice S112 (opN b (n + 16)) c112) ?_
      refine g_val (.string (C.sk (C.li (opN b (n + 16)) Y))) ?_ (b_strf (c := c112) w9 hR112 HYl.out)
      refine g_val (.bool true) ?_ (b_seq (s := C.sk (C.li (opN b (n + 16)) Y)) (t := C.sk (C.li (opN b (n + 16)) Y)) rfl w9)
      refine g_val (.bool true) ?_
      refine g_val (.bool true) ?_
      refine g_val (.int .i64 (opE b)) ?_
      refine g_val (.int .i64 (opE b)) ?_
      refine g_val (.bool true) ?_ (b_eqr (a := opE b) w9)
      refine g_val (.bool true) ?_
      refine g_val (.bool true) ?_
      refine g_nil ?_
      simp only [Act.put, List.setIfInBounds_toArray, List.set_cons_succ, List.set_cons_zero]
      clear hR104 hR112 HYl
      have HL := hide hO.low
      clear hO
      go_wp2_with (fail)
      go_ret
      exact ⟨rfl, HL.out⟩
    · go_upto_region 10 with (fail)
      refine wp_region_list (WL.out ?_)
      refine g_val (Nv .u8 wh) ?_
      refine g_val (Nv .u8 3) ?_ (b_rem4u hc w6)
      refine g_nil ?_
      simp only [Act.put, List.setIfInBounds_toArray, List.set_cons_succ, List.set_cons_zero]
      go_upto_region 11 with (fail)
      refine wp_region_list (WL.out ?_)
      refine g_val (.bool false) ?_
      refine g_val (.bool false) ?_
      refine g_nil ?_
      simp only [Act.put, List.setIfInBounds_toArray, List.set_cons_succ, List.set_cons_zero]
      go_upto_region 13 with (fail)
      refine wp_region_list (WL.out ?_)
      refine g_val (.bool false) ?_
      refine g_val (.bool false) ?_
      refine g_nil ?_
      simp only [Act.put, List.setIfInBounds_toArray, List.set_cons_succ, List.set_cons_zero]
      go_upto_region 15 with (fail)
      refine wp_region_list (WL.out ?_)
      refine g_val (.bool false) ?_
      refine g_val (.bool false) ?_
      refine g_nil ?_
      simp only [Act.put, List.setIfInBounds_toArray, List.set_cons_succ, List.set_cons_zero]
      go_upto_region 17 with (fail)
      refine wp_region_list (WL.out ?_)
      refine g_val (.bool true) ?_
      refine g_val (.bool true) ?_
      refine g_nil ?_
      simp only [Act.put, List.setIfInBounds_toArray, List.set_cons_succ, List.set_cons_zero]
      obtain ⟨h3, hh3⟩ : ∃ h3, Hid (cat h m (fun _ => bx) = h3) := ⟨_, hide rfl⟩
      have hZ2 : ∀ i, h3 i < 256 := by rw [← hh3.out]; exact cat_lt HL.out.2.2.2 fun _ => hbx
      have e1 : ∀ i, i < m → h i = h3 i := fun i hi => by rw [← hh3.out]; unfold cat; rw [if_pos hi]
      have e2 : h3 m = bx := by rw [← hh3.out]; unfold cat; rw [if_neg (Nat.lt_irrefl m)]
      go_upto_region 18 with (fail)
      refine wp_region_list (WL.out ?_)
      refine g_val (.slice (some ⟨qb, 0, none⟩) m (m + db)) ?_
      refine g_val (Nv .u8 bx) ?_
      refine g_ap1 (L := [(n7, vals .u8 32 key, 23), (n8, vals .u8 12 nonce, 24), (n43, vals .u8 (n + 16 + d43) (C.mx Z (n + 16)), 5)]) (.slice (some ⟨qb, 0, none⟩) m (m + db)) (.inr ⟨qb, db, rfl, hO⟩) bx (by omega) h3 e1 e2 ?_
      intro q3 r3 d3 w7 hO
      replace hO : Own w w7 [(n7, vals .u8 32 key, 23), (n8, vals .u8 12 nonce, 24), (n43, vals .u8 (n + 16 + d43) (C.mx Z (n + 16)), 5), (q3, vals .u8 (m + 1 + d3) (C.mx h3 (m + 1)), 5)] := hO
      refine g_val (.slice (some ⟨q3, 0, none⟩) (m + 1) (m + 1 + d3)) ?_
      refine g_nil ?_
      simp only [Act.put, List.setIfInBounds_toArray, List.set_cons_succ, List.set_cons_zero]
      clear e1 e2 hh3
      obtain ⟨Y, hY⟩ : ∃ Y, Hid (C.sx key 1 nonce Z = Y) := ⟨_, hide rfl⟩
      obtain ⟨b, hb⟩ : ∃ b, Hid (okO key nonce (m + 1) h3 (n + 16) Z = b) := ⟨_, hide rfl⟩
      have HYl : Hid (∀ i, Y i < 256) := hide (by rw [← hY.out]; exact C.sx_lt HL.out.2.2.1)
      have HP2 := fun w' hw => HP.out key nonce Z h3 (m + 1) n43 d43 q3 d3 w' HL.out.1 HL.out.2.1 HL.out.2.2.1 hZ2 (by omega) h1 hw
      have HQ2 := fun w' hw => HQ.out key nonce Z h3 (m + 1) n43 d43 q3 d3 w' HL.out.1 HL.out.2.1 HL.out.2.2.1 hZ2 (by omega) h1 hw
      rw [hb.out, hY.out] at HP2 HQ2
      replace HP2 := hide HP2
      replace HQ2 := hide HQ2
      clear HP HQ HL hb hY hZ2
      go_upto_region 19 with (fail)
      refine wp_region_list (WL.out ?_)
      refine g_ld hO 0 rfl Tryd.underlying23 ?_
      refine g_ld hO 1 rfl Tryd.underlying24 ?_
      refine g_val (.slice (some ⟨n43, 0, none⟩) (n + 16) (n + 16 + d43)) ?_
      refine g_val (.slice (some ⟨q3, 0, none⟩) (m + 1) (m + 1 + d3)) ?_
      refine g_v hO 12 #[A (vals .u8 32 key), A (vals .u8 12 nonce), .slice (some ⟨n43, 0, none⟩) (n + 16) (n + 16 + d43), .slice (some ⟨q3, 0, none⟩) (m + 1) (m + 1 + d3)] (fun s => .tuple #[s, .int .i64 (opE b)]) (opN b (n + 16)) Y (HP2.out w7 hO.low (rd_blk (hO.row 2 rfl) (Nat.le_add_right _ _)) (rd_blk (hO.row 3 rfl) (Nat.le_add_right _ _))) ?_
      intro S104 c104 w8 hb104 hO hn104 hR104
      refine g_val (.tuple #[.slice S104 (opN b (n + 16)) c104, .int .i64 (opE b)]) ?_
      refine g_val (.slice S104 (opN b (n + 16)) c104) ?_
      refine g_val (.int .i64 (opE b)) ?_
      refine g_val (.slice S104 (opN b (n + 16)) c104) ?_
      refine g_val (.int .i64 (opE b)) ?_
      refine g_nil ?_
      simp only [Act.put, List.setIfInBounds_toArray, List.set_cons_succ, List.set_cons_zero]
      clear hb104 hn104 HP2
      go_upto_region 20 with (fail)
      refine wp_region_list (WL.out ?_)
      refine g_ld hO 0 rfl Tryd.underlying23 ?_
      refine g_ld hO 1 rfl Tryd.underlying24 ?_
      refine g_val (.slice (some ⟨n43, 0, none⟩) (n + 16) (n + 16 + d43)) ?_
      refine g_val (.slice (some ⟨q3, 0, none⟩) (m + 1) (m + 1 + d3)) ?_
      refine g_v hO 13 #[A (vals .u8 32 key), A (vals .u8 12 nonce), .slice (some ⟨n43, 0, none⟩) (n + 16) (n + 16 + d43), .slice (some ⟨q3, 0, none⟩) (m + 1) (m + 1 + d3)] (fun s => .tuple #[s, .int .i64 (opE b)]) (opN b (n + 16)) Y (HQ2.out w8 hO.low (rd_blk (hO.row 2 rfl) (Nat.le_add_right _ _)) (rd_blk (hO.row 3 rfl) (Nat.le_add_right _ _))) ?_
      intro S112 c112 w9 hb112 hO hn112 hR112
      refine g_val (.tuple #[.slice S112 (opN b (n + 16)) c112, .int .i64 (opE b)]) ?_
      refine g_val (.slice S112 (opN b (n + 16)) c112) ?_
      refine g_val (.int .i64 (opE b)) ?_
      refine g_val (.slice S112 (opN b (n + 16)) c112) ?_
      refine g_val (.int .i64 (opE b)) ?_
      refine g_nil ?_
      simp only [Act.put, List.setIfInBounds_toArray, List.set_cons_succ, List.set_cons_zero]
      replace hR104 := hR104.low hb112
      clear hb112 hn112 HQ2
      go_upto_region 21 with (fail)
      refine wp_region_list (WL.out ?_)
      refine g_val (.bool true) ?_
      refine g_val (.bool true) ?_
      refine g_val (.slice S104 (opN b (n + 16)) c104) ?_
      refine g_val (.string (C.sk (C.li (opN b (n + 16)) Y))) ?_ (b_strf (c := c104) w9 hR104 HYl.out)
      refine g_val (.slice S112 (opN b (n + 16)) c112) ?_
      refine g_val (.string (C.sk (C.li (opN b (n + 16)) Y))) ?_ (b_strf (c := c112) w9 hR112 HYl.out)
      refine g_val (.bool true) ?_ (b_seq (s := C.sk (C.li (opN b (n + 16)) Y)) (t := C.sk (C.li (opN b (n + 16)) Y)) rfl w9)
      refine g_val (.bool true) ?_
      refine g_val (.bool true) ?_
      refine g_val (.int .i64 (opE b)) ?_
      refine g_val (.int .i64 (opE b)) ?_
      refine g_val (.bool true) ?_ (b_eqr (a := opE b) w9)
      refine g_val (.bool true) ?_
      refine g_val (.bool true) ?_
      refine g_nil ?_
      simp only [Act.put, List.setIfInBounds_toArray, List.set_cons_succ, List.set_cons_zero]
      clear hR104 hR112 HYl
      have HL := hide hO.low
      clear hO
      go_wp2_with (fail)
      go_ret
      exact ⟨rfl, HL.out⟩
end Go.Proofs.YtanahjoiilfcbaaDoor.E

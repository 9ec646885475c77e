/- Walks: the laws AeadNames, AeadBack. The variables places and kept as they are laid. -/
import Derived.Test.YtanahjoiilfcbaaDoorZf
namespace Go.Proofs.YtanahjoiilfcbaaDoor.E
set_option maxRecDepth 100000
open Go.RowKit Rg

theorem b_gtr {ρ : Operand → Value} {o : Oper} {x y : Operand} {a c : Int} {b : Bool} (h : decide (c < a) = b) (w : World) (ho : o.op = .binOp .gtr 3 x y 3 := by rfl) (hx : ρ x = .int .i64 a := by kernel_rfl) (hy : ρ y = .int .i64 c := by kernel_rfl) : (execOp ρ o).run Tryd.prog w = .ok (.value (.bool b)) w := by
  subst h
  unfold execOp
  simp only [ho, hx, hy]
  go_simp
section
variable {b : Bool} {ops : Array Oper} {sts : List Nat} {F : Nu → Act} {u : World} {L : Nat → Nu → List Row} {i : Nat} {o : Oper}
/-- What is read, told as a string. -/
theorem nsf {A : Option Addr} {n c : Nat} {f : Nat → Nat} {x : Operand} (hS : Rd u A n f) (hf : ∀ i, f i < 256) (ho : o.op = .convert 25 9 x := by rfl) (hx : ∀ ν, (F ν).eval x = .slice A n c := by intro ν; kernel_rfl)
    (hv : ∀ ν, vof (F ν) o = .string (C.sk (C.li n f)) := by intro ν; kernel_rfl) (hw : ∀ ν, Region.wanted o (yielded ops (F ν).tmps) = true := by intro ν; kernel_rfl) (hn : sts.contains i = false := by kernel_rfl) : Ob b Tryd.prog ops sts F (OI u L) i o :=
  nw 0 sts.length (fun _ => .string (C.sk (C.li n f))) (fun _ ν w _ _ hO => b_strf w (hS.low (Own.low hO)) hf ho (hx ν)) (by simp [win]) hv hw hn
end
theorem str_eq {n : Nat} {f g : Nat → Nat} (h : ∀ i, i < n → f i = g i) : C.sk (C.li n f) = C.sk (C.li n g) := congrArg C.sk (C.li_congr n f g h)
theorem RetW.retZ {f : FuncId} {args : Array Value} {w : World} {k : Value → Value} {n : Nat} {g : Nat → Nat} (h : RetW f args w k n g) : RetZ f args w (fun z => k (.slice (some ⟨z 0, 0, none⟩) n (n + z 1))) (fun z => [(z 0, vals .u8 (n + z 1) (C.mx g n), 5)]) := by
  refine Calls.mono h fun e w' hh => ?_
  obtain ⟨q, d, he, hO⟩ := hh
  exact ⟨fun k => match k with | 0 => q | _ => d, he, hO⟩
set_option maxHeartbeats 400000 in
theorem names_walk (w : World) (hG1 : Gl w 1 (vals .u64 2 kp)) (hG0 : Gl w 0 (vals .i64 32 C.pl)) : Ret 3 #[] w (.bool true) := by
  have HG := hide (And.intro hG0 hG1)
  clear hG0 hG1
  go_enter Tryd.func3, Tryd.ntmps3
  go_wp2_with (go_at_call 9; refine (awake_c w HG.out.1 HG.out.2).mono ?_; rintro e w1 ⟨rfl, hb⟩; dsimp only)
  go_ret
  exact ⟨rfl, hb⟩
set_option maxHeartbeats 8000000 in
theorem back_walk (key nonce : Nat → Nat) (hk : ∀ i, key i < 256) (hn : ∀ i, nonce i < 256) (T : Option Addr) (n cn : Nat) (f : Nat → Nat) (hf : ∀ i, f i < 256) (_hcn : n ≤ cn) (B : Option Addr) (m cm : Nat) (h : Nat → Nat) (hh : ∀ i, h i < 256) (hcm : m ≤ cm) (w : World) (hG1 : Gl w 1 (vals .u64 2 kp)) (hG0 : Gl w 0 (vals .i64 32 C.pl)) (hT : Rd w T n f) (hB : Rd w B m h) : Ret 5 #[A (vals .u8 32 key), A (vals .u8 12 nonce), .slice T n cn, .slice B m cm] w (.bool true) := by
  obtain ⟨Z, hZ⟩ : ∃ Z, Hid (sld key nonce m h n f = Z) := ⟨_, hide rfl⟩
  obtain ⟨Y, hY⟩ : ∃ Y, Hid (C.sx key 1 nonce f = Y) := ⟨_, hide rfl⟩
  have HA : Hid (∀ w', Below w.heap.size w w' → Ret 9 #[] w' (.bool true)) := hide fun w' hb => awake_c w' (hG0.low hb) (hG1.low hb)
  have HS : Hid (n ≤ 500 → m ≤ 500 → ∀ w', Below w.heap.size w w' → RetW 10 #[A (vals .u8 32 key), A (vals .u8 12 nonce), .slice T n cn, .slice B m cm] w' (fun s => .tuple #[s, .int .i64 0]) (n + 16) Z) := hide fun h1 h2 w' hb => hZ.out ▸ seal_c key nonce hk hn T n cn f hf B m cm h hh (by omega) (by omega) hcm w' (hG0.low hb) (hG1.low hb) (hT.low hb) (hB.low hb)
  have HP : Hid (n ≤ 500 → m ≤ 500 → ∀ q d w', Below w.heap.size w w' → Rd w' (some ⟨q, 0, none⟩) (n + 16) Z → RetV 12 #[A (vals .u8 32 key), A (vals .u8 12 nonce), .slice (some ⟨q, 0, none⟩) (n + 16) (n + 16 + d), .slice B m cm] w' (fun s => .tuple #[s, .int .i64 0]) n f) := hide fun h1 h2 q d w' hb hr => open_sealed key nonce hk hn _ n _ f hf B m cm h hh (by omega) (by omega) (Nat.le_add_right _ _) hcm w' (hG0.low hb) (hG1.low hb) (by rw [hZ.out]; exact hr) (hB.low hb)
  have HX : Hid (n ≤ 500 → ∀ w', Below w.heap.size w w' → RetW 14 #[A (vals .u8 32 key), Nv .u32 1, A (vals .u8 12 nonce), .slice T n cn] w' (fun s => .tuple #[s, .int .i64 0]) n Y) := hide fun h1 w' hb => hY.out ▸ stream_f key nonce hk hn T n cn f hf (by omega) w' (hG0.low hb) (hT.low hb)
  have HE : Hid (∀ i, i < n → Z i = Y i) := hide (by rw [← hZ.out, ← hY.out]; exact sld_fst key nonce m h n f)
  have HZl : Hid (∀ i, Z i < 256) := hide (by rw [← hZ.out]; exact seal_lt hf)
  have HYl : Hid (∀ i, Y i < 256) := hide (by rw [← hY.out]; exact C.sx_lt hf)
  have Hf := hide hf
  have HT := hide hT
  clear hG0 hG1 hT hB hZ hY hk hn hf hh _hcn hcm
  go_enter Tryd.func5, Tryd.ntmps5
  have hO := Own.start w
  go_upto_region 0 with (fail)
  refine wp_region_list (WL.out ?_)
  refine g_new hO D (vals .u8 32 key) 23 (fit_b32 _) (run_box 23 _ rfl _ (by kernel_rfl) w) ?_
  intro n4 w1 _ hO
  replace hO : Own w w1 [(n4, vals .u8 32 key, 23)] := hO
  refine g_new hO D (vals .u8 12 nonce) 24 (fit_b12 _) (run_box 24 _ rfl _ (by kernel_rfl) w1) ?_
  intro n5 w2 _ hO
  replace hO : Own w w2 [(n4, vals .u8 32 key, 23), (n5, vals .u8 12 nonce, 24)] := hO
  refine g_val (.bool false) ?_
  refine g_nil ?_
  simp only [Act.put, List.setIfInBounds_toArray, List.set_cons_succ, List.set_cons_zero]
  go_upto_region 1 with (fail)
  refine wp_region_list (WL.out ?_)
  refine g_call hO 9 #[] (.bool true) (HA.out w2 hO.low) ?_
  intro w3 hb16 hO
  refine g_val (.bool true) ?_
  refine g_nil ?_
  simp only [Act.put, List.setIfInBounds_toArray, List.set_cons_succ, List.set_cons_zero]
  clear HA
  by_cases h05 : 500 < n
  · go_upto_region 2 with (fail)
    refine wp_region_list (WL.out ?_)
    refine g_val (.slice T n cn) ?_
    refine g_val (Nv .i64 n) ?_
    refine g_val (.bool true) ?_ (b_gtr (a := (n : Int)) (c := 500) (decide_eq_true (by omega)) w3)
    refine g_val (.bool true) ?_
    refine g_skip ?_
    refine g_skip ?_
    refine g_skip ?_
    refine g_val (.bool true) ?_
    refine g_nil ?_
    simp only [Act.put, List.setIfInBounds_toArray, List.set_cons_succ, List.set_cons_zero]
    have HL := hide hO.low
    clear hO
    go_wp2_with (fail)
    go_ret
    exact ⟨rfl, HL.out⟩
  by_cases h15 : 500 < m
  · go_upto_region 2 with (fail)
    refine wp_region_list (WL.out ?_)
    refine g_val (.slice T n cn) ?_
    refine g_val (Nv .i64 n) ?_
    refine g_val (.bool false) ?_ (b_gtr (a := (n : Int)) (c := 500) (decide_eq_false (by omega)) w3)
    refine g_val (.bool false) ?_
    refine g_val (.slice B m cm) ?_
    refine g_val (Nv .i64 m) ?_
    refine g_val (.bool true) ?_ (b_gtr (a := (m : Int)) (c := 500) (decide_eq_true (by omega)) w3)
    refine g_val (.bool true) ?_
    refine g_nil ?_
    simp only [Act.put, List.setIfInBounds_toArray, List.set_cons_succ, List.set_cons_zero]
    have HL := hide hO.low
    clear hO
    go_wp2_with (fail)
    go_ret
    exact ⟨rfl, HL.out⟩
  go_upto_region 2 with (fail)
  refine wp_region_list (WL.out ?_)
  refine g_val (.slice T n cn) ?_
  refine g_val (Nv .i64 n) ?_
  refine g_val (.bool false) ?_ (b_gtr (a := (n : Int)) (c := 500) (decide_eq_false (by omega)) w3)
  refine g_val (.bool false) ?_
  refine g_val (.slice B m cm) ?_
  refine g_val (Nv .i64 m) ?_
  refine g_val (.bool false) ?_ (b_gtr (a := (m : Int)) (c := 500) (decide_eq_false (by omega)) w3)
  refine g_val (.bool false) ?_
  refine g_nil ?_
  simp only [Act.put, List.setIfInBounds_toArray, List.set_cons_succ, List.set_cons_zero]
  have h1 : n ≤ 500 := by omega
  have h2 : m ≤ 500 := by omega
  clear h05 h15
  go_upto_region 4 with (fail)
  refine wp_region_list (WL.out ?_)
  refine g_ld hO 0 rfl Tryd.underlying23 ?_
  refine g_ld hO 1 rfl Tryd.underlying24 ?_
  refine g_val (.slice T n cn) ?_
  refine g_val (.slice B m cm) ?_
  refine g_w hO 10 #[A (vals .u8 32 key), A (vals .u8 12 nonce), .slice T n cn, .slice B m cm] (fun s => .tuple #[s, .int .i64 0]) (n + 16) Z (HS.out h1 h2 w3 hO.low) ?_
  intro n31 d31 w4 hb31 hO
  replace hO : Own w w4 [(n4, vals .u8 32 key, 23), (n5, vals .u8 12 nonce, 24), (n31, vals .u8 (n + 16 + d31) (C.mx Z (n + 16)), 5)] := hO
  refine g_val (.tuple #[.slice (some ⟨n31, 0, none⟩) (n + 16) (n + 16 + d31), .int .i64 0]) ?_
  refine g_val (.slice (some ⟨n31, 0, none⟩) (n + 16) (n + 16 + d31)) ?_
  refine g_val (.int .i64 0) ?_
  refine g_val (.slice (some ⟨n31, 0, none⟩) (n + 16) (n + 16 + d31)) ?_
  refine g_val (.int .i64 0) ?_
  refine g_nil ?_
  simp only [Act.put, List.setIfInBounds_toArray, List.set_cons_succ, List.set_cons_zero]
  clear hb31 HS
  go_upto_region 5 with (fail)
  refine wp_region_list (WL.out ?_)
  refine g_ld hO 0 rfl Tryd.underlying23 ?_
  refine g_ld hO 1 rfl Tryd.underlying24 ?_
  refine g_val (.slice (some ⟨n31, 0, none⟩) (n + 16) (n + 16 + d31)) ?_
  refine g_val (.slice B m cm) ?_
  refine g_v hO 12 #[A (vals .u8 32 key), A (vals .u8 12 nonce), .slice (some ⟨n31, 0, none⟩) (n + 16) (n + 16 + d31), .slice B m cm] (fun s => .tuple #[s, .int .i64 0]) n f (HP.out h1 h2 n31 d31 w4 hO.low (rd_blk (hO.row 2 rfl) (Nat.le_add_right _ _))) ?_
  intro S39 c39 w5 hb39 hO hn39 hR39
  refine g_val (.tuple #[.slice S39 n c39, .int .i64 0]) ?_
  refine g_val (.slice S39 n c39) ?_
  refine g_val (.int .i64 0) ?_
  refine g_val (.slice S39 n c39) ?_
  refine g_val (.int .i64 0) ?_
  refine g_nil ?_
  simp only [Act.put, List.setIfInBounds_toArray, List.set_cons_succ, List.set_cons_zero]
  clear hb39 hn39 HP
  go_upto_region 6 with (fail)
  refine wp_region_list (WL.out ?_)
  refine g_ld hO 0 rfl Tryd.underlying23 ?_
  refine g_ld hO 1 rfl Tryd.underlying24 ?_
  refine g_val (.slice T n cn) ?_
  refine g_w hO 14 #[A (vals .u8 32 key), Nv .u32 1, A (vals .u8 12 nonce), .slice T n cn] (fun s => .tuple #[s, .int .i64 0]) n Y (HX.out h1 w5 hO.low) ?_
  intro n46 d46 w6 hb46 hO
  replace hO : Own w w6 [(n4, vals .u8 32 key, 23), (n5, vals .u8 12 nonce, 24), (n31, vals .u8 (n + 16 + d31) (C.mx Z (n + 16)), 5), (n46, vals .u8 (n + d46) (C.mx Y n), 5)] := hO
  refine g_val (.tuple #[.slice (some ⟨n46, 0, none⟩) n (n + d46), .int .i64 0]) ?_
  refine g_val (.slice (some ⟨n46, 0, none⟩) n (n + d46)) ?_
  refine g_val (.int .i64 0) ?_
  refine g_val (.slice (some ⟨n46, 0, none⟩) n (n + d46)) ?_
  refine g_val (.int .i64 0) ?_
  refine g_nil ?_
  simp only [Act.put, List.setIfInBounds_toArray, List.set_cons_succ, List.set_cons_zero]
  replace hR39 := hR39.low hb46
  clear hb46 HX
  go_upto_region 7 with (fail)
  refine wp_region_list (WL.out ?_)
  refine g_val (.slice (some ⟨n31, 0, none⟩) (n + 16) (n + 16 + d31)) ?_
  refine g_val (Nv .i64 (n + 16)) ?_
  refine g_val (.slice T n cn) ?_
  refine g_val (Nv .i64 n) ?_
  refine g_val (Nv .i64 (n + 16)) ?_ (b_add (k := n) (m := 16) (by omega) (by decide) w6)
  refine g_val (.bool false) ?_ (b_neq3 (a := n + 16) (c := n + 16) rfl w6)
  refine g_nil ?_
  simp only [Act.put, List.setIfInBounds_toArray, List.set_cons_succ, List.set_cons_zero]
  have hr1 : Rd w6 (some ⟨n31, 0, none⟩) n Z := (rd_blk (hO.row 2 rfl) (Nat.le_add_right _ _)).take n (Nat.le_add_right _ _)
  have hr2 : Rd w6 (some ⟨n46, 0, none⟩) n Y := rd_blk (hO.row 3 rfl) (Nat.le_add_right _ _)
  have hr3 := HT.out.low hO.low
  have HL := hide hO.low
  clear hO
  have hO := Own.start w6
  go_upto_region 9 with (fail)
  refine Rg.pd [] (fun _ => [(55, .bool true), (56, .bool true), (57, .int .i64 0), (58, .bool true), (59, .bool true), (60, .bool true), (61, .int .i64 0), (62, .bool true), (63, .bool true), (64, .bool true), (65, .slice S39 n c39), (66, .string (C.sk (C.li n f))), (67, .slice T n cn), (68, .string (C.sk (C.li n f))), (69, .bool true), (70, .bool true), (71, .bool true), (72, .int .i64 0), (73, .bool true), (74, .bool true), (75, .bool true), (76, .slice (some ⟨n31, 0, none⟩) (n + 16) (n + 16 + d31)), (77, .slice T n cn), (78, Nv .i64 n), (79, .slice (some ⟨n31, 0, none⟩) n (n + 16 + d31)), (80, .string (C.sk (C.li n Z))), (81, .slice (some ⟨n46, 0, none⟩) n (n + d46)), (82, .string (C.sk (C.li n Y))), (83, .bool true), (84, .bool true), (8, .bool true)]) (OI w6 (fun _ _ => [])) (fun _ => 0) hO.drew (Rg.ac nv (Rg.ac nv (Rg.ac nv (Rg.ac nv (Rg.ac nv (Rg.ac nv (Rg.ac nv (Rg.ac nv (Rg.ac nv (Rg.ac nv (Rg.ac nv (Rg.ac (nsf (c := c39) hR39 Hf.out) (Rg.ac nv (Rg.ac (nsf (c := cn) hr3 Hf.out) (Rg.ac (nx (fun _ => .bool true) (fun _ w => b_seq (s := C.sk (C.li n f)) (t := C.sk (C.li n f)) rfl w)) (Rg.ac nv (Rg.ac nv (Rg.ac nv (Rg.ac nv (Rg.ac nv (Rg.ac nv (Rg.ac nv (Rg.ac nv (Rg.ac nv (Rg.ac (nx (fun _ => .slice (some ⟨n31, 0, none⟩) n (n + 16 + d31)) (fun _ w => b_hi (len := n + 16) (Nat.le_add_right _ _) (Nat.le_add_right _ _) w)) (Rg.ac (nsf (c := n + 16 + d31) hr1 HZl.out) (Rg.ac nv (Rg.ac (nsf (c := n + d46) hr2 HYl.out) (Rg.ac (nx (fun _ => .bool true) (fun _ w => b_seq (str_eq HE.out) w)) (Rg.ac nv (Rg.ac nv Rg.an))))))))))))))))))))))))))))))) ?_
  intro ν w7 hO
  replace hO : Own w6 w7 [] := hO
  simp only [Rg.putL, Act.put, List.setIfInBounds_toArray, List.set_cons_succ, List.set_cons_zero]
  clear ν
  clear hR39 hr1 hr2 hr3 HE HT Hf HZl HYl
  have HM := hide hO.low
  clear hO
  go_wp2_with (fail)
  go_ret
  exact ⟨rfl, HL.out.trans (HM.out.mono HL.out.size)⟩
end Go.Proofs.YtanahjoiilfcbaaDoor.E

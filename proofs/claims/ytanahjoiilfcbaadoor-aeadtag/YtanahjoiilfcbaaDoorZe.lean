/- Walks: Seal, Open. At most two thousand bytes below 256; the variables places and kept as they are laid. -/
import Derived.Test.YtanahjoiilfcbaaDoorZd
namespace Go.Proofs.YtanahjoiilfcbaaDoor.E
set_option maxRecDepth 100000
open Go.RowKit Rg

/-- What n bytes f are sealed as, with m bytes h beside them. -/
def sld (key nonce : Nat → Nat) (m : Nat) (h : Nat → Nat) (n : Nat) (f : Nat → Nat) : Nat → Nat := cat (C.sx key 1 nonce f) n (tga key nonce m h n (C.sx key 1 nonce f))
theorem seal_lt {key nonce : Nat → Nat} {m : Nat} {h : Nat → Nat} {n : Nat} {f : Nat → Nat} (hf : ∀ i, f i < 256) : ∀ i, sld key nonce m h n f i < 256 := cat_lt (C.sx_lt hf) (tga_lt _ _ _ _ _ _)
/-- Whether n bytes f end with their tag. -/
def okO (key nonce : Nat → Nat) (m : Nat) (h : Nat → Nat) (n : Nat) (f : Nat → Nat) : Bool := decide (16 ≤ n) && decide (df (tga key nonce m h (n - 16) f) (fun j => f (n - 16 + j)) 16 = 0)
section
variable {ρ : Operand → Value} {o : Oper} {x y z : Operand}
theorem b_hm {A : Option Addr} {len cap c : Nat} (hc : c ≤ cap) (w : World) (ho : o.op = .slice 25 x none (some y) (some z) := by rfl) (hx : ρ x = .slice A len cap := by kernel_rfl) (hy : ρ y = Nv .i64 c := by kernel_rfl) (hz : ρ z = Nv .i64 c := by kernel_rfl) : (execOp ρ o).run Tryd.prog w = .ok (.value (.slice A c c)) w := by
  have e : (Instr.slice 25 (.slice A len cap) none (some (Nv .i64 c)) (some (Nv .i64 c))).run Tryd.prog w = .ok (.slice A c c) w := by
    rw [run_slice_hm w 25 A len cap (by kernel_rfl) .i64 .i64 (c : Int) (c : Int) (by omega) (by omega) (by omega), show (sizeOf (Tryd.prog.elem 25)).run Tryd.prog w = .ok 1 w by rfl]
    cases A <;> simp [Result.andThen, sliced, Addr.add]
  have e' : (Instr.sliceAt 25 (.slice A len cap) none (some (Nv .i64 c)) (some (Nv .i64 c))).run Tryd.prog w = .ok (.slice A c c) w := by
    unfold Instr.sliceAt
    go_simp
  unfold execOp
  rw [ho]
  dsimp only [Option.map]
  rw [hx, hy, hz, Sem.run_bind, e']
  rfl
theorem b_loE {A C0 : Option Addr} {len cap c d e : Nat} (hc : c ≤ len) (hd : len - c = d) (he : cap - c = e) (hA : cutA A c cap = C0) (w : World) (ho : o.op = .slice 25 x (some y) none none := by rfl) (hx : ρ x = .slice A len cap := by kernel_rfl) (hy : ρ y = Nv .i64 c := by kernel_rfl) : (execOp ρ o).run Tryd.prog w = .ok (.value (.slice C0 d e)) w := by
  subst hd he hA; exact b_lo hc w ho hx hy
theorem b_subE {k m d : Nat} (hk : k < 2 ^ 40) (h : d + m = k) (w : World) (ho : o.op = .binOp .sub 3 x y 3 := by rfl) (hx : ρ x = Nv .i64 k := by kernel_rfl) (hy : ρ y = Nv .i64 m := by kernel_rfl) : (execOp ρ o).run Tryd.prog w = .ok (.value (Nv .i64 d)) w := by
  have e := b_sub hk (by omega : m ≤ k) w ho hx hy
  rw [show k - m = d by omega] at e; exact e
theorem b_subn {k : Nat} (hk : k < 2 ^ 40) (w : World) (ho : o.op = .binOp .sub 3 x y 3 := by rfl) (hx : ρ x = Nv .i64 k := by kernel_rfl) (hy : ρ y = .int .i64 16 := by kernel_rfl) : (execOp ρ o).run Tryd.prog w = .ok (.value (.int .i64 ((k : Int) - 16))) w := by
  have h1 : IntKind.i64.wrap ((k : Int) - 16) = (k : Int) - 16 := by unfold IntKind.wrap; simp [IntKind.bits, IntKind.signed]; omega
  unfold execOp
  simp only [ho, hx, hy]
  go_simp
theorem b_lss {a c : Int} {b : Bool} (h : decide (a < c) = b) (w : World) (ho : o.op = .binOp .lss 3 x y 3 := by rfl) (hx : ρ x = .int .i64 a := by kernel_rfl) (hy : ρ y = .int .i64 c := by kernel_rfl) : (execOp ρ o).run Tryd.prog w = .ok (.value (.bool b)) w := by
  subst h
  unfold execOp
  simp only [ho, hx, hy]
  go_simp
end
set_option maxHeartbeats 8000000 in
theorem seal_c (key nonce : Nat → Nat) (hk : ∀ i, key i < 256) (hn : ∀ i, nonce i < 256) (T : Option Addr) (n cn : Nat) (f : Nat → Nat) (hf : ∀ i, f i < 256) (B : Option Addr) (m cm : Nat) (h : Nat → Nat) (hh : ∀ i, h i < 256) (hn2 : n ≤ 2000) (hm2 : m ≤ 2000) (hcm : m ≤ cm) (w : World) (hG0 : Gl w 0 (vals .i64 32 C.pl)) (hG1 : Gl w 1 (vals .u64 2 kp)) (hT : Rd w T n f) (hB : Rd w B m h) :
    RetW 10 #[A (vals .u8 32 key), A (vals .u8 12 nonce), .slice T n cn, .slice B m cm] w (fun s => .tuple #[s, .int .i64 0]) (n + 16) (sld key nonce m h n f) := by
  obtain ⟨Y, hY⟩ : ∃ Y, Hid (C.sx key 1 nonce f = Y) := ⟨_, hide rfl⟩
  obtain ⟨X, hX⟩ : ∃ X, Hid (tga key nonce m h n Y = X) := ⟨_, hide rfl⟩
  obtain ⟨Z, hZ⟩ : ∃ Z, Hid (cat Y n X = Z) := ⟨_, hide rfl⟩
  have hYl : ∀ i, Y i < 256 := fun i => hY.out ▸ C.sx_lt hf i
  have HS : Hid (∀ w', Below w.heap.size w w' → RetW 14 #[A (vals .u8 32 key), Nv .u32 1, A (vals .u8 12 nonce), .slice T n cn] w' (fun s => .tuple #[s, .int .i64 0]) n Y) := hide fun w' hb => hY.out ▸ stream_f key nonce hk hn T n cn f hf hn2 w' (hG0.low hb) (hT.low hb)
  have HT : Hid (∀ q d w', Below w.heap.size w w' → Rd w' (some ⟨q, 0, none⟩) n Y → Ret 15 #[A (vals .u8 32 key), A (vals .u8 12 nonce), .slice (some ⟨q, 0, none⟩) n (n + d), .slice B m cm] w' (A (vals .u8 16 X))) := hide fun q d w' hb hr => hX.out ▸ tagof_c key nonce hk hn _ n (n + d) Y hYl B m cm h hh hn2 hm2 (Nat.le_add_right _ _) hcm w' (hG0.low hb) (hG1.low hb) hr (hB.low hb)
  have HZ : Hid ((∀ i, i < n → Y i = Z i) ∧ ∀ i, i < 16 → X i = Z (n + i)) := hide (by
    rw [← hZ.out]; unfold cat
    exact ⟨fun i hi => by rw [if_pos hi], fun i _ => by rw [if_neg (by omega), Nat.add_sub_cancel_left]⟩)
  unfold sld
  rw [hY.out, hX.out, hZ.out]
  clear hY hX hZ hG0 hG1 hT hB hYl
  go_enter Tryd.func10, Tryd.ntmps10
  have hO := Own.start w
  go_upto_region 0 with (fail)
  refine wp_region_list (WL.out ?_)
  refine g_new hO D (vals .u8 32 key) 23 (fit_b32 _) (run_box 23 _ rfl _ (by kernel_rfl) w) ?_
  intro n4 w1 _ hO
  replace hO : Own w w1 [(n4, vals .u8 32 key, 23)] := hO
  refine g_new hO D (vals .u8 12 nonce) 24 (fit_b12 _) (run_box 24 _ rfl _ (by kernel_rfl) w1) ?_
  intro n5 w2 _ hO
  replace hO : Own w w2 [(n4, vals .u8 32 key, 23), (n5, vals .u8 12 nonce, 24)] := hO
  refine g_val (.slice none 0 0) ?_
  refine g_val (Nv .i64 0) ?_
  refine g_nil ?_
  simp only [Act.put, List.setIfInBounds_toArray, List.set_cons_succ, List.set_cons_zero]
  go_upto_region 1 with (fail)
  refine wp_region_list (WL.out ?_)
  refine g_ld hO 0 rfl Tryd.underlying23 ?_
  refine g_ld hO 1 rfl Tryd.underlying24 ?_
  refine g_val (.slice T n cn) ?_
  refine g_w hO 14 #[A (vals .u8 32 key), Nv .u32 1, A (vals .u8 12 nonce), .slice T n cn] (fun s => .tuple #[s, .int .i64 0]) n Y (HS.out w2 hO.low) ?_
  intro n17 d17 w3 hb17 hO
  replace hO : Own w w3 [(n4, vals .u8 32 key, 23), (n5, vals .u8 12 nonce, 24), (n17, vals .u8 (n + d17) (C.mx Y n), 5)] := hO
  refine g_val (.tuple #[.slice (some ⟨n17, 0, none⟩) n (n + d17), .int .i64 0]) ?_
  refine g_val (.slice (some ⟨n17, 0, none⟩) n (n + d17)) ?_
  refine g_val (.int .i64 0) ?_
  refine g_val (.slice (some ⟨n17, 0, none⟩) n (n + d17)) ?_
  refine g_val (.int .i64 0) ?_
  refine g_nil ?_
  simp only [Act.put, List.setIfInBounds_toArray, List.set_cons_succ, List.set_cons_zero]
  go_upto_region 2 with (fail)
  refine wp_region_list (WL.out ?_)
  refine g_val (.int .i64 0) ?_
  refine g_val (.bool false) ?_
  refine g_nil ?_
  simp only [Act.put, List.setIfInBounds_toArray, List.set_cons_succ, List.set_cons_zero]
  clear hb17
  go_upto_region 4 with (fail)
  refine wp_region_list (WL.out ?_)
  refine g_ld hO 0 rfl Tryd.underlying23 ?_
  refine g_ld hO 1 rfl Tryd.underlying24 ?_
  refine g_val (.slice (some ⟨n17, 0, none⟩) n (n + d17)) ?_
  refine g_val (.slice B m cm) ?_
  refine g_call hO 15 #[A (vals .u8 32 key), A (vals .u8 12 nonce), .slice (some ⟨n17, 0, none⟩) n (n + d17), .slice B m cm] (A (vals .u8 16 X)) (HT.out n17 d17 w3 hO.low (rd_blk (hO.row 2 rfl) (Nat.le_add_right _ _))) ?_
  intro w4 hb27 hO
  refine g_new hO D (vals .u8 16 (fun _ => 0)) 35 (fit_b16 _) (al_b16 rfl w4) ?_
  intro n12 w5 _ hO
  replace hO : Own w w5 [(n4, vals .u8 32 key, 23), (n5, vals .u8 12 nonce, 24), (n17, vals .u8 (n + d17) (C.mx Y n), 5), (n12, vals .u8 16 (fun _ => 0), 35)] := hO
  refine g_st hO 3 (e := vals .u8 16 X) rfl (fit_b16 _) ?_
  intro w6 hO
  replace hO : Own w w6 [(n4, vals .u8 32 key, 23), (n5, vals .u8 12 nonce, 24), (n17, vals .u8 (n + d17) (C.mx Y n), 5), (n12, vals .u8 16 X, 35)] := hO
  refine g_nil ?_
  simp only [Act.put, List.setIfInBounds_toArray, List.set_cons_succ, List.set_cons_zero]
  clear hb27
  replace hO : Own w w6 [(n4, vals .u8 32 key, 23), (n5, vals .u8 12 nonce, 24), (n12, vals .u8 16 X, 35), (n17, vals .u8 (n + d17) (C.mx Y n), 5)] := hO.perm (((List.Perm.swap _ _ _).cons _).cons _)
  go_upto_region 5 with (fail)
  refine wp_region_list (WL.out ?_)
  refine g_val (.slice (some ⟨n17, 0, none⟩) n (n + d17)) ?_
  refine g_val (.slice (some ⟨n12, 0, none⟩) 16 16) ?_
  refine g_apr (c := 16) (L := [(n4, vals .u8 32 key, 23), (n5, vals .u8 12 nonce, 24), (n12, vals .u8 16 X, 35)]) (.slice (some ⟨n17, 0, none⟩) n (n + d17)) ⟨n17, d17, rfl, hO⟩ (rd_vals (hO.row 2 rfl)) (by omega) Z HZ.out.1 HZ.out.2 ?_
  intro q d w7 _ hO
  replace hO : Own w w7 [(n4, vals .u8 32 key, 23), (n5, vals .u8 12 nonce, 24), (n12, vals .u8 16 X, 35), (q, vals .u8 (n + 16 + d) (C.mx Z (n + 16)), 5)] := hO
  refine g_val (.slice (some ⟨q, 0, none⟩) (n + 16) (n + 16 + d)) ?_
  refine g_val (Nv .i64 0) ?_
  refine g_nil ?_
  simp only [Act.put, List.setIfInBounds_toArray, List.set_cons_succ, List.set_cons_zero]
  have HF := hide (hO.sub (List.sublist_append_right [(n4, vals .u8 32 key, 23), (n5, vals .u8 12 nonce, 24), (n12, vals .u8 16 X, 35)] [(q, vals .u8 (n + 16 + d) (C.mx Z (n + 16)), 5)]))
  clear hO HZ HT HS
  go_wp2_with (fail)
  go_ret2
  exact ⟨q, d, rfl, HF.out⟩
set_option maxHeartbeats 8000000 in
theorem open_ltE (key nonce : Nat → Nat) (T : Option Addr) (n cn : Nat) (B : Option Addr) (m cm : Nat) (w : World) (hlt : n < 16) :
    Ret 12 #[A (vals .u8 32 key), A (vals .u8 12 nonce), .slice T n cn, .slice B m cm] w (.tuple #[.slice none 0 0, .int .i64 110]) := by
  go_enter Tryd.func12, Tryd.ntmps12
  have hO := Own.start w
  go_upto_region 0 with (fail)
  refine wp_region_list (WL.out ?_)
  refine g_new hO D (vals .u8 32 key) 23 (fit_b32 _) (run_box 23 _ rfl _ (by kernel_rfl) w) ?_
  intro n4 w1 _ hO
  replace hO : Own w w1 [(n4, vals .u8 32 key, 23)] := hO
  refine g_new hO D (vals .u8 12 nonce) 24 (fit_b12 _) (run_box 24 _ rfl _ (by kernel_rfl) w1) ?_
  intro n5 w2 _ hO
  replace hO : Own w w2 [(n4, vals .u8 32 key, 23), (n5, vals .u8 12 nonce, 24)] := hO
  refine g_val (.slice none 0 0) ?_
  refine g_val (Nv .i64 0) ?_
  refine g_nil ?_
  simp only [Act.put, List.setIfInBounds_toArray, List.set_cons_succ, List.set_cons_zero]
  go_upto_region 1 with (fail)
  refine wp_region_list (WL.out ?_)
  refine g_val (.slice T n cn) ?_
  refine g_val (Nv .i64 n) ?_
  refine g_val (.int .i64 ((n : Int) - 16)) ?_ (b_subn (by omega) w2)
  refine g_val (.int .i64 ((n : Int) - 16)) ?_
  refine g_nil ?_
  simp only [Act.put, List.setIfInBounds_toArray, List.set_cons_succ, List.set_cons_zero]
  go_upto_region 2 with (fail)
  refine wp_region_list (WL.out ?_)
  refine g_val (.int .i64 ((n : Int) - 16)) ?_
  refine g_val (.bool true) ?_ (b_lss (a := (n : Int) - 16) (c := 0) (decide_eq_true (by omega)) w2)
  refine g_nil ?_
  simp only [Act.put, List.setIfInBounds_toArray, List.set_cons_succ, List.set_cons_zero]
  have HL := hide hO.low
  clear hO
  go_wp2_with (fail)
  go_ret2
  exact ⟨rfl, HL.out⟩
theorem open_lt (key nonce : Nat → Nat) (T : Option Addr) (n cn : Nat) (f : Nat → Nat) (B : Option Addr) (m cm : Nat) (w : World) (hlt : n < 16) :
    RetV 12 #[A (vals .u8 32 key), A (vals .u8 12 nonce), .slice T n cn, .slice B m cm] w (fun s => .tuple #[s, .int .i64 110]) 0 (C.sx key 1 nonce f) := (open_ltE key nonce T n cn B m cm w hlt).mono fun _ _ hh => ⟨none, 0, hh.1, hh.2, Nat.le_refl _, .inl rfl⟩
set_option maxHeartbeats 8000000 in
theorem open_ge (key nonce : Nat → Nat) (hk : ∀ i, key i < 256) (hn : ∀ i, nonce i < 256) (T : Option Addr) (n cn : Nat) (f : Nat → Nat) (hf : ∀ i, f i < 256) (B : Option Addr) (m cm : Nat) (h : Nat → Nat) (hh : ∀ i, h i < 256) (hn2 : n ≤ 2000) (hm2 : m ≤ 2000) (hcn : n + 16 ≤ cn) (hcm : m ≤ cm) (w : World) (hG0 : Gl w 0 (vals .i64 32 C.pl)) (hG1 : Gl w 1 (vals .u64 2 kp)) (hT : Rd w T (n + 16) f) (hB : Rd w B m h) (b : Bool) (hb : decide (df (tga key nonce m h n f) (fun j => f (n + j)) 16 = 0) = b) :
    RetV 12 #[A (vals .u8 32 key), A (vals .u8 12 nonce), .slice T (n + 16) cn, .slice B m cm] w (fun s => .tuple #[s, .int .i64 (bif b then 0 else 110)]) (bif b then n else 0) (C.sx key 1 nonce f) := by
  obtain ⟨Y, hY⟩ : ∃ Y, Hid (C.sx key 1 nonce f = Y) := ⟨_, hide rfl⟩
  obtain ⟨X, hX⟩ : ∃ X, Hid (tga key nonce m h n f = X) := ⟨_, hide rfl⟩
  obtain ⟨e, he⟩ : ∃ e, Hid (cn - n = e) := ⟨_, hide rfl⟩
  obtain ⟨C0, hC0⟩ : ∃ C0, Hid (cutA T n cn = C0) := ⟨_, hide rfl⟩
  have hXl : ∀ i, X i < 256 := fun i => hX.out ▸ tga_lt _ _ _ _ _ _ i
  have hTn := hT.take n (by omega)
  have hTc : Rd w C0 16 (fun j => f (n + j)) := by
    have := hT.cut n cn hcn
    rw [Nat.add_sub_cancel_left, hC0.out] at this
    exact this
  have HS : Hid (∀ w', Below w.heap.size w w' → RetW 14 #[A (vals .u8 32 key), Nv .u32 1, A (vals .u8 12 nonce), .slice T n n] w' (fun s => .tuple #[s, .int .i64 0]) n Y) := hide fun w' hb => hY.out ▸ stream_f key nonce hk hn T n n f hf hn2 w' (hG0.low hb) (hTn.low hb)
  have HT : Hid (∀ w', Below w.heap.size w w' → Ret 15 #[A (vals .u8 32 key), A (vals .u8 12 nonce), .slice T n n, .slice B m cm] w' (A (vals .u8 16 X))) := hide fun w' hb => hX.out ▸ tagof_c key nonce hk hn T n n f hf B m cm h hh hn2 hm2 (Nat.le_refl _) hcm w' (hG0.low hb) (hG1.low hb) (hTn.low hb) (hB.low hb)
  have HQ : Hid (∀ q w', Below w.heap.size w w' → Blk w' q (vals .u8 16 X) 35 → Ret 18 #[.slice (some ⟨q, 0, none⟩) 16 16, .slice C0 16 e] w' (.bool b)) := hide fun q w' hw' hB' => by
    rw [hX.out] at hb
    exact hb ▸ same_c _ _ 16 16 e X (fun j => f (n + j)) hXl (fun _ => hf _) (by decide) w' (rd_vals hB') (hTc.low hw')
  have HN : Hid (n ≤ cn) := hide (by omega)
  have HM : Hid (n + 16 < 2 ^ 40) := hide (by omega)
  rw [hY.out]
  clear hY hX hG0 hG1 hT hB hXl hTn hTc hb hcn hcm hn2 hm2 hf hh hk hn
  go_enter Tryd.func12, Tryd.ntmps12
  have hO := Own.start w
  go_upto_region 0 with (fail)
  refine wp_region_list (WL.out ?_)
  refine g_new hO D (vals .u8 32 key) 23 (fit_b32 _) (run_box 23 _ rfl _ (by kernel_rfl) w) ?_
  intro n4 w1 _ hO
  replace hO : Own w w1 [(n4, vals .u8 32 key, 23)] := hO
  refine g_new hO D (vals .u8 12 nonce) 24 (fit_b12 _) (run_box 24 _ rfl _ (by kernel_rfl) w1) ?_
  intro n5 w2 _ hO
  replace hO : Own w w2 [(n4, vals .u8 32 key, 23), (n5, vals .u8 12 nonce, 24)] := hO
  refine g_val (.slice none 0 0) ?_
  refine g_val (Nv .i64 0) ?_
  refine g_nil ?_
  simp only [Act.put, List.setIfInBounds_toArray, List.set_cons_succ, List.set_cons_zero]
  go_upto_region 1 with (fail)
  refine wp_region_list (WL.out ?_)
  refine g_val (.slice T (n + 16) cn) ?_
  refine g_val (Nv .i64 (n + 16)) ?_
  refine g_val (Nv .i64 n) ?_ (b_subE HM.out rfl w2)
  refine g_val (Nv .i64 n) ?_
  refine g_nil ?_
  simp only [Act.put, List.setIfInBounds_toArray, List.set_cons_succ, List.set_cons_zero]
  go_upto_region 2 with (fail)
  refine wp_region_list (WL.out ?_)
  refine g_val (Nv .i64 n) ?_
  refine g_val (.bool false) ?_ (b_lss (a := (n : Int)) (c := 0) (decide_eq_false (by omega)) w2)
  refine g_nil ?_
  simp only [Act.put, List.setIfInBounds_toArray, List.set_cons_succ, List.set_cons_zero]
  go_upto_region 4 with (fail)
  refine Rg.pd [] (fun _ => [(19, .slice T (n + 16) cn), (20, Nv .i64 n), (21, Nv .i64 n), (22, .slice T n n), (23, .slice T (n + 16) cn), (24, Nv .i64 n), (25, .slice C0 16 e), (11, .slice T n n), (12, .slice C0 16 e)]) (OI w (fun _ _ => [(n4, vals .u8 32 key, 23), (n5, vals .u8 12 nonce, 24)])) (fun _ => 0) hO.drew (Rg.ac nv (Rg.ac nv (Rg.ac nv (Rg.ac (nx (fun _ => .slice T n n) (fun _ w => b_hm (len := n + 16) HN.out w)) (Rg.ac nv (Rg.ac nv (Rg.ac (nx (fun _ => .slice C0 16 e) (fun _ w => b_loE (A := T) (c := n) (cap := cn) (len := n + 16) (Nat.le_add_right _ _) (Nat.add_sub_cancel_left _ _) he.out hC0.out w)) (Rg.ac nv (Rg.ac nv Rg.an))))))))) ?_
  intro ν w3 hO
  replace hO : Own w w3 [(n4, vals .u8 32 key, 23), (n5, vals .u8 12 nonce, 24)] := hO
  simp only [Rg.putL, Act.put, List.setIfInBounds_toArray, List.set_cons_succ, List.set_cons_zero]
  clear ν
  go_upto_region 5 with (fail)
  refine wp_region_list (WL.out ?_)
  refine g_ld hO 0 rfl Tryd.underlying23 ?_
  refine g_ld hO 1 rfl Tryd.underlying24 ?_
  refine g_val (.slice T n n) ?_
  refine g_val (.slice B m cm) ?_
  refine g_call hO 15 #[A (vals .u8 32 key), A (vals .u8 12 nonce), .slice T n n, .slice B m cm] (A (vals .u8 16 X)) (HT.out w3 hO.low) ?_
  intro w4 hb30 hO
  refine g_new hO D (vals .u8 16 (fun _ => 0)) 35 (fit_b16 _) (al_b16 rfl w4) ?_
  intro n13 w5 _ hO
  replace hO : Own w w5 [(n4, vals .u8 32 key, 23), (n5, vals .u8 12 nonce, 24), (n13, vals .u8 16 (fun _ => 0), 35)] := hO
  refine g_st hO 2 (e := vals .u8 16 X) rfl (fit_b16 _) ?_
  intro w6 hO
  replace hO : Own w w6 [(n4, vals .u8 32 key, 23), (n5, vals .u8 12 nonce, 24), (n13, vals .u8 16 X, 35)] := hO
  refine g_nil ?_
  simp only [Act.put, List.setIfInBounds_toArray, List.set_cons_succ, List.set_cons_zero]
  clear hb30 HT
  cases b
  · go_upto_region 6 with (fail)
    refine wp_region_list (WL.out ?_)
    refine g_val (.slice (some ⟨n13, 0, none⟩) 16 16) ?_
    refine g_val (.slice C0 16 e) ?_
    refine g_call hO 18 #[.slice (some ⟨n13, 0, none⟩) 16 16, .slice C0 16 e] (.bool false) (HQ.out n13 w6 hO.low (hO.row 2 rfl)) ?_
    intro w7 hb33 hO
    refine g_val (.bool true) ?_
    refine g_nil ?_
    simp only [Act.put, List.setIfInBounds_toArray, List.set_cons_succ, List.set_cons_zero]
    clear hb33 HQ
    have HL := hide hO.low
    clear hO
    go_wp2_with (fail)
    go_ret2
    exact ⟨none, 0, rfl, HL.out, Nat.le_refl _, .inl rfl⟩
  · go_upto_region 6 with (fail)
    refine wp_region_list (WL.out ?_)
    refine g_val (.slice (some ⟨n13, 0, none⟩) 16 16) ?_
    refine g_val (.slice C0 16 e) ?_
    refine g_call hO 18 #[.slice (some ⟨n13, 0, none⟩) 16 16, .slice C0 16 e] (.bool true) (HQ.out n13 w6 hO.low (hO.row 2 rfl)) ?_
    intro w7 hb33 hO
    refine g_val (.bool false) ?_
    refine g_nil ?_
    simp only [Act.put, List.setIfInBounds_toArray, List.set_cons_succ, List.set_cons_zero]
    clear hb33 HQ
    go_upto_region 8 with (fail)
    refine wp_region_list (WL.out ?_)
    refine g_ld hO 0 rfl Tryd.underlying23 ?_
    refine g_ld hO 1 rfl Tryd.underlying24 ?_
    refine g_val (.slice T n n) ?_
    refine g_w hO 14 #[A (vals .u8 32 key), Nv .u32 1, A (vals .u8 12 nonce), .slice T n n] (fun s => .tuple #[s, .int .i64 0]) n Y (HS.out w7 hO.low) ?_
    intro n38 d38 w8 hb38 hO
    replace hO : Own w w8 [(n4, vals .u8 32 key, 23), (n5, vals .u8 12 nonce, 24), (n13, vals .u8 16 X, 35), (n38, vals .u8 (n + d38) (C.mx Y n), 5)] := hO
    refine g_val (.slice (some ⟨n38, 0, none⟩) n (n + d38)) ?_
    refine g_val (.int .i64 0) ?_
    refine g_val (.slice (some ⟨n38, 0, none⟩) n (n + d38)) ?_
    refine g_val (.int .i64 0) ?_
    refine g_nil ?_
    simp only [Act.put, List.setIfInBounds_toArray, List.set_cons_succ, List.set_cons_zero]
    have HL := hide (And.intro hO.low (rd_blk (hO.row 3 rfl) (Nat.le_add_right n d38)))
    clear hO hb38
    go_wp2_with (fail)
    go_ret2
    exact ⟨_, n + d38, rfl, HL.out.1, Nat.le_add_right _ _, HL.out.2⟩
/-- How many bytes are opened, and the error's number. -/
def opN (b : Bool) (n : Nat) : Nat := bif b then n - 16 else 0
def opE (b : Bool) : Int := bif b then 0 else 110
theorem open_c (key nonce : Nat → Nat) (hk : ∀ i, key i < 256) (hn : ∀ i, nonce i < 256) (T : Option Addr) (n cn : Nat) (f : Nat → Nat) (hf : ∀ i, f i < 256) (B : Option Addr) (m cm : Nat) (h : Nat → Nat) (hh : ∀ i, h i < 256) (hn2 : n ≤ 2000) (hm2 : m ≤ 2000) (hcn : n ≤ cn) (hcm : m ≤ cm) (w : World) (hG0 : Gl w 0 (vals .i64 32 C.pl)) (hG1 : Gl w 1 (vals .u64 2 kp)) (hT : Rd w T n f) (hB : Rd w B m h) :
    RetV 12 #[A (vals .u8 32 key), A (vals .u8 12 nonce), .slice T n cn, .slice B m cm] w (fun s => .tuple #[s, .int .i64 (opE (okO key nonce m h n f))]) (opN (okO key nonce m h n f) n) (C.sx key 1 nonce f) := by
  by_cases hlt : n < 16
  · have e : okO key nonce m h n f = false := by unfold okO; rw [decide_eq_false (by omega)]; rfl
    rw [e]
    exact open_lt key nonce T n cn f B m cm w hlt
  · obtain ⟨N, rfl⟩ : ∃ N, n = N + 16 := ⟨n - 16, by omega⟩
    have e := open_ge key nonce hk hn T N cn f hf B m cm h hh (by omega) hm2 hcn hcm w hG0 hG1 hT hB _ rfl
    have e2 : okO key nonce m h (N + 16) f = decide (df (tga key nonce m h N f) (fun j => f (N + j)) 16 = 0) := by unfold okO; rw [decide_eq_true (by omega), Bool.true_and, Nat.add_sub_cancel]
    unfold opN opE
    rw [e2, Nat.add_sub_cancel]
    exact e
end Go.Proofs.YtanahjoiilfcbaaDoor.E

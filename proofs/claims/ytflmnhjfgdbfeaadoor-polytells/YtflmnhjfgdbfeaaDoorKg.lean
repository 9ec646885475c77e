/- Straight regions step by step, with literals of bytes; Tag of one part; awake. The variable kept as it is laid. -/
import Derived.Test.YtflmnhjfgdbfeaaDoorKf
namespace Go.Proofs.YtflmnhjfgdbfeaaDoor
set_option maxRecDepth 100000
open Go.RowKit Rg

structure WL (ops : Array Oper) (Q : Exit → Act → World → Prop) (l : List Oper) (a : Act) (w : World) : Prop where
  out : wpList Tryd.prog ops Q l a w
/-- Block b holds just the cells c, under any mark. -/
def Cel (w : World) (b : Nat) (c : Array Value) : Prop := ∃ t fz, w.heap[b]? = some (.cells c t fz)
theorem Cel.lt {w : World} {b : Nat} {c : Array Value} (h : Cel w b c) : b < w.heap.size := by
  obtain ⟨t, fz, h⟩ := h
  exact (Array.getElem?_eq_some_iff.1 h).1
theorem Cel.low {w w' : World} {b : Nat} {c : Array Value} (h : Cel w b c) (hb : Below w.heap.size w w') : Cel w' b c := by
  have hl := h.lt
  obtain ⟨t, fz, h⟩ := h
  exact ⟨t, fz, by rw [hb.block b hl]; exact h⟩
theorem Cel.freeze {w : World} {b : Nat} {c : Array Value} (h : Cel w b c) (a : Addr) : Cel (w.freeze a 1) b c := by
  obtain ⟨t, fz, h⟩ := h
  unfold World.freeze
  rw [if_neg (by decide)]
  by_cases e : a.block = b
  · subst e
    exact ⟨t, _, by simp only [Array.getElem?_modify, if_true, h, Option.map_some]; rfl⟩
  · exact ⟨t, fz, by simp only [Array.getElem?_modify, e, if_false]; exact h⟩
theorem Below.freeze {B : Nat} {x w : World} (h : Below B x w) {a : Addr} (ha : B ≤ a.block) : Below B x (w.freeze a 1) := by
  refine h.trans ?_
  unfold World.freeze
  rw [if_neg (by decide)]
  exact ⟨rfl, rfl, rfl, by simp, fun k hk => by simp only [Array.getElem?_modify]; rw [if_neg (by omega)]⟩
theorem conv23 {w : World} {b : Nat} {C : Array Value} (h : Cel w b C) (n c : Nat) : (convert 23 23 (.slice (some ⟨b, 0, none⟩) n c)).run Tryd.prog w = .ok (.slice (some ⟨b, 0, none⟩) n c) (w.freeze ⟨b, C.size, none⟩ 1) := by
  obtain ⟨t, fz, h⟩ := h
  have hsh : w.shape? b = some (t, C.size) := by unfold World.shape?; rw [h]
  simp [convert, run_underlying Tryd.underlying23, run_underlying Tryd.underlying5, markStringish, hsh]
theorem rd_cel {w : World} {b n : Nat} {f : Nat → Nat} (h : Cel w b (vals .u8 n f)) : Rd w (some ⟨b, 0, none⟩) n f := by
  refine Or.inr ⟨_, rfl, h.lt, fun i hi => ?_⟩
  obtain ⟨t, fz, h⟩ := h
  rw [Addr.add_mid, Nat.zero_add]
  simp only [World.cell?, h]
  exact vals_get _ _ _ _ hi
section
variable {o o2 : Oper} {a : Act} {u w : World} {L : List Row} {Q : Exit → Act → World → Prop} {ops : Array Oper} {rest : List Oper}
theorem g_run (v : Value) (w' : World) (hrun : (execOp a.eval o).run Tryd.prog w = .ok (.value v) w') (h : WL ops Q rest (a.put o.dst v) w') (hg : Region.wanted o (yielded ops a.tmps) = true := by kernel_rfl) : WL ops Q (o :: rest) a w :=
  ⟨wpList_step fun K hK => by
    rw [if_pos hg]
    unfold Oper.wp
    rw [hrun, Oper.upon_value]
    exact hK _ _ h.out⟩
theorem g_val (v : Value) (h : WL ops Q rest (a.put o.dst v) w) (hrun : (execOp a.eval o).run Tryd.prog w = .ok (.value v) w := by kernel_rfl) (hg : Region.wanted o (yielded ops a.tmps) = true := by kernel_rfl) : WL ops Q (o :: rest) a w := g_run v w hrun h hg
theorem g_ld (hO : Own u w L) {ty : TypeId} {x : Operand} (j : Nat) {b : Nat} {c : Array Value} (hj : L[j]? = some (b, c, ty)) {d : TypeDesc} (hu : Tryd.prog.underlying ty = some d) (h : WL ops Q rest (a.put o.dst (.agg c)) w) (ho : o.op = .load ty x := by rfl) (hx : a.eval x = D b := by kernel_rfl) (hd : d.isRow = true := by rfl) (h5 : anyLen ty = false := by rfl) (hg : Region.wanted o (yielded ops a.tmps) = true := by kernel_rfl) : WL ops Q (o :: rest) a w :=
  g_run _ w (run_ldm ty x ho _ 0 hx d (hO.row j hj).range hu hd (by rw [(hO.fits j hj).size h5]; simp)) h hg
theorem g_lc (hO : Own u w L) {ty : TypeId} {x : Operand} (j k : Nat) {b : Nat} {c : Array Value} {t : TypeId} (v : Value) (hj : L[j]? = some (b, c, t)) (hv : c[k]? = some v) (hu : ∀ w, (isAgg ty).run Tryd.prog w = .ok false w) (h : WL ops Q rest (a.put o.dst v) w) (ho : o.op = .load ty x := by rfl) (hx : a.eval x = E b k := by kernel_rfl) (hg : Region.wanted o (yielded ops a.tmps) = true := by kernel_rfl) : WL ops Q (o :: rest) a w :=
  g_run _ w (ld_cell ty hu ho hx (((hO.row j hj).cell k).trans hv)) h hg
theorem g_call (hO : Own u w L) (f : FuncId) (args : Array Value) (v : Value) (hc : Ret f args w v) (h : ∀ w', Below w.heap.size w w' → Own u w' L → WL ops Q rest (a.put o.dst v) w') (hrun : (execOp a.eval o).run Tryd.prog w = .ok (.enter f args) w := by kernel_rfl) (hg : Region.wanted o (yielded ops a.tmps) = true := by kernel_rfl) : WL ops Q (o :: rest) a w :=
  ⟨wpList_step fun K hK => by
    rw [if_pos hg]
    unfold Oper.wp
    rw [hrun, Oper.upon_enter]
    refine hc.mono fun e w' hh => ?_
    obtain ⟨rfl, hb⟩ := hh
    exact hK _ _ (h w' hb (hO.call hb)).out⟩
/-- A new row. -/
theorem g_new (hO : Own u w L) (v : Nat → Value) (c : Array Value) (ty : TypeId) (hf : Fit ty c) (hrun : (execOp a.eval o).run Tryd.prog w = .ok (.value (v w.heap.size)) (w.alloc (.cells c ty))) (h : ∀ q w', Below w.heap.size w w' → Own u w' (L ++ [(q, c, ty)]) → WL ops Q rest (a.put o.dst (v q)) w') (hg : Region.wanted o (yielded ops a.tmps) = true := by kernel_rfl) : WL ops Q (o :: rest) a w :=
  g_run _ _ hrun (h _ _ ((Below.refl _ w).alloc (Nat.le_refl _) _) (hO.snoc (Nat.le_refl _) (Blk.new w _ _) ((Below.refl _ w).alloc (Nat.le_refl _) _) hf)) hg
theorem g_st (hO : Own u w L) {ty : TypeId} {x y : Operand} (j : Nat) {b : Nat} {c e : Array Value} (hj : L[j]? = some (b, c, ty)) (hf : Fit ty e) (h : ∀ w', Own u w' (L.set j (b, e, ty)) → WL ops Q rest a w') (ho : o.op = .store ty x y := by rfl) (hx : a.eval x = D b := by kernel_rfl) (hy : a.eval y = .agg e := by kernel_rfl) (hd : o.dst = none := by rfl) (h5 : anyLen ty = false := by rfl) (hg : Region.wanted o (yielded ops a.tmps) = true := by kernel_rfl) : WL ops Q (o :: rest) a w :=
  ⟨wpList_step fun K hK => by
    rw [if_pos hg]
    have hB := hO.row j hj
    refine wp_store_row ty x y ho _ e hx hy ty _ hB (hf.size h5) ?_ hf.one ?_
    · have h1 := (hO.fits j hj).size h5
      rw [hf.size h5] at h1
      exact (Option.some.inj h1).symm
    · have hk := hK a _ (h _ (hO.put j hj (hB.row e) (st1_row w _ _) hf)).out
      rw [hd]
      exact hk⟩
/-- A literal of bytes: built and marked. -/
theorem g_lit (hO : Own u w L) (n : Nat) (f : Nat → Nat) {x : Operand} (h : ∀ q w', Own u w' L → Cel w' q (vals .u8 n f) → WL ops Q rest ((a.put o.dst (.slice (some ⟨q, 0, none⟩) n n)).put o2.dst (.slice (some ⟨q, 0, none⟩) n n)) w') (hrun : (execOp a.eval o).run Tryd.prog w = .ok (.value (.slice (some ⟨w.heap.size, 0, none⟩) n n)) (w.alloc (.cells (vals .u8 n f) 5)) := by kernel_rfl) (ho2 : o2.op = .convert 23 23 x := by rfl) (hx : ∀ q, (a.put o.dst (.slice (some ⟨q, 0, none⟩) n n)).eval x = .slice (some ⟨q, 0, none⟩) n n := by intro q; kernel_rfl)
    (hg : Region.wanted o (yielded ops a.tmps) = true := by kernel_rfl) (hg2 : ∀ q, Region.wanted o2 (yielded ops (a.put o.dst (.slice (some ⟨q, 0, none⟩) n n)).tmps) = true := by intro q; kernel_rfl) : WL ops Q (o :: o2 :: rest) a w := by
  have hC : Cel (w.alloc (.cells (vals .u8 n f) 5)) w.heap.size (vals .u8 n f) := ⟨5, (0, 0), Blk.new w _ _⟩
  have hb : Below w.heap.size w ((w.alloc (.cells (vals .u8 n f) 5)).freeze ⟨w.heap.size, (vals .u8 n f).size, none⟩ 1) := Below.freeze ((Below.refl _ w).alloc (Nat.le_refl _) _) (Nat.le_refl _)
  refine g_run _ _ hrun (g_run _ _ ?_ (h w.heap.size _ (hO.call hb) (hC.freeze _)) (hg2 _)) hg
  unfold execOp
  simp only [ho2, hx, Sem.run_bind, conv23 hC, Result.andThen_ok, Sem.run_pure]
theorem g_nil (h : Q .normal a w) : WL ops Q [] a w := ⟨wpList_nil h⟩
end
theorem b_pt1 {a : Act} {o : Oper} {p : Operand} {A : Option Addr} {n c : Nat} (w : World) (ho : o.op = .buildSlice 29 1 #[(0, p)] := by rfl) (hp : a.eval p = .slice A n c := by kernel_rfl) : (execOp a.eval o).run Tryd.prog w = .ok (.value (.slice (some ⟨w.heap.size, 0, none⟩) 1 1)) (w.alloc (.cells #[.slice A n c] 23)) := by
  have e : (Instr.buildSlice 29 1 #[(0, .slice A n c)]).run Tryd.prog w = .ok (.slice (some ⟨w.heap.size, 0, none⟩) 1 1) (w.alloc (.cells #[.slice A n c] 23)) := by kernel_rfl
  have hm : (#[(0, p)].map fun (q : Nat × Operand) => (q.1, a.eval q.2)) = #[((0 : Nat), .slice A n c)] := by simp [hp]
  unfold execOp
  simp only [ho]
  rw [hm, Sem.run_bind, e]
  rfl
theorem tag1_c (key : Nat → Nat) (hk : ∀ i, key i < 256) (A : Option Addr) (n c q : Nat) (g : Nat → Nat) (hg : ∀ i, g i < 256) (hc : n ≤ c) (w : World) (hG : Gl w 0 (vals .u64 2 kp)) (hB : Blk w q #[.slice A n c] 23) (hR : Rd w A n g) : Ret 9 #[.agg (vals .u8 32 key), .slice (some ⟨q, 0, none⟩) 1 1] w (.agg (vals .u8 16 (tg key g n))) :=
  tag_c key hk (some ⟨q, 0, none⟩) 1 1 g (one n) hg (by decide) w hG (pts_one hB hc hR)
theorem eq16 (f : Nat → Nat) (w : World) : (Op.equalIn 10000 25 (.agg (vals .u8 16 f)) (.agg (vals .u8 16 f))).run Tryd.prog w = .ok true w := by
  have h := run_equal_vals (P := Tryd.prog) w 9998 25 5 16 .u8 Tryd.underlying25 Tryd.underlying5 sz_u8 f f
  rw [h]
  congr 1
  simp
theorem b_eqa {ρ : Operand → Value} {o : Oper} {x y : Operand} {f : Nat → Nat} (w : World) (ho : o.op = .binOp .eql 25 x y 25 := by rfl) (hx : ρ x = .agg (vals .u8 16 f) := by kernel_rfl) (hy : ρ y = .agg (vals .u8 16 f) := by kernel_rfl) : (execOp ρ o).run Tryd.prog w = .ok (.value (.bool true)) w := by
  have h := eq16 f
  unfold execOp
  simp only [ho, hx, hy]
  go_simp
def akL : List Nat := [133, 214, 190, 120, 87, 85, 109, 51, 127, 68, 82, 254, 66, 213, 6, 168, 1, 3, 128, 138, 251, 13, 178, 253, 74, 191, 246, 175, 65, 73, 245, 27]
def txL : List Nat := [67, 114, 121, 112, 116, 111, 103, 114, 97, 112, 104, 105, 99, 32, 70, 111, 114, 117, 109, 32, 82, 101, 115, 101, 97, 114, 99, 104, 32, 71, 114, 111, 117, 112]
def ak : Nat → Nat := ge akL
def tx : Nat → Nat := ge txL
theorem ak_lt (i : Nat) : ak i < 256 := ge_lt (by decide) i
theorem tx_lt (i : Nat) : tx i < 256 := ge_lt (by decide) i
theorem bd_ak : Tryd.prog.built 22 [(0, .int .u8 133), (1, .int .u8 214), (2, .int .u8 190), (3, .int .u8 120), (4, .int .u8 87), (5, .int .u8 85), (6, .int .u8 109), (7, .int .u8 51), (8, .int .u8 127), (9, .int .u8 68), (10, .int .u8 82), (11, .int .u8 254), (12, .int .u8 66), (13, .int .u8 213), (14, .int .u8 6), (15, .int .u8 168), (16, .int .u8 1), (17, .int .u8 3), (18, .int .u8 128), (19, .int .u8 138), (20, .int .u8 251), (21, .int .u8 13), (22, .int .u8 178), (23, .int .u8 253), (24, .int .u8 74), (25, .int .u8 191), (26, .int .u8 246), (27, .int .u8 175), (28, .int .u8 65), (29, .int .u8 73), (30, .int .u8 245), (31, .int .u8 27)] = some (vals .u8 32 ak) := by kernel_rfl
theorem tg_ak : tg ak tx 34 0 = 168 ∧ tg ak tx 34 1 = 6 ∧ tg ak tx 34 2 = 29 ∧ tg ak tx 34 3 = 193 ∧ tg ak tx 34 15 = 169 := by decide +kernel
def z0 : Nat → Nat := fun _ => 0
def ta : Nat → Nat := fun _ => 97
theorem tg_z : vals .u8 16 (tg (fun _ => 0) ta 1) = vals .u8 16 (fun _ => 0) := vals_congr _ _ _ _ fun i hi => tg_null (fun _ => 0) ta (fun _ => Nat.zero_lt_succ _) 1 (fun _ _ => rfl) i hi
set_option maxHeartbeats 4000000 in
theorem awake_c (w : World) (hG : Gl w 0 (vals .u64 2 kp)) : Ret 8 #[] w (.bool true) := by
  have hG2 := hG
  clear hG
  go_enter Tryd.func8, Tryd.ntmps8
  have hO := Own.start w
  go_upto_region 0 with (fail)
  refine Rg.ps [] (fun _ => [(0, .bool false)]) (OI w (fun _ _ => [])) (fun _ => 0) hO (Rg.ac nv Rg.an) ?_
  intro ν w1 hO
  replace hO : Own w w1 [] := hO
  simp only [Rg.putL, Act.put, List.setIfInBounds_toArray, List.set_cons_zero]
  clear ν
  go_upto_region 1 with (fail)
  refine Rg.ps [1, 2] (fun ν => [(3, A (vals .u8 32 ak)), (1, D (ν 1))]) (OI w (fun s ν => [[], [((ν 1), vals .u8 32 (fun _ => 0), 22)], [((ν 1), vals .u8 32 ak, 22)]].getD s [])) (fun _ => 0) hO (Rg.ac (nx (fun _ => A (vals .u8 32 ak)) (fun _ w => run_bd 22 _ rfl [(0, Nv .u8 133), (1, Nv .u8 214), (2, Nv .u8 190), (3, Nv .u8 120), (4, Nv .u8 87), (5, Nv .u8 85), (6, Nv .u8 109), (7, Nv .u8 51), (8, Nv .u8 127), (9, Nv .u8 68), (10, Nv .u8 82), (11, Nv .u8 254), (12, Nv .u8 66), (13, Nv .u8 213), (14, Nv .u8 6), (15, Nv .u8 168), (16, Nv .u8 1), (17, Nv .u8 3), (18, Nv .u8 128), (19, Nv .u8 138), (20, Nv .u8 251), (21, Nv .u8 13), (22, Nv .u8 178), (23, Nv .u8 253), (24, Nv .u8 74), (25, Nv .u8 191), (26, Nv .u8 246), (27, Nv .u8 175), (28, Nv .u8 65), (29, Nv .u8 73), (30, Nv .u8 245), (31, Nv .u8 27)] (by kernel_rfl) _ bd_ak w)) (Rg.ac (sn 0 (fun _ => vals .u8 32 (fun _ => 0)) 22 (fun _ w => al_b32 rfl w) (fun _ => fit_b32 _)) (Rg.ac (sr 1 0 (fun _ => vals .u8 32 ak) (fun _ => fit_b32 _)) Rg.an))) ?_
  intro ν w2 hO
  replace hO : Own w w2 [((ν 1), vals .u8 32 ak, 22)] := hO
  simp only [Rg.putL, Act.put, List.setIfInBounds_toArray, List.set_cons_succ, List.set_cons_zero]
  generalize ν 1 = n1 at hO ⊢
  clear ν
  obtain ⟨T, hT⟩ : ∃ T, Hid (tg ak tx 34 = T) := ⟨_, hide rfl⟩
  have HT : Hid (T 0 = 168 ∧ T 1 = 6 ∧ T 2 = 29 ∧ T 3 = 193 ∧ T 15 = 169) := hide (by rw [← hT.out]; exact tg_ak)
  have HC : Hid (∀ (q b : Nat) (w1 : World), Below w.heap.size w w1 → Blk w1 b #[.slice (some ⟨q, 0, none⟩) 34 34] 23 → Rd w1 (some ⟨q, 0, none⟩) 34 tx → Ret 9 #[A (vals .u8 32 ak), .slice (some ⟨b, 0, none⟩) 1 1] w1 (A (vals .u8 16 T))) := hide fun q b w1 h1 h2 h3 => hT.out ▸ tag1_c ak ak_lt _ 34 34 b tx tx_lt (Nat.le_refl _) w1 (hG2.low h1) h2 h3
  have HC2 : Hid (∀ (q b : Nat) (w1 : World), Below w.heap.size w w1 → Blk w1 b #[.slice (some ⟨q, 0, none⟩) 1 1] 23 → Rd w1 (some ⟨q, 0, none⟩) 1 ta → Ret 9 #[A (vals .u8 32 (fun _ => 0)), .slice (some ⟨b, 0, none⟩) 1 1] w1 (A (vals .u8 16 (fun _ => 0)))) := hide fun q b w1 h1 h2 h3 => by
    have := tag1_c (fun _ => 0) (fun _ => Nat.zero_lt_succ _) _ 1 1 b ta (fun _ => by show 97 < 256; decide) (Nat.le_refl _) w1 (hG2.low h1) h2 h3
    rw [tg_z] at this
    exact this
  clear hT hG2
  go_upto_region 2 with (fail)
  refine wp_region_list (WL.out ?_)
  refine g_ld hO 0 rfl Tryd.underlying22 ?_
  refine g_lit hO 34 tx ?_
  intro q2 w3 hO hC
  refine g_new hO (fun b => .slice (some ⟨b, 0, none⟩) 1 1) #[.slice (some ⟨q2, 0, none⟩) 34 34] 23 (fit_ss (by kernel_rfl)) (b_pt1 w3) ?_
  intro b2 w4 hb hO
  refine g_call hO 9 #[A (vals .u8 32 ak), .slice (some ⟨b2, 0, none⟩) 1 1] (A (vals .u8 16 T)) (HC.out q2 b2 w4 hO.low (hO.row 1 rfl) (rd_cel (hC.low hb))) ?_
  intro w5 _ hO
  refine g_new hO D (vals .u8 16 (fun _ => 0)) 25 (fit_b16 _) (al_b16 rfl w5) ?_
  intro n2 w6 _ hO
  refine g_st hO 2 (e := vals .u8 16 T) rfl (fit_b16 _) ?_
  intro w7 hO
  refine g_nil ?_
  replace hO : Own w w7 [(n1, vals .u8 32 ak, 22), (b2, #[.slice (some ⟨q2, 0, none⟩) 34 34], 23), (n2, vals .u8 16 T, 25)] := hO
  clear hC hb HC
  simp only [Act.put, List.setIfInBounds_toArray, List.set_cons_succ, List.set_cons_zero]
  obtain ⟨T0, T1, T2, T3, T15⟩ := HT.out
  have c0 : (vals .u8 16 T)[0]? = some (.int .u8 168) := by rw [vals_get _ _ _ _ (by decide), T0]; rfl
  have c1 : (vals .u8 16 T)[1]? = some (.int .u8 6) := by rw [vals_get _ _ _ _ (by decide), T1]; rfl
  have c2 : (vals .u8 16 T)[2]? = some (.int .u8 29) := by rw [vals_get _ _ _ _ (by decide), T2]; rfl
  have c3 : (vals .u8 16 T)[3]? = some (.int .u8 193) := by rw [vals_get _ _ _ _ (by decide), T3]; rfl
  have c15 : (vals .u8 16 T)[15]? = some (.int .u8 169) := by rw [vals_get _ _ _ _ (by decide), T15]; rfl
  clear T0 T1 T2 T3 T15 HT
  go_upto_region 3 with (fail)
  refine wp_region_list (WL.out ?_)
  refine g_val (E n2 0) ?_
  refine g_lc hO 2 0 (.int .u8 168) rfl c0 agg_u8 ?_
  refine g_val (.bool true) ?_
  refine g_val (.bool true) ?_
  refine g_val (E n2 1) ?_
  refine g_lc hO 2 1 (.int .u8 6) rfl c1 agg_u8 ?_
  refine g_val (.bool true) ?_
  refine g_val (.bool true) ?_
  refine g_val (.bool true) ?_
  refine g_val (E n2 2) ?_
  refine g_lc hO 2 2 (.int .u8 29) rfl c2 agg_u8 ?_
  refine g_val (.bool true) ?_
  refine g_val (.bool true) ?_
  refine g_val (.bool true) ?_
  refine g_val (E n2 3) ?_
  refine g_lc hO 2 3 (.int .u8 193) rfl c3 agg_u8 ?_
  refine g_val (.bool true) ?_
  refine g_val (.bool true) ?_
  refine g_val (.bool true) ?_
  refine g_val (E n2 15) ?_
  refine g_lc hO 2 15 (.int .u8 169) rfl c15 agg_u8 ?_
  refine g_val (.bool true) ?_
  refine g_val (.bool true) ?_
  refine g_val (.bool true) ?_
  refine g_run (A (vals .u8 32 (fun _ => 0))) w7 (run_bd 22 _ rfl [] (by kernel_rfl) _ bd_b32 w7) ?_
  refine g_lit hO 1 ta ?_
  intro q3 w8 hO hC
  refine g_new hO (fun b => .slice (some ⟨b, 0, none⟩) 1 1) #[.slice (some ⟨q3, 0, none⟩) 1 1] 23 (fit_ss (by kernel_rfl)) (b_pt1 w8) ?_
  intro b3 w9 hb hO
  refine g_call hO 9 #[A (vals .u8 32 (fun _ => 0)), .slice (some ⟨b3, 0, none⟩) 1 1] (A (vals .u8 16 (fun _ => 0))) (HC2.out q3 b3 w9 hO.low (hO.row 3 rfl) (rd_cel (hC.low hb))) ?_
  intro w10 _ hO
  refine g_run (A (vals .u8 16 (fun _ => 0))) w10 (run_bd 25 _ rfl [] (by kernel_rfl) _ bd_b16 w10) ?_
  refine g_run (.bool true) w10 (b_eqa (f := fun _ => 0) w10) ?_
  refine g_val (.bool true) ?_
  refine g_val (.bool true) ?_
  refine g_nil ?_
  have HF := hide hO.low
  clear hO hC hb HC2 c0 c1 c2 c3 c15
  simp only [Act.put, List.setIfInBounds_toArray, List.set_cons_succ, List.set_cons_zero]
  go_wp2_with (fail)
  go_ret
  exact ⟨rfl, HF.out⟩
end Go.Proofs.YtflmnhjfgdbfeaaDoor

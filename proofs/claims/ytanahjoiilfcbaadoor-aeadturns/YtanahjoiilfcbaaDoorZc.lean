/- Walks: joined. Two parts of at most two thousand bytes, in a list of the caller's; no other condition. -/
import Derived.Test.YtanahjoiilfcbaaDoorZb
namespace Go.Proofs.YtanahjoiilfcbaaDoor.E
set_option maxRecDepth 100000
open Go.RowKit Rg

/-- One text behind another. -/
def cat (a : Nat → Nat) (n : Nat) (b : Nat → Nat) (i : Nat) : Nat := if i < n then a i else b (i - n)
/-- Bytes, and bytes 0 behind them. -/
def fl (n : Nat) (f : Nat → Nat) (i : Nat) : Nat := if i < n then f i else 0
/-- A number's eight bytes. -/
def ln (x i : Nat) : Nat := x / 2 ^ (8 * i) % 256
/-- What is tagged, of m bytes h and n bytes f. -/
def al (m : Nat) (h : Nat → Nat) (n : Nat) (f : Nat → Nat) : Nat → Nat := cat (fl m h) (m + pad m) (cat (fl n f) (n + pad n) (cat (ln m) 8 (ln n)))
def tl (m n : Nat) : Nat := m + pad m + (n + pad n + 16)
/-- Where its five parts end. -/
def ofs (m n : Nat) : Nat → Nat
  | 0 => 0
  | 1 => m
  | 2 => m + pad m
  | 3 => m + pad m + n
  | 4 => m + pad m + (n + pad n)
  | _ => tl m n
def lg2 (m n : Nat) : Nat → Nat := nu (nu (fun _ => 0) 0 m) 8 n
theorem lg2_eq (m n j : Nat) : lg2 m n j = cat (ln m) 8 (ln n) j := by
  unfold lg2 cat nu ln
  by_cases h : j < 8
  · rw [if_pos h, if_pos h, if_neg (by omega), Nat.sub_zero]
  · rw [if_neg h, if_neg h]
theorem lt_five {p : Nat → Prop} (h0 : p 0) (h1 : p 1) (h2 : p 2) (h3 : p 3) (h4 : p 4) : ∀ i, i < 5 → p i
  | 0, _ => h0 | 1, _ => h1 | 2, _ => h2 | 3, _ => h3 | 4, _ => h4
  | n + 5, h => absurd h (by omega)
theorem al_0 (m n : Nat) (h f : Nat → Nat) (j : Nat) (hj : j < m) : h j = al m h n f (0 + j) := by
  unfold al cat fl; rw [Nat.zero_add, if_pos (by omega), if_pos hj]
theorem al_1 (m n : Nat) (h f : Nat → Nat) (j : Nat) (hj : j < pad m) : 0 = al m h n f (m + j) := by
  unfold al cat fl; rw [if_pos (by omega), if_neg (by omega)]
theorem al_2 (m n : Nat) (h f : Nat → Nat) (j : Nat) (hj : j < n) : f j = al m h n f (m + pad m + j) := by
  unfold al cat fl; rw [if_neg (by omega), Nat.add_sub_cancel_left, if_pos (by omega), if_pos hj]
theorem al_3 (m n : Nat) (h f : Nat → Nat) (j : Nat) (hj : j < pad n) : 0 = al m h n f (m + pad m + n + j) := by
  unfold al cat fl; rw [if_neg (by omega), show m + pad m + n + j - (m + pad m) = n + j by omega, if_pos (by omega), if_neg (by omega)]
theorem al_4 (m n : Nat) (h f : Nat → Nat) (j : Nat) : lg2 m n j = al m h n f (m + pad m + (n + pad n) + j) := by
  rw [lg2_eq]
  unfold al
  show cat (ln m) 8 (ln n) j = (if _ then _ else cat (fl n f) (n + pad n) (cat (ln m) 8 (ln n)) _)
  rw [if_neg (by omega), show m + pad m + (n + pad n) + j - (m + pad m) = n + pad n + j by omega]
  show _ = (if _ then _ else _)
  rw [if_neg (by omega), Nat.add_sub_cancel_left]
theorem fl_lt {n : Nat} {f : Nat → Nat} (hf : ∀ i, f i < 256) (i : Nat) : fl n f i < 256 := by
  unfold fl; by_cases h : i < n
  · rw [if_pos h]; exact hf i
  · rw [if_neg h]; exact Nat.zero_lt_succ _
theorem ln_lt (x i : Nat) : ln x i < 256 := Nat.mod_lt _ (by decide)
theorem cat_lt {a b : Nat → Nat} {n : Nat} (ha : ∀ i, a i < 256) (hb : ∀ i, b i < 256) (i : Nat) : cat a n b i < 256 := by
  unfold cat; by_cases h : i < n
  · rw [if_pos h]; exact ha i
  · rw [if_neg h]; exact hb _
theorem al_lt {m n : Nat} {h f : Nat → Nat} (hh : ∀ i, h i < 256) (hf : ∀ i, f i < 256) : ∀ i, al m h n f i < 256 := cat_lt (fl_lt hh) (cat_lt (fl_lt hf) (cat_lt (ln_lt m) (ln_lt n)))
/-- The five parts. -/
def pt5 (B : Option Addr) (m cm : Nat) (T : Option Addr) (n cn p1 p2 g d : Nat) : List Value := [.slice B m cm, .slice (some ⟨p1, 0, none⟩) (pad m) (pad m), .slice T n cn, .slice (some ⟨p2, 0, none⟩) (pad n) (pad n), .slice (some ⟨g, 0, none⟩) 16 (16 + d)]
/-- The rows that joined lays. -/
def jR (B : Option Addr) (m cm : Nat) (T : Option Addr) (n cn : Nat) (z : Nat → Nat) : List Row :=
  [(z 0, vals .u8 (pad m) (fun _ => 0), 5), (z 1, vals .u8 (pad n) (fun _ => 0), 5), (z 2, vals .u8 (16 + z 4) (C.mx (lg2 m n) 16), 5), (z 3, pcs (5 + z 5) 5 (ptL (pt5 B m cm T n cn (z 0) (z 1) (z 2) (z 4))), 25)]
theorem pts_j {w : World} {B T : Option Addr} {m cm n cn : Nat} {h f : Nat → Nat} {z : Nat → Nat} (hb : ∀ r ∈ jR B m cm T n cn z, Blk w r.1 r.2.1 r.2.2) (hB : Rd w B m h) (hT : Rd w T n f) (hcm : m ≤ cm) (hcn : n ≤ cn) : Pts w (some ⟨z 3, 0, none⟩) 5 (al m h n f) (ofs m n) := by
  have b0 := hb _ (List.mem_of_getElem? (show (jR B m cm T n cn z)[0]? = _ from rfl))
  have b1 := hb _ (List.mem_of_getElem? (show (jR B m cm T n cn z)[1]? = _ from rfl))
  have b2 := hb _ (List.mem_of_getElem? (show (jR B m cm T n cn z)[2]? = _ from rfl))
  have b3 := hb _ (List.mem_of_getElem? (show (jR B m cm T n cn z)[3]? = _ from rfl))
  have cc : ∀ i, i < 5 → w.cell? ((⟨z 3, 0, none⟩ : Addr).add i) = some (ptL (pt5 B m cm T n cn (z 0) (z 1) (z 2) (z 4)) i) := fun i hi => by
    rw [Addr.add_mid, Nat.zero_add, b3.cell, pcs_get _ _ _ _ (by omega), if_pos hi]
  refine ⟨rfl, lt_five (Nat.zero_le _) (Nat.le_add_right _ _) (Nat.le_add_right _ _) (by show m + pad m + n ≤ m + pad m + (n + pad n); omega) (by show m + pad m + (n + pad n) ≤ tl m n; unfold tl; omega), .inr ⟨_, rfl, b3.lt, lt_five ?_ ?_ ?_ ?_ ?_⟩⟩
  · exact ⟨B, cm, cc 0 (by decide), hcm, hB.congr fun j hj => al_0 m n h f j hj⟩
  · have e : ofs m n 2 - ofs m n 1 = pad m := Nat.add_sub_cancel_left ..
    refine ⟨_, pad m, by rw [e]; exact cc 1 (by decide), by rw [e]; exact Nat.le_refl _, by rw [e]; exact (rd_vals b0).congr fun j hj => al_1 m n h f j hj⟩
  · have e : ofs m n 3 - ofs m n 2 = n := Nat.add_sub_cancel_left ..
    refine ⟨T, cn, by rw [e]; exact cc 2 (by decide), by rw [e]; exact hcn, by rw [e]; exact hT.congr fun j hj => al_2 m n h f j hj⟩
  · have e : ofs m n 4 - ofs m n 3 = pad n := by show m + pad m + (n + pad n) - (m + pad m + n) = pad n; omega
    refine ⟨_, pad n, by rw [e]; exact cc 3 (by decide), by rw [e]; exact Nat.le_refl _, by rw [e]; exact (rd_vals b1).congr fun j hj => al_3 m n h f j hj⟩
  · have e : ofs m n 5 - ofs m n 4 = 16 := by show tl m n - (m + pad m + (n + pad n)) = 16; unfold tl; omega
    refine ⟨_, 16 + z 4, by rw [e]; exact cc 4 (by decide), by rw [e]; omega, by rw [e]; exact (rd_blk b2 (by omega)).congr fun j _ => al_4 m n h f j⟩
theorem b_bs2 {a : Act} {o : Oper} {p q : Operand} {x y : Value} (w : World) (hx1 : [x, y].all (·.oneCell') = true) (ho : o.op = .buildSlice 42 2 #[(0, p), (1, q)] := by rfl) (hp : a.eval p = x := by kernel_rfl) (hq : a.eval q = y := by kernel_rfl) (hsx : (match x with | .slice _ _ _ => true | _ => false) = true := by rfl) (hsy : (match y with | .slice _ _ _ => true | _ => false) = true := by rfl) : (execOp a.eval o).run Tryd.prog w = .ok (.value (.slice (some ⟨w.heap.size, 0, none⟩) 2 2)) (w.alloc (.cells #[x, y] 25)) := by
  cases x <;> first | cases hsx | skip
  cases y <;> first | cases hsy | skip
  rename_i A n c B m d
  have e : (Instr.buildSlice 42 2 #[(0, .slice A n c), (1, .slice B m d)]).run Tryd.prog w = .ok (.slice (some ⟨w.heap.size, 0, none⟩) 2 2) (w.alloc (.cells #[.slice A n c, .slice B m d] 25)) := by kernel_rfl
  have hm : (#[(0, p), (1, q)].map fun (r : Nat × Operand) => (r.1, a.eval r.2)) = #[((0 : Nat), .slice A n c), ((1 : Nat), .slice B m d)] := by simp [hp, hq]
  unfold execOp
  simp only [ho]
  rw [hm, Sem.run_bind, e]
  rfl
theorem pad_le (n : Nat) : pad n < 16 := Nat.mod_lt _ (by decide)
theorem b_cu38 {ρ : Operand → Value} {o : Oper} {x : Operand} {k : Nat} (hk : k < 2 ^ 40) (w : World) (ho : o.op = .convert 3 38 x := by rfl) (hx : ρ x = Nv .i64 k := by kernel_rfl) : (execOp ρ o).run Tryd.prog w = .ok (.value (Nv .u64 k)) w := by
  have h1 : IntKind.u64.wrap (k : Int) = (k : Int) := by rw [wrap_u64']; omega
  unfold execOp
  simp only [ho, hx]
  go_simp
section
variable {o : Oper} {a : Act} {u w : World} {L : List Row} {Q : Exit → Act → World → Prop} {ops : Array Oper} {rest : List Oper}
theorem g_num (x n : Nat) (f : Nat → Nat) (v : Value) (hG : Gr u w L n f v) (hn : n ≤ 1000) (N : Nat) (hN : n + 8 = N) (h : ∀ g d w', Own u w' (L ++ [(g, vals .u8 (N + d) (C.mx (nu f n x) N), 5)]) → WL ops Q rest (a.put o.dst (.slice (some ⟨g, 0, none⟩) N (N + d))) w') (hrun : (execOp a.eval o).run Tryd.prog w = .ok (.enter 35 #[v, Nv .u64 x]) w := by kernel_rfl) (hg : Region.wanted o (yielded ops a.tmps) = true := by kernel_rfl) : WL ops Q (o :: rest) a w := by
  subst hN
  exact g_any (P := fun v w' => ∃ g d, v = .slice (some ⟨g, 0, none⟩) (n + 8) (n + 8 + d) ∧ Own u w' (L ++ [(g, vals .u8 (n + 8 + d) (C.mx (nu f n x) (n + 8)), 5)])) 35 _ ((appnum_c x n f v hG hn).mono fun e w' hh => by
    obtain ⟨g, d, he, h1⟩ := hh
    exact ⟨_, he, g, d, rfl, h1⟩) (fun v w' hP => by
    obtain ⟨g, d, rfl, h1⟩ := hP
    exact h g d w' h1) hrun hg
end
set_option maxHeartbeats 8000000 in
theorem joined_c (B T : Option Addr) (m cm n cn q c : Nat) (hm : m ≤ 2000) (hn : n ≤ 2000) (w : World) (hQ : Blk w q #[.slice B m cm, .slice T n cn] 25) : RetZ 21 #[.slice (some ⟨q, 0, none⟩) 2 c] w (fun z => .slice (some ⟨z 3, 0, none⟩) 5 (5 + z 5)) (jR B m cm T n cn) := by
  have HQ := hide hQ
  clear hQ
  go_enter Tryd.func21, Tryd.ntmps21
  have hO := Own.start w
  go_upto_region 0 with (fail)
  refine wp_region_list (WL.out ?_)
  refine g_val (.slice none 0 0) ?_
  refine g_nil ?_
  simp only [Act.put, List.setIfInBounds_toArray, List.set_cons_succ, List.set_cons_zero]
  go_upto_region 1 with (fail)
  refine wp_region_list (WL.out ?_)
  refine g_val (.slice none 0 0) ?_
  refine g_nil ?_
  simp only [Act.put, List.setIfInBounds_toArray, List.set_cons_succ, List.set_cons_zero]
  go_upto_region 2 with (fail)
  refine wp_region_list (WL.out ?_)
  refine g_val (.slice none 0 0) ?_
  refine g_nil ?_
  simp only [Act.put, List.setIfInBounds_toArray, List.set_cons_succ, List.set_cons_zero]
  go_upto_region 3 with (fail)
  refine wp_region_list (WL.out ?_)
  refine g_val (.slice (some ⟨q, 0, none⟩) 2 c) ?_
  refine g_val (Nv .i64 2) ?_
  refine g_val (Nv .i64 0) ?_
  refine g_nil ?_
  simp only [Act.put, List.setIfInBounds_toArray, List.set_cons_succ, List.set_cons_zero]
  have HO : Hid (Own w w []) := hide hO
  clear hO
  go_wp2_with (fail)
  go_loopw [3, 4, 9] (fun x3 x4 x9 wr => (x9 = .int .i64 0 ∧ x3 = .slice none 0 0 ∧ x4 = .slice none 0 0 ∧ Own w wr []) ∨ (x9 = .int .i64 1 ∧ ∃ p1 g d a b, x3 = .slice (some ⟨a, 0, none⟩) 2 (2 + b) ∧ x4 = .slice (some ⟨g, 0, none⟩) 8 (8 + d) ∧ Own w wr [(p1, vals .u8 (pad m) (fun _ => 0), 5), (a, pcs (2 + b) 2 (ptL [.slice B m cm, .slice (some ⟨p1, 0, none⟩) (pad m) (pad m)]), 25), (g, vals .u8 (8 + d) (C.mx (nu (fun _ => 0) 0 m) 8), 5)]) ∨ (x9 = .int .i64 2 ∧ ∃ p1 p2 g d a b, x3 = .slice (some ⟨a, 0, none⟩) 4 (4 + b) ∧ x4 = .slice (some ⟨g, 0, none⟩) 16 (16 + d) ∧ Own w wr [(p1, vals .u8 (pad m) (fun _ => 0), 5), (a, pcs (4 + b) 4 (ptL [.slice B m cm, .slice (some ⟨p1, 0, none⟩) (pad m) (pad m), .slice T n cn, .slice (some ⟨p2, 0, none⟩) (pad n) (pad n)]), 25), (p2, vals .u8 (pad n) (fun _ => 0), 5), (g, vals .u8 (16 + d) (C.mx (lg2 m n) 16), 5)])) (fun _ _ x9 _ => 2 - (intOf x9).toNat)
  case atStart => exact .inl ⟨rfl, rfl, rfl, HO.out⟩
  case round =>
    clear HO
    rcases hrel with ⟨rfl, rfl, rfl, hO⟩ | ⟨rfl, p1, g1, d1, a1, b1, rfl, rfl, hO⟩ | ⟨rfl, p1, p2, g, d, a, b, rfl, rfl, hO⟩
    · have hQ := HQ.out.call hO.low
      go_upto_region 5 with (fail)
      refine wp_region_list (WL.out ?_)
      refine g_val (D q) ?_
      refine g_val (.slice B m cm) ?_ (C.ld_addr 25 agg_bs rfl (ad := ⟨q, 0, none⟩) (by kernel_rfl) ((hQ.cell 0).trans rfl))
      refine g_val (.slice B m cm) ?_
      refine g_nil ?_
      simp only [Act.put, List.setIfInBounds_toArray, List.set_cons_succ, List.set_cons_zero]
      go_upto_region 6 with (fail)
      refine wp_region_list (WL.out ?_)
      refine g_val (.slice none 0 0) ?_
      refine g_val (.slice B m cm) ?_
      refine g_val (.slice B m cm) ?_
      refine g_val (Nv .i64 m) ?_
      refine g_call hO 34 #[Nv .i64 m] (Nv .i64 (pad m)) (missing_c m wr) ?_
      intro w1 hb17 hO
      refine g_new hO (fun q => .slice (some ⟨q, 0, none⟩) (pad m) (pad m)) (vals .u8 (pad m) (fun _ => 0)) 5 (fit_sl _ _) (C.b_mk (by have := pad_le m; omega) w1) ?_
      intro p1 w2 _ hO
      replace hO : Own w w2 [(p1, vals .u8 (pad m) (fun _ => 0), 5)] := hO
      refine g_new hO (fun q => .slice (some ⟨q, 0, none⟩) 2 2) #[.slice B m cm, .slice (some ⟨p1, 0, none⟩) (pad m) (pad m)] 25 (fit_ss (by kernel_rfl)) (b_bs2 w2 rfl) ?_
      intro t19 w3 _ hO
      replace hO : Own w w3 [(p1, vals .u8 (pad m) (fun _ => 0), 5), (t19, #[.slice B m cm, .slice (some ⟨p1, 0, none⟩) (pad m) (pad m)], 25)] := hO
      refine g_apnl (L := [(p1, vals .u8 (pad m) (fun _ => 0), 5)]) t19 2 [.slice B m cm, .slice (some ⟨p1, 0, none⟩) (pad m) (pad m)] hO rfl rfl (by decide) (by decide) ?_
      intro a2 b2 w4 hO
      replace hO : Own w w4 [(p1, vals .u8 (pad m) (fun _ => 0), 5), (a2, pcs (2 + b2) 2 (ptL [.slice B m cm, .slice (some ⟨p1, 0, none⟩) (pad m) (pad m)]), 25)] := hO
      refine g_val (.slice (some ⟨a2, 0, none⟩) 2 (2 + b2)) ?_
      refine g_nil ?_
      simp only [Act.put, List.setIfInBounds_toArray, List.set_cons_succ, List.set_cons_zero]
      go_upto_region 7 with (fail)
      refine wp_region_list (WL.out ?_)
      refine g_val (.slice none 0 0) ?_
      refine g_val (.slice B m cm) ?_
      refine g_val (Nv .i64 m) ?_
      refine g_val (Nv .u64 m) ?_ (b_cu38 (by omega) w4)
      refine g_num m 0 (fun _ => 0) (.slice none 0 0) (.inl ⟨rfl, rfl, hO⟩) (by decide) 8 rfl ?_
      intro g2 d2 w5 hO
      replace hO : Own w w5 [(p1, vals .u8 (pad m) (fun _ => 0), 5), (a2, pcs (2 + b2) 2 (ptL [.slice B m cm, .slice (some ⟨p1, 0, none⟩) (pad m) (pad m)]), 25), (g2, vals .u8 (8 + d2) (C.mx (nu (fun _ => 0) 0 m) 8), 5)] := hO
      refine g_val (.slice (some ⟨g2, 0, none⟩) 8 (8 + d2)) ?_
      refine g_nil ?_
      simp only [Act.put, List.setIfInBounds_toArray, List.set_cons_succ, List.set_cons_zero]
      have HO2 : Hid (Own w w5 [(p1, vals .u8 (pad m) (fun _ => 0), 5), (a2, pcs (2 + b2) 2 (ptL [.slice B m cm, .slice (some ⟨p1, 0, none⟩) (pad m) (pad m)]), 25), (g2, vals .u8 (8 + d2) (C.mx (nu (fun _ => 0) 0 m) 8), 5)]) := hide hO
      clear hO hQ
      go_wp2_with (fail)
      go_roundw
      case rel => exact .inr (.inl ⟨rfl, p1, g2, d2, a2, b2, rfl, rfl, HO2.out⟩)
      case measure => simp [intOf]
    · have hQ := HQ.out.call hO.low
      go_upto_region 5 with (fail)
      refine wp_region_list (WL.out ?_)
      refine g_val (E q 1) ?_
      refine g_val (.slice T n cn) ?_ (C.ld_addr 25 agg_bs rfl (ad := ⟨q, 1, none⟩) (by kernel_rfl) ((hQ.cell 1).trans rfl))
      refine g_val (.slice T n cn) ?_
      refine g_nil ?_
      simp only [Act.put, List.setIfInBounds_toArray, List.set_cons_succ, List.set_cons_zero]
      go_upto_region 6 with (fail)
      refine wp_region_list (WL.out ?_)
      refine g_val (.slice (some ⟨a1, 0, none⟩) 2 (2 + b1)) ?_
      refine g_val (.slice T n cn) ?_
      refine g_val (.slice T n cn) ?_
      refine g_val (Nv .i64 n) ?_
      refine g_call hO 34 #[Nv .i64 n] (Nv .i64 (pad n)) (missing_c n wr) ?_
      intro w1 hb17 hO
      refine g_new hO (fun q => .slice (some ⟨q, 0, none⟩) (pad n) (pad n)) (vals .u8 (pad n) (fun _ => 0)) 5 (fit_sl _ _) (C.b_mk (by have := pad_le n; omega) w1) ?_
      intro p2 w2 _ hO
      replace hO : Own w w2 [(p1, vals .u8 (pad m) (fun _ => 0), 5), (a1, pcs (2 + b1) 2 (ptL [.slice B m cm, .slice (some ⟨p1, 0, none⟩) (pad m) (pad m)]), 25), (g1, vals .u8 (8 + d1) (C.mx (nu (fun _ => 0) 0 m) 8), 5), (p2, vals .u8 (pad n) (fun _ => 0), 5)] := hO
      refine g_new hO (fun q => .slice (some ⟨q, 0, none⟩) 2 2) #[.slice T n cn, .slice (some ⟨p2, 0, none⟩) (pad n) (pad n)] 25 (fit_ss (by kernel_rfl)) (b_bs2 w2 rfl) ?_
      intro t19 w3 _ hO
      replace hO : Own w w3 [(p1, vals .u8 (pad m) (fun _ => 0), 5), (a1, pcs (2 + b1) 2 (ptL [.slice B m cm, .slice (some ⟨p1, 0, none⟩) (pad m) (pad m)]), 25), (g1, vals .u8 (8 + d1) (C.mx (nu (fun _ => 0) 0 m) 8), 5), (p2, vals .u8 (pad n) (fun _ => 0), 5), (t19, #[.slice T n cn, .slice (some ⟨p2, 0, none⟩) (pad n) (pad n)], 25)] := hO
      refine g_apl (L := [(p1, vals .u8 (pad m) (fun _ => 0), 5), (a1, pcs (2 + b1) 2 (ptL [.slice B m cm, .slice (some ⟨p1, 0, none⟩) (pad m) (pad m)]), 25), (g1, vals .u8 (8 + d1) (C.mx (nu (fun _ => 0) 0 m) 8), 5), (p2, vals .u8 (pad n) (fun _ => 0), 5)]) 1 a1 (2 + b1) t19 4 2 2 [.slice B m cm, .slice (some ⟨p1, 0, none⟩) (pad m) (pad m)] [.slice T n cn, .slice (some ⟨p2, 0, none⟩) (pad n) (pad n)] hO rfl rfl rfl (Nat.le_add_right 2 b1) rfl rfl rfl (by decide) ?_
      intro a2 b2 w4 hO
      replace hO : Own w w4 [(p1, vals .u8 (pad m) (fun _ => 0), 5), (a2, pcs (4 + b2) 4 (ptL [.slice B m cm, .slice (some ⟨p1, 0, none⟩) (pad m) (pad m), .slice T n cn, .slice (some ⟨p2, 0, none⟩) (pad n) (pad n)]), 25), (g1, vals .u8 (8 + d1) (C.mx (nu (fun _ => 0) 0 m) 8), 5), (p2, vals .u8 (pad n) (fun _ => 0), 5)] := hO
      refine g_val (.slice (some ⟨a2, 0, none⟩) 4 (4 + b2)) ?_
      refine g_nil ?_
      simp only [Act.put, List.setIfInBounds_toArray, List.set_cons_succ, List.set_cons_zero]
      go_upto_region 7 with (fail)
      refine wp_region_list (WL.out ?_)
      refine g_val (.slice (some ⟨g1, 0, none⟩) 8 (8 + d1)) ?_
      refine g_val (.slice T n cn) ?_
      refine g_val (Nv .i64 n) ?_
      refine g_val (Nv .u64 n) ?_ (b_cu38 (by omega) w4)
      replace hO : Own w w4 [(p1, vals .u8 (pad m) (fun _ => 0), 5), (a2, pcs (4 + b2) 4 (ptL [.slice B m cm, .slice (some ⟨p1, 0, none⟩) (pad m) (pad m), .slice T n cn, .slice (some ⟨p2, 0, none⟩) (pad n) (pad n)]), 25), (p2, vals .u8 (pad n) (fun _ => 0), 5), (g1, vals .u8 (8 + d1) (C.mx (nu (fun _ => 0) 0 m) 8), 5)] := hO.perm (((List.Perm.swap _ _ _).cons _).cons _)
      refine g_num (L := [(p1, vals .u8 (pad m) (fun _ => 0), 5), (a2, pcs (4 + b2) 4 (ptL [.slice B m cm, .slice (some ⟨p1, 0, none⟩) (pad m) (pad m), .slice T n cn, .slice (some ⟨p2, 0, none⟩) (pad n) (pad n)]), 25), (p2, vals .u8 (pad n) (fun _ => 0), 5)]) n 8 (nu (fun _ => 0) 0 m) (.slice (some ⟨g1, 0, none⟩) 8 (8 + d1)) (.inr ⟨g1, d1, rfl, hO⟩) (by decide) 16 rfl ?_
      intro g2 d2 w5 hO
      replace hO : Own w w5 [(p1, vals .u8 (pad m) (fun _ => 0), 5), (a2, pcs (4 + b2) 4 (ptL [.slice B m cm, .slice (some ⟨p1, 0, none⟩) (pad m) (pad m), .slice T n cn, .slice (some ⟨p2, 0, none⟩) (pad n) (pad n)]), 25), (p2, vals .u8 (pad n) (fun _ => 0), 5), (g2, vals .u8 (16 + d2) (C.mx (lg2 m n) 16), 5)] := hO
      refine g_val (.slice (some ⟨g2, 0, none⟩) 16 (16 + d2)) ?_
      refine g_nil ?_
      simp only [Act.put, List.setIfInBounds_toArray, List.set_cons_succ, List.set_cons_zero]
      have HO2 : Hid (Own w w5 [(p1, vals .u8 (pad m) (fun _ => 0), 5), (a2, pcs (4 + b2) 4 (ptL [.slice B m cm, .slice (some ⟨p1, 0, none⟩) (pad m) (pad m), .slice T n cn, .slice (some ⟨p2, 0, none⟩) (pad n) (pad n)]), 25), (p2, vals .u8 (pad n) (fun _ => 0), 5), (g2, vals .u8 (16 + d2) (C.mx (lg2 m n) 16), 5)]) := hide hO
      clear hO hQ
      go_wp2_with (fail)
      go_roundw
      case rel => exact .inr (.inr ⟨rfl, p1, p2, g2, d2, a2, b2, rfl, rfl, HO2.out⟩)
      case measure => simp [intOf]
    · go_upto_region 9 with (fail)
      refine wp_region_list (WL.out ?_)
      refine g_val (.slice (some ⟨a, 0, none⟩) 4 (4 + b)) ?_
      refine g_val (.slice (some ⟨g, 0, none⟩) 16 (16 + d)) ?_
      refine g_new hO (fun q => .slice (some ⟨q, 0, none⟩) 1 1) #[.slice (some ⟨g, 0, none⟩) 16 (16 + d)] 25 (fit_ss (by kernel_rfl)) (b_pt1 wr) ?_
      intro t29 w1 _ hO
      replace hO : Own w w1 [(p1, vals .u8 (pad m) (fun _ => 0), 5), (a, pcs (4 + b) 4 (ptL [.slice B m cm, .slice (some ⟨p1, 0, none⟩) (pad m) (pad m), .slice T n cn, .slice (some ⟨p2, 0, none⟩) (pad n) (pad n)]), 25), (p2, vals .u8 (pad n) (fun _ => 0), 5), (g, vals .u8 (16 + d) (C.mx (lg2 m n) 16), 5), (t29, #[.slice (some ⟨g, 0, none⟩) 16 (16 + d)], 25)] := hO
      refine g_apl (L := [(p1, vals .u8 (pad m) (fun _ => 0), 5), (a, pcs (4 + b) 4 (ptL [.slice B m cm, .slice (some ⟨p1, 0, none⟩) (pad m) (pad m), .slice T n cn, .slice (some ⟨p2, 0, none⟩) (pad n) (pad n)]), 25), (p2, vals .u8 (pad n) (fun _ => 0), 5), (g, vals .u8 (16 + d) (C.mx (lg2 m n) 16), 5)]) 1 a (4 + b) t29 5 4 1 [.slice B m cm, .slice (some ⟨p1, 0, none⟩) (pad m) (pad m), .slice T n cn, .slice (some ⟨p2, 0, none⟩) (pad n) (pad n)] [.slice (some ⟨g, 0, none⟩) 16 (16 + d)] hO rfl rfl rfl (Nat.le_add_right 4 b) rfl rfl rfl (by decide) ?_
      intro a2 b2 w2 hO
      replace hO : Own w w2 [(p1, vals .u8 (pad m) (fun _ => 0), 5), (a2, pcs (5 + b2) 5 (ptL (pt5 B m cm T n cn p1 p2 g d)), 25), (p2, vals .u8 (pad n) (fun _ => 0), 5), (g, vals .u8 (16 + d) (C.mx (lg2 m n) 16), 5)] := hO
      refine g_val (.slice (some ⟨a2, 0, none⟩) 5 (5 + b2)) ?_
      refine g_nil ?_
      simp only [Act.put, List.setIfInBounds_toArray, List.set_cons_succ, List.set_cons_zero]
      have HO2 : Hid (Own w w2 [(p1, vals .u8 (pad m) (fun _ => 0), 5), (p2, vals .u8 (pad n) (fun _ => 0), 5), (g, vals .u8 (16 + d) (C.mx (lg2 m n) 16), 5), (a2, pcs (5 + b2) 5 (ptL (pt5 B m cm T n cn p1 p2 g d)), 25)]) := hide (hO.perm ((((List.Perm.swap _ _ _).trans (((List.Perm.swap _ _ _).cons _)))).cons _))
      clear hO
      go_wp2_with (fail)
      go_ret
      exact ⟨fun k => match k with | 0 => p1 | 1 => p2 | 2 => g | 3 => a2 | 4 => d | _ => b2, rfl, HO2.out⟩
end Go.Proofs.YtanahjoiilfcbaaDoor.E

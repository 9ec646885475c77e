/- Walk: the law AeadTag. The variables places and kept as they are laid. -/
import Derived.Test.YtanahjoiilfcbaaDoorZn
namespace Go.Proofs.YtanahjoiilfcbaaDoor.E
set_option maxRecDepth 100000
open Go.RowKit Rg

section
variable {o : Oper} {a : Act} {u w : World} {L : List Row} {Q : Exit → Act → World → Prop} {ops : Array Oper} {rest : List Oper}
theorem g_apN {n m c N : Nat} {f h' : Nat → Nat} {A : Option Addr} (v : Value) (hR : Rw u w L n f v) (hS : Rd w A m h') (hN : n + m = N) (hb : N ≤ 2 ^ 30) (g : Nat → Nat) (e1 : ∀ i, i < n → f i = g i) (e2 : ∀ i, i < m → h' i = g (n + i)) (h : ∀ q d w', Own u w' (L ++ [(q, vals .u8 (N + d) (C.mx g N), 5)]) → WL ops Q rest (a.put o.dst (.slice (some ⟨q, 0, none⟩) N (N + d))) w') {x y : Operand}
    (ho : o.op = .call { callee := .builtin .append, args := #[x, y], argTypes := #[25, 25] } := by rfl) (hx : a.eval x = v := by kernel_rfl) (hy : a.eval y = .slice A m c := by kernel_rfl) (hg : Region.wanted o (yielded ops a.tmps) = true := by kernel_rfl) : WL ops Q (o :: rest) a w := by
  subst hN
  exact g_apr v hR hS hb g e1 e2 (fun q d w' _ hO => h q d w' hO) ho hx hy hg
/-- One cell of a row is stored. -/
theorem g_sc (hO : Own u w L) {ty : TypeId} {x y : Operand} (j k : Nat) {b : Nat} {c e : Array Value} {t : TypeId} {kd : IntKind} (n : Int) (v0 : Value) (hj : L[j]? = some (b, c, t)) (hv : c[k]? = some v0) (hs : ∀ w, (sizeOf ty).run Tryd.prog w = .ok 1 w) (he : c.setIfInBounds k (.int kd n) = e) (hf : Fit t e) (h : ∀ w', Own u w' (L.set j (b, e, t)) → WL ops Q rest a w') (ho : o.op = .store ty x y := by rfl) (hx : a.eval x = E b k := by kernel_rfl) (hy : a.eval y = .int kd n := by kernel_rfl) (hd : o.dst = none := by rfl) (hg : Region.wanted o (yielded ops a.tmps) = true := by kernel_rfl) : WL ops Q (o :: rest) a w :=
  ⟨wpList_step fun K hK => by
    rw [if_pos hg]
    have hB := hO.row j hj
    unfold Oper.wp
    rw [st_cell ty hs ho hx hy ((hB.cell _).trans hv) (hB.frozen _), Oper.upon_skip]
    have hk := hK a _ (h _ (hO.put j hj ((hB.set _ _).cast he) (st1_cell w _ _ _) hf)).out
    rw [hd]
    exact hk⟩
end
theorem b_bs0 {a : Act} {o : Oper} (f : Nat → Nat) (w : World) (ho : o.op = .buildSlice 25 0 #[] := by rfl) : (execOp a.eval o).run Tryd.prog w = .ok (.value (.slice (some ⟨w.heap.size, 0, none⟩) 0 0)) (w.alloc (.cells (vals .u8 (0 + 0) f) 5)) := by
  have e : (Instr.buildSlice 25 0 #[]).run Tryd.prog w = .ok (.slice (some ⟨w.heap.size, 0, none⟩) 0 0) (w.alloc (.cells (vals .u8 (0 + 0) f) 5)) := by kernel_rfl
  unfold execOp
  simp only [ho]
  have hm : (#[] : Array (Nat × Operand)).map (fun (q : Nat × Operand) => (q.1, a.eval q.2)) = #[] := by simp
  rw [hm, Sem.run_bind, e]
  rfl
/-- One byte changed. -/
def chg (f : Nat → Nat) (k b i : Nat) : Nat := if i = k then f k ^^^ b else f i
theorem chg_lt {f : Nat → Nat} (hf : ∀ i, f i < 256) {k b : Nat} (hb : b < 256) (i : Nat) : chg f k b i < 256 := by
  unfold chg; split
  · exact Nat.xor_lt_two_pow (n := 8) (hf _) hb
  · exact hf i
theorem chg_set {N n k b : Nat} (f : Nat → Nat) (hk : k < n) : (vals .u8 N (C.mx f n)).setIfInBounds k (.int .u8 ((f k ^^^ b : Nat) : Int)) = vals .u8 N (C.mx (chg f k b) n) := by
  rw [vals_set]
  refine vals_congr _ _ _ _ fun j _ => ?_
  show (if j = k then _ else C.mx f n j) = _
  unfold C.mx chg
  by_cases h : j = k
  · subst h; rw [if_pos rfl, if_pos hk, if_pos rfl]
  · rw [if_neg h, if_neg h]
theorem chg_zero (f : Nat → Nat) (k i : Nat) : chg f k 0 i = f i := by
  unfold chg; split
  · rename_i h; rw [h, Nat.xor_zero]
  · rfl
theorem ok_chg (key nonce : Nat → Nat) (m : Nat) (h : Nat → Nat) (n : Nat) (f : Nat → Nat) (j b : Nat) (hj : j < 16) : okO key nonce m h (n + 16) (chg (sld key nonce m h n f) (n + j) b) = decide (b = 0) := by
  have e1 : tga key nonce m h n (chg (sld key nonce m h n f) (n + j) b) = tga key nonce m h n (C.sx key 1 nonce f) := tga_congr key nonce m h fun i hi => by
    unfold chg
    rw [if_neg (by omega), sld_fst key nonce m h n f i hi]
  by_cases hb : b = 0
  · rw [decide_eq_true hb, ok_iff, e1]
    intro i _
    rw [hb, chg_zero, sld_snd]
  · rw [decide_eq_false hb, Bool.eq_false_iff]
    intro hh
    rw [ok_iff, e1] at hh
    have := hh j hj
    unfold chg at this
    rw [if_pos rfl, sld_snd] at this
    have h2 := congrArg (fun x => tga key nonce m h n (C.sx key 1 nonce f) j ^^^ x) this
    have h3 : tga key nonce m h n (C.sx key 1 nonce f) j ^^^ tga key nonce m h n (C.sx key 1 nonce f) j = tga key nonce m h n (C.sx key 1 nonce f) j ^^^ (tga key nonce m h n (C.sx key 1 nonce f) j ^^^ b) := h2
    rw [Nat.xor_self, ← Nat.xor_assoc, Nat.xor_self, Nat.zero_xor] at h3
    exact hb h3.symm
section
variable {ρ : Operand → Value} {o : Oper} {x y : Operand}
theorem b_eq8E {a : Nat} {b : Bool} (h : decide (a = 0) = b) (w : World) (ho : o.op = .binOp .eql 5 x y 5 := by rfl) (hx : ρ x = Nv .u8 a := by kernel_rfl) (hy : ρ y = .int .u8 0 := by kernel_rfl) : (execOp ρ o).run Tryd.prog w = .ok (.value (.bool b)) w := by
  subst h; exact b_eq8 w ho hx hy
theorem b_eqE {b : Bool} (w : World) (ho : o.op = .binOp .eql 26 x y 26 := by rfl) (hx : ρ x = .int .i64 (opE b) := by kernel_rfl) (hy : ρ y = .int .i64 0 := by kernel_rfl) : (execOp ρ o).run Tryd.prog w = .ok (.value (.bool b)) w := by
  unfold execOp
  simp only [ho, hx, hy]
  cases b <;> kernel_rfl
theorem b_eqb {b : Bool} (w : World) (ho : o.op = .binOp .eql 4 x y 4 := by rfl) (hx : ρ x = .bool b := by kernel_rfl) (hy : ρ y = .bool b := by kernel_rfl) : (execOp ρ o).run Tryd.prog w = .ok (.value (.bool true)) w := by
  unfold execOp
  simp only [ho, hx, hy]
  cases b <;> kernel_rfl
end
set_option maxHeartbeats 8000000 in
theorem tag_walk (key nonce : Nat → Nat) (hk : ∀ i, key i < 256) (hn : ∀ i, nonce i < 256) (T : Option Addr) (n cn : Nat) (f : Nat → Nat) (hf : ∀ i, f i < 256) (_hcn : n ≤ cn) (B : Option Addr) (m cm : Nat) (h : Nat → Nat) (hh : ∀ i, h i < 256) (hcm : m ≤ cm) (ai : Nat) (hai : ai < 256) (bx : Nat) (hbx : bx < 256) (w : World) (hG1 : Gl w 1 (vals .u64 2 kp)) (hG0 : Gl w 0 (vals .i64 32 C.pl)) (hT : Rd w T n f) (hB : Rd w B m h) : Ret 7 #[A (vals .u8 32 key), A (vals .u8 12 nonce), .slice T n cn, .slice B m cm, Nv .u8 ai, Nv .u8 bx] w (.bool true) := by
  obtain ⟨Z, hZ⟩ : ∃ Z, Hid (sld key nonce m h n f = Z) := ⟨_, hide rfl⟩
  obtain ⟨b, hb⟩ : ∃ b, Hid (decide (bx = 0) = b) := ⟨_, hide rfl⟩
  obtain ⟨Z2, hZ2⟩ : ∃ Z2, Hid (chg Z (n + ai % 16) bx = Z2) := ⟨_, hide rfl⟩
  have HA : Hid (∀ w', Below w.heap.size w w' → Ret 9 #[] w' (.bool true)) := hide fun w' hb => awake_c w' (hG0.low hb) (hG1.low hb)
  have HS : Hid (n ≤ 500 → m ≤ 500 → ∀ w', Below w.heap.size w w' → RetW 10 #[A (vals .u8 32 key), A (vals .u8 12 nonce), .slice T n cn, .slice B m cm] w' (fun s => .tuple #[s, .int .i64 0]) (n + 16) Z) := hide fun h1 h2 w' hb => hZ.out ▸ seal_c key nonce hk hn T n cn f hf B m cm h hh (by omega) (by omega) hcm w' (hG0.low hb) (hG1.low hb) (hT.low hb) (hB.low hb)
  have HP : Hid (n ≤ 500 → m ≤ 500 → ∀ q d w', Below w.heap.size w w' → Rd w' (some ⟨q, 0, none⟩) (n + 16) Z2 → RetV 12 #[A (vals .u8 32 key), A (vals .u8 12 nonce), .slice (some ⟨q, 0, none⟩) (n + 16) (n + 16 + d), .slice B m cm] w' (fun s => .tuple #[s, .int .i64 (opE b)]) (opN b (n + 16)) (C.sx key 1 nonce Z2)) := hide fun h1 h2 q d w' hw' hr => by
    have e := open_c key nonce hk hn _ (n + 16) (n + 16 + d) Z2 (by rw [← hZ2.out, ← hZ.out]; exact chg_lt (seal_lt hf) hbx) B m cm h hh (by omega) (by omega) (Nat.le_add_right _ _) hcm w' (hG0.low hw') (hG1.low hw') hr (hB.low hw')
    have e2 : okO key nonce m h (n + 16) Z2 = b := by rw [← hZ2.out, ← hZ.out, ok_chg _ _ _ _ _ _ _ _ (Nat.mod_lt _ (by decide))]; exact hb.out
    rw [e2] at e
    exact e
  have HQ : Hid (∀ q k c w', k < 16 → Ret 12 #[A (vals .u8 32 key), A (vals .u8 12 nonce), .slice q k c, .slice B m cm] w' (.tuple #[.slice none 0 0, .int .i64 110])) := hide fun q k c w' h1 => open_ltE key nonce q k c B m cm w' h1
  have HZ : Hid (∀ i, Z i < 256) := hide (by rw [← hZ.out]; exact seal_lt hf)
  clear hG0 hG1 hT hB hZ hk hn hf hh _hcn hcm
  go_enter Tryd.func7, Tryd.ntmps7
  have hO := Own.start w
  go_upto_region 0 with (fail)
  refine wp_region_list (WL.out ?_)
  refine g_new hO D (vals .u8 32 key) 23 (fit_b32 _) (run_box 23 _ rfl _ (by kernel_rfl) w) ?_
  intro n6 w1 _ hO
  replace hO : Own w w1 [(n6, vals .u8 32 key, 23)] := hO
  refine g_new hO D (vals .u8 12 nonce) 24 (fit_b12 _) (run_box 24 _ rfl _ (by kernel_rfl) w1) ?_
  intro n7 w2 _ hO
  replace hO : Own w w2 [(n6, vals .u8 32 key, 23), (n7, vals .u8 12 nonce, 24)] := hO
  refine g_val (.bool false) ?_
  refine g_nil ?_
  simp only [Act.put, List.setIfInBounds_toArray, List.set_cons_succ, List.set_cons_zero]
  go_upto_region 1 with (fail)
  refine wp_region_list (WL.out ?_)
  refine g_call hO 9 #[] (.bool true) (HA.out w2 hO.low) ?_
  intro w3 hb22 hO
  refine g_val (.bool true) ?_
  refine g_nil ?_
  simp only [Act.put, List.setIfInBounds_toArray, List.set_cons_succ, List.set_cons_zero]
  clear HA
  by_cases h05 : 500 < n
  · go_upto_region 2 with (fail)
    refine wp_region_list (WL.out ?_)
    refine g_val (.slice T n cn) ?_
    refine g_val (Nv .i64 n) ?_
    refine g_val (.bool true) ?_ (b_gtr (a := (n : Int)) (c := 500) (decide_eq_true (by omega)) w3)
    refine g_val (.bool true) ?_
    refine g_skip ?_
    refine g_skip ?_
    refine g_skip ?_
    refine g_val (.bool true) ?_
    refine g_nil ?_
    simp only [Act.put, List.setIfInBounds_toArray, List.set_cons_succ, List.set_cons_zero]
    have HL := hide hO.low
    clear hO
    go_wp2_with (fail)
    go_ret
    exact ⟨rfl, HL.out⟩
  by_cases h15 : 500 < m
  · go_upto_region 2 with (fail)
    refine wp_region_list (WL.out ?_)
    refine g_val (.slice T n cn) ?_
    refine g_val (Nv .i64 n) ?_
    refine g_val (.bool false) ?_ (b_gtr (a := (n : Int)) (c := 500) (decide_eq_false (by omega)) w3)
    refine g_val (.bool false) ?_
    refine g_val (.slice B m cm) ?_
    refine g_val (Nv .i64 m) ?_
    refine g_val (.bool true) ?_ (b_gtr (a := (m : Int)) (c := 500) (decide_eq_true (by omega)) w3)
    refine g_val (.bool true) ?_
    refine g_nil ?_
    simp only [Act.put, List.setIfInBounds_toArray, List.set_cons_succ, List.set_cons_zero]
    have HL := hide hO.low
    clear hO
    go_wp2_with (fail)
    go_ret
    exact ⟨rfl, HL.out⟩
  go_upto_region 2 with (fail)
  refine wp_region_list (WL.out ?_)
  refine g_val (.slice T n cn) ?_
  refine g_val (Nv .i64 n) ?_
  refine g_val (.bool false) ?_ (b_gtr (a := (n : Int)) (c := 500) (decide_eq_false (by omega)) w3)
  refine g_val (.bool false) ?_
  refine g_val (.slice B m cm) ?_
  refine g_val (Nv .i64 m) ?_
  refine g_val (.bool false) ?_ (b_gtr (a := (m : Int)) (c := 500) (decide_eq_false (by omega)) w3)
  refine g_val (.bool false) ?_
  refine g_nil ?_
  simp only [Act.put, List.setIfInBounds_toArray, List.set_cons_succ, List.set_cons_zero]
  have h1 : n ≤ 500 := by omega
  have h2 : m ≤ 500 := by omega
  have h16 : ai % 16 < 16 := Nat.mod_lt _ (by decide)
  clear h05 h15
  go_upto_region 4 with (fail)
  refine wp_region_list (WL.out ?_)
  refine g_ld hO 0 rfl Tryd.underlying23 ?_
  refine g_ld hO 1 rfl Tryd.underlying24 ?_
  refine g_val (.slice T n cn) ?_
  refine g_val (.slice B m cm) ?_
  refine g_w hO 10 #[A (vals .u8 32 key), A (vals .u8 12 nonce), .slice T n cn, .slice B m cm] (fun s => .tuple #[s, .int .i64 0]) (n + 16) Z (HS.out h1 h2 w3 hO.low) ?_
  intro n37 d37 w4 hb37 hO
  replace hO : Own w w4 [(n6, vals .u8 32 key, 23), (n7, vals .u8 12 nonce, 24), (n37, vals .u8 (n + 16 + d37) (C.mx Z (n + 16)), 5)] := hO
  refine g_val (.tuple #[.slice (some ⟨n37, 0, none⟩) (n + 16) (n + 16 + d37), .int .i64 0]) ?_
  refine g_val (.slice (some ⟨n37, 0, none⟩) (n + 16) (n + 16 + d37)) ?_
  refine g_val (.int .i64 0) ?_
  refine g_val (.slice (some ⟨n37, 0, none⟩) (n + 16) (n + 16 + d37)) ?_
  refine g_val (.int .i64 0) ?_
  refine g_nil ?_
  simp only [Act.put, List.setIfInBounds_toArray, List.set_cons_succ, List.set_cons_zero]
  clear hb37 HS
  go_upto_region 5 with (fail)
  refine wp_region_list (WL.out ?_)
  refine g_val (.slice (some ⟨n37, 0, none⟩) (n + 16) (n + 16 + d37)) ?_
  refine g_val (Nv .i64 (n + 16)) ?_
  refine g_val (.bool false) ?_ (b_lss (a := ((n + 16 : Nat) : Int)) (c := 16) (decide_eq_false (by omega)) w4)
  refine g_nil ?_
  simp only [Act.put, List.setIfInBounds_toArray, List.set_cons_succ, List.set_cons_zero]
  go_upto_region 7 with (fail)
  refine wp_region_list (WL.out ?_)
  refine g_val (.slice T n cn) ?_
  refine g_val (Nv .i64 n) ?_
  refine g_val (Nv .u8 ai) ?_
  refine g_val (Nv .i64 ai) ?_ (b_c53 hai w4)
  refine g_val (Nv .i64 (ai % 16)) ?_ (b_rem16 w4)
  refine g_val (Nv .i64 (n + ai % 16)) ?_ (b_add (k := n) (m := ai % 16) (by omega) (by omega) w4)
  refine g_val (Nv .i64 (n + ai % 16)) ?_
  refine g_nil ?_
  simp only [Act.put, List.setIfInBounds_toArray, List.set_cons_succ, List.set_cons_zero]
  go_upto_region 8 with (fail)
  refine wp_region_list (WL.out ?_)
  refine g_new hO (fun q => .slice (some ⟨q, 0, none⟩) 0 0) (vals .u8 (0 + 0) (C.mx Z 0)) 5 (fit_sl _ _) (b_bs0 _ w4) ?_
  intro n49 w5 hb49 hO
  replace hO : Own w w5 [(n6, vals .u8 32 key, 23), (n7, vals .u8 12 nonce, 24), (n37, vals .u8 (n + 16 + d37) (C.mx Z (n + 16)), 5), (n49, vals .u8 (0 + 0) (C.mx Z 0), 5)] := hO
  refine g_val (.slice (some ⟨n37, 0, none⟩) (n + 16) (n + 16 + d37)) ?_
  refine g_apN (c := n + 16 + d37) (L := [(n6, vals .u8 32 key, 23), (n7, vals .u8 12 nonce, 24), (n37, vals .u8 (n + 16 + d37) (C.mx Z (n + 16)), 5)]) (.slice (some ⟨n49, 0, none⟩) 0 0) ⟨n49, 0, rfl, hO⟩ (rd_blk (hO.row 2 rfl) (Nat.le_add_right _ _)) (Nat.zero_add (n + 16)) (by omega) Z (fun i hi => absurd hi (Nat.not_lt_zero i)) (fun i _ => by rw [Nat.zero_add]) ?_
  intro q d w6 hO
  replace hO : Own w w6 [(n6, vals .u8 32 key, 23), (n7, vals .u8 12 nonce, 24), (n37, vals .u8 (n + 16 + d37) (C.mx Z (n + 16)), 5), (q, vals .u8 (n + 16 + d) (C.mx Z (n + 16)), 5)] := hO
  refine g_val (.slice (some ⟨q, 0, none⟩) (n + 16) (n + 16 + d)) ?_
  refine g_nil ?_
  simp only [Act.put, List.setIfInBounds_toArray, List.set_cons_succ, List.set_cons_zero]
  have cz : (vals .u8 (n + 16 + d) (C.mx Z (n + 16)))[n + ai % 16]? = some (Nv .u8 (Z (n + ai % 16))) := by rw [vals_get _ _ _ _ (by omega)]; unfold C.mx; rw [if_pos (by omega)]
  have hz := HZ.out (n + ai % 16)
  have hix : n + ai % 16 < n + 16 := by omega
  go_upto_region 9 with (fail)
  refine wp_region_list (WL.out ?_)
  refine g_val (.slice (some ⟨q, 0, none⟩) (n + 16) (n + 16 + d)) ?_
  refine g_val (Nv .i64 (n + ai % 16)) ?_
  refine g_val (.slice (some ⟨q, 0, none⟩) (n + 16) (n + 16 + d)) ?_
  refine g_val (Nv .i64 (n + ai % 16)) ?_
  refine g_val (E q (n + ai % 16)) ?_ (C.b_ias (n := q) (m := n + 16) (c := n + 16 + d) hix w6)
  refine g_lc hO 3 (n + ai % 16) (Nv .u8 (Z (n + ai % 16))) rfl cz agg_u8 ?_
  refine g_val (Nv .u8 bx) ?_
  refine g_val (Nv .u8 (Z (n + ai % 16) ^^^ bx)) ?_ (C.b_xor8 hz hbx w6)
  refine g_val (E q (n + ai % 16)) ?_ (C.b_ias (n := q) (m := n + 16) (c := n + 16 + d) hix w6)
  refine g_sc hO 3 (n + ai % 16) ((Z (n + ai % 16) ^^^ bx : Nat) : Int) _ rfl cz sz_u8 ((chg_set Z hix).trans (by rw [hZ2.out])) (fit_sl _ _) ?_
  intro w7 hO
  replace hO : Own w w7 [(n6, vals .u8 32 key, 23), (n7, vals .u8 12 nonce, 24), (n37, vals .u8 (n + 16 + d37) (C.mx Z (n + 16)), 5), (q, vals .u8 (n + 16 + d) (C.mx Z2 (n + 16)), 5)] := hO
  refine g_nil ?_
  simp only [Act.put, List.setIfInBounds_toArray, List.set_cons_succ, List.set_cons_zero]
  clear cz hz hZ2
  go_upto_region 10 with (fail)
  refine wp_region_list (WL.out ?_)
  refine g_ld hO 0 rfl Tryd.underlying23 ?_
  refine g_ld hO 1 rfl Tryd.underlying24 ?_
  refine g_val (.slice (some ⟨q, 0, none⟩) (n + 16) (n + 16 + d)) ?_
  refine g_val (.slice B m cm) ?_
  refine g_v hO 12 #[A (vals .u8 32 key), A (vals .u8 12 nonce), .slice (some ⟨q, 0, none⟩) (n + 16) (n + 16 + d), .slice B m cm] (fun s => .tuple #[s, .int .i64 (opE b)]) (opN b (n + 16)) (C.sx key 1 nonce Z2) (HP.out h1 h2 q d w7 hO.low (rd_blk (hO.row 3 rfl) (Nat.le_add_right _ _))) ?_
  intro S66 c66 w8 hb66 hO hn66 hR66
  refine g_val (.tuple #[.slice S66 (opN b (n + 16)) c66, .int .i64 (opE b)]) ?_
  refine g_val (.slice S66 (opN b (n + 16)) c66) ?_
  refine g_val (.int .i64 (opE b)) ?_
  refine g_val (.slice S66 (opN b (n + 16)) c66) ?_
  refine g_val (.int .i64 (opE b)) ?_
  refine g_nil ?_
  simp only [Act.put, List.setIfInBounds_toArray, List.set_cons_succ, List.set_cons_zero]
  clear hb66 hn66 hR66 HP
  go_upto_region 11 with (fail)
  refine Rg.pd [8] (fun _ => [(70, A (vals .u8 32 key)), (71, A (vals .u8 12 nonce)), (72, .slice (some ⟨n37, 0, none⟩) (n + 16) (n + 16 + d37)), (73, Nv .u8 ai), (74, Nv .i64 ai), (75, Nv .i64 (ai % 16)), (76, .slice (some ⟨n37, 0, none⟩) (ai % 16) (n + 16 + d37)), (77, .slice B m cm), (78, .tuple #[.slice none 0 0, .int .i64 110]), (69, .tuple #[.slice none 0 0, .int .i64 110]), (79, .slice none 0 0), (80, .int .i64 110), (20, .slice none 0 0), (21, .int .i64 110)]) (OI w (fun s ν => [[(n6, vals .u8 32 key, 23), (n7, vals .u8 12 nonce, 24), (n37, vals .u8 (n + 16 + d37) (C.mx Z (n + 16)), 5), (q, vals .u8 (n + 16 + d) (C.mx Z2 (n + 16)), 5)], [(n6, vals .u8 32 key, 23), (n7, vals .u8 12 nonce, 24), (n37, vals .u8 (n + 16 + d37) (C.mx Z (n + 16)), 5), (q, vals .u8 (n + 16 + d) (C.mx Z2 (n + 16)), 5)]].getD s [])) (fun _ => 0) hO.drew (Rg.ac (nld 0 0 0 (at1 0 fun _ => by kernel_rfl) Tryd.underlying23) (Rg.ac (nld 0 0 1 (at1 0 fun _ => by kernel_rfl) Tryd.underlying24) (Rg.ac nv (Rg.ac nv (Rg.ac (nx (fun _ => Nv .i64 ai) (fun _ w => b_c53 hai w)) (Rg.ac (nx (fun _ => Nv .i64 (ai % 16)) (fun _ w => b_rem16 w)) (Rg.ac (nx (fun _ => .slice (some ⟨n37, 0, none⟩) (ai % 16) (n + 16 + d37)) (fun _ w => b_hi (c := ai % 16) (len := n + 16) (cap := n + 16 + d37) (by omega) (Nat.le_add_right _ _) w)) (Rg.ac nv (Rg.ac (sc 0 12 (fun _ => #[A (vals .u8 32 key), A (vals .u8 12 nonce), .slice (some ⟨n37, 0, none⟩) (ai % 16) (n + 16 + d37), .slice B m cm]) (fun _ => .tuple #[.slice none 0 0, .int .i64 110]) (fun _ => fun w => HQ.out (some ⟨n37, 0, none⟩) (ai % 16) (n + 16 + d37) w h16)) (Rg.ac nv (Rg.ac nv (Rg.ac nv (Rg.ac nv (Rg.ac nv Rg.an)))))))))))))) ?_
  intro ν w9 hO
  replace hO : Own w w9 [(n6, vals .u8 32 key, 23), (n7, vals .u8 12 nonce, 24), (n37, vals .u8 (n + 16 + d37) (C.mx Z (n + 16)), 5), (q, vals .u8 (n + 16 + d) (C.mx Z2 (n + 16)), 5)] := hO
  simp only [Rg.putL, Act.put, List.setIfInBounds_toArray, List.set_cons_succ, List.set_cons_zero]
  clear ν
  go_upto_region 12 with (fail)
  refine wp_region_list (WL.out ?_)
  refine g_val (.bool true) ?_
  refine g_val (.bool true) ?_
  refine g_val (.int .i64 (opE b)) ?_
  refine g_val (.bool b) ?_ (b_eqE w9)
  refine g_val (Nv .u8 bx) ?_
  refine g_val (.bool b) ?_ (b_eq8E hb.out w9)
  refine g_val (.bool true) ?_ (b_eqb (b := b) w9)
  refine g_val (.bool true) ?_
  refine g_val (.bool true) ?_
  refine g_val (.int .i64 110) ?_
  refine g_val (.bool true) ?_
  refine g_val (.bool true) ?_
  refine g_val (.bool true) ?_
  refine g_nil ?_
  simp only [Act.put, List.setIfInBounds_toArray, List.set_cons_succ, List.set_cons_zero]
  have HL := hide hO.low
  clear hO hb HQ HZ
  go_wp2_with (fail)
  go_ret
  exact ⟨rfl, HL.out⟩
end Go.Proofs.YtanahjoiilfcbaaDoor.E

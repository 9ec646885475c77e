/- Walks: Stream by functions, tagOf, Same. At most two thousand bytes below 256; the variables places and kept as they are laid. -/
import Derived.Test.YtanahjoiilfcbaaDoorZc
namespace Go.Proofs.YtanahjoiilfcbaaDoor.E
set_option maxRecDepth 100000
open Go.RowKit Rg

theorem stream_f (key nonce : Nat → Nat) (hk : ∀ i, key i < 256) (hn : ∀ i, nonce i < 256) (S : Option Addr) (n c : Nat) (f : Nat → Nat) (hf : ∀ i, f i < 256) (hl : n ≤ 2000) (w : World) (hG : Gl w 0 (vals .i64 32 C.pl)) (hS : Rd w S n f) :
    RetW 14 #[A (vals .u8 32 key), Nv .u32 1, A (vals .u8 12 nonce), .slice S n c] w (fun s => .tuple #[s, .int .i64 0]) n (C.sx key 1 nonce f) := by
  have h := C.stream_c key nonce hk hn 1 (by decide) S (C.li n f) c (by rw [C.li_len]; exact hl) (C.li_lt n f hf) w hG (rds_of hS) (by rw [C.li_len]; omega)
  rw [C.li_len] at h
  refine Calls.mono h fun e w' hh => ?_
  obtain ⟨q, he, hb, hq, hB⟩ := hh
  have e1 : vals .u8 n (C.sx key 1 nonce (C.ge (C.li n f))) = vals .u8 (n + 0) (C.mx (C.sx key 1 nonce f) n) := by
    rw [Nat.add_zero, mx_all]
    exact vals_congr _ _ _ _ fun j hj => by unfold C.sx; rw [ge_li f hj]
  exact ⟨q, 0, he, (Own.start w).snoc hq (hB.cast e1) hb (fit_sl _ _)⟩
/-- The tag of n bytes f, with m bytes h beside them. -/
def tga (key nonce : Nat → Nat) (m : Nat) (h : Nat → Nat) (n : Nat) (f : Nat → Nat) : Nat → Nat := tg (C.bk key 0 nonce) (al m h n f) (tl m n)
theorem tga_lt (key nonce : Nat → Nat) (m : Nat) (h : Nat → Nat) (n : Nat) (f : Nat → Nat) (i : Nat) : tga key nonce m h n f i < 256 := tg_lt _ _ _ _
theorem al_congr {m n : Nat} {h f g : Nat → Nat} (e : ∀ i, i < n → f i = g i) (i : Nat) : al m h n f i = al m h n g i := by
  unfold al cat fl
  by_cases h1 : i < m + pad m
  · rw [if_pos h1, if_pos h1]
  · rw [if_neg h1, if_neg h1]
    by_cases h2 : i - (m + pad m) < n
    · rw [if_pos (show i - (m + pad m) < n + pad n by omega), if_pos (show i - (m + pad m) < n + pad n by omega), if_pos h2, if_pos h2, e _ h2]
    · rw [if_neg h2, if_neg h2]
theorem tga_congr (key nonce : Nat → Nat) (m : Nat) (h : Nat → Nat) {n : Nat} {f g : Nat → Nat} (e : ∀ i, i < n → f i = g i) : tga key nonce m h n f = tga key nonce m h n g := tg_congr _ _ _ _ fun i _ => al_congr e i
theorem part_32 (f : Nat → Nat) : Part (vals .u8 64 f) 0 23 (vals .u8 32 f) := by
  refine ⟨?_, by rw [vals_size]; kernel_rfl⟩
  apply Array.ext_getElem?
  intro i
  rw [Array.getElem?_extract, vals_size, vals_size]
  by_cases h : i < 32
  · rw [if_pos (by omega), Nat.zero_add, vals_get _ _ _ _ (by omega), vals_get _ _ _ _ h]
  · rw [if_neg (by omega), Array.getElem?_eq_none (by rw [vals_size]; omega)]
set_option maxHeartbeats 8000000 in
theorem tagof_c (key nonce : Nat → Nat) (hk : ∀ i, key i < 256) (hn : ∀ i, nonce i < 256) (T : Option Addr) (n cn : Nat) (f : Nat → Nat) (hf : ∀ i, f i < 256) (B : Option Addr) (m cm : Nat) (h : Nat → Nat) (hh : ∀ i, h i < 256) (hn2 : n ≤ 2000) (hm2 : m ≤ 2000) (hcn : n ≤ cn) (hcm : m ≤ cm) (w : World) (hG0 : Gl w 0 (vals .i64 32 C.pl)) (hG1 : Gl w 1 (vals .u64 2 kp)) (hT : Rd w T n f) (hB : Rd w B m h) :
    Ret 15 #[A (vals .u8 32 key), A (vals .u8 12 nonce), .slice T n cn, .slice B m cm] w (A (vals .u8 16 (tga key nonce m h n f))) := by
  obtain ⟨K, hK⟩ : ∃ K, Hid (C.bk key 0 nonce = K) := ⟨_, hide rfl⟩
  obtain ⟨X, hX⟩ : ∃ X, Hid (tga key nonce m h n f = X) := ⟨_, hide rfl⟩
  have hKl : ∀ i, K i < 256 := fun i => hK.out ▸ C.blk_lt _ _
  have HK : Hid (∀ w', Below w.heap.size w w' → Ret 19 #[A (vals .u8 32 key), Nv .u32 0, A (vals .u8 12 nonce)] w' (A (vals .u8 64 K))) := hide fun w' hb => hK.out ▸ C.block_c key nonce hk hn 0 (by decide) w' (hG0.low hb)
  have HJ : Hid (∀ q w', Blk w' q #[.slice B m cm, .slice T n cn] 25 → RetZ 21 #[.slice (some ⟨q, 0, none⟩) 2 2] w' (fun z => .slice (some ⟨z 3, 0, none⟩) 5 (5 + z 5)) (jR B m cm T n cn)) := hide fun q w' hb => joined_c B T m cm n cn q 2 hm2 hn2 w' hb
  have HT : Hid (∀ z w', Below w.heap.size w w' → (∀ r ∈ jR B m cm T n cn z, Blk w' r.1 r.2.1 r.2.2) → Ret 20 #[A (vals .u8 32 K), .slice (some ⟨z 3, 0, none⟩) 5 (5 + z 5)] w' (A (vals .u8 16 X))) := hide fun z w' hb hr => by
    have e := tag_c K hKl (some ⟨z 3, 0, none⟩) 5 (5 + z 5) (al m h n f) (ofs m n) (al_lt hh hf) (by decide) w' (hG1.low hb) (pts_j hr (hB.low hb) (hT.low hb) hcm hcn)
    rw [← hX.out, ← hK.out] at *
    exact e
  rw [hX.out]
  clear hK hX hG0 hG1 hT hB hKl
  go_enter Tryd.func15, Tryd.ntmps15
  have hO := Own.start w
  go_upto_region 0 with (fail)
  refine wp_region_list (WL.out ?_)
  refine g_new hO D (vals .u8 32 key) 23 (fit_b32 _) (run_box 23 _ rfl _ (by kernel_rfl) w) ?_
  intro n4 w1 _ hO
  replace hO : Own w w1 [(n4, vals .u8 32 key, 23)] := hO
  refine g_new hO D (vals .u8 12 nonce) 24 (fit_b12 _) (run_box 24 _ rfl _ (by kernel_rfl) w1) ?_
  intro n5 w2 _ hO
  replace hO : Own w w2 [(n4, vals .u8 32 key, 23), (n5, vals .u8 12 nonce, 24)] := hO
  refine g_new hO D (vals .u8 16 (fun _ => 0)) 35 (fit_b16 _) (al_b16 rfl w2) ?_
  intro n8 w3 _ hO
  replace hO : Own w w3 [(n4, vals .u8 32 key, 23), (n5, vals .u8 12 nonce, 24), (n8, vals .u8 16 (fun _ => 0), 35)] := hO
  refine g_nil ?_
  simp only [Act.put, List.setIfInBounds_toArray, List.set_cons_succ, List.set_cons_zero]
  go_upto_region 1 with (fail)
  refine wp_region_list (WL.out ?_)
  refine g_ld hO 0 rfl Tryd.underlying23 ?_
  refine g_ld hO 1 rfl Tryd.underlying24 ?_
  refine g_call hO 19 #[A (vals .u8 32 key), Nv .u32 0, A (vals .u8 12 nonce)] (A (vals .u8 64 K)) (HK.out w3 hO.low) ?_
  intro w4 hb12 hO
  refine g_new hO D (vals .u8 64 (fun _ => 0)) 39 (C.fit_b64 _) (C.al30 rfl w4) ?_
  intro n9 w5 _ hO
  replace hO : Own w w5 [(n4, vals .u8 32 key, 23), (n5, vals .u8 12 nonce, 24), (n8, vals .u8 16 (fun _ => 0), 35), (n9, vals .u8 64 (fun _ => 0), 39)] := hO
  refine g_st hO 3 (e := vals .u8 64 K) rfl (C.fit_b64 _) ?_
  intro w6 hO
  replace hO : Own w w6 [(n4, vals .u8 32 key, 23), (n5, vals .u8 12 nonce, 24), (n8, vals .u8 16 (fun _ => 0), 35), (n9, vals .u8 64 K, 39)] := hO
  refine g_nil ?_
  simp only [Act.put, List.setIfInBounds_toArray, List.set_cons_succ, List.set_cons_zero]
  clear hb12
  go_upto_region 2 with (fail)
  refine Rg.pd [5, 6, 7, 8] (fun ν => [(13, .slice (some ⟨n9, 0, none⟩) 32 64), (14, D n9), (15, A (vals .u8 32 K)), (16, .slice B m cm), (17, .slice T n cn), (18, .slice (some ⟨ν 5, 0, none⟩) 2 2), (19, .slice (some ⟨ν 1003, 0, none⟩) 5 (5 + ν 1005)), (20, A (vals .u8 16 X))]) (OI w (fun s ν => [[(n4, vals .u8 32 key, 23), (n5, vals .u8 12 nonce, 24), (n8, vals .u8 16 (fun _ => 0), 35), (n9, vals .u8 64 K, 39)], [(n4, vals .u8 32 key, 23), (n5, vals .u8 12 nonce, 24), (n8, vals .u8 16 (fun _ => 0), 35), (n9, vals .u8 64 K, 39), ((ν 5), #[.slice B m cm, .slice T n cn], 25)], [(n4, vals .u8 32 key, 23), (n5, vals .u8 12 nonce, 24), (n8, vals .u8 16 (fun _ => 0), 35), (n9, vals .u8 64 K, 39), ((ν 5), #[.slice B m cm, .slice T n cn], 25)] ++ jR B m cm T n cn (fun k => ν (1000 + k)), [(n4, vals .u8 32 key, 23), (n5, vals .u8 12 nonce, 24), (n8, vals .u8 16 (fun _ => 0), 35), (n9, vals .u8 64 K, 39), ((ν 5), #[.slice B m cm, .slice T n cn], 25)] ++ jR B m cm T n cn (fun k => ν (1000 + k)), [(n4, vals .u8 32 key, 23), (n5, vals .u8 12 nonce, 24), (n8, vals .u8 16 X, 35), (n9, vals .u8 64 K, 39), ((ν 5), #[.slice B m cm, .slice T n cn], 25)] ++ jR B m cm T n cn (fun k => ν (1000 + k))].getD s [])) (fun _ => 0) hO.drew (Rg.ac nv (Rg.ac nv (Rg.ac (npt 0 2 3 0 (fun _ => vals .u8 32 K) (fun _ => part_32 K) (at2 0 2 (fun ν => by kernel_rfl) (at2 1 2 (fun ν => by kernel_rfl) (at1 2 fun ν => by kernel_rfl))) Tryd.underlying23) (Rg.ac nv (Rg.ac nv (Rg.ac (sv 0 (fun _ q => .slice (some ⟨q, 0, none⟩) 2 2) (fun _ => #[.slice B m cm, .slice T n cn]) 25 (fun ν w => b_bs2 w (by kernel_rfl)) (fun _ => fit_ss (by kernel_rfl))) (Rg.ac (sz 1 1000 21 (fun ν => #[.slice (some ⟨ν 5, 0, none⟩) 2 2]) (fun z => .slice (some ⟨z 3, 0, none⟩) 5 (5 + z 5)) (jR B m cm T n cn) (fun ν w hO => HJ.out (ν 5) w (Own.row hO 4 (by kernel_rfl)))) (Rg.ac (sq 2 20 (fun ν => #[A (vals .u8 32 K), .slice (some ⟨ν 1003, 0, none⟩) 5 (5 + ν 1005)]) (fun _ => A (vals .u8 16 X)) (fun ν w hO => HT.out (fun k => ν (1000 + k)) w (Own.low hO) fun r hr => Own.blk hO r (List.mem_append_right _ hr))) (Rg.ac (sr 3 2 (fun _ => vals .u8 16 X) (fun _ => fit_b16 _)) Rg.an))))))))) ?_
  intro ν wz hO
  replace hO : Own w wz [(n4, vals .u8 32 key, 23), (n5, vals .u8 12 nonce, 24), (n8, vals .u8 16 X, 35), (n9, vals .u8 64 K, 39), ((ν 5), #[.slice B m cm, .slice T n cn], 25)] := (show Own w wz ([(n4, vals .u8 32 key, 23), (n5, vals .u8 12 nonce, 24), (n8, vals .u8 16 X, 35), (n9, vals .u8 64 K, 39), ((ν 5), #[.slice B m cm, .slice T n cn], 25)] ++ jR B m cm T n cn (fun k => ν (1000 + k))) from hO).sub (List.sublist_append_left _ _)
  simp only [Rg.putL, Act.put, List.setIfInBounds_toArray, List.set_cons_succ, List.set_cons_zero]
  clear HK HJ HT
  go_wp2_with (fail)
  refine bodyPost_ret (v := A (vals .u8 16 X)) (results_cell_row Tryd.results15 _ _ n8 35 _ (0, 0) _ rfl (hO.row 2 rfl) Tryd.underlying35 rfl ((fit_b16 _).size rfl)) rfl ⟨rfl, hO.low⟩
/-- What differs in the first j bytes. -/
def df (f g : Nat → Nat) : Nat → Nat
  | 0 => 0
  | j + 1 => df f g j ||| (f j ^^^ g j)
theorem df_lt {f g : Nat → Nat} (hf : ∀ i, f i < 256) (hg : ∀ i, g i < 256) : ∀ j, df f g j < 256
  | 0 => Nat.zero_lt_succ _
  | j + 1 => Nat.or_lt_two_pow (n := 8) (df_lt hf hg j) (Nat.xor_lt_two_pow (n := 8) (hf j) (hg j))
theorem or_zero' {a b : Nat} : a ||| b = 0 ↔ a = 0 ∧ b = 0 := by
  constructor
  · intro h
    constructor
    · apply Nat.eq_of_testBit_eq
      intro i
      have := congrArg (fun x => x.testBit i) h
      simp only [Nat.testBit_or, Nat.zero_testBit, Bool.or_eq_false_iff] at this
      rw [this.1, Nat.zero_testBit]
    · apply Nat.eq_of_testBit_eq
      intro i
      have := congrArg (fun x => x.testBit i) h
      simp only [Nat.testBit_or, Nat.zero_testBit, Bool.or_eq_false_iff] at this
      rw [this.2, Nat.zero_testBit]
  · rintro ⟨rfl, rfl⟩; rfl
theorem xor_zero' {a b : Nat} : a ^^^ b = 0 ↔ a = b := by
  constructor
  · intro h
    have : (a ^^^ b) ^^^ b = 0 ^^^ b := by rw [h]
    rw [Nat.xor_assoc, Nat.xor_self, Nat.xor_zero, Nat.zero_xor] at this
    exact this
  · rintro rfl; exact Nat.xor_self _
theorem df_zero (f g : Nat → Nat) : ∀ j, df f g j = 0 ↔ ∀ i, i < j → f i = g i
  | 0 => ⟨fun _ _ h => absurd h (by omega), fun _ => rfl⟩
  | j + 1 => by
    unfold df
    rw [or_zero', xor_zero', df_zero f g j]
    constructor
    · rintro ⟨h1, h2⟩ i hi
      by_cases h : i < j
      · exact h1 i h
      · rw [show i = j by omega]; exact h2
    · intro h
      exact ⟨fun i hi => h i (by omega), h j (by omega)⟩
section
variable {ρ : Operand → Value} {o : Oper} {x y : Operand}
theorem b_or8 {a c : Nat} (ha : a < 256) (hc : c < 256) (w : World) (ho : o.op = .binOp .or 5 x y 5 := by rfl) (hx : ρ x = Nv .u8 a := by kernel_rfl) (hy : ρ y = Nv .u8 c := by kernel_rfl) : (execOp ρ o).run Tryd.prog w = .ok (.value (Nv .u8 (a ||| c))) w := by
  have h1 := u8_or_nat a c ha hc
  unfold execOp
  simp only [ho, hx, hy]
  go_simp
theorem b_eq8 {a : Nat} (w : World) (ho : o.op = .binOp .eql 5 x y 5 := by rfl) (hx : ρ x = Nv .u8 a := by kernel_rfl) (hy : ρ y = .int .u8 0 := by kernel_rfl) : (execOp ρ o).run Tryd.prog w = .ok (.value (.bool (decide (a = 0)))) w := by
  have h1 : decide ((a : Int) = 0) = decide (a = 0) := by
    by_cases h : a = 0
    · rw [decide_eq_true h, decide_eq_true (by omega)]
    · rw [decide_eq_false h, decide_eq_false (by omega)]
  unfold execOp
  simp only [ho, hx, hy]
  by_cases h : a = 0
  · subst h; rfl
  · have h2 : ¬ (a : Int) = 0 := by omega
    rw [decide_eq_false h]
    go_simp
theorem b_neq3 {a c : Nat} (h : a = c) (w : World) (ho : o.op = .binOp .neq 3 x y 3 := by rfl) (hx : ρ x = Nv .i64 a := by kernel_rfl) (hy : ρ y = Nv .i64 c := by kernel_rfl) : (execOp ρ o).run Tryd.prog w = .ok (.value (.bool false)) w := by
  subst h
  unfold execOp
  simp only [ho, hx, hy]
  go_simp
end
set_option maxHeartbeats 8000000 in
theorem same_c (S T : Option Addr) (n c d : Nat) (f g : Nat → Nat) (hf : ∀ i, f i < 256) (hg : ∀ i, g i < 256) (hn : n ≤ 2000) (w : World) (hS : Rd w S n f) (hT : Rd w T n g) : Ret 18 #[.slice S n c, .slice T n d] w (.bool (decide (df f g n = 0))) := by
  have HS : Hid (Rd w S n f) := hide hS
  have HT : Hid (Rd w T n g) := hide hT
  have Hn := hide hn
  clear hS hT hn
  go_enter Tryd.func18, Tryd.ntmps18
  have hO := Own.start w
  go_upto_region 0 with (fail)
  refine wp_region_list (WL.out ?_)
  refine g_val (.bool false) ?_
  refine g_nil ?_
  simp only [Act.put, List.setIfInBounds_toArray, List.set_cons_succ, List.set_cons_zero]
  go_upto_region 1 with (fail)
  refine wp_region_list (WL.out ?_)
  refine g_val (.slice S n c) ?_
  refine g_val (Nv .i64 n) ?_
  refine g_val (.slice T n d) ?_
  refine g_val (Nv .i64 n) ?_
  refine g_val (.bool false) ?_ (b_neq3 (a := n) (c := n) rfl w)
  refine g_nil ?_
  simp only [Act.put, List.setIfInBounds_toArray, List.set_cons_succ, List.set_cons_zero]
  go_upto_region 3 with (fail)
  refine wp_region_list (WL.out ?_)
  refine g_val (Nv .u8 0) ?_
  refine g_nil ?_
  simp only [Act.put, List.setIfInBounds_toArray, List.set_cons_succ, List.set_cons_zero]
  go_upto_region 4 with (fail)
  refine wp_region_list (WL.out ?_)
  refine g_val (.slice S n c) ?_
  refine g_val (Nv .i64 n) ?_
  refine g_val (Nv .i64 0) ?_
  refine g_nil ?_
  simp only [Act.put, List.setIfInBounds_toArray, List.set_cons_succ, List.set_cons_zero]
  have HO : Hid (Own w w []) := hide hO
  clear hO
  go_wp2_with (fail)
  go_loopw [5, 15] (fun x5 x15 wr => ∃ k : Nat, k ≤ n ∧ x15 = .int .i64 k ∧ x5 = Nv .u8 (df f g k) ∧ Own w wr []) (fun _ x15 _ => n - (intOf x15).toNat)
  case atStart => exact ⟨0, Nat.zero_le _, rfl, rfl, HO.out⟩
  case round =>
    clear HO
    obtain ⟨k, hk9, rfl, rfl, hO⟩ := hrel
    have hn := Hn.out
    by_cases hlt : k < n
    · have hq0 : (0 : Int) ≤ (k : Int) := Int.natCast_nonneg k
      have hq1 : (k : Int) < (n : Int) := by omega
      have hw1 := wr1 k (by omega)
      have hw0 := wr0 k (by omega)
      obtain ⟨a, ha, hca⟩ := HS.out.cell hlt
      obtain ⟨b, hb, hcb⟩ := HT.out.cell hlt
      have ca := hca wr hO.low
      have cb := hcb wr hO.low
      have hfk := hf k
      have hgk := hg k
      have hdk := df_lt hf hg k
      have hxk : f k ^^^ g k < 256 := Nat.xor_lt_two_pow (n := 8) hfk hgk
      subst ha hb
      clear hn hca hcb
      go_upto_region 6 with (fail)
      refine wp_region_list (WL.out ?_)
      refine g_val (Nv .i64 k) ?_
      refine g_val (.pointer (some (a.add k))) ?_ (b_iaA (c := c) hlt wr)
      refine g_val (Nv .u8 (f k)) ?_ (C.ld_addr 5 agg_u8 rfl (by kernel_rfl) ca)
      refine g_val (Nv .i64 k) ?_
      refine g_val (Nv .u8 (f k)) ?_
      refine g_nil ?_
      simp only [Act.put, List.setIfInBounds_toArray, List.set_cons_succ, List.set_cons_zero]
      go_upto_region 7 with (fail)
      refine wp_region_list (WL.out ?_)
      refine g_val (Nv .u8 (df f g k)) ?_
      refine g_val (Nv .u8 (f k)) ?_
      refine g_val (.slice (some b) n d) ?_
      refine g_val (Nv .i64 k) ?_
      refine g_val (.pointer (some (b.add k))) ?_ (b_iaA (c := d) hlt wr)
      refine g_val (Nv .u8 (g k)) ?_ (C.ld_addr 5 agg_u8 rfl (by kernel_rfl) cb)
      refine g_val (Nv .u8 (f k ^^^ g k)) ?_ (C.b_xor8 hfk hgk wr)
      refine g_val (Nv .u8 (df f g k ||| (f k ^^^ g k))) ?_ (b_or8 hdk hxk wr)
      refine g_val (Nv .u8 (df f g k ||| (f k ^^^ g k))) ?_
      refine g_nil ?_
      simp only [Act.put, List.setIfInBounds_toArray, List.set_cons_succ, List.set_cons_zero]
      have HO2 : Hid (Own w wr []) := hide hO
      clear hO ca cb hfk hgk hdk hxk
      go_wp2_with (fail)
      go_roundw
      case rel => exact ⟨k + 1, hlt, in_succ k, rfl, HO2.out⟩
      case measure => exact ms_lt hlt
    · have ek : k = n := by omega
      subst ek
      clear hlt hk9 hn
      go_upto_region 9 with (fail)
      refine wp_region_list (WL.out ?_)
      refine g_val (Nv .u8 (df f g k)) ?_
      refine g_val (.bool (decide (df f g k = 0))) ?_ (b_eq8 wr)
      refine g_val (.bool (decide (df f g k = 0))) ?_
      refine g_nil ?_
      simp only [Act.put, List.setIfInBounds_toArray, List.set_cons_succ, List.set_cons_zero]
      have HO2 : Hid (Own w wr []) := hide hO
      clear hO
      go_wp2_with (fail)
      go_ret
      exact ⟨rfl, HO2.out.low⟩
end Go.Proofs.YtanahjoiilfcbaaDoor.E

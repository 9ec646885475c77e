/- The walk of BitsTakes. No conditions. -/
import Derived.Test.YtacopggeidbnbaaCh
namespace Go.Proofs.Ytacopggeidbnbaa
set_option maxRecDepth 100000
open Go.RowKit Rg B


open W R
namespace B
theorem b_nb {ρ : Operand → Value} {o : Oper} {x y : Operand} {b : Bool} (w : World) (ho : o.op = .binOp .neq 4 x y 4 := by rfl) (hx : ρ x = .bool b := by kernel_rfl) (hy : ρ y = .bool b := by kernel_rfl) : (execOp ρ o).run Try.prog w = .ok (.value (.bool false)) w := by
  unfold execOp
  simp only [ho, hx, hy]
  cases b <;> kernel_rfl
end B
namespace W
/-- What Take answers: its error, its number, where it is then. -/
def tE (n t : Nat) (b : Int) : Nat := if b < 0 ∨ 32 < b then 1 else if n < t + b.toNat then 120 else 0
def tV (Y n t : Nat) (b : Int) : Nat := if tE n t b = 0 then M.tk Y t b.toNat else 0
def tT (n t : Nat) (b : Int) : Nat := if tE n t b = 0 then t + b.toNat else t
theorem tE_cases (n t : Nat) (b : Int) : (tE n t b = 1 ∧ b < 0) ∨ (tE n t b = 1 ∧ 32 < b) ∨ (tE n t b = 120 ∧ ∃ k : Nat, b = (k : Int) ∧ k ≤ 32 ∧ n < t + k) ∨ (tE n t b = 0 ∧ ∃ k : Nat, b = (k : Int) ∧ k ≤ 32 ∧ t + k ≤ n) := by
  unfold tE
  by_cases h1 : b < 0
  · exact .inl ⟨by rw [if_pos (.inl h1)], h1⟩
  · by_cases h2 : 32 < b
    · exact .inr (.inl ⟨by rw [if_pos (.inr h2)], h2⟩)
    · rw [if_neg (by omega)]
      by_cases h3 : n < t + b.toNat
      · exact .inr (.inr (.inl ⟨by rw [if_pos h3], b.toNat, by omega, by omega, h3⟩))
      · exact .inr (.inr (.inr ⟨by rw [if_neg h3], b.toNat, by omega, by omega, by omega⟩))
theorem tT_le {n t : Nat} {b : Int} (h : t ≤ n) : tT n t b ≤ n := by
  unfold tT
  rcases tE_cases n t b with ⟨h1, _⟩ | ⟨h1, _⟩ | ⟨h1, _⟩ | ⟨h1, k, rfl, h2, h3⟩
  · rw [h1, if_neg (by decide)]; exact h
  · rw [h1, if_neg (by decide)]; exact h
  · rw [h1, if_neg (by decide)]; exact h
  · rw [h1, if_pos rfl]
    exact h3
section
variable {u w : World} {mr q m nr Y t s : Nat}
/-- A Reader at t and the reference's at s, of the same m bytes. -/
def TakeS (u w : World) (mr q m nr Y t s : Nat) : Prop := RefS u w [(mr, rc q m t, 56), (q, vals .u8 m (byt Y), 5)] nr Y (8 * m) s
theorem TakeS.call {w' : World} (h : TakeS u w mr q m nr Y t s) (hb : Below w.heap.size w w') : TakeS u w' mr q m nr Y t s := RefS.call h hb
theorem TakeS.low (h : TakeS u w mr q m nr Y t s) : Below u.heap.size u w := by
  obtain ⟨v, hG⟩ := h
  exact hG.low
theorem TakeS.blk (h : TakeS u w mr q m nr Y t s) : Blk w mr (rc q m t) 56 ∧ ∃ S cc, Blk w nr (rb (.slice S (8 * m) cc) s) 32 := by
  obtain ⟨v, hG⟩ := h
  obtain ⟨S, cc, rfl⟩ := gr_sl hG
  exact ⟨gr_blk hG (j := 1) rfl, S, cc, gr_blk hG (j := 0) rfl⟩
theorem TakeS.open (h : TakeS u w mr q m nr Y t s) : ∃ T, Own u w ((mr, rc q m t, 56) :: (q, vals .u8 m (byt Y), 5) :: T) ∧ ∀ w' t', Own u w' ((mr, rc q m t', 56) :: (q, vals .u8 m (byt Y), 5) :: T) → TakeS u w' mr q m nr Y t' s := by
  obtain ⟨v, hG⟩ := h
  have hp : ∀ (a b c : Row) (R : List Row), (c :: a :: b :: R).Perm (a :: b :: c :: R) := fun a b c R => (List.Perm.swap _ _ _).trans (List.Perm.cons _ (List.Perm.swap _ _ _))
  rcases hG with ⟨h0, hv, hO⟩ | ⟨g, d, hv, hO⟩
  · exact ⟨[(nr, rb v s, 32)], hO.perm (hp _ _ _ _), fun w' t' h => ⟨v, .inl ⟨h0, hv, h.perm (hp _ _ _ _).symm⟩⟩⟩
  · exact ⟨_, hO.perm (hp _ _ _ _), fun w' t' h => ⟨v, .inr ⟨g, d, hv, h.perm (hp _ _ _ _).symm⟩⟩⟩
theorem TakeS.take (b : Int) (hm : m ≤ 2 ^ 30) (ht : t ≤ 8 * m) (h : TakeS u w mr q m nr Y t s) : RetP 19 #[D mr, .int .i64 b] w fun x w' => x = .tuple #[Nv .u64 (tV Y (8 * m) t b), Nv .i64 (tE (8 * m) t b)] ∧ TakeS u w' mr q m nr Y (tT (8 * m) t b) s := by
  have hB := h.blk.1
  unfold tV tT
  rcases tE_cases (8 * m) t b with ⟨h1, h2⟩ | ⟨h1, h2⟩ | ⟨h1, k, rfl, h2, h3⟩ | ⟨h1, k, rfl, h2, h3⟩
  · rw [h1, if_neg (by decide), if_neg (by decide)]
    exact (Take_neg h2 mr w).mono fun e w' hh => ⟨_, hh.1, rfl, h.call hh.2⟩
  · rw [h1, if_neg (by decide), if_neg (by decide)]
    exact (Take_big h2 mr w).mono fun e w' hh => ⟨_, hh.1, rfl, h.call hh.2⟩
  · rw [h1, if_neg (by decide), if_neg (by decide)]
    exact (Take_more h2 h3 (by omega) ht mr w hB).mono fun e w' hh => ⟨_, hh.1, rfl, h.call hh.2⟩
  · rw [h1, if_pos rfl, if_pos rfl, Int.toNat_natCast]
    obtain ⟨T, hO, hback⟩ := h.open
    exact (Take_c (by omega) h2 h3 mr u T w hO).mono fun e w' hh => ⟨_, hh.1, rfl, hback _ _ hh.2⟩
theorem TakeS.rtake (b : Int) (hm : m ≤ 2 ^ 30) (hs : s ≤ 8 * m) (h : TakeS u w mr q m nr Y t s) : RetP 20 #[D nr, .int .i64 b] w fun x w' => x = .tuple #[Nv .u64 (tV Y (8 * m) s b), Nv .i64 (tE (8 * m) s b)] ∧ TakeS u w' mr q m nr Y t (tT (8 * m) s b) := by
  obtain ⟨S, cc, hB⟩ := h.blk.2
  unfold tV tT
  rcases tE_cases (8 * m) s b with ⟨h1, h2⟩ | ⟨h1, h2⟩ | ⟨h1, k, rfl, h2, h3⟩ | ⟨h1, k, rfl, h2, h3⟩
  · rw [h1, if_neg (by decide), if_neg (by decide)]
    exact (RTake_neg h2 nr w).mono fun e w' hh => ⟨_, hh.1, rfl, h.call hh.2⟩
  · rw [h1, if_neg (by decide), if_neg (by decide)]
    exact (RTake_big h2 nr w).mono fun e w' hh => ⟨_, hh.1, rfl, h.call hh.2⟩
  · rw [h1, if_neg (by decide), if_neg (by decide)]
    exact (RTake_more h2 h3 (by omega) hs nr w hB).mono fun e w' hh => ⟨_, hh.1, rfl, h.call hh.2⟩
  · rw [h1, if_pos rfl, if_pos rfl, Int.toNat_natCast]
    exact (RTake_c h2 (by omega) h3 nr u _ w h).mono fun e w' hh => ⟨_, hh.1, rfl, hh.2⟩
theorem TakeS.whole {r : Nat} {b : Bool} (hm : m ≤ 2 ^ 30) (ht : t ≤ 8 * m) (hr : r = (8 * m - t) % 8) (hb : b = decide (M.tk Y t r = 0)) (h : TakeS u w mr q m nr Y t s) : RetP 17 #[D mr] w fun x w' => x = .bool b ∧ TakeS u w' mr q m nr Y (t + r) s := by
  obtain ⟨T, hO, hback⟩ := h.open
  exact (Whole_c (by omega) ht hr hb mr u T w hO).mono fun e w' hh => ⟨_, hh.1, rfl, hback _ _ hh.2⟩
theorem TakeS.rwhole {r : Nat} {b : Bool} (hm : m ≤ 2 ^ 30) (hs : s ≤ 8 * m) (hr : r = (8 * m - s) % 8) (hb : b = decide (M.tk Y s r = 0)) (h : TakeS u w mr q m nr Y t s) : RetP 18 #[D nr] w fun x w' => x = .bool b ∧ TakeS u w' mr q m nr Y t (s + r) :=
  (RWhole_c (m := m) rfl (by omega) hs hr hb nr u _ w h).mono fun e w' hh => ⟨_, hh.1, rfl, hh.2⟩
theorem TakeS.left (hm : m ≤ 2 ^ 30) (ht : t ≤ 8 * m) (h : TakeS u w mr q m nr Y t s) : Ret 21 #[D mr] w (Nv .i64 (8 * m - t)) := Left_c (by omega) ht mr w h.blk.1
theorem TakeS.rleft (hm : m ≤ 2 ^ 30) (hs : s ≤ 8 * m) (h : TakeS u w mr q m nr Y t s) : Ret 22 #[D nr] w (Nv .i64 (8 * m - s)) := by
  obtain ⟨S, cc, hB⟩ := h.blk.2
  exact RLeft_c (by omega) hs nr w hB
theorem TakeS.new {w1 : World} (h : Own u w1 [(mr, rc q m 0, 56), (q, vals .u8 m (byt Y), 5)]) (h2 : RefS w1 w [] nr Y (8 * m) 0) : TakeS u w mr q m nr Y 0 0 := by
  obtain ⟨v, hG⟩ := h2
  have hp : ∀ (L R : List Row), (L ++ R).Perm (R ++ L) := fun L R => List.perm_append_comm
  rcases hG with ⟨h0, hv, hO⟩ | ⟨g, d, hv, hO⟩
  · exact ⟨v, .inl ⟨h0, hv, (own_join h hO).perm (hp _ _)⟩⟩
  · exact ⟨v, .inr ⟨g, d, hv, (own_join h hO).perm ((hp _ _).trans (List.Perm.cons _ (hp _ _)))⟩⟩
end
theorem RNew_p {S : Option Addr} {n c : Nat} {f : Nat → Nat} (hf : ∀ i, f i < 256) (hn : n ≤ 2 ^ 26) (w : World) (hS : Rc w S n (by8 f)) : RetP 16 #[.slice S n c] w fun x w' => ∃ N, x = D N ∧ RefS w w' [] N (nb f n) (8 * n) 0 := by
  refine (RNew_c hf hn w hS).mono fun e w' hh => ?_
  obtain ⟨N, he, hO⟩ := hh
  exact ⟨_, he, N, rfl, hO⟩
set_option maxHeartbeats 8000000 in
theorem takes_walk {S0 S : Option Addr} {m n : Nat} {f : Nat → Nat} {V : Nat → Nat} {Z : Nat → Int} {P : Nat → Bool} {w : World} (hf : ∀ i, f i < 256) (hS : Rc w S0 m (by8 f)) (hs : Sc w S n V Z P) (c0 c1 : Nat) : Ret 5 #[.slice S0 m c0, .slice S n c1] w (.bool true) := by
  go_enter Try.func5, Try.ntmps5
  have hO := Own.start w
  go_upto_region 0 with (fail)
  refine wp_region_list (WL.out ?_)
  refine g_val (.bool false) ?_
  refine g_nil ?_
  simp only [Act.put, List.setIfInBounds_toArray, List.set_cons_succ, List.set_cons_zero]
  go_upto_region 1 with (fail)
  refine wp_region_list (WL.out ?_)
  refine g_call hO 9 #[] (.bool true) (awake_c w) ?_
  intro w1 hb13 hO
  refine g_val (.bool true) ?_
  refine g_nil ?_
  simp only [Act.put, List.setIfInBounds_toArray, List.set_cons_succ, List.set_cons_zero]
  go_upto_region 2 with (fail)
  refine wp_region_list (WL.out ?_)
  refine g_val (.bool true) ?_
  refine g_val (.bool false) ?_
  refine g_nil ?_
  simp only [Act.put, List.setIfInBounds_toArray, List.set_cons_succ, List.set_cons_zero]
  by_cases hm : 300 < m
  · have HF := hide hO.low
    clear hO
    go_upto_region 4 with (fail)
    refine wp_region_list (WL.out ?_)
    refine g_val (.slice S0 m c0) ?_
    refine g_val (Nv .i64 m) ?_
    refine g_val (.bool true) ?_ (B.gtr_int (a := m) (c := 300) (b := true) (decide_eq_true hm) w1)
    refine g_nil ?_
    simp only [Act.put, List.setIfInBounds_toArray, List.set_cons_succ, List.set_cons_zero]
    go_upto_region 5 with (fail)
    refine wp_region_list (WL.out ?_)
    refine g_val (.bool true) ?_
    refine g_nil ?_
    simp only [Act.put, List.setIfInBounds_toArray, List.set_cons_succ, List.set_cons_zero]
    go_wp2_with (fail)
    go_ret
    exact ⟨rfl, HF.out⟩
  have hm30 : m ≤ 2 ^ 30 := by omega
  have hm40 : m ≤ 2 ^ 40 := by omega
  have hm26 : m ≤ 2 ^ 26 := by omega
  go_upto_region 4 with (fail)
  refine wp_region_list (WL.out ?_)
  refine g_val (.slice S0 m c0) ?_
  refine g_val (Nv .i64 m) ?_
  refine g_val (.bool false) ?_ (B.gtr_int (a := m) (c := 300) (b := false) (decide_eq_false hm) w1)
  refine g_nil ?_
  simp only [Act.put, List.setIfInBounds_toArray, List.set_cons_succ, List.set_cons_zero]
  have hl0 := hide hO.low
  clear hm
  go_upto_region 6 with (fail)
  refine wp_region_list (WL.out ?_)
  refine g_val (.slice S0 m c0) ?_
  refine g_any 15 #[.slice S0 m c0] (New_p (f := f) (c := c0) hm40 w1 (hS.low hO.low)) ?_
  rintro _ w2 ⟨mr, q, rfl, hN⟩
  refine g_val (D mr) ?_
  refine g_nil ?_
  simp only [Act.put, List.setIfInBounds_toArray, List.set_cons_succ, List.set_cons_zero]
  have hN := own_join hO hN
  clear hO
  rw [List.nil_append, vals_congr .u8 m f (byt (nb f m)) fun i hi => (M.byt_nb f hf m i hi).symm] at hN
  go_upto_region 7 with (fail)
  refine wp_region_list (WL.out ?_)
  refine g_val (.slice S0 m c0) ?_
  refine g_any 16 #[.slice S0 m c0] (RNew_p (f := f) (c := c0) hf hm26 w2 (hS.low hN.low)) ?_
  rintro _ w3 ⟨nr, rfl, hR⟩
  refine g_val (D nr) ?_
  refine g_nil ?_
  simp only [Act.put, List.setIfInBounds_toArray, List.set_cons_succ, List.set_cons_zero]
  obtain ⟨Y, hY⟩ : ∃ Y, nb f m = Y := ⟨_, rfl⟩
  rw [hY] at hN hR
  have HT := hide (TakeS.new hN hR)
  clear hN hR hY hl0 hS hf
  go_upto_region 8 with (fail)
  refine wp_region_list (WL.out ?_)
  refine g_val (Nv .i64 0) ?_
  refine g_nil ?_
  simp only [Act.put, List.setIfInBounds_toArray, List.set_cons_succ, List.set_cons_zero]
  go_wp2_with (fail)
  go_loopw [8] (fun x8 wr => ∃ (k t : Nat), k ≤ n ∧ k ≤ 100 ∧ x8 = .int .i64 (k : Int) ∧ t ≤ 8 * m ∧ TakeS w wr mr q m nr Y t t) (fun x8 _ => 100 - (intOf x8).toNat)
  case atStart => exact ⟨0, 0, Nat.zero_le _, Nat.zero_le _, rfl, Nat.zero_le _, HT.out⟩
  case round =>
    clear HT
    obtain ⟨k, t, hkn, hk100, rfl, ht, hT⟩ := hrel
    have HT := hide hT
    clear hT
    by_cases hz : k < n ∧ k < 100
    · have hlow := HT.out.low
      obtain ⟨a, rfl, hv, hb, hp⟩ := hs.at (show k < n by omega)
      obtain ⟨ad, had⟩ : ∃ ad, Hid (a.add (k * 3) = ad) := ⟨_, hide rfl⟩
      rw [had.out] at hv hb hp
      go_upto_region 9 with (fail)
      refine wp_region_list (WL.out ?_)
      refine g_val (Nv .i64 k) ?_
      refine g_val (.slice (some a) n c1) ?_
      refine g_val (Nv .i64 n) ?_
      refine g_val (.bool true) ?_ (B.lss_int (a := k) (c := n) (b := true) (decide_eq_true hz.1) wr)
      refine g_val (.bool true) ?_
      refine g_val (Nv .i64 k) ?_
      refine g_val (.bool true) ?_ (B.lss_int (a := k) (c := 100) (b := true) (decide_eq_true hz.2) wr)
      refine g_val (.bool true) ?_
      refine g_nil ?_
      simp only [Act.put, List.setIfInBounds_toArray, List.set_cons_succ, List.set_cons_zero]
      obtain ⟨b, hbk⟩ : ∃ b, Z k = b := ⟨_, rfl⟩
      obtain ⟨z, hpk⟩ : ∃ z, P k = z := ⟨_, rfl⟩
      rw [hbk] at hb
      rw [hpk] at hp
      clear hbk hpk hv
      go_upto_region 11 with (fail)
      refine wp_region_list (WL.out ?_)
      refine g_val (.slice (some a) n c1) ?_
      refine g_val (Nv .i64 k) ?_
      refine g_val (.pointer (some ad)) ?_ (had.out ▸ b_ix (n := n) (c := c1) (k := k) (s := 3) (show k < n by omega) Try.underlying23 sz_call wr)
      refine g_val (.pointer (some (ad.add 2))) ?_
      refine g_la (.bool z) (hp _ hlow) agg_bool ?_
      refine g_nil ?_
      simp only [Act.put, List.setIfInBounds_toArray, List.set_cons_succ, List.set_cons_zero]
      cases z with
      | true =>
        obtain ⟨r, hr⟩ : ∃ r, r = (8 * m - t) % 8 := ⟨_, rfl⟩
        obtain ⟨y, hy⟩ : ∃ y, y = decide (M.tk Y t r = 0) := ⟨_, rfl⟩
        have ht2 : t + r ≤ 8 * m := by omega
        have Hr := hide hr
        have Hy := hide hy
        clear hr hy
        go_upto_region 12 with (fail)
        refine wp_region_list (WL.out ?_)
        refine g_val (D mr) ?_
        refine g_any 17 #[D mr] (HT.out.whole hm30 ht Hr.out Hy.out) ?_
        rintro _ w4 ⟨rfl, hT2⟩
        refine g_val (D nr) ?_
        refine g_any 18 #[D nr] (hT2.rwhole hm30 ht Hr.out Hy.out) ?_
        rintro _ w5 ⟨rfl, hT3⟩
        refine g_val (.bool false) ?_ (b_nb (b := y) w5)
        refine g_nil ?_
        simp only [Act.put, List.setIfInBounds_toArray, List.set_cons_succ, List.set_cons_zero]
        replace HT := hide hT3
        clear hT2 hT3 hlow
        obtain ⟨t2, ht3⟩ : ∃ t2, t + r = t2 := ⟨_, rfl⟩
        rw [ht3] at HT ht2
        clear ht3
        go_upto_region 18 with (fail)
        refine wp_region_list (WL.out ?_)
        refine g_val (D mr) ?_
        refine g_ret 21 #[D mr] (Nv .i64 (8 * m - t2)) (HT.out.left hm30 ht2) ?_
        intro w6 hbb
        replace HT := hide (HT.out.call hbb)
        clear hbb
        refine g_val (D nr) ?_
        refine g_ret 22 #[D nr] (Nv .i64 (8 * m - t2)) (HT.out.rleft hm30 ht2) ?_
        intro w7 hbb
        replace HT := hide (HT.out.call hbb)
        clear hbb
        refine g_val (.bool false) ?_ (B.neq_int (a := 8 * m - t2) (c := 8 * m - t2) (b := false) (decide_eq_false (fun h => h rfl)) w7)
        refine g_nil ?_
        simp only [Act.put, List.setIfInBounds_toArray, List.set_cons_succ, List.set_cons_zero]
        go_upto_region 10 with (fail)
        refine wp_region_list (WL.out ?_)
        refine g_val (Nv .i64 k) ?_
        refine g_val (Nv .i64 (k + 1)) ?_ (B.add_int (a := k) (c := 1) (d := k + 1) rfl (by omega) w7)
        refine g_val (Nv .i64 (k + 1)) ?_
        refine g_nil ?_
        simp only [Act.put, List.setIfInBounds_toArray, List.set_cons_succ, List.set_cons_zero]
        go_wp2_with (fail)
        go_roundw
        case rel => exact ⟨k + 1, _, by omega, by omega, rfl, ht2, HT.out⟩
        case measure => show 100 - ((k + 1 : Nat) : Int).toNat < 100 - ((k : Nat) : Int).toNat; omega
      | false =>
        have ht2 : tT (8 * m) t b ≤ 8 * m := tT_le ht
        obtain ⟨x, hx⟩ : ∃ x, Hid (tV Y (8 * m) t b = x) := ⟨_, hide rfl⟩
        obtain ⟨y, hy⟩ : ∃ y, Hid (tE (8 * m) t b = y) := ⟨_, hide rfl⟩
        obtain ⟨t2, ht3⟩ : ∃ t2, Hid (tT (8 * m) t b = t2) := ⟨_, hide rfl⟩
        rw [ht3.out] at ht2
        have hT1 := HT.out.take b hm30 ht
        rw [hx.out, hy.out, ht3.out] at hT1
        go_upto_region 14 with (fail)
        refine wp_region_list (WL.out ?_)
        refine g_val (D mr) ?_
        refine g_val (.slice (some a) n c1) ?_
        refine g_val (Nv .i64 k) ?_
        refine g_val (.pointer (some ad)) ?_ (had.out ▸ b_ix (n := n) (c := c1) (k := k) (s := 3) (show k < n by omega) Try.underlying23 sz_call wr)
        refine g_val (.pointer (some (ad.add 1))) ?_
        refine g_la (.int .i64 b) (hb _ hlow) agg_int ?_
        refine g_any 19 #[D mr, .int .i64 b] (hT1) ?_
        rintro _ w4 ⟨rfl, hT2⟩
        refine g_val (.tuple #[Nv .u64 x, Nv .i64 y]) ?_
        refine g_val (Nv .u64 x) ?_
        refine g_val (Nv .i64 y) ?_
        refine g_val (Nv .u64 x) ?_
        refine g_val (Nv .i64 y) ?_
        refine g_nil ?_
        simp only [Act.put, List.setIfInBounds_toArray, List.set_cons_succ, List.set_cons_zero]
        have hlow2 := hT2.low
        have hT3 := hT2.rtake b hm30 ht
        rw [hx.out, hy.out, ht3.out] at hT3
        clear hT1 hT2
        go_upto_region 15 with (fail)
        refine wp_region_list (WL.out ?_)
        refine g_val (D nr) ?_
        refine g_val (.slice (some a) n c1) ?_
        refine g_val (Nv .i64 k) ?_
        refine g_val (.pointer (some ad)) ?_ (had.out ▸ b_ix (n := n) (c := c1) (k := k) (s := 3) (show k < n by omega) Try.underlying23 sz_call w4)
        refine g_val (.pointer (some (ad.add 1))) ?_
        refine g_la (.int .i64 b) (hb _ hlow2) agg_int ?_
        refine g_any 20 #[D nr, .int .i64 b] (hT3) ?_
        rintro _ w5 ⟨rfl, hT4⟩
        refine g_val (.tuple #[Nv .u64 x, Nv .i64 y]) ?_
        refine g_val (Nv .u64 x) ?_
        refine g_val (Nv .i64 y) ?_
        refine g_val (Nv .u64 x) ?_
        refine g_val (Nv .i64 y) ?_
        refine g_nil ?_
        simp only [Act.put, List.setIfInBounds_toArray, List.set_cons_succ, List.set_cons_zero]
        replace HT := hide hT4
        clear hT3 hT4 hlow hlow2
        go_upto_region 16 with (fail)
        refine wp_region_list (WL.out ?_)
        refine g_val (Nv .u64 x) ?_
        refine g_val (Nv .u64 x) ?_
        refine g_val (.bool false) ?_ (B.neq_u64 (a := x) (c := x) (b := false) (decide_eq_false (fun h => h rfl)) w5)
        refine g_val (.bool false) ?_
        refine g_val (Nv .i64 y) ?_
        refine g_val (Nv .i64 y) ?_
        refine g_val (.bool false) ?_ (B.neq_errno (a := y) (c := y) (b := false) (decide_eq_false (fun h => h rfl)) w5)
        refine g_val (.bool false) ?_
        refine g_nil ?_
        simp only [Act.put, List.setIfInBounds_toArray, List.set_cons_succ, List.set_cons_zero]
        go_upto_region 18 with (fail)
        refine wp_region_list (WL.out ?_)
        refine g_val (D mr) ?_
        refine g_ret 21 #[D mr] (Nv .i64 (8 * m - t2)) (HT.out.left hm30 ht2) ?_
        intro w6 hbb
        replace HT := hide (HT.out.call hbb)
        clear hbb
        refine g_val (D nr) ?_
        refine g_ret 22 #[D nr] (Nv .i64 (8 * m - t2)) (HT.out.rleft hm30 ht2) ?_
        intro w7 hbb
        replace HT := hide (HT.out.call hbb)
        clear hbb
        refine g_val (.bool false) ?_ (B.neq_int (a := 8 * m - t2) (c := 8 * m - t2) (b := false) (decide_eq_false (fun h => h rfl)) w7)
        refine g_nil ?_
        simp only [Act.put, List.setIfInBounds_toArray, List.set_cons_succ, List.set_cons_zero]
        go_upto_region 10 with (fail)
        refine wp_region_list (WL.out ?_)
        refine g_val (Nv .i64 k) ?_
        refine g_val (Nv .i64 (k + 1)) ?_ (B.add_int (a := k) (c := 1) (d := k + 1) rfl (by omega) w7)
        refine g_val (Nv .i64 (k + 1)) ?_
        refine g_nil ?_
        simp only [Act.put, List.setIfInBounds_toArray, List.set_cons_succ, List.set_cons_zero]
        go_wp2_with (fail)
        go_roundw
        case rel => exact ⟨k + 1, _, by omega, by omega, rfl, ht2, HT.out⟩
        case measure => show 100 - ((k + 1 : Nat) : Int).toNat < 100 - ((k : Nat) : Int).toNat; omega
    · have HF := hide HT.out.low
      go_upto_region 9 with (fail)
      refine reg_ways (fun x : Value × Value × Value × Value => Fr [.slice S0 m c0, .slice S n c1, U, U, u4, .bool true, D mr, D nr, Nv .i64 k, u9, u10, u11, u12, .bool true, .bool true, .bool false, .slice S0 m c0, Nv .i64 m, .bool false, .slice S0 m c0, D mr, .slice S0 m c0, D nr, Nv .i64 k, .slice S n c1, Nv .i64 n, x.1, x.2.1, x.2.2.1, x.2.2.2, .bool false, u31, u32, u33, u34, u35, u36, u37, u38, u39, u40, u41, u42, u43, u44, u45, u46, u47, u48, u49, u50, u51, u52, u53, u54, u55, u56, u57, u58, u59, u60, u61, u62, u63, u64, u65, u66, u67, u68, u69, u70, u71, u72, u73, u74, u75]) ?_ ?_
      · intro H
        by_cases hn9 : k < n
        · refine wp_region_list (WL.out ?_)
          refine g_val (Nv .i64 k) ?_
          refine g_val (.slice S n c1) ?_
          refine g_val (Nv .i64 n) ?_
          refine g_val (.bool true) ?_ (B.lss_int (a := k) (c := n) (b := true) (decide_eq_true hn9) wr)
          refine g_val (.bool true) ?_
          refine g_val (Nv .i64 k) ?_
          refine g_val (.bool false) ?_ (B.lss_int (a := k) (c := 100) (b := false) (decide_eq_false (by omega)) wr)
          refine g_val (.bool false) ?_
          refine g_nil ?_
          simp only [Act.put, List.setIfInBounds_toArray, List.set_cons_succ, List.set_cons_zero]
          exact H (.bool true, .bool true, Nv .i64 k, .bool false)
        · refine wp_region_list (WL.out ?_)
          refine g_val (Nv .i64 k) ?_
          refine g_val (.slice S n c1) ?_
          refine g_val (Nv .i64 n) ?_
          refine g_val (.bool false) ?_ (B.lss_int (a := k) (c := n) (b := false) (decide_eq_false hn9) wr)
          refine g_val (.bool false) ?_
          refine g_skip ?_
          refine g_skip ?_
          refine g_val (.bool false) ?_
          refine g_nil ?_
          simp only [Act.put, List.setIfInBounds_toArray, List.set_cons_succ, List.set_cons_zero]
          exact H (.bool false, .bool false, U, U)
      rintro ⟨x26, x27, x28, x29⟩
      dsimp only
      go_upto_region 20 with (fail)
      refine wp_region_list (WL.out ?_)
      refine g_val (.bool true) ?_
      refine g_nil ?_
      simp only [Act.put, List.setIfInBounds_toArray, List.set_cons_succ, List.set_cons_zero]
      go_wp2_with (fail)
      go_ret
      exact ⟨rfl, HF.out⟩
end W
end Go.Proofs.Ytacopggeidbnbaa

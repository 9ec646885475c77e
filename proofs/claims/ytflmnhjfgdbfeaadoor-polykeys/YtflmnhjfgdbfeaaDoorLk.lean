/- Walks: PolyKeys. The variable kept as it is laid; bytes below 256. -/
import Derived.Test.YtflmnhjfgdbfeaaDoorLo
namespace Go.Proofs.YtflmnhjfgdbfeaaDoor
set_option maxRecDepth 100000
open Go.RowKit Rg

/-- The key with other bits, where they are cleared: what is done behind k words. -/
def flip (f l : Nat → Nat) (i : Nat) : Nat := if i < 16 ∧ i % 4 = 3 then f i ^^^ (l (i / 4) &&& 240) else if i < 16 ∧ i % 4 = 0 ∧ 0 < i then f i ^^^ (l (4 + i / 4) &&& 3) else f i
def fl (f l : Nat → Nat) (k j : Nat) : Nat := if j < 4 * k then flip f l j else f j
theorem fl_zero (f l : Nat → Nat) : fl f l 0 = f := funext fun j => by unfold fl; rw [if_neg (by omega)]
theorem fl_all (f l : Nat → Nat) (j : Nat) : fl f l 4 j = flip f l j := by
  unfold fl
  by_cases h : j < 4 * 4
  · rw [if_pos h]
  · rw [if_neg h]
    unfold flip
    rw [if_neg (by omega), if_neg (by omega)]
theorem xor_and_lt (a b : Nat) (ha : a < 256) (m : Nat) (hm : m < 256) : a ^^^ (b &&& m) < 256 := Nat.xor_lt_two_pow (n := 8) ha (Nat.and_lt_two_pow (n := 8) _ hm)
theorem flip_lt (f l : Nat → Nat) (hf : ∀ i, f i < 256) (i : Nat) : flip f l i < 256 := by
  unfold flip
  split
  · exact xor_and_lt _ _ (hf i) 240 (by decide)
  · split
    · exact xor_and_lt _ _ (hf i) 3 (by decide)
    · exact hf i
theorem and_240 (b : Nat) : (b &&& 240) % 16 = 0 := by
  have := Nat.and_mod_two_pow (a := b) (b := 240) (n := 4)
  rw [show (2 : Nat) ^ 4 = 16 from rfl, show 240 % 16 = 0 from rfl, Nat.and_zero] at this
  exact this
theorem and_3d (b : Nat) : (b &&& 3) / 4 = 0 := Nat.div_eq_of_lt (Nat.and_lt_two_pow (n := 2) _ (by decide))
theorem cl_flip (f l : Nat → Nat) : ∀ i, i < 16 → cl (flip f l) i = cl f i := by
  intro i hi
  unfold cl
  by_cases h3 : i % 4 = 3
  · rw [if_pos h3, if_pos h3]
    unfold flip
    rw [if_pos ⟨hi, h3⟩]
    have := Nat.xor_mod_two_pow (a := f i) (b := l (i / 4) &&& 240) (n := 4)
    rw [show (2 : Nat) ^ 4 = 16 from rfl, and_240, Nat.xor_zero] at this
    exact this
  · rw [if_neg h3, if_neg h3]
    by_cases h0 : i % 4 = 0 ∧ 0 < i
    · rw [if_pos h0, if_pos h0]
      unfold flip
      rw [if_neg (fun h => h3 h.2), if_pos ⟨hi, h0⟩]
      have := Nat.xor_div_two_pow (a := f i) (b := l (4 + i / 4) &&& 3) (n := 2)
      rw [show (2 : Nat) ^ 2 = 4 from rfl, and_3d, Nat.xor_zero] at this
      omega
    · rw [if_neg h0, if_neg h0]
      unfold flip
      rw [if_neg (fun h => h3 h.2), if_neg (fun h => h0 h.2)]
theorem tg_flip (f l g : Nat → Nat) (n : Nat) : tg (flip f l) g n = tg f g n := by
  unfold tg
  have e1 : nb (cl (flip f l)) 16 = nb (cl f) 16 := nb_congr _ _ 16 fun i hi => cl_flip f l i hi
  have e2 : sk16 (flip f l) = sk16 f := nb_congr _ _ 16 fun i _ => by
    show flip f l (16 + i) = f (16 + i)
    unfold flip
    rw [if_neg (by omega), if_neg (by omega)]
  rw [e1, e2]
/-- The key with no second half. -/
def hf (f : Nat → Nat) (i : Nat) : Nat := if i < 16 then f i else 0
theorem hf_lt (f : Nat → Nat) (h : ∀ i, f i < 256) (i : Nat) : hf f i < 256 := by
  unfold hf
  split
  · exact h i
  · exact Nat.zero_lt_succ _
theorem tg_half (f g : Nat → Nat) (n i : Nat) (hi : i < 16) : tg f g n i = byt (nb (fun j => tg (hf f) g n j + f (16 + j)) 16) i := by
  have e1 : nb (cl (hf f)) 16 = nb (cl f) 16 := nb_congr _ _ 16 fun j hj => by
    have e : hf f j = f j := if_pos hj
    unfold cl
    rw [e]
  have e2 : sk16 (hf f) = 0 := nb_zero _ 16 fun j _ => if_neg (by omega)
  rw [nb_add]
  show byt (low (pv (nb (cl f) 16) g n) + sk16 f) i = byt (nb (tg (hf f) g n) 16 + sk16 f) i
  have e3 : nb (tg (hf f) g n) 16 = low (pv (nb (cl f) 16) g n) % 2 ^ 128 := by
    unfold tg
    rw [e1, e2, Nat.add_zero, nb_byt]
  rw [e3]
  exact byt_cong _ _ i hi (by rw [Nat.mod_add_mod])
theorem fl_set (f l : Nat → Nat) (k a b : Nat) (_ : k < 4) (ha : a = flip f l (4 * k + 3)) (hb : b = flip f l (4 * k)) : vals .u8 32 (fun j => if j = 4 * k then b else if j = 4 * k + 3 then a else fl f l k j) = vals .u8 32 (fl f l (k + 1)) := by
  subst ha hb
  refine vals_congr _ _ _ _ fun j _ => ?_
  unfold fl
  by_cases h0 : j = 4 * k
  · subst h0; rw [if_pos rfl, if_pos (by omega)]
  · rw [if_neg h0]
    by_cases h3 : j = 4 * k + 3
    · subst h3; rw [if_pos rfl, if_pos (by omega)]
    · rw [if_neg h3]
      by_cases h : j < 4 * k
      · rw [if_pos h, if_pos (by omega)]
      · rw [if_neg h]
        by_cases h2 : j < 4 * (k + 1)
        · rw [if_pos h2]
          unfold flip
          rw [if_neg (by omega), if_neg (by omega)]
        · rw [if_neg h2]
theorem fl_set0 (f l : Nat → Nat) (a : Nat) (ha : a = flip f l 3) : vals .u8 32 (fun j => if j = 4 * 0 + 3 then a else fl f l 0 j) = vals .u8 32 (fl f l (0 + 1)) := by
  subst ha
  refine vals_congr _ _ _ _ fun j _ => ?_
  unfold fl
  by_cases h3 : j = 3
  · subst h3; rfl
  · rw [if_neg (by omega), if_neg (by omega)]
    by_cases h2 : j < 4
    · rw [if_pos (by omega)]
      unfold flip
      rw [if_neg (by omega), if_neg (by omega)]
    · rw [if_neg (by omega)]
theorem b_and8 {ρ : Operand → Value} {o : Oper} {x y : Operand} {a m d : Nat} (ha : a < 256) (hm : m < 256) (h : a &&& m = d) (w : World) (ho : o.op = .binOp .and 5 x y 5 := by rfl) (hx : ρ x = Nv .u8 a := by kernel_rfl) (hy : ρ y = Nv .u8 m := by kernel_rfl) : (execOp ρ o).run Tryd.prog w = .ok (.value (Nv .u8 d)) w := by
  have h1 := (u8_and_nat a m ha hm).trans (congrArg (fun n : Nat => (n : Int)) h)
  unfold execOp
  simp only [ho, hx, hy]
  go_simp
theorem b_xor8 {ρ : Operand → Value} {o : Oper} {x y : Operand} {a m d : Nat} (ha : a < 256) (hm : m < 256) (h : a ^^^ m = d) (w : World) (ho : o.op = .binOp .xor 5 x y 5 := by rfl) (hx : ρ x = Nv .u8 a := by kernel_rfl) (hy : ρ y = Nv .u8 m := by kernel_rfl) : (execOp ρ o).run Tryd.prog w = .ok (.value (Nv .u8 d)) w := by
  have h1 := (u8_xor_nat a m ha hm).trans (congrArg (fun n : Nat => (n : Int)) h)
  unfold execOp
  simp only [ho, hx, hy]
  go_simp
theorem b_mul4 {ρ : Operand → Value} {o : Oper} {x y : Operand} {k : Nat} (hk : k < 2 ^ 40) (w : World) (ho : o.op = .binOp .mul 3 x y 3 := by rfl) (hx : ρ x = .int .i64 4 := by kernel_rfl) (hy : ρ y = Nv .i64 k := by kernel_rfl) : (execOp ρ o).run Tryd.prog w = .ok (.value (Nv .i64 (4 * k))) w := by
  have h1 : IntKind.i64.wrap (4 * (k : Int)) = 4 * (k : Int) := by unfold IntKind.wrap; simp [IntKind.bits, IntKind.signed]; omega
  unfold execOp
  simp only [ho, hx, hy]
  go_simp
theorem flip3 (f l : Nat → Nat) (k : Nat) (hk : k < 4) : f (4 * k + 3) ^^^ (l k &&& 240) = flip f l (4 * k + 3) := by
  unfold flip
  rw [if_pos ⟨by omega, by omega⟩, show (4 * k + 3) / 4 = k by omega]
theorem flip0 (f l : Nat → Nat) (k : Nat) (hk : k < 4) (h0 : 0 < k) : f (4 * k) ^^^ (l (4 + k) &&& 3) = flip f l (4 * k) := by
  unfold flip
  rw [if_neg (by omega), if_pos ⟨by omega, by omega, by omega⟩, show 4 * k / 4 = k by omega]
/-- The half emptied up to k. -/
def zr (f : Nat → Nat) (k j : Nat) : Nat := if 16 ≤ j ∧ j < k then 0 else f j
theorem zr_zero (f : Nat → Nat) : zr f 16 = f := funext fun j => by unfold zr; rw [if_neg (by omega)]
theorem zr_all (f : Nat → Nat) : vals .u8 32 (zr f 32) = vals .u8 32 (hf f) := vals_congr _ _ _ _ fun j hj => by
  unfold zr hf
  by_cases h : j < 16
  · rw [if_neg (by omega), if_pos h]
  · rw [if_pos ⟨by omega, hj⟩, if_neg h]
theorem zr_set (f : Nat → Nat) (k : Nat) (hk : 16 ≤ k) : (vals .u8 32 (zr f k)).setIfInBounds k (.int .u8 ((0 : Nat) : Int)) = vals .u8 32 (zr f (k + 1)) := by
  rw [vals_set]
  refine vals_congr _ _ _ _ fun j _ => ?_
  show (if j = k then 0 else zr f k j) = zr f (k + 1) j
  unfold zr
  by_cases h : j = k
  · subst h; rw [if_pos rfl, if_pos ⟨hk, by omega⟩]
  · rw [if_neg h]
    by_cases h2 : 16 ≤ j ∧ j < k
    · rw [if_pos h2, if_pos ⟨h2.1, by omega⟩]
    · rw [if_neg h2, if_neg (by omega)]
theorem fl_at (f l : Nat → Nat) (k i : Nat) (h : 4 * k ≤ i) : fl f l k i = f i := by unfold fl; rw [if_neg (by omega)]
theorem fl_end (f l : Nat → Nat) : vals .u8 32 (fl f l 4) = vals .u8 32 (flip f l) := vals_congr _ _ _ _ fun j _ => fl_all f l j
set_option maxHeartbeats 8000000 in
theorem keys_walk (key : Nat → Nat) (hk : ∀ i, key i < 256) (low : Nat → Nat) (hl : ∀ i, low i < 256) (S : Option Addr) (n c : Nat) (g : Nat → Nat) (hg : ∀ i, g i < 256) (hc : n ≤ c) (w : World) (hG : Gl w 0 (vals .u64 2 kp)) (hS : Rd w S n g) : Ret 5 #[A (vals .u8 32 key), .slice S n c, A (vals .u8 12 low)] w (.bool true) := by
  have HA : Hid (∀ w1 : World, Below w.heap.size w w1 → Ret 8 #[] w1 (.bool true)) := hide fun w1 h => awake_c w1 (hG.low h)
  obtain ⟨T, hT⟩ : ∃ T, Hid (tg key g n = T) := ⟨_, hide rfl⟩
  obtain ⟨B, hB⟩ : ∃ B, Hid (tg (hf key) g n = B) := ⟨_, hide rfl⟩
  obtain ⟨K2, hK2⟩ : ∃ K2, Hid (hf key = K2) := ⟨_, hide rfl⟩
  obtain ⟨K3, hK3⟩ : ∃ K3, Hid (flip key low = K3) := ⟨_, hide rfl⟩
  obtain ⟨dd, hd⟩ : ∃ dd, Hid ((fun j => B j + key (16 + j)) = dd) := ⟨_, hide rfl⟩
  have hBl : ∀ i, B i < 256 := fun i => hB.out ▸ tg_lt _ _ _ _
  have Hdl : Hid (∀ i, dd i ≤ 255 * 2) := hide fun i => by
    rw [← hd.out]
    have h1 := hBl i
    have h2 := hk (16 + i)
    show B i + key (16 + i) ≤ 510
    omega
  have Hdig : Hid (∀ i, i < 16 → (dd i + cy dd i) % 256 = T i) := hide fun i hi => by
    rw [cy_dig' dd i 16 hi, ← hT.out, tg_half key g n i hi, ← hd.out, hB.out]
  have Hcy : Hid (∀ i, cy dd i ≤ 2) := hide (cy_le dd 2 Hdl.out)
  have Hd : Hid (∀ i, B i + key (16 + i) = dd i) := hide fun i => by rw [← hd.out]
  have Hf3 : Hid (∀ k, k < 4 → key (4 * k + 3) ^^^ (low k &&& 240) = flip key low (4 * k + 3)) := hide (flip3 key low)
  have H1 : Hid (∀ (q : Nat) (w1 : World), Below w.heap.size w w1 → Blk w1 q #[.slice S n c] 23 → Ret 9 #[A (vals .u8 32 key), .slice (some ⟨q, 0, none⟩) 1 1] w1 (A (vals .u8 16 T))) := hide fun q w1 h hb => hT.out ▸ tag1_c key hk S n c q g hg hc w1 (hG.low h) hb (hS.low h)
  have H2 : Hid (∀ (q : Nat) (w1 : World), Below w.heap.size w w1 → Blk w1 q #[.slice S n c] 23 → Ret 9 #[A (vals .u8 32 K2), .slice (some ⟨q, 0, none⟩) 1 1] w1 (A (vals .u8 16 B))) := hide fun q w1 h hb => hB.out ▸ hK2.out ▸ tag1_c (hf key) (hf_lt key hk) S n c q g hg hc w1 (hG.low h) hb (hS.low h)
  have H3 : Hid (∀ (q : Nat) (w1 : World), Below w.heap.size w w1 → Blk w1 q #[.slice S n c] 23 → Ret 9 #[A (vals .u8 32 K3), .slice (some ⟨q, 0, none⟩) 1 1] w1 (A (vals .u8 16 T))) := hide fun q w1 h hb => by
    rw [← hT.out, ← hK3.out, ← tg_flip key low g n]
    exact tag1_c (flip key low) (flip_lt key low hk) S n c q g hg hc w1 (hG.low h) hb (hS.low h)
  clear hS hG hB hT hd
  go_enter Tryd.func5, Tryd.ntmps5
  have hO := Own.start w
  go_upto_region 0 with (fail)
  refine Rg.ps [0, 1] (fun ν => [(3, D (ν 0)), (5, D (ν 1)), (6, .bool false)]) (OI w (fun s ν => [[], [((ν 0), vals .u8 32 key, 22)], [((ν 0), vals .u8 32 key, 22), ((ν 1), vals .u8 12 low, 31)]].getD s [])) (fun _ => 0) hO (Rg.ac (sn 0 (fun _ => vals .u8 32 key) 22 (fun _ w => run_box 22 _ rfl _ (by kernel_rfl) w) (fun _ => fit_b32 _)) (Rg.ac (sn 1 (fun _ => vals .u8 12 low) 31 (fun _ w => run_box 31 _ rfl _ (by kernel_rfl) w) (fun _ => fit_b12 _)) (Rg.ac nv Rg.an))) ?_
  intro ν w1 hO
  replace hO : Own w w1 [((ν 0), vals .u8 32 key, 22), ((ν 1), vals .u8 12 low, 31)] := hO
  simp only [Rg.putL, Act.put, List.setIfInBounds_toArray, List.set_cons_succ, List.set_cons_zero]
  generalize ν 0 = n3 at hO ⊢
  generalize ν 1 = n5 at hO ⊢
  clear ν
  go_upto_region 1 with (fail)
  refine Rg.ps [0] (fun _ => [(17, .bool true), (7, .bool true)]) (OI w (fun s ν => [[(n3, vals .u8 32 key, 22), (n5, vals .u8 12 low, 31)], [(n3, vals .u8 32 key, 22), (n5, vals .u8 12 low, 31)]].getD s [])) (fun _ => 0) hO (Rg.ac (sq 0 8 (fun _ => #[]) (fun _ => .bool true) (fun ν w hO => HA.out w hO.low)) (Rg.ac nv Rg.an)) ?_
  intro ν w2 hO
  replace hO : Own w w2 [(n3, vals .u8 32 key, 22), (n5, vals .u8 12 low, 31)] := hO
  simp only [Rg.putL, Act.put, List.setIfInBounds_toArray, List.set_cons_succ, List.set_cons_zero]
  clear ν
  by_cases hq : n ≤ 1000
  · have h1 : ¬ (1000 : Int) < (n : Int) := by omega
    clear hq
    go_upto_region 4 with (fail)
    clear h1
    refine Rg.ps [1, 2] (fun ν => [(22, A (vals .u8 32 key)), (8, D (ν 1))]) (OI w (fun s ν => [[(n3, vals .u8 32 key, 22), (n5, vals .u8 12 low, 31)], [(n3, vals .u8 32 key, 22), (n5, vals .u8 12 low, 31), ((ν 1), vals .u8 32 (fun _ => 0), 22)], [(n3, vals .u8 32 key, 22), (n5, vals .u8 12 low, 31), ((ν 1), vals .u8 32 key, 22)]].getD s [])) (fun _ => 0) hO (Rg.ac (nld 0 0 0 (at1 0 fun _ => by kernel_rfl) Tryd.underlying22) (Rg.ac (sn 0 (fun _ => vals .u8 32 (fun _ => 0)) 22 (fun _ w => al_b32 rfl w) (fun _ => fit_b32 _)) (Rg.ac (sr 1 2 (fun _ => vals .u8 32 key) (fun _ => fit_b32 _)) Rg.an))) ?_
    intro ν w3 hO
    replace hO : Own w w3 [(n3, vals .u8 32 key, 22), (n5, vals .u8 12 low, 31), ((ν 1), vals .u8 32 key, 22)] := hO
    simp only [Rg.putL, Act.put, List.setIfInBounds_toArray, List.set_cons_succ, List.set_cons_zero]
    generalize ν 1 = n8 at hO ⊢
    clear ν
    have HO : Hid (Own w w3 [(n3, vals .u8 32 key, 22), (n5, vals .u8 12 low, 31), (n8, vals .u8 32 (fl key low 0), 22)]) := hide (by rw [fl_zero]; exact hO)
    clear hO
    go_wp2_with (fail)
    go_loopw [9] (fun x9 wr => ∃ k : Nat, k ≤ 4 ∧ x9 = .int .i64 k ∧ Own w wr [(n3, vals .u8 32 key, 22), (n5, vals .u8 12 low, 31), (n8, vals .u8 32 (fl key low k), 22)]) (fun x9 _ => 4 - (intOf x9).toNat)
    case atStart => exact ⟨0, Nat.zero_le _, rfl, HO.out⟩
    case round =>
      clear HO
      obtain ⟨k, hk9, rfl, hO⟩ := hrel
      by_cases hlt : k < 4
      · have hq0 : (0 : Int) ≤ (k : Int) := Int.natCast_nonneg k
        have hq1 : (k : Int) < 4 := by omega
        have hw1 := wr1 k (by omega)
        have hw0 := wr0 k (by omega)
        have hk40 : k < 2 ^ 40 := by omega
        have h340 : 3 < 2 ^ 40 := by decide
        have h4k : 4 * k < 2 ^ 40 := by omega
        have hk12 : k < 12 := by omega
        have hk32 : 4 * k + 3 < 32 := by omega
        have hk30 : 4 * k < 32 := by omega
        have h4k12 : 4 + k < 12 := by omega
        have h440 : 4 < 2 ^ 40 := by decide
        have h240 : 240 < 256 := by decide
        obtain ⟨v3, hv3⟩ : ∃ v3, Hid (low k &&& 240 = v3) := ⟨_, hide rfl⟩
        have hv3l : v3 < 256 := by rw [← hv3.out]; exact Nat.and_lt_two_pow (n := 8) _ h240
        obtain ⟨e3, he3⟩ : ∃ e3, Hid (key (4 * k + 3) ^^^ v3 = e3) := ⟨_, hide rfl⟩
        have He3 : Hid (e3 = flip key low (4 * k + 3)) := hide (by rw [← he3.out, ← hv3.out]; exact Hf3.out k hlt)
        go_upto_region 8 with (fail)
        refine Rg.pd [14] (fun _ => [(27, Nv .i64 k), (28, Nv .i64 (4 * k)), (29, Nv .i64 (4 * k + 3)), (30, Nv .i64 k), (31, Nv .i64 (4 * k)), (32, Nv .i64 (4 * k + 3)), (33, E n8 (4 * k + 3)), (34, Nv .u8 (key (4 * k + 3))), (35, Nv .i64 k), (36, E n5 k), (37, Nv .u8 (low k)), (38, Nv .u8 v3), (39, Nv .u8 e3), (40, E n8 (4 * k + 3))]) (OI w (fun s ν => [[(n3, vals .u8 32 key, 22), (n5, vals .u8 12 low, 31), (n8, vals .u8 32 (fl key low k), 22)], [(n3, vals .u8 32 key, 22), (n5, vals .u8 12 low, 31), (n8, vals .u8 32 (fun j => if j = 4 * k + 3 then e3 else fl key low k j), 22)]].getD s [])) (fun _ => 0) hO.drew (Rg.ac nv (Rg.ac (nx (fun _ => Nv .i64 (4 * k)) (fun _ w => b_mul4 hk40 w)) (Rg.ac (nx (fun _ => Nv .i64 (4 * k + 3)) (fun _ w => b_add h4k h340 w)) (Rg.ac nv (Rg.ac (nx (fun _ => Nv .i64 (4 * k)) (fun _ w => b_mul4 hk40 w)) (Rg.ac (nx (fun _ => Nv .i64 (4 * k + 3)) (fun _ w => b_add h4k h340 w)) (Rg.ac (nx (fun _ => E n8 (4 * k + 3)) (fun _ w => b_ia_b32 hk32 w)) (Rg.ac (nc 0 0 2 (fun _ => (4 * k + 3)) (fun _ => Nv .u8 (key (4 * k + 3))) agg_u8 (fun _ => (vals_get _ _ _ _ hk32).trans (by rw [fl_at _ _ _ _ (Nat.le_add_right _ _)])) (at1 0 fun _ => by kernel_rfl)) (Rg.ac nv (Rg.ac (nx (fun _ => E n5 k) (fun _ w => b_ia_b12 hk12 w)) (Rg.ac (nc 0 0 1 (fun _ => k) (fun _ => Nv .u8 (low k)) agg_u8 (fun _ => vals_get _ _ _ _ hk12) (at1 0 fun _ => by kernel_rfl)) (Rg.ac (nx (fun _ => Nv .u8 v3) (fun _ w => b_and8 (hl k) h240 hv3.out w)) (Rg.ac (nx (fun _ => Nv .u8 e3) (fun _ w => b_xor8 (hk _) hv3l he3.out w)) (Rg.ac (nx (fun _ => E n8 (4 * k + 3)) (fun _ w => b_ia_b32 hk32 w)) (Rg.ac (sl 0 2 (fun _ => (4 * k + 3)) (fun _ => Nv .u8 (fl key low k (4 * k + 3))) (fun _ => ((e3 : Nat) : Int)) sz_u8 (fun _ => vals_get _ _ _ _ hk32) (fun _ => vals_set _ _ _ _ _) (fun _ => fit_b32 _)) Rg.an))))))))))))))) ?_
        intro ν w4 hO
        replace hO : Own w w4 [(n3, vals .u8 32 key, 22), (n5, vals .u8 12 low, 31), (n8, vals .u8 32 (fun j => if j = 4 * k + 3 then e3 else fl key low k j), 22)] := hO
        simp only [Rg.putL, Act.put, List.setIfInBounds_toArray, List.set_cons_succ, List.set_cons_zero]
        clear ν
        by_cases hk0 : 0 < k
        · have hkp : (0 : Int) < (k : Int) := by omega
          obtain ⟨v0, hv0⟩ : ∃ v0, Hid (low (4 + k) &&& 3 = v0) := ⟨_, hide rfl⟩
          have hv0l : v0 < 256 := by rw [← hv0.out]; exact Nat.and_lt_two_pow (n := 8) _ (by decide)
          obtain ⟨e0, he0⟩ : ∃ e0, Hid (key (4 * k) ^^^ v0 = e0) := ⟨_, hide rfl⟩
          have He0 : Hid (e0 = flip key low (4 * k)) := hide (by rw [← he0.out, ← hv0.out]; exact flip0 key low k hlt hk0)
          have h3256 : 3 < 256 := by decide
          have hg0 : (if 4 * k = 4 * k + 3 then e3 else fl key low k (4 * k)) = key (4 * k) := by rw [if_neg (by omega), fl_at _ _ _ _ (Nat.le_refl _)]
          clear hk0
          go_upto_region 10 with (fail)
          clear hkp
          refine Rg.pd [13] (fun _ => [(43, Nv .i64 k), (44, Nv .i64 (4 * k)), (45, Nv .i64 k), (46, Nv .i64 (4 * k)), (47, E n8 (4 * k)), (48, Nv .u8 (key (4 * k))), (49, Nv .i64 k), (50, Nv .i64 (4 + k)), (51, E n5 (4 + k)), (52, Nv .u8 (low (4 + k))), (53, Nv .u8 v0), (54, Nv .u8 e0), (55, E n8 (4 * k))]) (OI w (fun s ν => [[(n3, vals .u8 32 key, 22), (n5, vals .u8 12 low, 31), (n8, vals .u8 32 (fun j => if j = 4 * k + 3 then e3 else fl key low k j), 22)], [(n3, vals .u8 32 key, 22), (n5, vals .u8 12 low, 31), (n8, vals .u8 32 (fun j => if j = 4 * k then e0 else if j = 4 * k + 3 then e3 else fl key low k j), 22)]].getD s [])) (fun _ => 0) hO.drew (Rg.ac nv (Rg.ac (nx (fun _ => Nv .i64 (4 * k)) (fun _ w => b_mul4 hk40 w)) (Rg.ac nv (Rg.ac (nx (fun _ => Nv .i64 (4 * k)) (fun _ w => b_mul4 hk40 w)) (Rg.ac (nx (fun _ => E n8 (4 * k)) (fun _ w => b_ia_b32 hk30 w)) (Rg.ac (nc 0 0 2 (fun _ => (4 * k)) (fun _ => Nv .u8 (key (4 * k))) agg_u8 (fun _ => (vals_get _ _ _ _ hk30).trans (by rw [hg0])) (at1 0 fun _ => by kernel_rfl)) (Rg.ac nv (Rg.ac (nx (fun _ => Nv .i64 (4 + k)) (fun _ w => b_add h440 hk40 w)) (Rg.ac (nx (fun _ => E n5 (4 + k)) (fun _ w => b_ia_b12 h4k12 w)) (Rg.ac (nc 0 0 1 (fun _ => (4 + k)) (fun _ => Nv .u8 (low (4 + k))) agg_u8 (fun _ => vals_get _ _ _ _ h4k12) (at1 0 fun _ => by kernel_rfl)) (Rg.ac (nx (fun _ => Nv .u8 v0) (fun _ w => b_and8 (hl _) h3256 hv0.out w)) (Rg.ac (nx (fun _ => Nv .u8 e0) (fun _ w => b_xor8 (hk _) hv0l he0.out w)) (Rg.ac (nx (fun _ => E n8 (4 * k)) (fun _ w => b_ia_b32 hk30 w)) (Rg.ac (sl 0 2 (fun _ => (4 * k)) (fun _ => Nv .u8 (key (4 * k))) (fun _ => ((e0 : Nat) : Int)) sz_u8 (fun _ => (vals_get _ _ _ _ hk30).trans (by rw [hg0])) (fun _ => vals_set _ _ _ _ _) (fun _ => fit_b32 _)) Rg.an)))))))))))))) ?_
          intro ν w5 hO
          replace hO : Own w w5 [(n3, vals .u8 32 key, 22), (n5, vals .u8 12 low, 31), (n8, vals .u8 32 (fun j => if j = 4 * k then e0 else if j = 4 * k + 3 then e3 else fl key low k j), 22)] := hO
          simp only [Rg.putL, Act.put, List.setIfInBounds_toArray, List.set_cons_succ, List.set_cons_zero]
          clear ν
          rw [fl_set key low k e3 e0 hlt He3.out He0.out] at hO
          have HO2 : Hid (Own w w5 [(n3, vals .u8 32 key, 22), (n5, vals .u8 12 low, 31), (n8, vals .u8 32 (fl key low (k + 1)), 22)]) := hide hO
          clear hO
          go_wp2_with (fail)
          go_roundw
          case rel => exact ⟨k + 1, hlt, in_succ k, HO2.out⟩
          case measure => exact ms_lt hlt
        · have hkz : k = 0 := by omega
          have hkp : ¬ (0 : Int) < (k : Int) := by omega
          have hrow : vals .u8 32 (fun j => if j = 4 * k + 3 then e3 else fl key low k j) = vals .u8 32 (fl key low (k + 1)) := by
            clear hO hq0 hq1 hw1 hw0 hkp
            subst hkz
            exact fl_set0 key low e3 He3.out
          rw [hrow] at hO
          clear hkz hk0 hrow
          have HO2 : Hid (Own w w4 [(n3, vals .u8 32 key, 22), (n5, vals .u8 12 low, 31), (n8, vals .u8 32 (fl key low (k + 1)), 22)]) := hide hO
          clear hO
          go_wp2_with (fail)
          go_roundw
          case rel => exact ⟨k + 1, hlt, in_succ k, HO2.out⟩
          case measure => exact ms_lt hlt
      · have ek : k = 4 := by omega
        subst ek
        clear hlt hk9
        rw [fl_end, hK3.out] at hO
        go_upto_region 11 with (fail)
        refine Rg.ps [1, 2] (fun ν => [(56, A (vals .u8 32 key)), (10, D (ν 1))]) (OI w (fun s ν => [[(n3, vals .u8 32 key, 22), (n5, vals .u8 12 low, 31), (n8, vals .u8 32 K3, 22)], [(n3, vals .u8 32 key, 22), (n5, vals .u8 12 low, 31), (n8, vals .u8 32 K3, 22), ((ν 1), vals .u8 32 (fun _ => 0), 22)], [(n3, vals .u8 32 key, 22), (n5, vals .u8 12 low, 31), (n8, vals .u8 32 K3, 22), ((ν 1), vals .u8 32 key, 22)]].getD s [])) (fun _ => 0) hO (Rg.ac (nld 0 0 0 (at1 0 fun _ => by kernel_rfl) Tryd.underlying22) (Rg.ac (sn 0 (fun _ => vals .u8 32 (fun _ => 0)) 22 (fun _ w => al_b32 rfl w) (fun _ => fit_b32 _)) (Rg.ac (sr 1 3 (fun _ => vals .u8 32 key) (fun _ => fit_b32 _)) Rg.an))) ?_
        intro ν w6 hO
        replace hO : Own w w6 [(n3, vals .u8 32 key, 22), (n5, vals .u8 12 low, 31), (n8, vals .u8 32 K3, 22), ((ν 1), vals .u8 32 key, 22)] := hO
        simp only [Rg.putL, Act.put, List.setIfInBounds_toArray, List.set_cons_succ, List.set_cons_zero]
        generalize ν 1 = n10 at hO ⊢
        clear ν
        have HO : Hid (Own w w6 [(n3, vals .u8 32 key, 22), (n5, vals .u8 12 low, 31), (n8, vals .u8 32 K3, 22), (n10, vals .u8 32 (zr key 16), 22)]) := hide (by rw [zr_zero]; exact hO)
        clear hO
        go_wp2_with (fail)
        go_loopw [11] (fun x11 wr => ∃ k : Nat, k ≤ 32 ∧ x11 = .int .i64 k ∧ 16 ≤ k ∧ Own w wr [(n3, vals .u8 32 key, 22), (n5, vals .u8 12 low, 31), (n8, vals .u8 32 K3, 22), (n10, vals .u8 32 (zr key k), 22)]) (fun x11 _ => 32 - (intOf x11).toNat)
        case atStart => exact ⟨16, by decide, rfl, Nat.le_refl _, HO.out⟩
        case round =>
          clear HO
          obtain ⟨k, hk9, rfl, hcnd, hO⟩ := hrel
          by_cases hlt : k < 32
          · have hq0 : (0 : Int) ≤ (k : Int) := Int.natCast_nonneg k
            have hq1 : (k : Int) < 32 := by omega
            have hw1 := wr1 k (by omega)
            have hw0 := wr0 k (by omega)
            go_upto_region 15 with (fail)
            refine Rg.ps [2] (fun _ => [(61, Nv .i64 k), (62, E n10 k)]) (OI w (fun s ν => [[(n3, vals .u8 32 key, 22), (n5, vals .u8 12 low, 31), (n8, vals .u8 32 K3, 22), (n10, vals .u8 32 (zr key k), 22)], [(n3, vals .u8 32 key, 22), (n5, vals .u8 12 low, 31), (n8, vals .u8 32 K3, 22), (n10, vals .u8 32 (zr key (k + 1)), 22)]].getD s [])) (fun _ => 0) hO (Rg.ac nv (Rg.ac (nx (fun _ => E n10 k) (fun _ w => b_ia_b32 hlt w)) (Rg.ac (sl 0 3 (fun _ => k) (fun _ => Nv .u8 (zr key k k)) (fun _ => 0) sz_u8 (fun _ => vals_get _ _ _ _ hlt) (fun _ => zr_set key k hcnd) (fun _ => fit_b32 _)) Rg.an))) ?_
            intro ν w7 hO
            replace hO : Own w w7 [(n3, vals .u8 32 key, 22), (n5, vals .u8 12 low, 31), (n8, vals .u8 32 K3, 22), (n10, vals .u8 32 (zr key (k + 1)), 22)] := hO
            simp only [Rg.putL, Act.put, List.setIfInBounds_toArray, List.set_cons_succ, List.set_cons_zero]
            clear ν
            have HO2 : Hid (Own w w7 [(n3, vals .u8 32 key, 22), (n5, vals .u8 12 low, 31), (n8, vals .u8 32 K3, 22), (n10, vals .u8 32 (zr key (k + 1)), 22)]) := hide hO
            clear hO
            go_wp2_with (fail)
            go_roundw
            case rel => exact ⟨k + 1, hlt, in_succ k, Nat.le_succ_of_le hcnd, HO2.out⟩
            case measure => exact ms_lt hlt
          · have ek : k = 32 := by omega
            subst ek
            clear hlt hk9
            rw [zr_all, hK2.out] at hO
            clear hcnd
            go_upto_region 16 with (fail)
            refine Rg.ps [2, 3, 4, 5] (fun ν => [(63, A (vals .u8 32 key)), (64, .slice S n c), (65, .slice (some ⟨(ν 2), 0, none⟩) 1 1), (66, A (vals .u8 16 T)), (12, D (ν 4))]) (OI w (fun s ν => [[(n3, vals .u8 32 key, 22), (n5, vals .u8 12 low, 31), (n8, vals .u8 32 K3, 22), (n10, vals .u8 32 K2, 22)], [(n3, vals .u8 32 key, 22), (n5, vals .u8 12 low, 31), (n8, vals .u8 32 K3, 22), (n10, vals .u8 32 K2, 22), ((ν 2), #[.slice S n c], 23)], [(n3, vals .u8 32 key, 22), (n5, vals .u8 12 low, 31), (n8, vals .u8 32 K3, 22), (n10, vals .u8 32 K2, 22), ((ν 2), #[.slice S n c], 23)], [(n3, vals .u8 32 key, 22), (n5, vals .u8 12 low, 31), (n8, vals .u8 32 K3, 22), (n10, vals .u8 32 K2, 22), ((ν 2), #[.slice S n c], 23), ((ν 4), vals .u8 16 (fun _ => 0), 25)], [(n3, vals .u8 32 key, 22), (n5, vals .u8 12 low, 31), (n8, vals .u8 32 K3, 22), (n10, vals .u8 32 K2, 22), ((ν 2), #[.slice S n c], 23), ((ν 4), vals .u8 16 T, 25)]].getD s [])) (fun _ => 0) hO (Rg.ac (nld 0 0 0 (at1 0 fun _ => by kernel_rfl) Tryd.underlying22) (Rg.ac nv (Rg.ac (sv 0 (fun _ q => .slice (some ⟨q, 0, none⟩) 1 1) (fun _ => #[.slice S n c]) 23 (fun _ w => b_pt1 w) (fun _ => fit_ss (by kernel_rfl))) (Rg.ac (sq 1 9 (fun ν => #[A (vals .u8 32 key), .slice (some ⟨(ν 2), 0, none⟩) 1 1]) (fun _ => A (vals .u8 16 T)) (fun ν w hO => H1.out _ w hO.low (hO.row 4 rfl))) (Rg.ac (sn 2 (fun _ => vals .u8 16 (fun _ => 0)) 25 (fun _ w => al_b16 rfl w) (fun _ => fit_b16 _)) (Rg.ac (sr 3 5 (fun _ => vals .u8 16 T) (fun _ => fit_b16 _)) Rg.an)))))) ?_
            intro ν w8 hO
            replace hO : Own w w8 [(n3, vals .u8 32 key, 22), (n5, vals .u8 12 low, 31), (n8, vals .u8 32 K3, 22), (n10, vals .u8 32 K2, 22), ((ν 2), #[.slice S n c], 23), ((ν 4), vals .u8 16 T, 25)] := hO
            simp only [Rg.putL, Act.put, List.setIfInBounds_toArray, List.set_cons_succ, List.set_cons_zero]
            generalize ν 2 = n65 at hO ⊢
            generalize ν 4 = n12 at hO ⊢
            clear ν
            go_upto_region 17 with (fail)
            refine Rg.ps [2, 3, 4, 5] (fun ν => [(67, A (vals .u8 32 K2)), (68, .slice S n c), (69, .slice (some ⟨(ν 2), 0, none⟩) 1 1), (70, A (vals .u8 16 B)), (13, D (ν 4))]) (OI w (fun s ν => [[(n3, vals .u8 32 key, 22), (n5, vals .u8 12 low, 31), (n8, vals .u8 32 K3, 22), (n10, vals .u8 32 K2, 22), (n65, #[.slice S n c], 23), (n12, vals .u8 16 T, 25)], [(n3, vals .u8 32 key, 22), (n5, vals .u8 12 low, 31), (n8, vals .u8 32 K3, 22), (n10, vals .u8 32 K2, 22), (n65, #[.slice S n c], 23), (n12, vals .u8 16 T, 25), ((ν 2), #[.slice S n c], 23)], [(n3, vals .u8 32 key, 22), (n5, vals .u8 12 low, 31), (n8, vals .u8 32 K3, 22), (n10, vals .u8 32 K2, 22), (n65, #[.slice S n c], 23), (n12, vals .u8 16 T, 25), ((ν 2), #[.slice S n c], 23)], [(n3, vals .u8 32 key, 22), (n5, vals .u8 12 low, 31), (n8, vals .u8 32 K3, 22), (n10, vals .u8 32 K2, 22), (n65, #[.slice S n c], 23), (n12, vals .u8 16 T, 25), ((ν 2), #[.slice S n c], 23), ((ν 4), vals .u8 16 (fun _ => 0), 25)], [(n3, vals .u8 32 key, 22), (n5, vals .u8 12 low, 31), (n8, vals .u8 32 K3, 22), (n10, vals .u8 32 K2, 22), (n65, #[.slice S n c], 23), (n12, vals .u8 16 T, 25), ((ν 2), #[.slice S n c], 23), ((ν 4), vals .u8 16 B, 25)]].getD s [])) (fun _ => 0) hO (Rg.ac (nld 0 0 3 (at1 0 fun _ => by kernel_rfl) Tryd.underlying22) (Rg.ac nv (Rg.ac (sv 0 (fun _ q => .slice (some ⟨q, 0, none⟩) 1 1) (fun _ => #[.slice S n c]) 23 (fun _ w => b_pt1 w) (fun _ => fit_ss (by kernel_rfl))) (Rg.ac (sq 1 9 (fun ν => #[A (vals .u8 32 K2), .slice (some ⟨(ν 2), 0, none⟩) 1 1]) (fun _ => A (vals .u8 16 B)) (fun ν w hO => H2.out _ w hO.low (hO.row 6 rfl))) (Rg.ac (sn 2 (fun _ => vals .u8 16 (fun _ => 0)) 25 (fun _ w => al_b16 rfl w) (fun _ => fit_b16 _)) (Rg.ac (sr 3 7 (fun _ => vals .u8 16 B) (fun _ => fit_b16 _)) Rg.an)))))) ?_
            intro ν w9 hO
            replace hO : Own w w9 [(n3, vals .u8 32 key, 22), (n5, vals .u8 12 low, 31), (n8, vals .u8 32 K3, 22), (n10, vals .u8 32 K2, 22), (n65, #[.slice S n c], 23), (n12, vals .u8 16 T, 25), ((ν 2), #[.slice S n c], 23), ((ν 4), vals .u8 16 B, 25)] := hO
            simp only [Rg.putL, Act.put, List.setIfInBounds_toArray, List.set_cons_succ, List.set_cons_zero]
            generalize ν 2 = n69 at hO ⊢
            generalize ν 4 = n13 at hO ⊢
            clear ν
            clear H1 H2
            have HOi : Hid (Own w w9 [(n3, vals .u8 32 key, 22), (n5, vals .u8 12 low, 31), (n8, vals .u8 32 K3, 22), (n10, vals .u8 32 K2, 22), (n65, #[.slice S n c], 23), (n12, vals .u8 16 T, 25), (n69, #[.slice S n c], 23), (n13, vals .u8 16 B, 25)]) := hide (hO)
            clear hO
            go_wp2_with (fail)
            go_loopw [14, 15] (fun x14 x15 wri => ∃ i : Nat, i ≤ 16 ∧ x15 = .int .i64 i ∧ x14 = Nv .i64 (cy dd i) ∧ Own w wri [(n3, vals .u8 32 key, 22), (n5, vals .u8 12 low, 31), (n8, vals .u8 32 K3, 22), (n10, vals .u8 32 K2, 22), (n65, #[.slice S n c], 23), (n12, vals .u8 16 T, 25), (n69, #[.slice S n c], 23), (n13, vals .u8 16 B, 25)]) (fun _ x15 _ => 16 - (intOf x15).toNat)
            case atStart => exact ⟨0, Nat.zero_le _, rfl, by rw [cy_zero]; rfl, HOi.out⟩
            case round =>
              clear HOi
              obtain ⟨i, hi9, rfl, rfl, hO⟩ := hrel
              by_cases hlti : i < 16
              · have hq0i : (0 : Int) ≤ (i : Int) := Int.natCast_nonneg i
                have hq1i : (i : Int) < 16 := by omega
                have hw1i := wr1 i (by omega)
                have hw0i := wr0 i (by omega)
                have hdl := Hdl.out i
                have hcl := Hcy.out i
                have hb1 : dd i < 2 ^ 40 := by omega
                have hb2 : cy dd i < 2 ^ 40 := by omega
                obtain ⟨s1, hs1⟩ : ∃ s1, Hid (dd i + cy dd i = s1) := ⟨_, hide rfl⟩
                have hs40 : s1 < 2 ^ 40 := by rw [← hs1.out]; omega
                have Hs2 : Hid (s1 % 256 = T i) := hide (by rw [← hs1.out]; exact Hdig.out i hlti)
                have Hs3 : Hid (s1 / 256 = cy dd (i + 1)) := hide (by rw [← hs1.out]; exact cy_step dd i)
                have hTl : T i < 256 := by rw [← Hs2.out]; exact Nat.mod_lt _ (by decide)
                have h32 : 16 + i < 32 := by omega
                have h16 : 16 < 2 ^ 40 := by decide
                have hi40 : i < 2 ^ 40 := by omega
                have hB4 : B i < 2 ^ 40 := Nat.lt_trans (hBl i) (by decide)
                have hK4 : key (16 + i) < 2 ^ 40 := Nat.lt_trans (hk _) (by decide)
                clear hdl hcl
                go_upto_region 22 with (fail)
                refine Rg.pd [] (fun _ => [(75, Nv .i64 i), (76, E n13 i), (77, Nv .u8 (B i)), (78, Nv .i64 (B i)), (79, Nv .i64 i), (80, Nv .i64 (16 + i)), (81, E n3 (16 + i)), (82, Nv .u8 (key (16 + i))), (83, Nv .i64 (key (16 + i))), (84, Nv .i64 (dd i)), (85, Nv .i64 (cy dd i)), (86, Nv .i64 s1), (16, Nv .i64 s1)]) (OI w (fun _ _ => [(n3, vals .u8 32 key, 22), (n5, vals .u8 12 low, 31), (n8, vals .u8 32 K3, 22), (n10, vals .u8 32 K2, 22), (n65, #[.slice S n c], 23), (n12, vals .u8 16 T, 25), (n69, #[.slice S n c], 23), (n13, vals .u8 16 B, 25)])) (fun _ => 0) hO.drew (Rg.ac nv (Rg.ac (nx (fun _ => E n13 i) (fun _ w => b_ia_b16 hlti w)) (Rg.ac (nc 0 0 7 (fun _ => i) (fun _ => Nv .u8 (B i)) agg_u8 (fun _ => vals_get _ _ _ _ hlti) (at1 0 fun _ => by kernel_rfl)) (Rg.ac (nx (fun _ => Nv .i64 (B i)) (fun _ w => b_c53 (hBl i) w)) (Rg.ac nv (Rg.ac (nx (fun _ => Nv .i64 (16 + i)) (fun _ w => b_add h16 hi40 w)) (Rg.ac (nx (fun _ => E n3 (16 + i)) (fun _ w => b_ia_b32 h32 w)) (Rg.ac (nc 0 0 0 (fun _ => (16 + i)) (fun _ => Nv .u8 (key (16 + i))) agg_u8 (fun _ => vals_get _ _ _ _ h32) (at1 0 fun _ => by kernel_rfl)) (Rg.ac (nx (fun _ => Nv .i64 (key (16 + i))) (fun _ w => b_c53 (hk _) w)) (Rg.ac (nx (fun _ => Nv .i64 (dd i)) (fun _ w => b_addE hB4 hK4 (Hd.out i) w)) (Rg.ac nv (Rg.ac (nx (fun _ => Nv .i64 s1) (fun _ w => b_addE hb1 hb2 hs1.out w)) (Rg.ac nv Rg.an))))))))))))) ?_
                intro ν w10 hO
                replace hO : Own w w10 [(n3, vals .u8 32 key, 22), (n5, vals .u8 12 low, 31), (n8, vals .u8 32 K3, 22), (n10, vals .u8 32 K2, 22), (n65, #[.slice S n c], 23), (n12, vals .u8 16 T, 25), (n69, #[.slice S n c], 23), (n13, vals .u8 16 B, 25)] := hO
                simp only [Rg.putL, Act.put, List.setIfInBounds_toArray, List.set_cons_succ, List.set_cons_zero]
                clear ν
                go_upto_region 23 with (fail)
                refine Rg.ps [] (fun _ => [(87, Nv .i64 i), (88, E n12 i), (89, Nv .u8 (T i)), (90, Nv .i64 s1), (91, Nv .i64 (T i)), (92, Nv .u8 (T i)), (93, .bool false)]) (OI w (fun _ _ => [(n3, vals .u8 32 key, 22), (n5, vals .u8 12 low, 31), (n8, vals .u8 32 K3, 22), (n10, vals .u8 32 K2, 22), (n65, #[.slice S n c], 23), (n12, vals .u8 16 T, 25), (n69, #[.slice S n c], 23), (n13, vals .u8 16 B, 25)])) (fun _ => 0) hO (Rg.ac nv (Rg.ac (nx (fun _ => E n12 i) (fun _ w => b_ia_b16 hlti w)) (Rg.ac (nc 0 0 5 (fun _ => i) (fun _ => Nv .u8 (T i)) agg_u8 (fun _ => vals_get _ _ _ _ hlti) (at1 0 fun _ => by kernel_rfl)) (Rg.ac nv (Rg.ac (nx (fun _ => Nv .i64 (T i)) (fun _ w => b_remE Hs2.out w)) (Rg.ac (nx (fun _ => Nv .u8 (T i)) (fun _ w => b_c35 hTl w)) (Rg.ac (nx (fun _ => .bool false) (fun _ w => b_neq8 (a := T i) (c := T i) rfl w)) Rg.an))))))) ?_
                intro ν w11 hO
                replace hO : Own w w11 [(n3, vals .u8 32 key, 22), (n5, vals .u8 12 low, 31), (n8, vals .u8 32 K3, 22), (n10, vals .u8 32 K2, 22), (n65, #[.slice S n c], 23), (n12, vals .u8 16 T, 25), (n69, #[.slice S n c], 23), (n13, vals .u8 16 B, 25)] := hO
                simp only [Rg.putL, Act.put, List.setIfInBounds_toArray, List.set_cons_succ, List.set_cons_zero]
                clear ν
                go_upto_region 25 with (fail)
                refine Rg.ps [] (fun _ => [(94, Nv .i64 s1), (95, Nv .i64 (cy dd (i + 1))), (14, Nv .i64 (cy dd (i + 1)))]) (OI w (fun _ _ => [(n3, vals .u8 32 key, 22), (n5, vals .u8 12 low, 31), (n8, vals .u8 32 K3, 22), (n10, vals .u8 32 K2, 22), (n65, #[.slice S n c], 23), (n12, vals .u8 16 T, 25), (n69, #[.slice S n c], 23), (n13, vals .u8 16 B, 25)])) (fun _ => 0) hO (Rg.ac nv (Rg.ac (nx (fun _ => Nv .i64 (cy dd (i + 1))) (fun _ w => b_quoE hs40 Hs3.out w)) (Rg.ac nv Rg.an))) ?_
                intro ν w12 hO
                replace hO : Own w w12 [(n3, vals .u8 32 key, 22), (n5, vals .u8 12 low, 31), (n8, vals .u8 32 K3, 22), (n10, vals .u8 32 K2, 22), (n65, #[.slice S n c], 23), (n12, vals .u8 16 T, 25), (n69, #[.slice S n c], 23), (n13, vals .u8 16 B, 25)] := hO
                simp only [Rg.putL, Act.put, List.setIfInBounds_toArray, List.set_cons_succ, List.set_cons_zero]
                clear ν
                have HO2i : Hid (Own w w12 [(n3, vals .u8 32 key, 22), (n5, vals .u8 12 low, 31), (n8, vals .u8 32 K3, 22), (n10, vals .u8 32 K2, 22), (n65, #[.slice S n c], 23), (n12, vals .u8 16 T, 25), (n69, #[.slice S n c], 23), (n13, vals .u8 16 B, 25)]) := hide hO
                clear hO
                go_wp2_with (fail)
                go_roundw
                case rel => exact ⟨i + 1, hlti, in_succ i, rfl, HO2i.out⟩
                case measure => exact ms_lt hlti
              · have ei : i = 16 := by omega
                subst ei
                clear hlti hi9
                go_upto_region 26 with (fail)
                refine Rg.pd [4, 5] (fun ν => [(96, .bool true), (97, .bool true), (98, A (vals .u8 32 K3)), (99, .slice S n c), (100, .slice (some ⟨(ν 4), 0, none⟩) 1 1), (101, A (vals .u8 16 T)), (102, A (vals .u8 16 T)), (103, .bool true), (104, .bool true), (6, .bool true)]) (OI w (fun s ν => [[(n3, vals .u8 32 key, 22), (n5, vals .u8 12 low, 31), (n8, vals .u8 32 K3, 22), (n10, vals .u8 32 K2, 22), (n65, #[.slice S n c], 23), (n12, vals .u8 16 T, 25), (n69, #[.slice S n c], 23), (n13, vals .u8 16 B, 25)], [(n3, vals .u8 32 key, 22), (n5, vals .u8 12 low, 31), (n8, vals .u8 32 K3, 22), (n10, vals .u8 32 K2, 22), (n65, #[.slice S n c], 23), (n12, vals .u8 16 T, 25), (n69, #[.slice S n c], 23), (n13, vals .u8 16 B, 25), ((ν 4), #[.slice S n c], 23)], [(n3, vals .u8 32 key, 22), (n5, vals .u8 12 low, 31), (n8, vals .u8 32 K3, 22), (n10, vals .u8 32 K2, 22), (n65, #[.slice S n c], 23), (n12, vals .u8 16 T, 25), (n69, #[.slice S n c], 23), (n13, vals .u8 16 B, 25), ((ν 4), #[.slice S n c], 23)]].getD s [])) (fun _ => 0) hO.drew (Rg.ac nv (Rg.ac nv (Rg.ac (nld 0 1 2 (at2 0 1 (fun _ => by kernel_rfl) (at1 1 fun _ => by kernel_rfl)) Tryd.underlying22) (Rg.ac nv (Rg.ac (sv 0 (fun _ q => .slice (some ⟨q, 0, none⟩) 1 1) (fun _ => #[.slice S n c]) 23 (fun _ w => b_pt1 w) (fun _ => fit_ss (by kernel_rfl))) (Rg.ac (sq 1 9 (fun ν => #[A (vals .u8 32 K3), .slice (some ⟨(ν 4), 0, none⟩) 1 1]) (fun _ => A (vals .u8 16 T)) (fun ν w hO => H3.out _ w hO.low (hO.row 8 rfl))) (Rg.ac (nld 0 2 5 (at2 0 2 (fun _ => by kernel_rfl) (at2 1 2 (fun _ => by kernel_rfl) (at1 2 fun _ => by kernel_rfl))) Tryd.underlying25) (Rg.ac (nx (fun _ => .bool true) (fun _ w => b_eqa (f := T) w)) (Rg.ac nv (Rg.ac nv Rg.an)))))))))) ?_
                intro ν w13 hO
                replace hO : Own w w13 [(n3, vals .u8 32 key, 22), (n5, vals .u8 12 low, 31), (n8, vals .u8 32 K3, 22), (n10, vals .u8 32 K2, 22), (n65, #[.slice S n c], 23), (n12, vals .u8 16 T, 25), (n69, #[.slice S n c], 23), (n13, vals .u8 16 B, 25), ((ν 4), #[.slice S n c], 23)] := hO
                simp only [Rg.putL, Act.put, List.setIfInBounds_toArray, List.set_cons_succ, List.set_cons_zero]
                generalize ν 4 = n100 at hO ⊢
                clear ν
                have HF := hide hO.low
                clear hO H3
                go_wp2_with (fail)
                go_ret
                exact ⟨rfl, HF.out⟩
  · have h1 : (1000 : Int) < (n : Int) := by omega
    have HF := hide hO.low
    clear hO hq H1 H2 H3
    go_wp2_with (fail)
    go_ret
    exact ⟨rfl, HF.out⟩
end Go.Proofs.YtflmnhjfgdbfeaaDoor

/- Walks: the reference's Tag. Bytes below 256. -/
import Derived.Test.YtanahjoiilfcbaaDoorRc
import Derived.Test.YtanahjoiilfcbaaDoorLq
namespace Go.Proofs.YtanahjoiilfcbaaDoor
set_option maxRecDepth 100000
open Go.RowKit Rg

theorem in_add4 (i : Nat) : Value.int .i64 ((i : Int) + 4) = .int .i64 ((i + 4 : Nat) : Int) := by simp
theorem ms_add4 {i : Nat} (h : i < 16) : 16 - (intOf (.int .i64 ((i : Int) + 4))).toNat < 16 - (intOf (.int .i64 (i : Int))).toNat := by simp [intOf]; omega
theorem wa1 (k : Nat) (h : k < 1000) : wrap64 ((k : Int) + 4) = (k : Int) + 4 := by unfold wrap64; omega
theorem wa0 (k : Nat) (h : k < 1000) : IntKind.i64.wrap ((k : Int) + 4) = (k : Int) + 4 := by unfold IntKind.wrap; simp [IntKind.bits, IntKind.signed]; omega
/-- The key's first half, its bits cleared in bytes 3, 7 .. below p, and 4, 8 .. below q. -/
def rk (f : Nat → Nat) (p q j : Nat) : Nat := if j < 16 then (if j % 4 = 3 ∧ j < p then f j % 16 else if j % 4 = 0 ∧ 0 < j ∧ j < q then f j - f j % 4 else f j) else 0
theorem rk_zero (f : Nat → Nat) : vals .i64 40 (sw f (fun _ => 0) 16) = vals .i64 40 (rk f 3 4) := vals_congr _ _ _ _ fun j _ => by
  unfold sw rk
  by_cases h : j < 16
  · rw [if_pos h, if_pos h, if_neg (by omega), if_neg (by omega)]
  · rw [if_neg h, if_neg h]
theorem rk_3 (f : Nat → Nat) (i : Nat) (h3 : i % 4 = 3) (hi : i < 16) : rk f i 4 i = f i := by
  unfold rk
  rw [if_pos hi, if_neg (by omega), if_neg (by omega)]
theorem rk_set3 (f : Nat → Nat) (i v : Nat) (h3 : i % 4 = 3) (hi : i < 16) (hv : v = f i % 16) : (vals .i64 40 (rk f i 4)).setIfInBounds i (.int .i64 ((v : Nat) : Int)) = vals .i64 40 (rk f (i + 4) 4) := by
  subst hv
  rw [vals_set]
  refine vals_congr _ _ _ _ fun j _ => ?_
  show (if j = i then f i % 16 else rk f i 4 j) = rk f (i + 4) 4 j
  unfold rk
  by_cases h : j = i
  · subst h; rw [if_pos rfl, if_pos hi, if_pos ⟨h3, by omega⟩]
  · rw [if_neg h]
    by_cases h1 : j < 16
    · rw [if_pos h1, if_pos h1]
      by_cases h2 : j % 4 = 3 ∧ j < i
      · rw [if_pos h2, if_pos ⟨h2.1, by omega⟩]
      · rw [if_neg h2, if_neg (show ¬ (j % 4 = 3 ∧ j < i + 4) by omega)]
    · rw [if_neg h1, if_neg h1]
theorem rk_0 (f : Nat → Nat) (i : Nat) (h0 : i % 4 = 0) (hi : i < 16) : rk f 19 i i = f i := by
  unfold rk
  rw [if_pos hi, if_neg (by omega), if_neg (by omega)]
theorem rk_set0 (f : Nat → Nat) (i v : Nat) (h0 : i % 4 = 0) (hp : 0 < i) (hi : i < 16) (hv : v = f i - f i % 4) : (vals .i64 40 (rk f 19 i)).setIfInBounds i (.int .i64 ((v : Nat) : Int)) = vals .i64 40 (rk f 19 (i + 4)) := by
  subst hv
  rw [vals_set]
  refine vals_congr _ _ _ _ fun j _ => ?_
  show (if j = i then f i - f i % 4 else rk f 19 i j) = rk f 19 (i + 4) j
  unfold rk
  by_cases h : j = i
  · subst h; rw [if_pos rfl, if_pos hi, if_neg (by omega), if_pos ⟨h0, hp, by omega⟩]
  · rw [if_neg h]
    by_cases h1 : j < 16
    · rw [if_pos h1, if_pos h1]
      by_cases h3 : j % 4 = 3 ∧ j < 19
      · rw [if_pos h3, if_pos h3]
      · rw [if_neg h3, if_neg h3]
        by_cases h2 : j % 4 = 0 ∧ 0 < j ∧ j < i
        · rw [if_pos h2, if_pos ⟨h2.1, h2.2.1, by omega⟩]
        · rw [if_neg h2, if_neg (show ¬ (j % 4 = 0 ∧ 0 < j ∧ j < i + 4) by omega)]
    · rw [if_neg h1, if_neg h1]
theorem rk_end (f : Nat → Nat) (hf : ∀ i, f i < 256) : vals .i64 40 (rk f 19 16) = vals .i64 40 (byt (nb (cl f) 16)) := vals_congr _ _ _ _ fun j _ => by
  unfold rk
  by_cases h : j < 16
  · rw [if_pos h, byt_nb (cl f) (cl_lt f hf) 16 j h]
    unfold cl
    by_cases h3 : j % 4 = 3
    · rw [if_pos ⟨h3, by omega⟩, if_pos h3]
    · rw [if_neg (fun h => h3 h.1), if_neg h3]
      by_cases h0 : j % 4 = 0 ∧ 0 < j
      · rw [if_pos ⟨h0.1, h0.2, h⟩, if_pos h0]
      · rw [if_neg (fun h => h0 ⟨h.1, h.2.1⟩), if_neg h0]
  · rw [if_neg h, byt_zero _ j 16 (nb_lt (cl f) (cl_lt f hf) 16) (by omega)]
theorem dg1_nb40 (g : Nat → Nat) (n : Nat) (hn : n < 40) : nb (dg1 g n) 40 = nb g n + 2 ^ (8 * n) := by
  have e1 : nb (dg1 g n) (n + 1 + (39 - n)) = nb (dg1 g n) (n + 1) := nb_short _ _ _ fun i hi _ => by unfold dg1; rw [if_neg (by omega), if_neg (by omega)]
  rw [show n + 1 + (39 - n) = 40 by omega] at e1
  rw [e1, nb, nb_congr (dg1 g n) g n fun j hj => if_pos hj]
  have e2 : dg1 g n n = 1 := by unfold dg1; rw [if_neg (by omega), if_pos rfl]
  rw [e2, Nat.one_mul]
theorem sum_set40 (s g : Nat → Nat) (n v : Nat) (hv : v = s n + 1) : (vals .i64 40 (sw (fun j => s j + g j) s n)).setIfInBounds n (.int .i64 ((v : Nat) : Int)) = vals .i64 40 (fun i => s i + dg1 g n i) := by
  subst hv
  rw [vals_set]
  refine vals_congr _ _ _ _ fun j _ => ?_
  show (if j = n then s n + 1 else sw (fun j => s j + g j) s n j) = s j + dg1 g n j
  unfold sw dg1
  by_cases h : j = n
  · subst h; rw [if_pos rfl, if_neg (by omega), if_pos rfl]
  · rw [if_neg h]
    by_cases h2 : j < n
    · rw [if_pos h2, if_pos h2]
    · rw [if_neg h2, if_neg h2, if_neg h]; rfl
/-- c bytes of n are reckoned to S, m are left. -/
structure RtI (u : World) (g : Nat → Nat) (r n : Nat) (A : Option Addr) (m cc S c : Nat) : Prop where
  sum : c + m = n
  room : m ≤ cc
  rd : Rd u A m (fun j => g (c + j))
  lt : S < pP
  val : (∃ K, c = 16 * K ∧ S = fx r g K) ∨ (m = 0 ∧ S = px r g n)
theorem RtI.start {u : World} {g : Nat → Nat} {r n : Nat} {A : Option Addr} {cc : Nat} (hc : n ≤ cc) (hR : Rd u A n g) : RtI u g r n A n cc 0 0 :=
  ⟨Nat.zero_add n, hc, hR.congr fun j _ => by rw [Nat.zero_add], by decide, Or.inl ⟨0, rfl, rfl⟩⟩
theorem RtI.next {u : World} {g : Nat → Nat} {r n : Nat} {A : Option Addr} {m cc S c : Nat} (h : RtI u g r n A m cc S c) (h0 : 0 < m) (q : Nat) (hq : (16 ≤ m ∧ q = 16) ∨ (m < 16 ∧ q = m)) : RtI u g r n (cutA A q cc) (m - q) (cc - q) ((S + (nb (fun j => g (c + j)) q + 2 ^ (8 * q))) % pP * r % pP) (c + q) := by
  have hs := h.sum
  have hr := h.room
  have hqm : q ≤ m := by omega
  refine ⟨by omega, by omega, ?_, Nat.mod_lt _ (by decide), ?_⟩
  · refine (h.rd.cut q cc hr).congr fun j _ => by rw [Nat.add_assoc]
  · rcases h.val with ⟨K, hK, hS⟩ | ⟨hm, _⟩
    · rcases hq with ⟨h1, rfl⟩ | ⟨h1, rfl⟩
      · refine Or.inl ⟨K + 1, by omega, ?_⟩
        rw [hS, hK, fx, bl, show 8 * 16 = 128 from rfl]
      · refine Or.inr ⟨by omega, ?_⟩
        have e1 : n / 16 = K := by omega
        have e2 : n % 16 = q := by omega
        unfold px en
        rw [e1, e2, if_neg (by omega), hS, hK]
    · omega
theorem RtI.done {u : World} {g : Nat → Nat} {r n : Nat} {A : Option Addr} {cc S c : Nat} (h : RtI u g r n A 0 cc S c) : S = px r g n := by
  have hs := h.sum
  rcases h.val with ⟨K, hK, hS⟩ | ⟨_, hS⟩
  · unfold px
    rw [if_pos (by omega), show n / 16 = K by omega]
    exact hS
  · exact hS
theorem nb_top (s key : Nat → Nat) : nb (fun i => if i < 16 then s i + key (16 + i) else s i) 40 = nb s 40 + sk16 key := by
  have e : (fun i => if i < 16 then s i + key (16 + i) else s i) = fun i => s i + (if i < 16 then key (16 + i) else 0) := funext fun i => by split <;> rfl
  have h := nb_short (fun i => if i < 16 then key (16 + i) else 0) 16 24 fun i hi _ => if_neg (by omega)
  have h2 : nb (fun i => if i < 16 then key (16 + i) else 0) 40 = sk16 key := h.trans (nb_congr _ _ 16 fun j hj => if_pos hj)
  rw [e, nb_add, h2]
theorem top_row (s key : Nat → Nat) : vals .i64 40 (sw (fun i => s i + key (16 + i)) s 16) = vals .i64 40 (fun i => if i < 16 then s i + key (16 + i) else s i) := rfl
theorem byt_row0 : vals .i64 40 (fun _ => 0) = vals .i64 40 (byt 0) := vals_congr _ _ _ _ fun j _ => (by unfold byt; simp)
theorem nb_self (S : Nat) (h : S < 2 ^ 160) : nb (byt S) 20 = S := by rw [nb_byt]; exact Nat.mod_eq_of_lt h
theorem b_c35E {ρ : Operand → Value} {o : Oper} {x : Operand} {k : Nat} (hk : k < 256) (w : World) (ho : o.op = .convert 3 5 x := by rfl) (hx : ρ x = Nv .i64 k := by kernel_rfl) : (execOp ρ o).run Tryd.prog w = .ok (.value (Nv .u8 k)) w := b_c35 hk w ho hx
set_option maxHeartbeats 16000000 in
theorem rtag_c (key : Nat → Nat) (hk : ∀ i, key i < 256) (S : Option Addr) (n c : Nat) (g : Nat → Nat) (hg : ∀ i, g i < 256) (hc : n ≤ c) (w : World) (hS : Rd w S n g) : Ret 25 #[A (vals .u8 32 key), .slice S n c] w (A (vals .u8 16 (tg key g n))) := by
  obtain ⟨r, hr⟩ : ∃ r, Hid (nb (cl key) 16 = r) := ⟨_, hide rfl⟩
  have hrl : r < 2 ^ 124 := hr.out ▸ cl_top key hk
  have HRt : Hid (RtI w g r n S n c 0 0) := hide (RtI.start hc hS)
  have HRe : Hid (vals .i64 40 (rk key 19 16) = vals .i64 40 (byt r)) := hide (hr.out ▸ rk_end key hk)
  have HTg : Hid (vals .u8 16 (byt (px r g n + sk16 key)) = vals .u8 16 (tg key g n)) := hide (vals_congr _ _ _ _ fun i hi => by rw [tg_px key g n i hk hg hi, hr.out])
  have HMo : Hid (∀ (Z q c : Nat) (w1 : World), Z < pP → q ≤ 16 → Ret 39 #[A (vals .i64 40 (fun i => byt Z i + dg1 (fun j => g (c + j)) q i))] w1 (A (vals .i64 40 (byt ((Z + (nb (fun j => g (c + j)) q + 2 ^ (8 * q))) % pP))))) := hide fun Z q c w1 hZ hq => by
    have hzp : Z < 2 ^ 130 := Nat.lt_trans hZ (by decide)
    have h1 := nb_lt (fun j => g (c + j)) (fun _ => hg _) q
    have h2 : 2 ^ (8 * q) ≤ 2 ^ 128 := Nat.pow_le_pow_right (by omega) (by omega)
    refine modulo_c _ (fun i => ?_) _ ?_ (by omega) w1
    · have h3 := byt_lt Z i
      show byt Z i + dg1 (fun j => g (c + j)) q i ≤ 255 * 2 ^ 30
      unfold dg1
      have h4 : (fun j => g (c + j)) i < 256 := hg _
      split
      · omega
      · split <;> omega
    · rw [nb_add, nb_byt, dg1_nb40 _ q (by omega), Nat.mod_eq_of_lt (by omega : Z < 2 ^ (8 * 40))]
  have HTi : Hid (∀ (Z : Nat) (w1 : World), Z < pP → Ret 38 #[A (vals .i64 40 (byt Z)), A (vals .i64 40 (byt r))] w1 (A (vals .i64 40 (byt (Z * r % pP))))) := hide fun Z w1 hZ => by
    have hzp : Z < 2 ^ 130 := Nat.lt_trans hZ (by decide)
    have e1 := nb_self Z (by omega)
    have e2 := nb_self r (by omega)
    have h3 : Z * r < 2 ^ 130 * 2 ^ 124 := Nat.mul_lt_mul'' hzp hrl
    have := rtimes_c (byt Z) (byt r) (byt_lt Z) (byt_lt r) (Z * r % pP) (by rw [e1, e2]) (by rw [e1, e2]; omega) w1
    exact this
  have HCa : Hid (∀ (Z : Nat) (w1 : World), Z < pP → Ret 40 #[A (vals .i64 40 (fun i => if i < 16 then byt Z i + key (16 + i) else byt Z i))] w1 (A (vals .i64 40 (byt (Z + sk16 key))))) := hide fun Z w1 hZ => by
    have hzp : Z < 2 ^ 130 := Nat.lt_trans hZ (by decide)
    refine carried_c _ (fun i => ?_) _ (by rw [nb_top, nb_byt, Nat.mod_eq_of_lt (by omega : Z < 2 ^ (8 * 40))]) w1
    have h3 := byt_lt Z i
    have h4 := hk (16 + i)
    show (if i < 16 then byt Z i + key (16 + i) else byt Z i) ≤ 255 * 2 ^ 30
    split <;> omega
  rw [← HTg.out]
  clear hr hrl HTg hS
  go_enter Tryd.func25, Tryd.ntmps25
  have hO := Own.start w
  go_upto_region 0 with (fail)
  refine Rg.ps [0, 1] (fun ν => [(2, D (ν 0)), (4, D (ν 1))]) (OI w (fun s ν => [[], [((ν 0), vals .u8 32 key, 23)], [((ν 0), vals .u8 32 key, 23), ((ν 1), vals .u8 16 (fun _ => 0), 35)]].getD s [])) (fun _ => 0) hO (Rg.ac (sn 0 (fun _ => vals .u8 32 key) 23 (fun _ w => run_box 23 _ rfl _ (by kernel_rfl) w) (fun _ => fit_b32 _)) (Rg.ac (sn 1 (fun _ => vals .u8 16 (fun _ => 0)) 35 (fun _ w => al_b16 rfl w) (fun _ => fit_b16 _)) Rg.an)) ?_
  intro ν w1 hO
  replace hO : Own w w1 [((ν 0), vals .u8 32 key, 23), ((ν 1), vals .u8 16 (fun _ => 0), 35)] := hO
  simp only [Rg.putL, Act.put, List.setIfInBounds_toArray, List.set_cons_succ, List.set_cons_zero]
  generalize ν 0 = n2 at hO ⊢
  generalize ν 1 = n4 at hO ⊢
  clear ν
  go_upto_region 1 with (fail)
  refine Rg.ps [1, 2] (fun ν => [(15, A (vals .i64 40 (fun _ => 0))), (5, D (ν 1))]) (OI w (fun s ν => [[(n2, vals .u8 32 key, 23), (n4, vals .u8 16 (fun _ => 0), 35)], [(n2, vals .u8 32 key, 23), (n4, vals .u8 16 (fun _ => 0), 35), ((ν 1), vals .i64 40 (fun _ => 0), 67)], [(n2, vals .u8 32 key, 23), (n4, vals .u8 16 (fun _ => 0), 35), ((ν 1), vals .i64 40 (fun _ => 0), 67)]].getD s [])) (fun _ => 0) hO (Rg.ac (nx (fun _ => A (vals .i64 40 (fun _ => 0))) (fun _ w => run_bd 67 _ rfl [] (by kernel_rfl) _ bd_n40 w)) (Rg.ac (sn 0 (fun _ => vals .i64 40 (fun _ => 0)) 67 (fun _ w => al_n40 rfl w) (fun _ => fit_n40 _)) (Rg.ac (sr 1 2 (fun _ => vals .i64 40 (fun _ => 0)) (fun _ => fit_n40 _)) Rg.an))) ?_
  intro ν w2 hO
  replace hO : Own w w2 [(n2, vals .u8 32 key, 23), (n4, vals .u8 16 (fun _ => 0), 35), ((ν 1), vals .i64 40 (fun _ => 0), 67)] := hO
  simp only [Rg.putL, Act.put, List.setIfInBounds_toArray, List.set_cons_succ, List.set_cons_zero]
  generalize ν 1 = n5 at hO ⊢
  clear ν
  have HO : Hid (Own w w2 [(n2, vals .u8 32 key, 23), (n4, vals .u8 16 (fun _ => 0), 35), (n5, vals .i64 40 (sw key (fun _ => 0) 0), 67)]) := hide (by rw [sw_zero]; exact hO)
  clear hO
  go_wp2_with (fail)
  go_loopw [6] (fun x6 wr => ∃ k : Nat, k ≤ 16 ∧ x6 = .int .i64 k ∧ Own w wr [(n2, vals .u8 32 key, 23), (n4, vals .u8 16 (fun _ => 0), 35), (n5, vals .i64 40 (sw key (fun _ => 0) k), 67)]) (fun x6 _ => 16 - (intOf x6).toNat)
  case atStart => exact ⟨0, Nat.zero_le _, rfl, HO.out⟩
  case round =>
    clear HO
    obtain ⟨k, hk9, rfl, hO⟩ := hrel
    by_cases hlt : k < 16
    · have hq0 : (0 : Int) ≤ (k : Int) := Int.natCast_nonneg k
      have hq1 : (k : Int) < 16 := by omega
      have hw1 := wr1 k (by omega)
      have hw0 := wr0 k (by omega)
      have hk32 : k < 32 := by omega
      have hk40 : k < 40 := by omega
      go_upto_region 5 with (fail)
      refine Rg.ps [6] (fun _ => [(20, Nv .i64 k), (21, Nv .i64 k), (22, E n2 k), (23, Nv .u8 (key k)), (24, Nv .i64 (key k)), (25, E n5 k)]) (OI w (fun s ν => [[(n2, vals .u8 32 key, 23), (n4, vals .u8 16 (fun _ => 0), 35), (n5, vals .i64 40 (sw key (fun _ => 0) k), 67)], [(n2, vals .u8 32 key, 23), (n4, vals .u8 16 (fun _ => 0), 35), (n5, vals .i64 40 (sw key (fun _ => 0) (k + 1)), 67)]].getD s [])) (fun _ => 0) hO (Rg.ac nv (Rg.ac nv (Rg.ac (nx (fun _ => E n2 k) (fun _ w => b_ia_b32 hk32 w)) (Rg.ac (nc 0 0 0 (fun _ => k) (fun _ => Nv .u8 (key k)) agg_u8 (fun _ => vals_get _ _ _ _ hk32) (at1 0 fun _ => by kernel_rfl)) (Rg.ac (nx (fun _ => Nv .i64 (key k)) (fun _ w => b_c53 (hk k) w)) (Rg.ac (nx (fun _ => E n5 k) (fun _ w => b_ia_n40 hk40 w)) (Rg.ac (sl 0 2 (fun _ => k) (fun _ => Nv .i64 0) (fun _ => ((key k : Nat) : Int)) sz_int (fun _ => (vals_get _ _ _ _ hk40).trans (by rw [sw_here])) (fun _ => sw_set _ _ _ _ _ _ rfl) (fun _ => fit_n40 _)) Rg.an))))))) ?_
      intro ν w3 hO
      replace hO : Own w w3 [(n2, vals .u8 32 key, 23), (n4, vals .u8 16 (fun _ => 0), 35), (n5, vals .i64 40 (sw key (fun _ => 0) (k + 1)), 67)] := hO
      simp only [Rg.putL, Act.put, List.setIfInBounds_toArray, List.set_cons_succ, List.set_cons_zero]
      clear ν
      have HO2 : Hid (Own w w3 [(n2, vals .u8 32 key, 23), (n4, vals .u8 16 (fun _ => 0), 35), (n5, vals .i64 40 (sw key (fun _ => 0) (k + 1)), 67)]) := hide hO
      clear hO
      go_wp2_with (fail)
      go_roundw
      case rel => exact ⟨k + 1, hlt, in_succ k, HO2.out⟩
      case measure => exact ms_lt hlt
    · have ek : k = 16 := by omega
      subst ek
      clear hlt hk9
      rw [rk_zero] at hO
      have HO : Hid (Own w wr [(n2, vals .u8 32 key, 23), (n4, vals .u8 16 (fun _ => 0), 35), (n5, vals .i64 40 (rk key 3 4), 67)]) := hide hO
      clear hO
      go_wp2_with (fail)
      go_loopw [7] (fun x7 wr => ∃ i : Nat, i < 20 ∧ i % 4 = 3 ∧ x7 = .int .i64 i ∧ Own w wr [(n2, vals .u8 32 key, 23), (n4, vals .u8 16 (fun _ => 0), 35), (n5, vals .i64 40 (rk key i 4), 67)]) (fun x7 _ => 16 - (intOf x7).toNat)
      case atStart => exact ⟨3, by decide, by decide, rfl, HO.out⟩
      case round =>
        clear HO
        obtain ⟨i, hi20, hcnd, rfl, hO⟩ := hrel
        by_cases hlt : i < 16
        · have hq0 : (0 : Int) ≤ (i : Int) := Int.natCast_nonneg i
          have hq1 : (i : Int) < 16 := by omega
          have hw1 := wa1 i (by omega)
          have hw0 := wa0 i (by omega)
          have hi40 : i < 40 := by omega
          have hk40 : key i < 2 ^ 40 := Nat.lt_trans (hk i) (by decide)
          go_upto_region 9 with (fail)
          refine Rg.ps [6] (fun _ => [(30, Nv .i64 i), (31, Nv .i64 i), (32, E n5 i), (33, Nv .i64 (key i)), (34, Nv .i64 (key i % 16)), (35, E n5 i)]) (OI w (fun s ν => [[(n2, vals .u8 32 key, 23), (n4, vals .u8 16 (fun _ => 0), 35), (n5, vals .i64 40 (rk key i 4), 67)], [(n2, vals .u8 32 key, 23), (n4, vals .u8 16 (fun _ => 0), 35), (n5, vals .i64 40 (rk key (i + 4) 4), 67)]].getD s [])) (fun _ => 0) hO (Rg.ac nv (Rg.ac nv (Rg.ac (nx (fun _ => E n5 i) (fun _ w => b_ia_n40 hi40 w)) (Rg.ac (nc 0 0 2 (fun _ => i) (fun _ => Nv .i64 (key i)) agg_int (fun _ => (vals_get _ _ _ _ hi40).trans (by rw [rk_3 key i hcnd hlt])) (at1 0 fun _ => by kernel_rfl)) (Rg.ac (nx (fun _ => Nv .i64 (key i % 16)) (fun _ w => b_rem16 w)) (Rg.ac (nx (fun _ => E n5 i) (fun _ w => b_ia_n40 hi40 w)) (Rg.ac (sl 0 2 (fun _ => i) (fun _ => Nv .i64 (rk key i 4 i)) (fun _ => ((key i % 16 : Nat) : Int)) sz_int (fun _ => vals_get _ _ _ _ hi40) (fun _ => rk_set3 key i _ hcnd hlt rfl) (fun _ => fit_n40 _)) Rg.an))))))) ?_
          intro ν w4 hO
          replace hO : Own w w4 [(n2, vals .u8 32 key, 23), (n4, vals .u8 16 (fun _ => 0), 35), (n5, vals .i64 40 (rk key (i + 4) 4), 67)] := hO
          simp only [Rg.putL, Act.put, List.setIfInBounds_toArray, List.set_cons_succ, List.set_cons_zero]
          clear ν
          have HO2 : Hid (Own w w4 [(n2, vals .u8 32 key, 23), (n4, vals .u8 16 (fun _ => 0), 35), (n5, vals .i64 40 (rk key (i + 4) 4), 67)]) := hide hO
          clear hO
          go_wp2_with (fail)
          go_roundw
          case rel => exact ⟨i + 4, by omega, by omega, in_add4 i, HO2.out⟩
          case measure => exact ms_add4 hlt
        · have hq1 : ¬ (i : Int) < 16 := by omega
          have hi19 : i = 19 := by omega
          rw [hi19] at hO
          clear hlt hcnd hi20 hi19
          have HO : Hid (Own w wr [(n2, vals .u8 32 key, 23), (n4, vals .u8 16 (fun _ => 0), 35), (n5, vals .i64 40 (rk key 19 4), 67)]) := hide hO
          clear hO
          go_wp2_with (fail)
          go_loopw [8] (fun x8 wr => ∃ i : Nat, i < 20 ∧ (i % 4 = 0 ∧ 0 < i) ∧ x8 = .int .i64 i ∧ Own w wr [(n2, vals .u8 32 key, 23), (n4, vals .u8 16 (fun _ => 0), 35), (n5, vals .i64 40 (rk key 19 i), 67)]) (fun x8 _ => 16 - (intOf x8).toNat)
          case atStart => exact ⟨4, by decide, by decide, rfl, HO.out⟩
          case round =>
            clear HO
            obtain ⟨i, hi20, hcnd, rfl, hO⟩ := hrel
            by_cases hlt : i < 16
            · have hq0 : (0 : Int) ≤ (i : Int) := Int.natCast_nonneg i
              have hq1 : (i : Int) < 16 := by omega
              have hw1 := wa1 i (by omega)
              have hw0 := wa0 i (by omega)
              have hi40 : i < 40 := by omega
              have hk40 : key i < 2 ^ 40 := Nat.lt_trans (hk i) (by decide)
              have hle : key i % 4 ≤ key i := Nat.mod_le _ _
              go_upto_region 13 with (fail)
              refine Rg.pd [10] (fun _ => [(40, Nv .i64 i), (41, Nv .i64 i), (42, E n5 i), (43, Nv .i64 (key i)), (44, Nv .i64 i), (45, E n5 i), (46, Nv .i64 (key i)), (47, Nv .i64 (key i % 4)), (48, Nv .i64 (key i - key i % 4)), (49, E n5 i)]) (OI w (fun s ν => [[(n2, vals .u8 32 key, 23), (n4, vals .u8 16 (fun _ => 0), 35), (n5, vals .i64 40 (rk key 19 i), 67)], [(n2, vals .u8 32 key, 23), (n4, vals .u8 16 (fun _ => 0), 35), (n5, vals .i64 40 (rk key 19 (i + 4)), 67)]].getD s [])) (fun _ => 0) hO.drew (Rg.ac nv (Rg.ac nv (Rg.ac (nx (fun _ => E n5 i) (fun _ w => b_ia_n40 hi40 w)) (Rg.ac (nc 0 0 2 (fun _ => i) (fun _ => Nv .i64 (key i)) agg_int (fun _ => (vals_get _ _ _ _ hi40).trans (by rw [rk_0 key i hcnd.1 hlt])) (at1 0 fun _ => by kernel_rfl)) (Rg.ac nv (Rg.ac (nx (fun _ => E n5 i) (fun _ w => b_ia_n40 hi40 w)) (Rg.ac (nc 0 0 2 (fun _ => i) (fun _ => Nv .i64 (key i)) agg_int (fun _ => (vals_get _ _ _ _ hi40).trans (by rw [rk_0 key i hcnd.1 hlt])) (at1 0 fun _ => by kernel_rfl)) (Rg.ac (nx (fun _ => Nv .i64 (key i % 4)) (fun _ w => b_rem4 w)) (Rg.ac (nx (fun _ => Nv .i64 (key i - key i % 4)) (fun _ w => b_sub hk40 hle w)) (Rg.ac (nx (fun _ => E n5 i) (fun _ w => b_ia_n40 hi40 w)) (Rg.ac (sl 0 2 (fun _ => i) (fun _ => Nv .i64 (rk key 19 i i)) (fun _ => ((key i - key i % 4 : Nat) : Int)) sz_int (fun _ => vals_get _ _ _ _ hi40) (fun _ => rk_set0 key i _ hcnd.1 hcnd.2 hlt rfl) (fun _ => fit_n40 _)) Rg.an))))))))))) ?_
              intro ν w5 hO
              replace hO : Own w w5 [(n2, vals .u8 32 key, 23), (n4, vals .u8 16 (fun _ => 0), 35), (n5, vals .i64 40 (rk key 19 (i + 4)), 67)] := hO
              simp only [Rg.putL, Act.put, List.setIfInBounds_toArray, List.set_cons_succ, List.set_cons_zero]
              clear ν
              have HO2 : Hid (Own w w5 [(n2, vals .u8 32 key, 23), (n4, vals .u8 16 (fun _ => 0), 35), (n5, vals .i64 40 (rk key 19 (i + 4)), 67)]) := hide hO
              clear hO
              go_wp2_with (fail)
              go_roundw
              case rel => exact ⟨i + 4, by omega, by omega, in_add4 i, HO2.out⟩
              case measure => exact ms_add4 hlt
            · have hq1 : ¬ (i : Int) < 16 := by omega
              have hi16 : i = 16 := by omega
              rw [hi16, HRe.out] at hO
              clear hlt hcnd hi20 hi16
              go_upto_region 14 with (fail)
              refine Rg.ps [1, 2] (fun ν => [(50, A (vals .i64 40 (fun _ => 0))), (9, D (ν 1))]) (OI w (fun s ν => [[(n2, vals .u8 32 key, 23), (n4, vals .u8 16 (fun _ => 0), 35), (n5, vals .i64 40 (byt r), 67)], [(n2, vals .u8 32 key, 23), (n4, vals .u8 16 (fun _ => 0), 35), (n5, vals .i64 40 (byt r), 67), ((ν 1), vals .i64 40 (fun _ => 0), 67)], [(n2, vals .u8 32 key, 23), (n4, vals .u8 16 (fun _ => 0), 35), (n5, vals .i64 40 (byt r), 67), ((ν 1), vals .i64 40 (fun _ => 0), 67)]].getD s [])) (fun _ => 0) hO (Rg.ac (nx (fun _ => A (vals .i64 40 (fun _ => 0))) (fun _ w => run_bd 67 _ rfl [] (by kernel_rfl) _ bd_n40 w)) (Rg.ac (sn 0 (fun _ => vals .i64 40 (fun _ => 0)) 67 (fun _ w => al_n40 rfl w) (fun _ => fit_n40 _)) (Rg.ac (sr 1 3 (fun _ => vals .i64 40 (fun _ => 0)) (fun _ => fit_n40 _)) Rg.an))) ?_
              intro ν w6 hO
              replace hO : Own w w6 [(n2, vals .u8 32 key, 23), (n4, vals .u8 16 (fun _ => 0), 35), (n5, vals .i64 40 (byt r), 67), ((ν 1), vals .i64 40 (fun _ => 0), 67)] := hO
              simp only [Rg.putL, Act.put, List.setIfInBounds_toArray, List.set_cons_succ, List.set_cons_zero]
              generalize ν 1 = n9 at hO ⊢
              clear ν
              have HO : Hid (Own w w6 [(n2, vals .u8 32 key, 23), (n4, vals .u8 16 (fun _ => 0), 35), (n5, vals .i64 40 (byt r), 67), (n9, vals .i64 40 (byt 0), 67)]) := hide (by rw [← byt_row0]; exact hO)
              clear hO hq1
              go_wp2_with (fail)
              go_loopw [1] (fun x1 wr => ∃ (A1 : Option Addr) (m cc Z c1 : Nat), x1 = .slice A1 m cc ∧ RtI w g r n A1 m cc Z c1 ∧ Own w wr [(n2, vals .u8 32 key, 23), (n4, vals .u8 16 (fun _ => 0), 35), (n5, vals .i64 40 (byt r), 67), (n9, vals .i64 40 (byt Z), 67)]) (fun x1 _ => slen x1)
              case atStart => exact ⟨S, n, c, 0, 0, rfl, HRt.out, HO.out⟩
              case round =>
                clear HO HRt
                obtain ⟨A1, m, cc, Z, c1, rfl, hI, hO⟩ := hrel
                have HI := hide hI
                have hZl := hI.lt
                clear hI
                by_cases hm0 : 0 < m
                · have hp : (0 : Int) < (m : Int) := by omega
                  obtain ⟨gg, hgg⟩ : ∃ gg, Hid ((fun j => g (c1 + j)) = gg) := ⟨_, hide rfl⟩
                  have hggl : ∀ i, gg i < 256 := fun i => by rw [← hgg.out]; exact hg _
                  have hRd : Hid (Rd w A1 m gg) := hide (hgg.out ▸ HI.out.rd)
                  by_cases h16 : 16 < m
                  · have hX := hide h16
                    have hq16 : (16 : Int) < (m : Int) := by omega
                    have hqq : (16 ≤ m ∧ 16 = 16) ∨ (m < 16 ∧ 16 = m) := by omega
                    have hq16' : 16 ≤ 16 := by omega
                    have hqm : 16 ≤ m := by omega
                    have HN := hide (HI.out.next hm0 16 hqq)
                    rw [hgg.out] at HN
                    obtain ⟨Y, hY⟩ : ∃ Y, Hid ((Z + (nb gg 16 + 2 ^ (8 * 16))) % pP = Y) := ⟨_, hide rfl⟩
                    obtain ⟨Y2, hY2⟩ : ∃ Y2, Hid (Y * r % pP = Y2) := ⟨_, hide rfl⟩
                    rw [hY.out, hY2.out] at HN
                    obtain ⟨sd, hsd⟩ : ∃ sd, Hid ((fun i => byt Z i + dg1 gg 16 i) = sd) := ⟨_, hide rfl⟩
                    have HM1 : Hid (∀ w1 : World, Ret 39 #[A (vals .i64 40 sd)] w1 (A (vals .i64 40 (byt Y)))) := hide fun w1 => by
                      have := HMo.out Z 16 c1 w1 hZl hq16'
                      rw [hgg.out, hY.out, hsd.out] at this
                      exact this
                    have HT1 : Hid (∀ w1 : World, Ret 38 #[A (vals .i64 40 (byt Y)), A (vals .i64 40 (byt r))] w1 (A (vals .i64 40 (byt Y2)))) := hide fun w1 => by
                      have := HTi.out Y w1 (by rw [← hY.out]; exact Nat.mod_lt _ (by decide))
                      rw [hY2.out] at this
                      exact this
                    clear hqq h16
                    have HOi : Hid (Own w wr [(n2, vals .u8 32 key, 23), (n4, vals .u8 16 (fun _ => 0), 35), (n5, vals .i64 40 (byt r), 67), (n9, vals .i64 40 (sw (fun i => byt Z i + gg i) (byt Z) 0), 67)]) := hide (by rw [sw_zero]; exact hO)
                    clear hO
                    go_wp2_with (fail)
                    go_loopw [11] (fun x11 wr => ∃ i : Nat, i ≤ 16 ∧ x11 = .int .i64 i ∧ Own w wr [(n2, vals .u8 32 key, 23), (n4, vals .u8 16 (fun _ => 0), 35), (n5, vals .i64 40 (byt r), 67), (n9, vals .i64 40 (sw (fun i => byt Z i + gg i) (byt Z) i), 67)]) (fun x11 _ => 16 - (intOf x11).toNat)
                    case atStart => exact ⟨0, Nat.zero_le _, rfl, HOi.out⟩
                    case round =>
                      clear HOi
                      obtain ⟨i, hi9, rfl, hO⟩ := hrel
                      by_cases hlti : i < 16
                      · have hp0 : (0 : Int) ≤ (i : Int) := Int.natCast_nonneg i
                        have hp1 : (i : Int) < 16 := by omega
                        have hv1 := wr1 i (by omega)
                        have hv0 := wr0 i (by omega)
                        obtain ⟨a, rfl, hcx⟩ := hRd.out.cell (show i < m by omega)
                        have hi40 : i < 40 := by omega
                        have hil : i < m := by omega
                        have hb1 : byt Z i < 2 ^ 40 := Nat.lt_trans (byt_lt _ _) (by decide)
                        have hb2 : gg i < 2 ^ 40 := Nat.lt_trans (hggl i) (by decide)
                        go_upto_region 22 with (fail)
                        refine Rg.pd [11] (fun _ => [(63, Nv .i64 i), (64, Nv .i64 i), (65, E n9 i), (66, Nv .i64 (byt Z i)), (67, .slice (some a) m cc), (68, Nv .i64 i), (69, .pointer (some (a.add i))), (70, Nv .u8 (gg i)), (71, Nv .i64 (gg i)), (72, Nv .i64 (byt Z i + gg i)), (73, E n9 i)]) (OI w (fun s ν => [[(n2, vals .u8 32 key, 23), (n4, vals .u8 16 (fun _ => 0), 35), (n5, vals .i64 40 (byt r), 67), (n9, vals .i64 40 (sw (fun i => byt Z i + gg i) (byt Z) i), 67)], [(n2, vals .u8 32 key, 23), (n4, vals .u8 16 (fun _ => 0), 35), (n5, vals .i64 40 (byt r), 67), (n9, vals .i64 40 (sw (fun i => byt Z i + gg i) (byt Z) (i + 1)), 67)]].getD s [])) (fun _ => 0) hO.drew (Rg.ac nv (Rg.ac nv (Rg.ac (nx (fun _ => E n9 i) (fun _ w => b_ia_n40 hi40 w)) (Rg.ac (nc 0 0 3 (fun _ => i) (fun _ => Nv .i64 (byt Z i)) agg_int (fun _ => (vals_get _ _ _ _ hi40).trans (by rw [sw_here])) (at1 0 fun _ => by kernel_rfl)) (Rg.ac nv (Rg.ac nv (Rg.ac (nx (fun _ => .pointer (some (a.add i))) (fun _ w => b_iaA (c := cc) hil w)) (Rg.ac (nca (Nv .u8 (gg i)) hcx agg_u8) (Rg.ac (nx (fun _ => Nv .i64 (gg i)) (fun _ w => b_c53 (hggl i) w)) (Rg.ac (nx (fun _ => Nv .i64 (byt Z i + gg i)) (fun _ w => b_add hb1 hb2 w)) (Rg.ac (nx (fun _ => E n9 i) (fun _ w => b_ia_n40 hi40 w)) (Rg.ac (sl 0 3 (fun _ => i) (fun _ => Nv .i64 (byt Z i)) (fun _ => ((byt Z i + gg i : Nat) : Int)) sz_int (fun _ => (vals_get _ _ _ _ hi40).trans (by rw [sw_here])) (fun _ => sw_set _ _ (fun i => byt Z i + gg i) _ _ _ rfl) (fun _ => fit_n40 _)) Rg.an)))))))))))) ?_
                        intro ν w7 hO
                        replace hO : Own w w7 [(n2, vals .u8 32 key, 23), (n4, vals .u8 16 (fun _ => 0), 35), (n5, vals .i64 40 (byt r), 67), (n9, vals .i64 40 (sw (fun i => byt Z i + gg i) (byt Z) (i + 1)), 67)] := hO
                        simp only [Rg.putL, Act.put, List.setIfInBounds_toArray, List.set_cons_succ, List.set_cons_zero]
                        clear ν
                        have HO2 := hide hO
                        clear hO
                        go_wp2_with (fail)
                        go_roundw
                        case rel => exact ⟨i + 1, hlti, in_succ i, HO2.out⟩
                        case measure => exact ms_lt hlti
                      · have ei : i = 16 := by omega
                        subst ei
                        clear hlti hi9
                        have hq40 : 16 < 40 := by omega
                        have hb1 : byt Z 16 < 2 ^ 40 := Nat.lt_trans (byt_lt _ _) (by decide)
                        have h140 : 1 < 2 ^ 40 := by decide
                        have Hse : Hid ((vals .i64 40 (sw (fun i => byt Z i + gg i) (byt Z) 16)).setIfInBounds 16 (.int .i64 ((byt Z 16 + 1 : Nat) : Int)) = vals .i64 40 sd) := hide ((sum_set40 (byt Z) gg 16 _ rfl).trans (by rw [hsd.out]))
                        go_upto_region 23 with (fail)
                        refine Rg.ps [6] (fun _ => [(74, Nv .i64 16), (75, Nv .i64 16), (76, E n9 16), (77, Nv .i64 (byt Z 16)), (78, Nv .i64 (byt Z 16 + 1)), (79, E n9 16)]) (OI w (fun s ν => [[(n2, vals .u8 32 key, 23), (n4, vals .u8 16 (fun _ => 0), 35), (n5, vals .i64 40 (byt r), 67), (n9, vals .i64 40 (sw (fun i => byt Z i + gg i) (byt Z) 16), 67)], [(n2, vals .u8 32 key, 23), (n4, vals .u8 16 (fun _ => 0), 35), (n5, vals .i64 40 (byt r), 67), (n9, vals .i64 40 sd, 67)]].getD s [])) (fun _ => 0) hO (Rg.ac nv (Rg.ac nv (Rg.ac (nx (fun _ => E n9 16) (fun _ w => b_ia_n40 hq40 w)) (Rg.ac (nc 0 0 3 (fun _ => 16) (fun _ => Nv .i64 (byt Z 16)) agg_int (fun _ => (vals_get _ _ _ _ hq40).trans (by rw [sw_here])) (at1 0 fun _ => by kernel_rfl)) (Rg.ac (nx (fun _ => Nv .i64 (byt Z 16 + 1)) (fun _ w => b_add hb1 h140 w)) (Rg.ac (nx (fun _ => E n9 16) (fun _ w => b_ia_n40 hq40 w)) (Rg.ac (sl 0 3 (fun _ => 16) (fun _ => Nv .i64 (byt Z 16)) (fun _ => ((byt Z 16 + 1 : Nat) : Int)) sz_int (fun _ => (vals_get _ _ _ _ hq40).trans (by rw [sw_here])) (fun _ => Hse.out) (fun _ => fit_n40 _)) Rg.an))))))) ?_
                        intro ν w8 hO
                        replace hO : Own w w8 [(n2, vals .u8 32 key, 23), (n4, vals .u8 16 (fun _ => 0), 35), (n5, vals .i64 40 (byt r), 67), (n9, vals .i64 40 sd, 67)] := hO
                        simp only [Rg.putL, Act.put, List.setIfInBounds_toArray, List.set_cons_succ, List.set_cons_zero]
                        clear ν
                        go_upto_region 24 with (fail)
                        refine Rg.pd [1, 3, 4] (fun _ => [(80, A (vals .i64 40 sd)), (81, A (vals .i64 40 (byt Y))), (82, A (vals .i64 40 (byt r))), (83, A (vals .i64 40 (byt Y2)))]) (OI w (fun s ν => [[(n2, vals .u8 32 key, 23), (n4, vals .u8 16 (fun _ => 0), 35), (n5, vals .i64 40 (byt r), 67), (n9, vals .i64 40 sd, 67)], [(n2, vals .u8 32 key, 23), (n4, vals .u8 16 (fun _ => 0), 35), (n5, vals .i64 40 (byt r), 67), (n9, vals .i64 40 sd, 67)], [(n2, vals .u8 32 key, 23), (n4, vals .u8 16 (fun _ => 0), 35), (n5, vals .i64 40 (byt r), 67), (n9, vals .i64 40 sd, 67)], [(n2, vals .u8 32 key, 23), (n4, vals .u8 16 (fun _ => 0), 35), (n5, vals .i64 40 (byt r), 67), (n9, vals .i64 40 (byt Y2), 67)]].getD s [])) (fun _ => 0) hO.drew (Rg.ac (nld 0 0 3 (at1 0 fun _ => by kernel_rfl) Tryd.underlying67) (Rg.ac (sc 0 39 (fun _ => #[A (vals .i64 40 sd)]) (fun _ => A (vals .i64 40 (byt Y))) (fun _ => HM1.out)) (Rg.ac (nld 0 1 2 (at2 0 1 (fun _ => by kernel_rfl) (at1 1 fun _ => by kernel_rfl)) Tryd.underlying67) (Rg.ac (sc 1 38 (fun _ => #[A (vals .i64 40 (byt Y)), A (vals .i64 40 (byt r))]) (fun _ => A (vals .i64 40 (byt Y2))) (fun _ => HT1.out)) (Rg.ac (sr 2 3 (fun _ => vals .i64 40 (byt Y2)) (fun _ => fit_n40 _)) Rg.an))))) ?_
                        intro ν w9 hO
                        replace hO : Own w w9 [(n2, vals .u8 32 key, 23), (n4, vals .u8 16 (fun _ => 0), 35), (n5, vals .i64 40 (byt r), 67), (n9, vals .i64 40 (byt Y2), 67)] := hO
                        simp only [Rg.putL, Act.put, List.setIfInBounds_toArray, List.set_cons_succ, List.set_cons_zero]
                        clear ν
                        go_upto_region 25 with (fail)
                        refine wp_region_list (WL.out ?_)
                        refine g_val (.slice A1 m cc) ?_
                        refine g_val (Nv .i64 16) ?_
                        refine g_run (.slice (cutA A1 16 cc) (m - 16) (cc - 16)) w9 (b_lo hqm w9) ?_
                        refine g_val (.slice (cutA A1 16 cc) (m - 16) (cc - 16)) ?_
                        refine g_nil ?_
                        simp only [Act.put, List.setIfInBounds_toArray, List.set_cons_succ, List.set_cons_zero]
                        have HO2 := hide hO
                        clear hO hq40 hb1 h140
                        go_wp2_with (fail)
                        go_roundw
                        case rel => exact ⟨_, _, _, Y2, _, rfl, HN.out, HO2.out⟩
                        case measure => show m - 16 < m; omega
                  · have hX := hide h16
                    have hq16 : ¬ (16 : Int) < (m : Int) := by omega
                    have hqq : (16 ≤ m ∧ m = 16) ∨ (m < 16 ∧ m = m) := by omega
                    have hq16' : m ≤ 16 := by omega
                    have hqm : m ≤ m := by omega
                    have HN := hide (HI.out.next hm0 m hqq)
                    rw [hgg.out] at HN
                    obtain ⟨Y, hY⟩ : ∃ Y, Hid ((Z + (nb gg m + 2 ^ (8 * m))) % pP = Y) := ⟨_, hide rfl⟩
                    obtain ⟨Y2, hY2⟩ : ∃ Y2, Hid (Y * r % pP = Y2) := ⟨_, hide rfl⟩
                    rw [hY.out, hY2.out] at HN
                    obtain ⟨sd, hsd⟩ : ∃ sd, Hid ((fun i => byt Z i + dg1 gg m i) = sd) := ⟨_, hide rfl⟩
                    have HM1 : Hid (∀ w1 : World, Ret 39 #[A (vals .i64 40 sd)] w1 (A (vals .i64 40 (byt Y)))) := hide fun w1 => by
                      have := HMo.out Z m c1 w1 hZl hq16'
                      rw [hgg.out, hY.out, hsd.out] at this
                      exact this
                    have HT1 : Hid (∀ w1 : World, Ret 38 #[A (vals .i64 40 (byt Y)), A (vals .i64 40 (byt r))] w1 (A (vals .i64 40 (byt Y2)))) := hide fun w1 => by
                      have := HTi.out Y w1 (by rw [← hY.out]; exact Nat.mod_lt _ (by decide))
                      rw [hY2.out] at this
                      exact this
                    clear hqq h16
                    have HOi : Hid (Own w wr [(n2, vals .u8 32 key, 23), (n4, vals .u8 16 (fun _ => 0), 35), (n5, vals .i64 40 (byt r), 67), (n9, vals .i64 40 (sw (fun i => byt Z i + gg i) (byt Z) 0), 67)]) := hide (by rw [sw_zero]; exact hO)
                    clear hO
                    go_wp2_with (fail)
                    go_loopw [11] (fun x11 wr => ∃ i : Nat, i ≤ m ∧ x11 = .int .i64 i ∧ Own w wr [(n2, vals .u8 32 key, 23), (n4, vals .u8 16 (fun _ => 0), 35), (n5, vals .i64 40 (byt r), 67), (n9, vals .i64 40 (sw (fun i => byt Z i + gg i) (byt Z) i), 67)]) (fun x11 _ => m - (intOf x11).toNat)
                    case atStart => exact ⟨0, Nat.zero_le _, rfl, HOi.out⟩
                    case round =>
                      clear HOi
                      obtain ⟨i, hi9, rfl, hO⟩ := hrel
                      by_cases hlti : i < m
                      · have hp0 : (0 : Int) ≤ (i : Int) := Int.natCast_nonneg i
                        have hp1 : (i : Int) < (m : Int) := by omega
                        have hv1 := wr1 i (by omega)
                        have hv0 := wr0 i (by omega)
                        obtain ⟨a, rfl, hcx⟩ := hRd.out.cell (show i < m by omega)
                        have hi40 : i < 40 := by omega
                        have hil : i < m := by omega
                        have hb1 : byt Z i < 2 ^ 40 := Nat.lt_trans (byt_lt _ _) (by decide)
                        have hb2 : gg i < 2 ^ 40 := Nat.lt_trans (hggl i) (by decide)
                        go_upto_region 22 with (fail)
                        refine Rg.pd [11] (fun _ => [(63, Nv .i64 i), (64, Nv .i64 i), (65, E n9 i), (66, Nv .i64 (byt Z i)), (67, .slice (some a) m cc), (68, Nv .i64 i), (69, .pointer (some (a.add i))), (70, Nv .u8 (gg i)), (71, Nv .i64 (gg i)), (72, Nv .i64 (byt Z i + gg i)), (73, E n9 i)]) (OI w (fun s ν => [[(n2, vals .u8 32 key, 23), (n4, vals .u8 16 (fun _ => 0), 35), (n5, vals .i64 40 (byt r), 67), (n9, vals .i64 40 (sw (fun i => byt Z i + gg i) (byt Z) i), 67)], [(n2, vals .u8 32 key, 23), (n4, vals .u8 16 (fun _ => 0), 35), (n5, vals .i64 40 (byt r), 67), (n9, vals .i64 40 (sw (fun i => byt Z i + gg i) (byt Z) (i + 1)), 67)]].getD s [])) (fun _ => 0) hO.drew (Rg.ac nv (Rg.ac nv (Rg.ac (nx (fun _ => E n9 i) (fun _ w => b_ia_n40 hi40 w)) (Rg.ac (nc 0 0 3 (fun _ => i) (fun _ => Nv .i64 (byt Z i)) agg_int (fun _ => (vals_get _ _ _ _ hi40).trans (by rw [sw_here])) (at1 0 fun _ => by kernel_rfl)) (Rg.ac nv (Rg.ac nv (Rg.ac (nx (fun _ => .pointer (some (a.add i))) (fun _ w => b_iaA (c := cc) hil w)) (Rg.ac (nca (Nv .u8 (gg i)) hcx agg_u8) (Rg.ac (nx (fun _ => Nv .i64 (gg i)) (fun _ w => b_c53 (hggl i) w)) (Rg.ac (nx (fun _ => Nv .i64 (byt Z i + gg i)) (fun _ w => b_add hb1 hb2 w)) (Rg.ac (nx (fun _ => E n9 i) (fun _ w => b_ia_n40 hi40 w)) (Rg.ac (sl 0 3 (fun _ => i) (fun _ => Nv .i64 (byt Z i)) (fun _ => ((byt Z i + gg i : Nat) : Int)) sz_int (fun _ => (vals_get _ _ _ _ hi40).trans (by rw [sw_here])) (fun _ => sw_set _ _ (fun i => byt Z i + gg i) _ _ _ rfl) (fun _ => fit_n40 _)) Rg.an)))))))))))) ?_
                        intro ν w10 hO
                        replace hO : Own w w10 [(n2, vals .u8 32 key, 23), (n4, vals .u8 16 (fun _ => 0), 35), (n5, vals .i64 40 (byt r), 67), (n9, vals .i64 40 (sw (fun i => byt Z i + gg i) (byt Z) (i + 1)), 67)] := hO
                        simp only [Rg.putL, Act.put, List.setIfInBounds_toArray, List.set_cons_succ, List.set_cons_zero]
                        clear ν
                        have HO2 := hide hO
                        clear hO
                        go_wp2_with (fail)
                        go_roundw
                        case rel => exact ⟨i + 1, hlti, in_succ i, HO2.out⟩
                        case measure => exact ms_lt hlti
                      · have ei : i = m := by omega
                        obtain rfl := ei
                        clear hlti hi9
                        have hq40 : i < 40 := by omega
                        have hb1 : byt Z i < 2 ^ 40 := Nat.lt_trans (byt_lt _ _) (by decide)
                        have h140 : 1 < 2 ^ 40 := by decide
                        have Hse : Hid ((vals .i64 40 (sw (fun i => byt Z i + gg i) (byt Z) i)).setIfInBounds i (.int .i64 ((byt Z i + 1 : Nat) : Int)) = vals .i64 40 sd) := hide ((sum_set40 (byt Z) gg i _ rfl).trans (by rw [hsd.out]))
                        go_upto_region 23 with (fail)
                        refine Rg.ps [6] (fun _ => [(74, Nv .i64 i), (75, Nv .i64 i), (76, E n9 i), (77, Nv .i64 (byt Z i)), (78, Nv .i64 (byt Z i + 1)), (79, E n9 i)]) (OI w (fun s ν => [[(n2, vals .u8 32 key, 23), (n4, vals .u8 16 (fun _ => 0), 35), (n5, vals .i64 40 (byt r), 67), (n9, vals .i64 40 (sw (fun i => byt Z i + gg i) (byt Z) i), 67)], [(n2, vals .u8 32 key, 23), (n4, vals .u8 16 (fun _ => 0), 35), (n5, vals .i64 40 (byt r), 67), (n9, vals .i64 40 sd, 67)]].getD s [])) (fun _ => 0) hO (Rg.ac nv (Rg.ac nv (Rg.ac (nx (fun _ => E n9 i) (fun _ w => b_ia_n40 hq40 w)) (Rg.ac (nc 0 0 3 (fun _ => i) (fun _ => Nv .i64 (byt Z i)) agg_int (fun _ => (vals_get _ _ _ _ hq40).trans (by rw [sw_here])) (at1 0 fun _ => by kernel_rfl)) (Rg.ac (nx (fun _ => Nv .i64 (byt Z i + 1)) (fun _ w => b_add hb1 h140 w)) (Rg.ac (nx (fun _ => E n9 i) (fun _ w => b_ia_n40 hq40 w)) (Rg.ac (sl 0 3 (fun _ => i) (fun _ => Nv .i64 (byt Z i)) (fun _ => ((byt Z i + 1 : Nat) : Int)) sz_int (fun _ => (vals_get _ _ _ _ hq40).trans (by rw [sw_here])) (fun _ => Hse.out) (fun _ => fit_n40 _)) Rg.an))))))) ?_
                        intro ν w11 hO
                        replace hO : Own w w11 [(n2, vals .u8 32 key, 23), (n4, vals .u8 16 (fun _ => 0), 35), (n5, vals .i64 40 (byt r), 67), (n9, vals .i64 40 sd, 67)] := hO
                        simp only [Rg.putL, Act.put, List.setIfInBounds_toArray, List.set_cons_succ, List.set_cons_zero]
                        clear ν
                        go_upto_region 24 with (fail)
                        refine Rg.pd [1, 3, 4] (fun _ => [(80, A (vals .i64 40 sd)), (81, A (vals .i64 40 (byt Y))), (82, A (vals .i64 40 (byt r))), (83, A (vals .i64 40 (byt Y2)))]) (OI w (fun s ν => [[(n2, vals .u8 32 key, 23), (n4, vals .u8 16 (fun _ => 0), 35), (n5, vals .i64 40 (byt r), 67), (n9, vals .i64 40 sd, 67)], [(n2, vals .u8 32 key, 23), (n4, vals .u8 16 (fun _ => 0), 35), (n5, vals .i64 40 (byt r), 67), (n9, vals .i64 40 sd, 67)], [(n2, vals .u8 32 key, 23), (n4, vals .u8 16 (fun _ => 0), 35), (n5, vals .i64 40 (byt r), 67), (n9, vals .i64 40 sd, 67)], [(n2, vals .u8 32 key, 23), (n4, vals .u8 16 (fun _ => 0), 35), (n5, vals .i64 40 (byt r), 67), (n9, vals .i64 40 (byt Y2), 67)]].getD s [])) (fun _ => 0) hO.drew (Rg.ac (nld 0 0 3 (at1 0 fun _ => by kernel_rfl) Tryd.underlying67) (Rg.ac (sc 0 39 (fun _ => #[A (vals .i64 40 sd)]) (fun _ => A (vals .i64 40 (byt Y))) (fun _ => HM1.out)) (Rg.ac (nld 0 1 2 (at2 0 1 (fun _ => by kernel_rfl) (at1 1 fun _ => by kernel_rfl)) Tryd.underlying67) (Rg.ac (sc 1 38 (fun _ => #[A (vals .i64 40 (byt Y)), A (vals .i64 40 (byt r))]) (fun _ => A (vals .i64 40 (byt Y2))) (fun _ => HT1.out)) (Rg.ac (sr 2 3 (fun _ => vals .i64 40 (byt Y2)) (fun _ => fit_n40 _)) Rg.an))))) ?_
                        intro ν w12 hO
                        replace hO : Own w w12 [(n2, vals .u8 32 key, 23), (n4, vals .u8 16 (fun _ => 0), 35), (n5, vals .i64 40 (byt r), 67), (n9, vals .i64 40 (byt Y2), 67)] := hO
                        simp only [Rg.putL, Act.put, List.setIfInBounds_toArray, List.set_cons_succ, List.set_cons_zero]
                        clear ν
                        go_upto_region 25 with (fail)
                        refine wp_region_list (WL.out ?_)
                        refine g_val (.slice A1 i cc) ?_
                        refine g_val (Nv .i64 i) ?_
                        refine g_run (.slice (cutA A1 i cc) (i - i) (cc - i)) w12 (b_lo hqm w12) ?_
                        refine g_val (.slice (cutA A1 i cc) (i - i) (cc - i)) ?_
                        refine g_nil ?_
                        simp only [Act.put, List.setIfInBounds_toArray, List.set_cons_succ, List.set_cons_zero]
                        have HO2 := hide hO
                        clear hO hq40 hb1 h140
                        go_wp2_with (fail)
                        go_roundw
                        case rel => exact ⟨_, _, _, Y2, _, rfl, HN.out, HO2.out⟩
                        case measure => show i - i < i; omega
                · obtain rfl : m = 0 := by omega
                  obtain rfl := HI.out.done
                  clear hm0 HI
                  obtain ⟨Z, hZ⟩ : ∃ Z, Hid (px r g n = Z) := ⟨_, hide rfl⟩
                  have HCb : Hid (∀ w1 : World, Ret 40 #[A (vals .i64 40 (fun i => if i < 16 then byt Z i + key (16 + i) else byt Z i))] w1 (A (vals .i64 40 (byt (px r g n + sk16 key))))) := hide fun w1 => by
                    have := HCa.out (px r g n) w1 hZl
                    rw [hZ.out] at this
                    rw [hZ.out]
                    exact this
                  rw [hZ.out] at hO
                  obtain ⟨T, hT⟩ : ∃ T, Hid (px r g n + sk16 key = T) := ⟨_, hide rfl⟩
                  rw [hT.out] at HCb
                  obtain ⟨sd, hsd⟩ : ∃ sd, Hid ((fun i => if i < 16 then byt Z i + key (16 + i) else byt Z i) = sd) := ⟨_, hide rfl⟩
                  rw [hsd.out] at HCb
                  clear hZl hZ
                  have HO : Hid (Own w wr [(n2, vals .u8 32 key, 23), (n4, vals .u8 16 (fun _ => 0), 35), (n5, vals .i64 40 (byt r), 67), (n9, vals .i64 40 (sw (fun i => byt Z i + key (16 + i)) (byt Z) 0), 67)]) := hide (by rw [sw_zero]; exact hO)
                  clear HO
                  have HO : Hid (Own w wr [(n2, vals .u8 32 key, 23), (n4, vals .u8 16 (fun _ => 0), 35), (n5, vals .i64 40 (byt r), 67), (n9, vals .i64 40 (sw (fun i => byt Z i + key (16 + i)) (byt Z) 0), 67)]) := hide (by rw [sw_zero]; exact hO)
                  clear hO
                  go_wp2_with (fail)
                  go_loopw [12] (fun x12 wr => ∃ k : Nat, k ≤ 16 ∧ x12 = .int .i64 k ∧ Own w wr [(n2, vals .u8 32 key, 23), (n4, vals .u8 16 (fun _ => 0), 35), (n5, vals .i64 40 (byt r), 67), (n9, vals .i64 40 (sw (fun i => byt Z i + key (16 + i)) (byt Z) k), 67)]) (fun x12 _ => 16 - (intOf x12).toNat)
                  case atStart => exact ⟨0, Nat.zero_le _, rfl, HO.out⟩
                  case round =>
                    clear HO
                    obtain ⟨k, hk9, rfl, hO⟩ := hrel
                    by_cases hlt : k < 16
                    · have hq0 : (0 : Int) ≤ (k : Int) := Int.natCast_nonneg k
                      have hq1 : (k : Int) < 16 := by omega
                      have hw1 := wr1 k (by omega)
                      have hw0 := wr0 k (by omega)
                      have hi40 : k < 40 := by omega
                      have hk40 : k < 2 ^ 40 := by omega
                      have h1640 : 16 < 2 ^ 40 := by decide
                      have hk32 : 16 + k < 32 := by omega
                      have hb1 : byt Z k < 2 ^ 40 := Nat.lt_trans (byt_lt _ _) (by decide)
                      have hb2 : key (16 + k) < 2 ^ 40 := Nat.lt_trans (hk _) (by decide)
                      go_upto_region 29 with (fail)
                      refine Rg.pd [11] (fun _ => [(91, Nv .i64 k), (92, Nv .i64 k), (93, E n9 k), (94, Nv .i64 (byt Z k)), (95, Nv .i64 k), (96, Nv .i64 (16 + k)), (97, E n2 (16 + k)), (98, Nv .u8 (key (16 + k))), (99, Nv .i64 (key (16 + k))), (100, Nv .i64 (byt Z k + key (16 + k))), (101, E n9 k)]) (OI w (fun s ν => [[(n2, vals .u8 32 key, 23), (n4, vals .u8 16 (fun _ => 0), 35), (n5, vals .i64 40 (byt r), 67), (n9, vals .i64 40 (sw (fun i => byt Z i + key (16 + i)) (byt Z) k), 67)], [(n2, vals .u8 32 key, 23), (n4, vals .u8 16 (fun _ => 0), 35), (n5, vals .i64 40 (byt r), 67), (n9, vals .i64 40 (sw (fun i => byt Z i + key (16 + i)) (byt Z) (k + 1)), 67)]].getD s [])) (fun _ => 0) hO.drew (Rg.ac nv (Rg.ac nv (Rg.ac (nx (fun _ => E n9 k) (fun _ w => b_ia_n40 hi40 w)) (Rg.ac (nc 0 0 3 (fun _ => k) (fun _ => Nv .i64 (byt Z k)) agg_int (fun _ => (vals_get _ _ _ _ hi40).trans (by rw [sw_here])) (at1 0 fun _ => by kernel_rfl)) (Rg.ac nv (Rg.ac (nx (fun _ => Nv .i64 (16 + k)) (fun _ w => b_add h1640 hk40 w)) (Rg.ac (nx (fun _ => E n2 (16 + k)) (fun _ w => b_ia_b32 hk32 w)) (Rg.ac (nc 0 0 0 (fun _ => (16 + k)) (fun _ => Nv .u8 (key (16 + k))) agg_u8 (fun _ => vals_get _ _ _ _ hk32) (at1 0 fun _ => by kernel_rfl)) (Rg.ac (nx (fun _ => Nv .i64 (key (16 + k))) (fun _ w => b_c53 (hk _) w)) (Rg.ac (nx (fun _ => Nv .i64 (byt Z k + key (16 + k))) (fun _ w => b_add hb1 hb2 w)) (Rg.ac (nx (fun _ => E n9 k) (fun _ w => b_ia_n40 hi40 w)) (Rg.ac (sl 0 3 (fun _ => k) (fun _ => Nv .i64 (byt Z k)) (fun _ => ((byt Z k + key (16 + k) : Nat) : Int)) sz_int (fun _ => (vals_get _ _ _ _ hi40).trans (by rw [sw_here])) (fun _ => sw_set _ _ (fun i => byt Z i + key (16 + i)) _ _ _ rfl) (fun _ => fit_n40 _)) Rg.an)))))))))))) ?_
                      intro ν w13 hO
                      replace hO : Own w w13 [(n2, vals .u8 32 key, 23), (n4, vals .u8 16 (fun _ => 0), 35), (n5, vals .i64 40 (byt r), 67), (n9, vals .i64 40 (sw (fun i => byt Z i + key (16 + i)) (byt Z) (k + 1)), 67)] := hO
                      simp only [Rg.putL, Act.put, List.setIfInBounds_toArray, List.set_cons_succ, List.set_cons_zero]
                      clear ν
                      have HO2 : Hid (Own w w13 [(n2, vals .u8 32 key, 23), (n4, vals .u8 16 (fun _ => 0), 35), (n5, vals .i64 40 (byt r), 67), (n9, vals .i64 40 (sw (fun i => byt Z i + key (16 + i)) (byt Z) (k + 1)), 67)]) := hide hO
                      clear hO
                      go_wp2_with (fail)
                      go_roundw
                      case rel => exact ⟨k + 1, hlt, in_succ k, HO2.out⟩
                      case measure => exact ms_lt hlt
                    · have ek : k = 16 := by omega
                      subst ek
                      clear hlt hk9
                      rw [top_row, hsd.out] at hO
                      go_upto_region 30 with (fail)
                      refine Rg.ps [1, 2] (fun _ => [(102, A (vals .i64 40 sd)), (103, A (vals .i64 40 (byt T)))]) (OI w (fun s ν => [[(n2, vals .u8 32 key, 23), (n4, vals .u8 16 (fun _ => 0), 35), (n5, vals .i64 40 (byt r), 67), (n9, vals .i64 40 sd, 67)], [(n2, vals .u8 32 key, 23), (n4, vals .u8 16 (fun _ => 0), 35), (n5, vals .i64 40 (byt r), 67), (n9, vals .i64 40 sd, 67)], [(n2, vals .u8 32 key, 23), (n4, vals .u8 16 (fun _ => 0), 35), (n5, vals .i64 40 (byt r), 67), (n9, vals .i64 40 (byt T), 67)]].getD s [])) (fun _ => 0) hO (Rg.ac (nld 0 0 3 (at1 0 fun _ => by kernel_rfl) Tryd.underlying67) (Rg.ac (sc 0 40 (fun _ => #[A (vals .i64 40 sd)]) (fun _ => A (vals .i64 40 (byt T))) (fun _ => HCb.out)) (Rg.ac (sr 1 3 (fun _ => vals .i64 40 (byt T)) (fun _ => fit_n40 _)) Rg.an))) ?_
                      intro ν w14 hO
                      replace hO : Own w w14 [(n2, vals .u8 32 key, 23), (n4, vals .u8 16 (fun _ => 0), 35), (n5, vals .i64 40 (byt r), 67), (n9, vals .i64 40 (byt T), 67)] := hO
                      simp only [Rg.putL, Act.put, List.setIfInBounds_toArray, List.set_cons_succ, List.set_cons_zero]
                      clear ν
                      go_upto_region 31 with (fail)
                      refine Rg.ps [1, 2] (fun ν => [(104, A (vals .u8 16 (fun _ => 0))), (13, D (ν 1))]) (OI w (fun s ν => [[(n2, vals .u8 32 key, 23), (n4, vals .u8 16 (fun _ => 0), 35), (n5, vals .i64 40 (byt r), 67), (n9, vals .i64 40 (byt T), 67)], [(n2, vals .u8 32 key, 23), (n4, vals .u8 16 (fun _ => 0), 35), (n5, vals .i64 40 (byt r), 67), (n9, vals .i64 40 (byt T), 67), ((ν 1), vals .u8 16 (fun _ => 0), 35)], [(n2, vals .u8 32 key, 23), (n4, vals .u8 16 (fun _ => 0), 35), (n5, vals .i64 40 (byt r), 67), (n9, vals .i64 40 (byt T), 67), ((ν 1), vals .u8 16 (fun _ => 0), 35)]].getD s [])) (fun _ => 0) hO (Rg.ac (nx (fun _ => A (vals .u8 16 (fun _ => 0))) (fun _ w => run_bd 35 _ rfl [] (by kernel_rfl) _ bd_b16 w)) (Rg.ac (sn 0 (fun _ => vals .u8 16 (fun _ => 0)) 35 (fun _ w => al_b16 rfl w) (fun _ => fit_b16 _)) (Rg.ac (sr 1 4 (fun _ => vals .u8 16 (fun _ => 0)) (fun _ => fit_b16 _)) Rg.an))) ?_
                      intro ν w15 hO
                      replace hO : Own w w15 [(n2, vals .u8 32 key, 23), (n4, vals .u8 16 (fun _ => 0), 35), (n5, vals .i64 40 (byt r), 67), (n9, vals .i64 40 (byt T), 67), ((ν 1), vals .u8 16 (fun _ => 0), 35)] := hO
                      simp only [Rg.putL, Act.put, List.setIfInBounds_toArray, List.set_cons_succ, List.set_cons_zero]
                      generalize ν 1 = n13 at hO ⊢
                      clear ν
                      have HO : Hid (Own w w15 [(n2, vals .u8 32 key, 23), (n4, vals .u8 16 (fun _ => 0), 35), (n5, vals .i64 40 (byt r), 67), (n9, vals .i64 40 (byt T), 67), (n13, vals .u8 16 (sw (byt T) (fun _ => 0) 0), 35)]) := hide (by rw [sw_zero]; exact hO)
                      clear hO
                      go_wp2_with (fail)
                      go_loopw [14] (fun x14 wr => ∃ k : Nat, k ≤ 16 ∧ x14 = .int .i64 k ∧ Own w wr [(n2, vals .u8 32 key, 23), (n4, vals .u8 16 (fun _ => 0), 35), (n5, vals .i64 40 (byt r), 67), (n9, vals .i64 40 (byt T), 67), (n13, vals .u8 16 (sw (byt T) (fun _ => 0) k), 35)]) (fun x14 _ => 16 - (intOf x14).toNat)
                      case atStart => exact ⟨0, Nat.zero_le _, rfl, HO.out⟩
                      case round =>
                        clear HO
                        obtain ⟨k, hk9, rfl, hO⟩ := hrel
                        by_cases hlt : k < 16
                        · have hq0 : (0 : Int) ≤ (k : Int) := Int.natCast_nonneg k
                          have hq1 : (k : Int) < 16 := by omega
                          have hw1 := wr1 k (by omega)
                          have hw0 := wr0 k (by omega)
                          have hi40 : k < 40 := by omega
                          go_upto_region 35 with (fail)
                          refine Rg.ps [6] (fun _ => [(109, Nv .i64 k), (110, Nv .i64 k), (111, E n9 k), (112, Nv .i64 ((byt T) k)), (113, Nv .u8 (byt T k)), (114, E n13 k)]) (OI w (fun s ν => [[(n2, vals .u8 32 key, 23), (n4, vals .u8 16 (fun _ => 0), 35), (n5, vals .i64 40 (byt r), 67), (n9, vals .i64 40 (byt T), 67), (n13, vals .u8 16 (sw (byt T) (fun _ => 0) k), 35)], [(n2, vals .u8 32 key, 23), (n4, vals .u8 16 (fun _ => 0), 35), (n5, vals .i64 40 (byt r), 67), (n9, vals .i64 40 (byt T), 67), (n13, vals .u8 16 (sw (byt T) (fun _ => 0) (k + 1)), 35)]].getD s [])) (fun _ => 0) hO (Rg.ac nv (Rg.ac nv (Rg.ac (nx (fun _ => E n9 k) (fun _ w => b_ia_n40 hi40 w)) (Rg.ac (nc 0 0 3 (fun _ => k) (fun _ => Nv .i64 ((byt T) k)) agg_int (fun _ => vals_get _ _ _ _ hi40) (at1 0 fun _ => by kernel_rfl)) (Rg.ac (nx (fun _ => Nv .u8 (byt T k)) (fun _ w => b_c35 (byt_lt T k) w)) (Rg.ac (nx (fun _ => E n13 k) (fun _ w => b_ia_b16 hlt w)) (Rg.ac (sl 0 4 (fun _ => k) (fun _ => Nv .u8 0) (fun _ => ((byt T k : Nat) : Int)) sz_u8 (fun _ => (vals_get _ _ _ _ hlt).trans (by rw [sw_here])) (fun _ => sw_set _ _ _ _ _ _ rfl) (fun _ => fit_b16 _)) Rg.an))))))) ?_
                          intro ν w16 hO
                          replace hO : Own w w16 [(n2, vals .u8 32 key, 23), (n4, vals .u8 16 (fun _ => 0), 35), (n5, vals .i64 40 (byt r), 67), (n9, vals .i64 40 (byt T), 67), (n13, vals .u8 16 (sw (byt T) (fun _ => 0) (k + 1)), 35)] := hO
                          simp only [Rg.putL, Act.put, List.setIfInBounds_toArray, List.set_cons_succ, List.set_cons_zero]
                          clear ν
                          have HO2 : Hid (Own w w16 [(n2, vals .u8 32 key, 23), (n4, vals .u8 16 (fun _ => 0), 35), (n5, vals .i64 40 (byt r), 67), (n9, vals .i64 40 (byt T), 67), (n13, vals .u8 16 (sw (byt T) (fun _ => 0) (k + 1)), 35)]) := hide hO
                          clear hO
                          go_wp2_with (fail)
                          go_roundw
                          case rel => exact ⟨k + 1, hlt, in_succ k, HO2.out⟩
                          case measure => exact ms_lt hlt
                        · have ek : k = 16 := by omega
                          subst ek
                          clear hlt hk9
                          rw [sw_end] at hO
                          go_upto_region 36 with (fail)
                          refine Rg.ps [1] (fun _ => [(115, A (vals .u8 16 (byt T)))]) (OI w (fun s ν => [[(n2, vals .u8 32 key, 23), (n4, vals .u8 16 (fun _ => 0), 35), (n5, vals .i64 40 (byt r), 67), (n9, vals .i64 40 (byt T), 67), (n13, vals .u8 16 (byt T), 35)], [(n2, vals .u8 32 key, 23), (n4, vals .u8 16 (byt T), 35), (n5, vals .i64 40 (byt r), 67), (n9, vals .i64 40 (byt T), 67), (n13, vals .u8 16 (byt T), 35)]].getD s [])) (fun _ => 0) hO (Rg.ac (nld 0 0 4 (at1 0 fun _ => by kernel_rfl) Tryd.underlying35) (Rg.ac (sr 0 1 (fun _ => vals .u8 16 (byt T)) (fun _ => fit_b16 _)) Rg.an)) ?_
                          intro ν w17 hO
                          replace hO : Own w w17 [(n2, vals .u8 32 key, 23), (n4, vals .u8 16 (byt T), 35), (n5, vals .i64 40 (byt r), 67), (n9, vals .i64 40 (byt T), 67), (n13, vals .u8 16 (byt T), 35)] := hO
                          simp only [Rg.putL, Act.put, List.setIfInBounds_toArray, List.set_cons_succ, List.set_cons_zero]
                          clear ν
                          rw [← hT.out] at hO
                          go_wp2_with (fail)
                          refine bodyPost_ret (v := A (vals .u8 16 (byt (px r g n + sk16 key)))) (results_cell_row Tryd.results25 _ _ n4 35 _ (0, 0) _ rfl (hO.row 1 rfl) Tryd.underlying35 rfl ((fit_b16 _).size rfl)) rfl ⟨rfl, hO.low⟩
end Go.Proofs.YtanahjoiilfcbaaDoor

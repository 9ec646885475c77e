/- Walks: the reference's modulo. Digits below 2^38, a number below 2^256. -/
import Derived.Test.YtanahjoiilfcbaaDoorRa
namespace Go.Proofs.YtanahjoiilfcbaaDoor
set_option maxRecDepth 100000
open Go.RowKit Rg

/-- One round. -/
def fo (N : Nat) : Nat := N % 2 ^ 130 + 5 * (N / 2 ^ 130)
theorem fo_mod (N : Nat) : fo N % pP = N % pP := fold_mod N
theorem fo_lt1 (N : Nat) (h : N < 2 ^ 256) : fo N < 2 ^ 131 := by unfold fo; omega
theorem fo_lt2 (N : Nat) (h : N < 2 ^ 131) : fo N < 2 ^ 130 + 5 := by unfold fo; omega
theorem fo_lt3 (N : Nat) (h : N < 2 ^ 130 + 5) : fo N < 2 ^ 130 := by unfold fo; omega
theorem fo_lt4 (N : Nat) (h : N < 2 ^ 256) : fo N < 2 ^ 256 := Nat.lt_trans (fo_lt1 N h) (by decide)
def fos (N : Nat) : Nat → Nat
  | 0 => N
  | k + 1 => fo (fos N k)
theorem fos_lt (N : Nat) (h : N < 2 ^ 256) : ∀ k, fos N k < 2 ^ 256
  | 0 => h
  | k + 1 => fo_lt4 _ (fos_lt N h k)
theorem fos_mod (N : Nat) : ∀ k, fos N k % pP = N % pP
  | 0 => rfl
  | k + 1 => (fo_mod _).trans (fos_mod N k)
theorem fos_four (N : Nat) (h : N < 2 ^ 256) : fos N 4 < 2 ^ 130 := fo_lt3 _ (Nat.lt_trans (fo_lt3 _ (fo_lt2 _ (fo_lt1 N h))) (by decide))
theorem low_p (N M : Nat) (hM : M < 2 ^ 130) (h : M % pP = N % pP) (h5 : M + 5 < 2 ^ 130) : M = N % pP := by
  rw [← h, Nat.mod_eq_of_lt (by unfold pP; omega)]
theorem high_p (N M : Nat) (hM : M < 2 ^ 130) (h : M % pP = N % pP) (h5 : 2 ^ 130 ≤ M + 5) : M + 5 - 2 ^ 130 = N % pP := by
  rw [← h]
  have : M % pP = M - pP := by rw [Nat.mod_eq_sub_mod (by unfold pP; omega), Nat.mod_eq_of_lt (by unfold pP; omega)]
  rw [this]
  unfold pP
  omega
/-- What counts five times, byte by byte. -/
theorem hi_byte (N i : Nat) (hi : 16 ≤ i) : byt N i / 4 + byt N (i + 1) % 4 * 64 = byt (N / 2 ^ 130) (i - 16) := by
  unfold byt
  have e1 : N / 2 ^ (8 * (i + 1)) = N / 2 ^ (8 * i) / 256 := by rw [Nat.div_div_eq_div_mul, show 8 * (i + 1) = 8 * i + 8 by omega, Nat.pow_add]
  have e2 : N / 2 ^ 130 / 2 ^ (8 * (i - 16)) = N / 2 ^ (8 * i) / 4 := by
    rw [Nat.div_div_eq_div_mul, Nat.div_div_eq_div_mul, ← Nat.pow_add, show (4 : Nat) = 2 ^ 2 from rfl, ← Nat.pow_add]
    congr 2
    omega
  rw [e1, e2]
  generalize N / 2 ^ (8 * i) = M
  omega
theorem hi_last (N : Nat) (h : N < 2 ^ 256) : byt N 39 / 4 = byt (N / 2 ^ 130) 23 := by
  rw [byt_zero N 39 32 h (by omega), byt_zero (N / 2 ^ 130) 23 16 (by omega) (by omega)]
theorem hi_top (N : Nat) (h : N < 2 ^ 256) (j : Nat) (hj : 24 ≤ j) : byt (N / 2 ^ 130) j = 0 := byt_zero _ j 16 (by omega) (by omega)
/-- The low digits that stay. -/
theorem lo_byte (N i : Nat) : (if i < 16 then byt N i else if i = 16 then byt N 16 % 4 else 0) = byt (N % 2 ^ 130) i := by
  by_cases h1 : i < 16
  · rw [if_pos h1]
    exact byt_cong _ _ i h1 (by omega)
  · rw [if_neg h1]
    by_cases h2 : i = 16
    · subst h2
      rw [if_pos rfl]
      unfold byt
      omega
    · rw [if_neg h2, byt_zero _ i 17 (by omega) (by omega)]
theorem nb_fo (N : Nat) (h : N < 2 ^ 256) : nb (fun i => byt (N % 2 ^ 130) i + 5 * byt (N / 2 ^ 130) i) 40 = fo N := by
  rw [nb_add, nb_mul, nb_byt, nb_byt, Nat.mod_eq_of_lt (by omega : N % 2 ^ 130 < 2 ^ (8 * 40)), Nat.mod_eq_of_lt (by omega : N / 2 ^ 130 < 2 ^ (8 * 40))]
  rfl
theorem nb_five (M : Nat) (h : M < 2 ^ 130) : nb (fun i => if i = 0 then byt M 0 + 5 else byt M i) 40 = M + 5 := by
  have e : (fun i => if i = 0 then byt M 0 + 5 else byt M i) = fun i => byt M i + oneB 5 i := funext fun i => by
    unfold oneB
    by_cases hi : i = 0
    · subst hi; rw [if_pos rfl, if_pos rfl]
    · rw [if_neg hi, if_neg hi]; rfl
  rw [e, nb_add, nb_byt, nb_one 5 39, Nat.mod_eq_of_lt (by omega : M < 2 ^ (8 * 40))]
theorem top_digit (X : Nat) (h : X < 2 ^ 131) : byt X 16 = X / 2 ^ 128 := by
  unfold byt
  omega
theorem less_four (X : Nat) (h : X < 2 ^ 131) (h4 : 2 ^ 130 ≤ X) (i : Nat) : (if i = 16 then byt X 16 - 4 else byt X i) = byt (X - 2 ^ 130) i := by
  by_cases h1 : i = 16
  · subst h1
    rw [if_pos rfl]
    unfold byt
    omega
  · rw [if_neg h1]
    by_cases h2 : i < 16
    · exact byt_cong _ _ i h2 (by omega)
    · rw [byt_zero X i 17 (by omega) (by omega), byt_zero _ i 17 (by omega) (by omega)]
/-- The digits that count five times, up to some. -/
def hw (N k j : Nat) : Nat := if 16 + j < k then byt (N / 2 ^ 130) j else 0
theorem hw_zero (N : Nat) : hw N 16 = fun _ => 0 := funext fun j => by unfold hw; rw [if_neg (by omega)]
theorem hw_end (N : Nat) (h : N < 2 ^ 256) : vals .i64 40 (hw N 40) = vals .i64 40 (byt (N / 2 ^ 130)) := vals_congr _ _ _ _ fun j _ => by
  unfold hw
  by_cases hj : 16 + j < 40
  · rw [if_pos hj]
  · rw [if_neg hj, hi_top N h j (by omega)]
theorem hw_set (N k v : Nat) (hk : 16 ≤ k) (hv : v = byt (N / 2 ^ 130) (k - 16)) : (vals .i64 40 (hw N k)).setIfInBounds (k - 16) (.int .i64 ((v : Nat) : Int)) = vals .i64 40 (hw N (k + 1)) := by
  subst hv
  rw [vals_set]
  refine vals_congr _ _ _ _ fun j _ => ?_
  show (if j = k - 16 then byt (N / 2 ^ 130) (k - 16) else hw N k j) = hw N (k + 1) j
  unfold hw
  by_cases h : j = k - 16
  · subst h; rw [if_pos rfl, if_pos (by omega)]
  · rw [if_neg h]
    by_cases h2 : 16 + j < k
    · rw [if_pos h2, if_pos (by omega)]
    · rw [if_neg h2, if_neg (by omega)]
/-- The digits that stay, the upper ones emptied up to k. -/
def lw (N k j : Nat) : Nat := if 17 ≤ j ∧ j < k then 0 else if j = 16 then byt N 16 % 4 else byt N j
theorem lw_zero (N : Nat) : vals .i64 40 (fun j => if j = 16 then byt N 16 % 4 else byt N j) = vals .i64 40 (lw N 17) := vals_congr _ _ _ _ fun j _ => by unfold lw; rw [if_neg (by omega : ¬ (17 ≤ j ∧ j < 17))]
theorem lw_set (N k : Nat) (hk : 17 ≤ k) : (vals .i64 40 (lw N k)).setIfInBounds k (.int .i64 ((0 : Nat) : Int)) = vals .i64 40 (lw N (k + 1)) := by
  rw [vals_set]
  refine vals_congr _ _ _ _ fun j _ => ?_
  show (if j = k then 0 else lw N k j) = lw N (k + 1) j
  unfold lw
  by_cases h : j = k
  · subst h; rw [if_pos rfl, if_pos ⟨hk, by omega⟩]
  · rw [if_neg h]
    by_cases h2 : 17 ≤ j ∧ j < k
    · rw [if_pos h2, if_pos ⟨h2.1, by omega⟩]
    · rw [if_neg h2, if_neg (show ¬ (17 ≤ j ∧ j < k + 1) by omega)]
theorem lw_end (N : Nat) : vals .i64 40 (lw N 40) = vals .i64 40 (byt (N % 2 ^ 130)) := vals_congr _ _ _ _ fun j hj => by
  rw [← lo_byte]
  unfold lw
  by_cases h1 : j < 16
  · rw [if_neg (by omega), if_neg (by omega), if_pos h1]
  · rw [if_neg h1]
    by_cases h2 : j = 16
    · subst h2; rw [if_neg (by omega), if_pos rfl, if_pos rfl]
    · rw [if_pos ⟨by omega, hj⟩, if_neg h2]
theorem b_geq {ρ : Operand → Value} {o : Oper} {x y : Operand} {k : Nat} {b : Bool} (h : decide (4 ≤ k) = b) (w : World) (ho : o.op = .binOp .geq 3 x y 3 := by rfl) (hx : ρ x = Nv .i64 k := by kernel_rfl) (hy : ρ y = .int .i64 4 := by kernel_rfl) : (execOp ρ o).run Tryd.prog w = .ok (.value (.bool b)) w := by
  subst h
  by_cases h4 : 4 ≤ k
  · have h1 : (4 : Int) ≤ (k : Int) := by omega
    have h2 : decide (4 ≤ k) = true := decide_eq_true h4
    unfold execOp
    simp only [ho, hx, hy, h2]
    go_simp
  · have h1 : ¬ (4 : Int) ≤ (k : Int) := by omega
    have h2 : decide (4 ≤ k) = false := decide_eq_false h4
    unfold execOp
    simp only [ho, hx, hy, h2]
    go_simp
theorem b_lss39 {ρ : Operand → Value} {o : Oper} {x y : Operand} {k : Nat} {b : Bool} (h : decide (k < 39) = b) (w : World) (ho : o.op = .binOp .lss 3 x y 3 := by rfl) (hx : ρ x = Nv .i64 k := by kernel_rfl) (hy : ρ y = .int .i64 39 := by kernel_rfl) : (execOp ρ o).run Tryd.prog w = .ok (.value (.bool b)) w := by
  subst h
  by_cases h4 : k < 39
  · have h1 : (k : Int) < 39 := by omega
    have h2 : decide (k < 39) = true := decide_eq_true h4
    unfold execOp
    simp only [ho, hx, hy, h2]
    go_simp
  · have h1 : ¬ (k : Int) < 39 := by omega
    have h2 : decide (k < 39) = false := decide_eq_false h4
    unfold execOp
    simp only [ho, hx, hy, h2]
    go_simp
set_option maxHeartbeats 8000000 in
theorem modulo_c (d : Nat → Nat) (hd : ∀ i, d i ≤ 255 * 2 ^ 30) (N : Nat) (hN : nb d 40 = N) (hN2 : N < 2 ^ 256) (w : World) : Ret 39 #[A (vals .i64 40 d)] w (A (vals .i64 40 (byt (N % pP)))) := by
  obtain ⟨V, hV⟩ : ∃ V, Hid (fos N = V) := ⟨_, hide rfl⟩
  have HC0 : Hid (∀ w1 : World, Ret 40 #[A (vals .i64 40 d)] w1 (A (vals .i64 40 (byt (V 0))))) := hide fun w1 => by rw [← hV.out]; exact carried_c d hd N hN w1
  have HV : Hid (∀ k, V k < 2 ^ 256) := hide fun k => by rw [← hV.out]; exact fos_lt N hN2 k
  have HVs : Hid (∀ k, fo (V k) = V (k + 1)) := hide fun k => by rw [← hV.out]; rfl
  obtain ⟨M, hM⟩ : ∃ M, Hid (V 4 = M) := ⟨_, hide rfl⟩
  have HM : Hid (M < 2 ^ 130) := hide (by rw [← hM.out, ← hV.out]; exact fos_four N hN2)
  have HMm : Hid (M % pP = N % pP) := hide (by rw [← hM.out, ← hV.out]; exact fos_mod N 4)
  obtain ⟨Z, hZ⟩ : ∃ Z, Hid (N % pP = Z) := ⟨_, hide rfl⟩
  rw [hZ.out] at HMm ⊢
  have HZ1 : Hid (M + 5 < 2 ^ 130 → M = Z) := hide fun h => hZ.out ▸ low_p N M HM.out (HMm.out.trans hZ.out.symm) h
  have HZ2 : Hid (2 ^ 130 ≤ M + 5 → M + 5 - 2 ^ 130 = Z) := hide fun h => hZ.out ▸ high_p N M HM.out (HMm.out.trans hZ.out.symm) h
  clear hd hN hN2 hV HMm hZ
  go_enter Tryd.func39, Tryd.ntmps39
  have hO := Own.start w
  go_upto_region 0 with (fail)
  refine Rg.ps [0, 1] (fun ν => [(1, D (ν 0)), (2, D (ν 1))]) (OI w (fun s ν => [[], [((ν 0), vals .i64 40 d, 67)], [((ν 0), vals .i64 40 d, 67), ((ν 1), vals .i64 40 (fun _ => 0), 67)]].getD s [])) (fun _ => 0) hO (Rg.ac (sn 0 (fun _ => vals .i64 40 d) 67 (fun _ w => run_box 67 _ rfl _ (by kernel_rfl) w) (fun _ => fit_n40 _)) (Rg.ac (sn 1 (fun _ => vals .i64 40 (fun _ => 0)) 67 (fun _ w => al_n40 rfl w) (fun _ => fit_n40 _)) Rg.an)) ?_
  intro ν w1 hO
  replace hO : Own w w1 [((ν 0), vals .i64 40 d, 67), ((ν 1), vals .i64 40 (fun _ => 0), 67)] := hO
  simp only [Rg.putL, Act.put, List.setIfInBounds_toArray, List.set_cons_succ, List.set_cons_zero]
  generalize ν 0 = n1 at hO ⊢
  generalize ν 1 = n2 at hO ⊢
  clear ν
  go_upto_region 1 with (fail)
  refine Rg.ps [1, 2] (fun _ => [(10, A (vals .i64 40 d)), (11, A (vals .i64 40 (byt (V 0))))]) (OI w (fun s ν => [[(n1, vals .i64 40 d, 67), (n2, vals .i64 40 (fun _ => 0), 67)], [(n1, vals .i64 40 d, 67), (n2, vals .i64 40 (fun _ => 0), 67)], [(n1, vals .i64 40 (byt (V 0)), 67), (n2, vals .i64 40 (fun _ => 0), 67)]].getD s [])) (fun _ => 0) hO (Rg.ac (nld 0 0 0 (at1 0 fun _ => by kernel_rfl) Tryd.underlying67) (Rg.ac (sc 0 40 (fun _ => #[A (vals .i64 40 d)]) (fun _ => A (vals .i64 40 (byt (V 0)))) (fun _ => HC0.out)) (Rg.ac (sr 1 0 (fun _ => vals .i64 40 (byt (V 0))) (fun _ => fit_n40 _)) Rg.an))) ?_
  intro ν w2 hO
  replace hO : Own w w2 [(n1, vals .i64 40 (byt (V 0)), 67), (n2, vals .i64 40 (fun _ => 0), 67)] := hO
  simp only [Rg.putL, Act.put, List.setIfInBounds_toArray, List.set_cons_succ, List.set_cons_zero]
  clear ν
  have HO : Hid (Own w w2 [(n1, vals .i64 40 (byt (V 0)), 67), (n2, vals .i64 40 (fun _ => 0), 67)]) := hide (hO)
  clear hO
  go_wp2_with (fail)
  go_loopw [3] (fun x3 wr => ∃ k : Nat, k ≤ 4 ∧ x3 = .int .i64 k ∧ Own w wr [(n1, vals .i64 40 (byt (V k)), 67), (n2, vals .i64 40 (fun _ => 0), 67)]) (fun x3 _ => 4 - (intOf x3).toNat)
  case atStart => exact ⟨0, Nat.zero_le _, rfl, HO.out⟩
  case round =>
    clear HO
    obtain ⟨k, hk9, rfl, hO⟩ := hrel
    by_cases hlt : k < 4
    · have hq0 : (0 : Int) ≤ (k : Int) := Int.natCast_nonneg k
      have hq1 : (k : Int) < 4 := by omega
      have hw1 := wr1 k (by omega)
      have hw0 := wr0 k (by omega)
      obtain ⟨U1, hU⟩ : ∃ U1, Hid (V k = U1) := ⟨_, hide rfl⟩
      have hU2 : U1 < 2 ^ 256 := hU.out ▸ HV.out k
      have HFo : Hid (fo U1 = V (k + 1)) := hide (hU.out ▸ HVs.out k)
      obtain ⟨hh, hhh⟩ : ∃ hh, Hid (byt (U1 / 2 ^ 130) = hh) := ⟨_, hide rfl⟩
      obtain ⟨ll, hll⟩ : ∃ ll, Hid (byt (U1 % 2 ^ 130) = ll) := ⟨_, hide rfl⟩
      have HWe : Hid (vals .i64 40 (hw U1 40) = vals .i64 40 hh) := hide (hhh.out ▸ hw_end U1 hU2)
      have HLe : Hid (vals .i64 40 (lw U1 40) = vals .i64 40 ll) := hide (hll.out ▸ lw_end U1)
      have Hhl : Hid (∀ i, hh i < 256) := hide fun i => hhh.out ▸ byt_lt _ i
      have Hll : Hid (∀ i, ll i < 256) := hide fun i => hll.out ▸ byt_lt _ i
      obtain ⟨ss, hss⟩ : ∃ ss, Hid ((fun i => ll i + 5 * hh i) = ss) := ⟨_, hide rfl⟩
      have HC1 : Hid (∀ w1 : World, Ret 40 #[A (vals .i64 40 ss)] w1 (A (vals .i64 40 (byt (V (k + 1)))))) := hide fun w1 => by
        rw [← hss.out]
        exact carried_c _ (fun i => by have h1 := Hhl.out i; have h2 := Hll.out i; show ll i + 5 * hh i ≤ 255 * 2 ^ 30; omega) _ (by rw [← hll.out, ← hhh.out, nb_fo U1 hU2, HFo.out]) w1
      rw [hU.out] at hO
      have HU2 := hide hU2
      clear hU2 hU HFo
      go_upto_region 5 with (fail)
      refine Rg.ps [1, 2] (fun ν => [(16, A (vals .i64 40 (fun _ => 0))), (4, D (ν 1))]) (OI w (fun s ν => [[(n1, vals .i64 40 (byt U1), 67), (n2, vals .i64 40 (fun _ => 0), 67)], [(n1, vals .i64 40 (byt U1), 67), (n2, vals .i64 40 (fun _ => 0), 67), ((ν 1), vals .i64 40 (fun _ => 0), 67)], [(n1, vals .i64 40 (byt U1), 67), (n2, vals .i64 40 (fun _ => 0), 67), ((ν 1), vals .i64 40 (fun _ => 0), 67)]].getD s [])) (fun _ => 0) hO (Rg.ac (nx (fun _ => A (vals .i64 40 (fun _ => 0))) (fun _ w => run_bd 67 _ rfl [] (by kernel_rfl) _ bd_n40 w)) (Rg.ac (sn 0 (fun _ => vals .i64 40 (fun _ => 0)) 67 (fun _ w => al_n40 rfl w) (fun _ => fit_n40 _)) (Rg.ac (sr 1 2 (fun _ => vals .i64 40 (fun _ => 0)) (fun _ => fit_n40 _)) Rg.an))) ?_
      intro ν w3 hO
      replace hO : Own w w3 [(n1, vals .i64 40 (byt U1), 67), (n2, vals .i64 40 (fun _ => 0), 67), ((ν 1), vals .i64 40 (fun _ => 0), 67)] := hO
      simp only [Rg.putL, Act.put, List.setIfInBounds_toArray, List.set_cons_succ, List.set_cons_zero]
      generalize ν 1 = n4 at hO ⊢
      clear ν
      have HOi : Hid (Own w w3 [(n1, vals .i64 40 (byt U1), 67), (n2, vals .i64 40 (fun _ => 0), 67), (n4, vals .i64 40 (hw U1 16), 67)]) := hide (by rw [hw_zero]; exact hO)
      clear hO
      go_wp2_with (fail)
      go_loopw [5] (fun x5 wri => ∃ i : Nat, i ≤ 40 ∧ x5 = .int .i64 i ∧ 16 ≤ i ∧ Own w wri [(n1, vals .i64 40 (byt U1), 67), (n2, vals .i64 40 (fun _ => 0), 67), (n4, vals .i64 40 (hw U1 i), 67)]) (fun x5 _ => 40 - (intOf x5).toNat)
      case atStart => exact ⟨16, by decide, rfl, Nat.le_refl _, HOi.out⟩
      case round =>
        clear HOi
        obtain ⟨i, hi9, rfl, hcndi, hO⟩ := hrel
        by_cases hlti : i < 40
        · have hq0i : (0 : Int) ≤ (i : Int) := Int.natCast_nonneg i
          have hq1i : (i : Int) < 40 := by omega
          have hw1i := wr1 i (by omega)
          have hw0i := wr0 i (by omega)
          have hi40 : i < 2 ^ 40 := by omega
          have hb1 : byt U1 i < 2 ^ 40 := Nat.lt_trans (byt_lt _ _) (by decide)
          have h16 : i - 16 < 40 := by omega
          go_upto_region 9 with (fail)
          refine Rg.ps [] (fun _ => [(21, Nv .i64 i), (22, E n1 i), (23, Nv .i64 ((byt U1) i)), (24, Nv .i64 (byt U1 i / 4)), (6, Nv .i64 (byt U1 i / 4))]) (OI w (fun _ _ => [(n1, vals .i64 40 (byt U1), 67), (n2, vals .i64 40 (fun _ => 0), 67), (n4, vals .i64 40 (hw U1 i), 67)])) (fun _ => 0) hO (Rg.ac nv (Rg.ac (nx (fun _ => E n1 i) (fun _ w => b_ia_n40 hlti w)) (Rg.ac (nc 0 0 0 (fun _ => i) (fun _ => Nv .i64 ((byt U1) i)) agg_int (fun _ => vals_get _ _ _ _ hlti) (at1 0 fun _ => by kernel_rfl)) (Rg.ac (nx (fun _ => Nv .i64 (byt U1 i / 4)) (fun _ w => b_quo4 hb1 w)) (Rg.ac nv Rg.an))))) ?_
          intro ν w4 hO
          replace hO : Own w w4 [(n1, vals .i64 40 (byt U1), 67), (n2, vals .i64 40 (fun _ => 0), 67), (n4, vals .i64 40 (hw U1 i), 67)] := hO
          simp only [Rg.putL, Act.put, List.setIfInBounds_toArray, List.set_cons_succ, List.set_cons_zero]
          clear ν
          by_cases h39 : i < 39
          · have hb9 : decide (i < 39) = true := decide_eq_true h39
            go_upto_region 10 with (fail)
            refine Rg.ps [] (fun _ => [(25, Nv .i64 i), (26, .bool true)]) (OI w (fun _ _ => [(n1, vals .i64 40 (byt U1), 67), (n2, vals .i64 40 (fun _ => 0), 67), (n4, vals .i64 40 (hw U1 i), 67)])) (fun _ => 0) hO (Rg.ac nv (Rg.ac (nx (fun _ => .bool true) (fun _ w => b_lss39 hb9 w)) Rg.an)) ?_
            intro ν w5 hO
            replace hO : Own w w5 [(n1, vals .i64 40 (byt U1), 67), (n2, vals .i64 40 (fun _ => 0), 67), (n4, vals .i64 40 (hw U1 i), 67)] := hO
            simp only [Rg.putL, Act.put, List.setIfInBounds_toArray, List.set_cons_succ, List.set_cons_zero]
            clear ν
            have hi1 : i + 1 < 40 := by omega
            have h140 : 1 < 2 ^ 40 := by decide
            have hm4 : byt U1 (i + 1) % 4 < 2 ^ 40 := by omega
            have hm64 : byt U1 (i + 1) % 4 * 64 < 2 ^ 40 := by omega
            have hq4 : byt U1 i / 4 < 2 ^ 40 := by omega
            have hsum := hi_byte U1 i hcndi
            clear h39 hb9
            go_upto_region 11 with (fail)
            refine wp_region_list (WL.out ?_)
            refine g_val (Nv .i64 (byt U1 i / 4)) ?_
            refine g_val (Nv .i64 i) ?_
            refine g_run (Nv .i64 (i + 1)) w5 (b_add hi40 h140 w5) ?_
            refine g_run (E n1 (i + 1)) w5 (b_ia_n40 hi1 w5) ?_
            refine g_lc hO 0 (i + 1) (Nv .i64 (byt U1 (i + 1))) rfl (vals_get _ _ _ _ hi1) agg_int ?_
            refine g_run (Nv .i64 (byt U1 (i + 1) % 4)) w5 (b_rem4 w5) ?_
            refine g_run (Nv .i64 (byt U1 (i + 1) % 4 * 64)) w5 (b_mulr64 hm4 w5) ?_
            refine g_run (Nv .i64 (byt (U1 / 2 ^ 130) (i - 16))) w5 (b_addE hq4 hm64 hsum w5) ?_
            refine g_val (Nv .i64 (byt (U1 / 2 ^ 130) (i - 16))) ?_
            refine g_nil ?_
            simp only [Act.put, List.setIfInBounds_toArray, List.set_cons_succ, List.set_cons_zero]
            have h1640 : 16 ≤ i := hcndi
            go_upto_region 12 with (fail)
            refine Rg.ps [4] (fun _ => [(35, Nv .i64 i), (36, Nv .i64 (i - 16)), (37, Nv .i64 (byt (U1 / 2 ^ 130) (i - 16))), (38, E n4 (i - 16))]) (OI w (fun s ν => [[(n1, vals .i64 40 (byt U1), 67), (n2, vals .i64 40 (fun _ => 0), 67), (n4, vals .i64 40 (hw U1 i), 67)], [(n1, vals .i64 40 (byt U1), 67), (n2, vals .i64 40 (fun _ => 0), 67), (n4, vals .i64 40 (hw U1 (i + 1)), 67)]].getD s [])) (fun _ => 0) hO (Rg.ac nv (Rg.ac (nx (fun _ => Nv .i64 (i - 16)) (fun _ w => b_sub hi40 h1640 w)) (Rg.ac nv (Rg.ac (nx (fun _ => E n4 (i - 16)) (fun _ w => b_ia_n40 h16 w)) (Rg.ac (sl 0 2 (fun _ => (i - 16)) (fun _ => Nv .i64 (hw U1 i (i - 16))) (fun _ => ((byt (U1 / 2 ^ 130) (i - 16) : Nat) : Int)) sz_int (fun _ => vals_get _ _ _ _ h16) (fun _ => hw_set U1 i _ hcndi rfl) (fun _ => fit_n40 _)) Rg.an))))) ?_
            intro ν w6 hO
            replace hO : Own w w6 [(n1, vals .i64 40 (byt U1), 67), (n2, vals .i64 40 (fun _ => 0), 67), (n4, vals .i64 40 (hw U1 (i + 1)), 67)] := hO
            simp only [Rg.putL, Act.put, List.setIfInBounds_toArray, List.set_cons_succ, List.set_cons_zero]
            clear ν
            have HO2i : Hid (Own w w6 [(n1, vals .i64 40 (byt U1), 67), (n2, vals .i64 40 (fun _ => 0), 67), (n4, vals .i64 40 (hw U1 (i + 1)), 67)]) := hide hO
            clear hO
            go_wp2_with (fail)
            go_roundw
            case rel => exact ⟨i + 1, hlti, in_succ i, Nat.le_succ_of_le hcndi, HO2i.out⟩
            case measure => exact ms_lt hlti
          · have hb9 : decide (i < 39) = false := decide_eq_false h39
            go_upto_region 10 with (fail)
            refine Rg.ps [] (fun _ => [(25, Nv .i64 i), (26, .bool false)]) (OI w (fun _ _ => [(n1, vals .i64 40 (byt U1), 67), (n2, vals .i64 40 (fun _ => 0), 67), (n4, vals .i64 40 (hw U1 i), 67)])) (fun _ => 0) hO (Rg.ac nv (Rg.ac (nx (fun _ => .bool false) (fun _ w => b_lss39 hb9 w)) Rg.an)) ?_
            intro ν w7 hO
            replace hO : Own w w7 [(n1, vals .i64 40 (byt U1), 67), (n2, vals .i64 40 (fun _ => 0), 67), (n4, vals .i64 40 (hw U1 i), 67)] := hO
            simp only [Rg.putL, Act.put, List.setIfInBounds_toArray, List.set_cons_succ, List.set_cons_zero]
            clear ν
            have hl9 : byt U1 i / 4 = byt (U1 / 2 ^ 130) (i - 16) := by obtain rfl : i = 39 := (by omega); exact hi_last U1 HU2.out
            clear h39 hb9
            have h1640 : 16 ≤ i := hcndi
            go_upto_region 12 with (fail)
            refine Rg.ps [4] (fun _ => [(35, Nv .i64 i), (36, Nv .i64 (i - 16)), (37, Nv .i64 (byt U1 i / 4)), (38, E n4 (i - 16))]) (OI w (fun s ν => [[(n1, vals .i64 40 (byt U1), 67), (n2, vals .i64 40 (fun _ => 0), 67), (n4, vals .i64 40 (hw U1 i), 67)], [(n1, vals .i64 40 (byt U1), 67), (n2, vals .i64 40 (fun _ => 0), 67), (n4, vals .i64 40 (hw U1 (i + 1)), 67)]].getD s [])) (fun _ => 0) hO (Rg.ac nv (Rg.ac (nx (fun _ => Nv .i64 (i - 16)) (fun _ w => b_sub hi40 h1640 w)) (Rg.ac nv (Rg.ac (nx (fun _ => E n4 (i - 16)) (fun _ w => b_ia_n40 h16 w)) (Rg.ac (sl 0 2 (fun _ => (i - 16)) (fun _ => Nv .i64 (hw U1 i (i - 16))) (fun _ => ((byt U1 i / 4 : Nat) : Int)) sz_int (fun _ => vals_get _ _ _ _ h16) (fun _ => hw_set U1 i _ hcndi hl9) (fun _ => fit_n40 _)) Rg.an))))) ?_
            intro ν w8 hO
            replace hO : Own w w8 [(n1, vals .i64 40 (byt U1), 67), (n2, vals .i64 40 (fun _ => 0), 67), (n4, vals .i64 40 (hw U1 (i + 1)), 67)] := hO
            simp only [Rg.putL, Act.put, List.setIfInBounds_toArray, List.set_cons_succ, List.set_cons_zero]
            clear ν
            have HO2i : Hid (Own w w8 [(n1, vals .i64 40 (byt U1), 67), (n2, vals .i64 40 (fun _ => 0), 67), (n4, vals .i64 40 (hw U1 (i + 1)), 67)]) := hide hO
            clear hO
            go_wp2_with (fail)
            go_roundw
            case rel => exact ⟨i + 1, hlti, in_succ i, Nat.le_succ_of_le hcndi, HO2i.out⟩
            case measure => exact ms_lt hlti
        · have ei : i = 40 := by omega
          subst ei
          clear hlti hi9
          rw [HWe.out] at hO
          clear hcndi
          go_upto_region 13 with (fail)
          refine Rg.ps [4] (fun _ => [(39, E n1 16), (40, Nv .i64 (byt U1 16)), (41, Nv .i64 (byt U1 16 % 4)), (42, E n1 16)]) (OI w (fun s ν => [[(n1, vals .i64 40 (byt U1), 67), (n2, vals .i64 40 (fun _ => 0), 67), (n4, vals .i64 40 hh, 67)], [(n1, vals .i64 40 (fun j => if j = 16 then byt U1 16 % 4 else byt U1 j), 67), (n2, vals .i64 40 (fun _ => 0), 67), (n4, vals .i64 40 hh, 67)]].getD s [])) (fun _ => 0) hO (Rg.ac nv (Rg.ac (nc 0 0 0 (fun _ => 16) (fun _ => Nv .i64 (byt U1 16)) agg_int (fun _ => vals_get _ _ _ _ (by decide)) (at1 0 fun _ => by kernel_rfl)) (Rg.ac (nx (fun _ => Nv .i64 (byt U1 16 % 4)) (fun _ w => b_rem4 w)) (Rg.ac nv (Rg.ac (sl 0 0 (fun _ => 16) (fun _ => Nv .i64 (byt U1 16)) (fun _ => ((byt U1 16 % 4 : Nat) : Int)) sz_int (fun _ => vals_get _ _ _ _ (by decide)) (fun _ => vals_set _ _ _ _ _) (fun _ => fit_n40 _)) Rg.an))))) ?_
          intro ν w9 hO
          replace hO : Own w w9 [(n1, vals .i64 40 (fun j => if j = 16 then byt U1 16 % 4 else byt U1 j), 67), (n2, vals .i64 40 (fun _ => 0), 67), (n4, vals .i64 40 hh, 67)] := hO
          simp only [Rg.putL, Act.put, List.setIfInBounds_toArray, List.set_cons_succ, List.set_cons_zero]
          clear ν
          have HOp : Hid (Own w w9 [(n1, vals .i64 40 (lw U1 17), 67), (n2, vals .i64 40 (fun _ => 0), 67), (n4, vals .i64 40 hh, 67)]) := hide (by rw [← lw_zero]; exact hO)
          clear hO
          go_wp2_with (fail)
          go_loopw [7] (fun x7 wrp => ∃ i : Nat, i ≤ 40 ∧ x7 = .int .i64 i ∧ 17 ≤ i ∧ Own w wrp [(n1, vals .i64 40 (lw U1 i), 67), (n2, vals .i64 40 (fun _ => 0), 67), (n4, vals .i64 40 hh, 67)]) (fun x7 _ => 40 - (intOf x7).toNat)
          case atStart => exact ⟨17, by decide, rfl, Nat.le_refl _, HOp.out⟩
          case round =>
            clear HOp
            obtain ⟨i, hi9, rfl, hcndp, hO⟩ := hrel
            by_cases hltp : i < 40
            · have hq0p : (0 : Int) ≤ (i : Int) := Int.natCast_nonneg i
              have hq1p : (i : Int) < 40 := by omega
              have hw1p := wr1 i (by omega)
              have hw0p := wr0 i (by omega)
              go_upto_region 17 with (fail)
              refine Rg.ps [2] (fun _ => [(47, Nv .i64 i), (48, E n1 i)]) (OI w (fun s ν => [[(n1, vals .i64 40 (lw U1 i), 67), (n2, vals .i64 40 (fun _ => 0), 67), (n4, vals .i64 40 hh, 67)], [(n1, vals .i64 40 (lw U1 (i + 1)), 67), (n2, vals .i64 40 (fun _ => 0), 67), (n4, vals .i64 40 hh, 67)]].getD s [])) (fun _ => 0) hO (Rg.ac nv (Rg.ac (nx (fun _ => E n1 i) (fun _ w => b_ia_n40 hltp w)) (Rg.ac (sl 0 0 (fun _ => i) (fun _ => Nv .i64 (lw U1 i i)) (fun _ => 0) sz_int (fun _ => vals_get _ _ _ _ hltp) (fun _ => lw_set U1 i hcndp) (fun _ => fit_n40 _)) Rg.an))) ?_
              intro ν w10 hO
              replace hO : Own w w10 [(n1, vals .i64 40 (lw U1 (i + 1)), 67), (n2, vals .i64 40 (fun _ => 0), 67), (n4, vals .i64 40 hh, 67)] := hO
              simp only [Rg.putL, Act.put, List.setIfInBounds_toArray, List.set_cons_succ, List.set_cons_zero]
              clear ν
              have HO2p : Hid (Own w w10 [(n1, vals .i64 40 (lw U1 (i + 1)), 67), (n2, vals .i64 40 (fun _ => 0), 67), (n4, vals .i64 40 hh, 67)]) := hide hO
              clear hO
              go_wp2_with (fail)
              go_roundw
              case rel => exact ⟨i + 1, hltp, in_succ i, Nat.le_succ_of_le hcndp, HO2p.out⟩
              case measure => exact ms_lt hltp
            · have ei : i = 40 := by omega
              subst ei
              clear hltp hi9
              rw [HLe.out] at hO
              clear hcndp
              have HOq : Hid (Own w wr [(n1, vals .i64 40 (sw ss ll 0), 67), (n2, vals .i64 40 (fun _ => 0), 67), (n4, vals .i64 40 hh, 67)]) := hide (by rw [sw_zero]; exact hO)
              clear hO
              go_wp2_with (fail)
              go_loopw [8] (fun x8 wrq => ∃ i : Nat, i ≤ 40 ∧ x8 = .int .i64 i ∧ Own w wrq [(n1, vals .i64 40 (sw ss ll i), 67), (n2, vals .i64 40 (fun _ => 0), 67), (n4, vals .i64 40 hh, 67)]) (fun x8 _ => 40 - (intOf x8).toNat)
              case atStart => exact ⟨0, Nat.zero_le _, rfl, HOq.out⟩
              case round =>
                clear HOq
                obtain ⟨i, hi9, rfl, hO⟩ := hrel
                by_cases hltq : i < 40
                · have hq0q : (0 : Int) ≤ (i : Int) := Int.natCast_nonneg i
                  have hq1q : (i : Int) < 40 := by omega
                  have hw1q := wr1 i (by omega)
                  have hw0q := wr0 i (by omega)
                  have hh1 := Hhl.out i
                  have hl1 := Hll.out i
                  have h531 : 5 < 2 ^ 31 := by decide
                  have hh31 : hh i < 2 ^ 31 := by omega
                  have h540 : 5 * hh i < 2 ^ 40 := by omega
                  have hl40 : ll i < 2 ^ 40 := by omega
                  have hsi : ll i + 5 * hh i = ss i := by rw [← hss.out]
                  go_upto_region 21 with (fail)
                  refine Rg.pd [10] (fun _ => [(53, Nv .i64 i), (54, Nv .i64 i), (55, E n1 i), (56, Nv .i64 (ll i)), (57, Nv .i64 i), (58, E n4 i), (59, Nv .i64 (hh i)), (60, Nv .i64 (5 * hh i)), (61, Nv .i64 (ss i)), (62, E n1 i)]) (OI w (fun s ν => [[(n1, vals .i64 40 (sw ss ll i), 67), (n2, vals .i64 40 (fun _ => 0), 67), (n4, vals .i64 40 hh, 67)], [(n1, vals .i64 40 (sw ss ll (i + 1)), 67), (n2, vals .i64 40 (fun _ => 0), 67), (n4, vals .i64 40 hh, 67)]].getD s [])) (fun _ => 0) hO.drew (Rg.ac nv (Rg.ac nv (Rg.ac (nx (fun _ => E n1 i) (fun _ w => b_ia_n40 hltq w)) (Rg.ac (nc 0 0 0 (fun _ => i) (fun _ => Nv .i64 (ll i)) agg_int (fun _ => (vals_get _ _ _ _ hltq).trans (by rw [sw_here])) (at1 0 fun _ => by kernel_rfl)) (Rg.ac nv (Rg.ac (nx (fun _ => E n4 i) (fun _ w => b_ia_n40 hltq w)) (Rg.ac (nc 0 0 2 (fun _ => i) (fun _ => Nv .i64 (hh i)) agg_int (fun _ => vals_get _ _ _ _ hltq) (at1 0 fun _ => by kernel_rfl)) (Rg.ac (nx (fun _ => Nv .i64 (5 * hh i)) (fun _ w => b_mul h531 hh31 w)) (Rg.ac (nx (fun _ => Nv .i64 (ss i)) (fun _ w => b_addE hl40 h540 hsi w)) (Rg.ac (nx (fun _ => E n1 i) (fun _ w => b_ia_n40 hltq w)) (Rg.ac (sl 0 0 (fun _ => i) (fun _ => Nv .i64 (ll i)) (fun _ => ((ss i : Nat) : Int)) sz_int (fun _ => (vals_get _ _ _ _ hltq).trans (by rw [sw_here])) (fun _ => sw_set _ _ _ _ _ _ rfl) (fun _ => fit_n40 _)) Rg.an))))))))))) ?_
                  intro ν w11 hO
                  replace hO : Own w w11 [(n1, vals .i64 40 (sw ss ll (i + 1)), 67), (n2, vals .i64 40 (fun _ => 0), 67), (n4, vals .i64 40 hh, 67)] := hO
                  simp only [Rg.putL, Act.put, List.setIfInBounds_toArray, List.set_cons_succ, List.set_cons_zero]
                  clear ν
                  have HO2q : Hid (Own w w11 [(n1, vals .i64 40 (sw ss ll (i + 1)), 67), (n2, vals .i64 40 (fun _ => 0), 67), (n4, vals .i64 40 hh, 67)]) := hide hO
                  clear hO
                  go_wp2_with (fail)
                  go_roundw
                  case rel => exact ⟨i + 1, hltq, in_succ i, HO2q.out⟩
                  case measure => exact ms_lt hltq
                · have ei : i = 40 := by omega
                  subst ei
                  clear hltq hi9
                  rw [sw_end] at hO
                  go_upto_region 22 with (fail)
                  refine Rg.ps [1, 2] (fun _ => [(63, A (vals .i64 40 ss)), (64, A (vals .i64 40 (byt (V (k + 1)))))]) (OI w (fun s ν => [[(n1, vals .i64 40 ss, 67), (n2, vals .i64 40 (fun _ => 0), 67), (n4, vals .i64 40 hh, 67)], [(n1, vals .i64 40 ss, 67), (n2, vals .i64 40 (fun _ => 0), 67), (n4, vals .i64 40 hh, 67)], [(n1, vals .i64 40 (byt (V (k + 1))), 67), (n2, vals .i64 40 (fun _ => 0), 67), (n4, vals .i64 40 hh, 67)]].getD s [])) (fun _ => 0) hO (Rg.ac (nld 0 0 0 (at1 0 fun _ => by kernel_rfl) Tryd.underlying67) (Rg.ac (sc 0 40 (fun _ => #[A (vals .i64 40 ss)]) (fun _ => A (vals .i64 40 (byt (V (k + 1))))) (fun _ => HC1.out)) (Rg.ac (sr 1 0 (fun _ => vals .i64 40 (byt (V (k + 1)))) (fun _ => fit_n40 _)) Rg.an))) ?_
                  intro ν w12 hO
                  replace hO : Own w w12 [(n1, vals .i64 40 (byt (V (k + 1))), 67), (n2, vals .i64 40 (fun _ => 0), 67), (n4, vals .i64 40 hh, 67)] := hO
                  simp only [Rg.putL, Act.put, List.setIfInBounds_toArray, List.set_cons_succ, List.set_cons_zero]
                  clear ν
                  replace hO := hO.take 2
                  have HO2 : Hid (Own w w12 [(n1, vals .i64 40 (byt (V (k + 1))), 67), (n2, vals .i64 40 (fun _ => 0), 67)]) := hide hO
                  clear hO
                  go_wp2_with (fail)
                  go_roundw
                  case rel => exact ⟨k + 1, hlt, in_succ k, HO2.out⟩
                  case measure => exact ms_lt hlt
    · have ek : k = 4 := by omega
      subst ek
      clear hlt hk9
      rw [hM.out] at hO
      go_upto_region 23 with (fail)
      refine Rg.ps [1, 2] (fun ν => [(65, A (vals .i64 40 (byt M))), (9, D (ν 1))]) (OI w (fun s ν => [[(n1, vals .i64 40 (byt M), 67), (n2, vals .i64 40 (fun _ => 0), 67)], [(n1, vals .i64 40 (byt M), 67), (n2, vals .i64 40 (fun _ => 0), 67), ((ν 1), vals .i64 40 (fun _ => 0), 67)], [(n1, vals .i64 40 (byt M), 67), (n2, vals .i64 40 (fun _ => 0), 67), ((ν 1), vals .i64 40 (byt M), 67)]].getD s [])) (fun _ => 0) hO (Rg.ac (nld 0 0 0 (at1 0 fun _ => by kernel_rfl) Tryd.underlying67) (Rg.ac (sn 0 (fun _ => vals .i64 40 (fun _ => 0)) 67 (fun _ w => al_n40 rfl w) (fun _ => fit_n40 _)) (Rg.ac (sr 1 2 (fun _ => vals .i64 40 (byt M)) (fun _ => fit_n40 _)) Rg.an))) ?_
      intro ν w13 hO
      replace hO : Own w w13 [(n1, vals .i64 40 (byt M), 67), (n2, vals .i64 40 (fun _ => 0), 67), ((ν 1), vals .i64 40 (byt M), 67)] := hO
      simp only [Rg.putL, Act.put, List.setIfInBounds_toArray, List.set_cons_succ, List.set_cons_zero]
      generalize ν 1 = n9 at hO ⊢
      clear ν
      have hbM : byt M 0 < 2 ^ 40 := Nat.lt_trans (byt_lt _ _) (by decide)
      have h540 : 5 < 2 ^ 40 := by decide
      obtain ⟨m5, hm5⟩ : ∃ m5, Hid ((fun i => if i = 0 then byt M 0 + 5 else byt M i) = m5) := ⟨_, hide rfl⟩
      obtain ⟨X, hX⟩ : ∃ X, Hid (M + 5 = X) := ⟨_, hide rfl⟩
      have HC5 : Hid (∀ w1 : World, Ret 40 #[A (vals .i64 40 m5)] w1 (A (vals .i64 40 (byt X)))) := hide fun w1 => by
        rw [← hm5.out, ← hX.out]
        exact carried_c _ (fun i => by have h1 := byt_lt M i; have h2 := byt_lt M 0; show (if i = 0 then byt M 0 + 5 else byt M i) ≤ 255 * 2 ^ 30; split <;> omega) _ (nb_five M HM.out) w1
      go_upto_region 24 with (fail)
      refine Rg.ps [4] (fun _ => [(66, D n9), (67, Nv .i64 (byt M 0)), (68, Nv .i64 (byt M 0 + 5)), (69, D n9)]) (OI w (fun s ν => [[(n1, vals .i64 40 (byt M), 67), (n2, vals .i64 40 (fun _ => 0), 67), (n9, vals .i64 40 (byt M), 67)], [(n1, vals .i64 40 (byt M), 67), (n2, vals .i64 40 (fun _ => 0), 67), (n9, vals .i64 40 (fun i => if i = 0 then byt M 0 + 5 else byt M i), 67)]].getD s [])) (fun _ => 0) hO (Rg.ac nv (Rg.ac (nc 0 0 2 (fun _ => 0) (fun _ => Nv .i64 (byt M 0)) agg_int (fun _ => vals_get _ _ _ _ (by decide)) (at1 0 fun _ => by kernel_rfl)) (Rg.ac (nx (fun _ => Nv .i64 (byt M 0 + 5)) (fun _ w => b_add hbM h540 w)) (Rg.ac nv (Rg.ac (sl 0 2 (fun _ => 0) (fun _ => Nv .i64 (byt M 0)) (fun _ => ((byt M 0 + 5 : Nat) : Int)) sz_int (fun _ => vals_get _ _ _ _ (by decide)) (fun _ => vals_set _ _ _ _ _) (fun _ => fit_n40 _)) Rg.an))))) ?_
      intro ν w14 hO
      replace hO : Own w w14 [(n1, vals .i64 40 (byt M), 67), (n2, vals .i64 40 (fun _ => 0), 67), (n9, vals .i64 40 (fun i => if i = 0 then byt M 0 + 5 else byt M i), 67)] := hO
      simp only [Rg.putL, Act.put, List.setIfInBounds_toArray, List.set_cons_succ, List.set_cons_zero]
      clear ν
      rw [hm5.out] at hO
      go_upto_region 25 with (fail)
      refine Rg.ps [1, 2] (fun _ => [(70, A (vals .i64 40 m5)), (71, A (vals .i64 40 (byt X)))]) (OI w (fun s ν => [[(n1, vals .i64 40 (byt M), 67), (n2, vals .i64 40 (fun _ => 0), 67), (n9, vals .i64 40 m5, 67)], [(n1, vals .i64 40 (byt M), 67), (n2, vals .i64 40 (fun _ => 0), 67), (n9, vals .i64 40 m5, 67)], [(n1, vals .i64 40 (byt M), 67), (n2, vals .i64 40 (fun _ => 0), 67), (n9, vals .i64 40 (byt X), 67)]].getD s [])) (fun _ => 0) hO (Rg.ac (nld 0 0 2 (at1 0 fun _ => by kernel_rfl) Tryd.underlying67) (Rg.ac (sc 0 40 (fun _ => #[A (vals .i64 40 m5)]) (fun _ => A (vals .i64 40 (byt X))) (fun _ => HC5.out)) (Rg.ac (sr 1 2 (fun _ => vals .i64 40 (byt X)) (fun _ => fit_n40 _)) Rg.an))) ?_
      intro ν w15 hO
      replace hO : Own w w15 [(n1, vals .i64 40 (byt M), 67), (n2, vals .i64 40 (fun _ => 0), 67), (n9, vals .i64 40 (byt X), 67)] := hO
      simp only [Rg.putL, Act.put, List.setIfInBounds_toArray, List.set_cons_succ, List.set_cons_zero]
      clear ν
      have hX31 : X < 2 ^ 131 := by rw [← hX.out]; have := HM.out; omega
      have htop := top_digit X hX31
      by_cases hge : 2 ^ 130 ≤ X
      · have hb4 : decide (4 ≤ byt X 16) = true := decide_eq_true (by rw [htop]; omega)
        have hb440 : byt X 16 < 2 ^ 40 := Nat.lt_trans (byt_lt _ _) (by decide)
        have h4le : 4 ≤ byt X 16 := by rw [htop]; omega
        have hres : vals .i64 40 (fun i => if i = 16 then byt X 16 - 4 else byt X i) = vals .i64 40 (byt Z) := vals_congr _ _ _ _ fun i _ => by rw [less_four X hX31 hge i, ← hX.out, HZ2.out (by rw [hX.out]; exact hge)]
        clear hge htop hX31
        go_upto_region 26 with (fail)
        refine Rg.ps [] (fun _ => [(72, E n9 16), (73, Nv .i64 (byt X 16)), (74, .bool true)]) (OI w (fun _ _ => [(n1, vals .i64 40 (byt M), 67), (n2, vals .i64 40 (fun _ => 0), 67), (n9, vals .i64 40 (byt X), 67)])) (fun _ => 0) hO (Rg.ac nv (Rg.ac (nc 0 0 2 (fun _ => 16) (fun _ => Nv .i64 (byt X 16)) agg_int (fun _ => vals_get _ _ _ _ (by decide)) (at1 0 fun _ => by kernel_rfl)) (Rg.ac (nx (fun _ => .bool true) (fun _ w => b_geq hb4 w)) Rg.an))) ?_
        intro ν w16 hO
        replace hO : Own w w16 [(n1, vals .i64 40 (byt M), 67), (n2, vals .i64 40 (fun _ => 0), 67), (n9, vals .i64 40 (byt X), 67)] := hO
        simp only [Rg.putL, Act.put, List.setIfInBounds_toArray, List.set_cons_succ, List.set_cons_zero]
        clear ν
        go_upto_region 27 with (fail)
        refine Rg.ps [4] (fun _ => [(75, E n9 16), (76, Nv .i64 (byt X 16)), (77, Nv .i64 (byt X 16 - 4)), (78, E n9 16)]) (OI w (fun s ν => [[(n1, vals .i64 40 (byt M), 67), (n2, vals .i64 40 (fun _ => 0), 67), (n9, vals .i64 40 (byt X), 67)], [(n1, vals .i64 40 (byt M), 67), (n2, vals .i64 40 (fun _ => 0), 67), (n9, vals .i64 40 (fun i => if i = 16 then byt X 16 - 4 else byt X i), 67)]].getD s [])) (fun _ => 0) hO (Rg.ac nv (Rg.ac (nc 0 0 2 (fun _ => 16) (fun _ => Nv .i64 (byt X 16)) agg_int (fun _ => vals_get _ _ _ _ (by decide)) (at1 0 fun _ => by kernel_rfl)) (Rg.ac (nx (fun _ => Nv .i64 (byt X 16 - 4)) (fun _ w => b_sub hb440 h4le w)) (Rg.ac nv (Rg.ac (sl 0 2 (fun _ => 16) (fun _ => Nv .i64 (byt X 16)) (fun _ => ((byt X 16 - 4 : Nat) : Int)) sz_int (fun _ => vals_get _ _ _ _ (by decide)) (fun _ => vals_set _ _ _ _ _) (fun _ => fit_n40 _)) Rg.an))))) ?_
        intro ν w17 hO
        replace hO : Own w w17 [(n1, vals .i64 40 (byt M), 67), (n2, vals .i64 40 (fun _ => 0), 67), (n9, vals .i64 40 (fun i => if i = 16 then byt X 16 - 4 else byt X i), 67)] := hO
        simp only [Rg.putL, Act.put, List.setIfInBounds_toArray, List.set_cons_succ, List.set_cons_zero]
        clear ν
        rw [hres] at hO
        clear hres hb4 hb440 h4le
        go_upto_region 28 with (fail)
        refine Rg.ps [1] (fun _ => [(79, A (vals .i64 40 (byt Z)))]) (OI w (fun s ν => [[(n1, vals .i64 40 (byt M), 67), (n2, vals .i64 40 (fun _ => 0), 67), (n9, vals .i64 40 (byt Z), 67)], [(n1, vals .i64 40 (byt M), 67), (n2, vals .i64 40 (byt Z), 67), (n9, vals .i64 40 (byt Z), 67)]].getD s [])) (fun _ => 0) hO (Rg.ac (nld 0 0 2 (at1 0 fun _ => by kernel_rfl) Tryd.underlying67) (Rg.ac (sr 0 1 (fun _ => vals .i64 40 (byt Z)) (fun _ => fit_n40 _)) Rg.an)) ?_
        intro ν w18 hO
        replace hO : Own w w18 [(n1, vals .i64 40 (byt M), 67), (n2, vals .i64 40 (byt Z), 67), (n9, vals .i64 40 (byt Z), 67)] := hO
        simp only [Rg.putL, Act.put, List.setIfInBounds_toArray, List.set_cons_succ, List.set_cons_zero]
        clear ν
        go_wp2_with (fail)
        refine bodyPost_ret (v := A (vals .i64 40 (byt Z))) (results_cell_row Tryd.results39 _ _ n2 67 _ (0, 0) _ rfl (hO.row 1 rfl) Tryd.underlying67 rfl ((fit_n40 _).size rfl)) rfl ⟨rfl, hO.low⟩
      · have hb4 : decide (4 ≤ byt X 16) = false := decide_eq_false (by rw [htop]; omega)
        have hres : M = Z := HZ1.out (by rw [hX.out]; omega)
        rw [hres] at hO
        clear hge htop hX31 hres
        go_upto_region 26 with (fail)
        refine Rg.ps [] (fun _ => [(72, E n9 16), (73, Nv .i64 (byt X 16)), (74, .bool false)]) (OI w (fun _ _ => [(n1, vals .i64 40 (byt Z), 67), (n2, vals .i64 40 (fun _ => 0), 67), (n9, vals .i64 40 (byt X), 67)])) (fun _ => 0) hO (Rg.ac nv (Rg.ac (nc 0 0 2 (fun _ => 16) (fun _ => Nv .i64 (byt X 16)) agg_int (fun _ => vals_get _ _ _ _ (by decide)) (at1 0 fun _ => by kernel_rfl)) (Rg.ac (nx (fun _ => .bool false) (fun _ w => b_geq hb4 w)) Rg.an))) ?_
        intro ν w19 hO
        replace hO : Own w w19 [(n1, vals .i64 40 (byt Z), 67), (n2, vals .i64 40 (fun _ => 0), 67), (n9, vals .i64 40 (byt X), 67)] := hO
        simp only [Rg.putL, Act.put, List.setIfInBounds_toArray, List.set_cons_succ, List.set_cons_zero]
        clear ν
        clear hb4
        go_upto_region 29 with (fail)
        refine Rg.ps [1] (fun _ => [(80, A (vals .i64 40 (byt Z)))]) (OI w (fun s ν => [[(n1, vals .i64 40 (byt Z), 67), (n2, vals .i64 40 (fun _ => 0), 67), (n9, vals .i64 40 (byt X), 67)], [(n1, vals .i64 40 (byt Z), 67), (n2, vals .i64 40 (byt Z), 67), (n9, vals .i64 40 (byt X), 67)]].getD s [])) (fun _ => 0) hO (Rg.ac (nld 0 0 0 (at1 0 fun _ => by kernel_rfl) Tryd.underlying67) (Rg.ac (sr 0 1 (fun _ => vals .i64 40 (byt Z)) (fun _ => fit_n40 _)) Rg.an)) ?_
        intro ν w20 hO
        replace hO : Own w w20 [(n1, vals .i64 40 (byt Z), 67), (n2, vals .i64 40 (byt Z), 67), (n9, vals .i64 40 (byt X), 67)] := hO
        simp only [Rg.putL, Act.put, List.setIfInBounds_toArray, List.set_cons_succ, List.set_cons_zero]
        clear ν
        go_wp2_with (fail)
        refine bodyPost_ret (v := A (vals .i64 40 (byt Z))) (results_cell_row Tryd.results39 _ _ n2 67 _ (0, 0) _ rfl (hO.row 1 rfl) Tryd.underlying67 rfl ((fit_n40 _).size rfl)) rfl ⟨rfl, hO.low⟩
end Go.Proofs.YtanahjoiilfcbaaDoor

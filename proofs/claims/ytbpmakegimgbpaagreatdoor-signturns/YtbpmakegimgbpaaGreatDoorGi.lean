/- Walks: Decode. Thirty-two bytes; no other condition. -/
import Derived.Test.YtbpmakegimgbpaaGreatDoorGh
namespace Go.Proofs.YtbpmakegimgbpaaGreatDoor
set_option maxRecDepth 100000
open F Go.RowKit Rg

section
variable {o : Oper} {a : Act} {u w : World} {L : List Row} {Q : Exit → Act → World → Prop} {ops : Array Oper} {rest : List Oper}
end
def sameB (f g : Nat → Nat) : Bool := (List.range 32).all fun i => f i == g i
theorem sameB_iff (f g : Nat → Nat) : sameB f g = true ↔ ∀ i, i < 32 → f i = g i := by
  unfold sameB; rw [List.all_eq_true]; simp
theorem eqB (f g : Nat → Nat) (w : World) : (Op.equalIn 10000 22 (.agg (vals .u8 32 f)) (.agg (vals .u8 32 g))).run Tryz.prog w = .ok (sameB f g) w := run_equal_vals (P := Tryz.prog) w 9998 22 5 32 .u8 Tryz.underlying22 Tryz.underlying5 size5 f g
theorem neq_c {ρ : Operand → Value} {o : Oper} (x y : Operand) (f g : Nat → Nat) (b : Bool) (hb : sameB f g = b) (w : World) (ho : o.op = .binOp .neq 22 x y 22) (hx : ρ x = .agg (vals .u8 32 f)) (hy : ρ y = .agg (vals .u8 32 g)) : (execOp ρ o).run Tryz.prog w = .ok (.value (.bool (!b))) w := by
  have h := eqB f g
  rw [hb] at h
  unfold execOp
  simp only [ho, hx, hy]
  go_simp
theorem same_num {f g : Nat → Nat} (hf : ∀ i, f i < 256) (hg : ∀ i, g i < 256) : sameB f g = decide (nb f 32 = nb g 32) := by
  rw [Bool.eq_iff_iff, sameB_iff, decide_eq_true_eq]
  constructor
  · intro h; exact nb_congr f g 32 h
  · intro h i hi
    rw [← byt_nb f hf 32 i hi, ← byt_nb g hg 32 i hi, h]
theorem nb_byt32 {n : Nat} (hn : n < 2 ^ 256) : nb (byt n) 32 = n := by rw [nb_byt, Nat.mod_eq_of_lt hn]
theorem nb_cob (f : Nat → Nat) (hf : ∀ i, f i < 256) : nb (cob f) 32 = nb f 32 % 2 ^ 255 := by
  have e1 : nb (cob f) 32 = nb (cob f) 31 + cob f 31 * 2 ^ (8 * 31) := rfl
  have e2 : nb f 32 = nb f 31 + f 31 * 2 ^ (8 * 31) := rfl
  have e3 : nb (cob f) 31 = nb f 31 := nb_congr _ _ 31 fun j hj => by unfold cob; rw [if_neg (by omega)]
  have e4 : cob f 31 = f 31 % 128 := by unfold cob; rw [if_pos rfl]
  have h1 : nb f 31 < 2 ^ (8 * 31) := nb_lt f hf 31
  rw [e1, e2, e3, e4]
  generalize nb f 31 = A at *
  generalize f 31 = B at *
  omega
/-- What Decode tells: a point, and whether there is one. -/
def decR (n : Nat) : (Nat × Nat) × Bool := match dec7 n with
  | some P => (P, true)
  | none => (zero7, false)
theorem decR_ok (n : Nat) (hn : n < 2 ^ 256) : Ok7 (decR n).1 := by
  unfold decR
  cases h : dec7 n with
  | none => exact ok_zero7
  | some P => exact (dec7_ok n hn P h).1
theorem odd_bit7 (n : Nat) : n.testBit 255 = decide (n / 2 ^ 255 % 2 = 1) := Nat.testBit_eq_decide_div_mod_eq
theorem dec_big {n : Nat} (h : pP ≤ n % 2 ^ 255) : decR n = (zero7, false) := by unfold decR dec7; rw [if_pos h]
theorem dec_bad {n : Nat} (h : n % 2 ^ 255 < pP) (hk : false = rOk (u7 (n % 2 ^ 255)) (v7 (n % 2 ^ 255))) : decR n = (zero7, false) := by unfold decR dec7; rw [if_neg (by omega), if_pos (Or.inl hk.symm)]
theorem dec_flat {n X : Nat} (h : n % 2 ^ 255 < pP) (hX : X = rVal (u7 (n % 2 ^ 255)) (v7 (n % 2 ^ 255))) (h0 : X = 0) (ho : true = n.testBit 255) : decR n = (zero7, false) := by
  rw [odd_bit7] at ho
  unfold decR dec7
  rw [if_neg (by omega), if_pos (Or.inr ⟨by rw [← hX]; exact h0, of_decide_eq_true ho.symm⟩)]
theorem dec_even {n X : Nat} (h : n % 2 ^ 255 < pP) (hX : X = rVal (u7 (n % 2 ^ 255)) (v7 (n % 2 ^ 255))) (hk : true = rOk (u7 (n % 2 ^ 255)) (v7 (n % 2 ^ 255))) (ho : false = n.testBit 255) : decR n = ((X, n % 2 ^ 255), true) := by
  rw [odd_bit7] at ho
  have ho' := of_decide_eq_false ho.symm
  unfold decR dec7
  rw [if_neg (by omega), if_neg (by rw [← hk]; simp [ho']), if_neg ho', ← hX]
theorem dec_odd {n X : Nat} (h : n % 2 ^ 255 < pP) (hX : X = rVal (u7 (n % 2 ^ 255)) (v7 (n % 2 ^ 255))) (hk : true = rOk (u7 (n % 2 ^ 255)) (v7 (n % 2 ^ 255))) (h0 : ¬ X = 0) (ho : true = n.testBit 255) : decR n = ((ng X, n % 2 ^ 255), true) := by
  rw [odd_bit7] at ho
  have ho' := of_decide_eq_true ho.symm
  unfold decR dec7
  rw [if_neg (by omega), if_neg (by rw [← hk, ← hX]; simp [h0]), if_pos ho', ← hX]
theorem and_run12 {o : Oper} (a : Act) (w : World) (g : Nat) (hg : g < 256) (h0 : a.eval (.tmp 12) = .int .u8 ((g : Nat) : Int)) (ho : o.op = .binOp .and 5 (.tmp 12) (.const (.int .u8 127)) 5 := by rfl) : (execOp a.eval o).run Tryz.prog w = .ok (.value (.int .u8 ((g % 128 : Nat) : Int))) w := by
  unfold execOp
  simp only [ho, h0]
  have e0 : a.eval (.const (.int .u8 127)) = .int .u8 127 := rfl
  have e := and8_127 g hg
  go_simp
set_option maxHeartbeats 4000000 in
theorem decode_p (f : Nat → Nat) (hf : ∀ i, f i < 256) (w : World) : Ret 22 #[.agg (vals .u8 32 f)] w (.tuple #[.agg (pt (decR (nb f 32)).1), .bool (decR (nb f 32)).2]) := by
  go_enter Tryz.func22, Tryz.ntmps22
  have hO := Wn.start w
  obtain ⟨n, hn⟩ : ∃ n, n = nb f 32 := ⟨_, rfl⟩
  obtain ⟨odd, hodd⟩ : ∃ b, b = n.testBit 255 := ⟨_, rfl⟩
  have hbit := bitOf_c f 255 hf (by omega)
  rw [← hn, ← hodd] at hbit
  have hm : nb (cob f) 32 = n % 2 ^ 255 := by rw [hn]; exact nb_cob f hf
  have hm2 : n % 2 ^ 255 < 2 ^ 256 := by omega
  obtain ⟨m, em⟩ : ∃ m, m = n % 2 ^ 255 := ⟨_, rfl⟩
  rw [← em] at hm hm2
  have Hn := hide hn
  have Ho := hide hodd
  have Hb := hide hbit
  have Hm := hide hm
  have Em := hide em
  rw [← hn]
  clear hn hodd hbit hm em
  go_upto_region 0 with (fail)
  refine Rg.ps [0, 1] (fun ν => [(1, D (ν 0)), (2, D (ν 1)), (3, .bool false)]) (OI w (Sq _ (fun ν => [ap ((ν 0), vals .u8 32 f, 22), ap ((ν 1), ps [0, 0], 49)]))) (fun _ => 0) hO (Rg.ac (sn 0 (fun _ => vals .u8 32 f) 22 (fun _ w => run_box 22 _ rfl _ (by kernel_rfl) w) (fun _ => ft (fit_by _))) (Rg.ac (sn 1 (fun _ => ps [0, 0]) 49 (fun _ w => al29 rfl w) (fun _ => ft (fit_pt _ _))) (Rg.ac nV Rg.an))) ?_
  intro ν w1 hO
  simp only [OI, Sq, Sg, ap, qA, qB, qC, qD, qE, qF, qG, Rg.putL, Act.put] at hO ⊢
  generalize ν 0 = n1 at hO ⊢
  generalize ν 1 = n2 at hO ⊢
  clear ν
  go_upto_region 1 with (fail)
  refine Rg.ps [1] (fun _ => [(9, A (vals .u8 32 f)), (10, .bool odd), (4, .bool odd)]) (OI w (Sq _ (fun _ => [id]))) (fun _ => 0) hO (Rg.ac (nld 0 0 0 (fun _ => n1) (fun _ => vals .u8 32 f) (t1 0) Tryz.underlying22) (Rg.ac (sC 0 47 _ _ (fun _ => Hb.out)) (Rg.ac nV Rg.an))) ?_
  intro ν w2 hO
  simp only [OI, Sq, Sg, id, qC, qD, qE, qF, qG, Rg.putL, Act.put] at hO ⊢
  clear ν
  go_upto_region 2 with (fail)
  refine Rg.ps [4] (fun _ => [(11, E n1 31), (12, Nv .u8 (f 31)), (13, Nv .u8 (f 31 % 128)), (14, E n1 31)]) (OI w (Sq _ (fun _ => [se 0 (n1, vals .u8 32 (fun j => if j = 31 then f 31 % 128 else f j), 22)]))) (fun _ => 0) hO (Rg.ac nV (Rg.ac (nc 0 0 0 (fun _ => n1) 22 (fun _ => vals .u8 32 f) (fun _ => 31) (fun _ => Nv .u8 (f 31)) agg_u8 (fun _ => (vals_get _ _ _ _ (by omega))) (t1 0)) (Rg.ac (nx (fun _ => Nv .u8 (f 31 % 128)) (fun _ w => and_run12 _ w _ (hf 31) (by kernel_rfl))) (Rg.ac nV (Rg.ac (sL 0 0 (fun _ => 31) (fun _ => Nv .u8 (f 31)) (fun _ => ((f 31 % 128 : Nat) : Int)) sz_u8 (fun _ => (vals_get _ _ _ _ (by omega))) (fun _ => (set_by _ _ _)) (fun _ => ft (fit_by _))) Rg.an))))) ?_
  intro ν w3 hO
  simp only [OI, Sq, Sg, se, qC, qD, qE, qF, qG, Rg.putL, Act.put] at hO ⊢
  clear ν
  replace hO : Wn w w3 [(n1, vals .u8 32 (cob f), 22), (n2, ps [0, 0], 49)] := hO
  have hl := load_c (cob f) (cob_lt f hf)
  rw [Hm.out] at hl
  have Hl := hide hl
  clear hl
  go_upto_region 3 with (fail)
  refine Rg.ps [1, 2, 3] (fun ν => [(15, A (vals .u8 32 (cob f))), (16, A (arr 4 (limb (m % pP)))), (5, D (ν 2))]) (OI w (Sq _ (fun ν => [id, ap ((ν 2), arr 4 (limb 0), 47), se 2 ((ν 2), arr 4 (limb (m % pP)), 47)]))) (fun _ => 0) hO (Rg.ac (nld 0 0 0 (fun _ => n1) (fun _ => vals .u8 32 (cob f)) (t1 0) Tryz.underlying22) (Rg.ac (sC 0 48 _ _ (fun _ => Hl.out)) (Rg.ac (sn 1 (fun _ => arr 4 (limb 0)) 47 (fun _ w => al27 rfl w) (fun _ => ft (fit_fe _))) (Rg.ac (sr 2 2 (fun _ => arr 4 (limb (m % pP))) (fun _ => ft (fit_fe _))) Rg.an)))) ?_
  intro ν w4 hO
  simp only [OI, Sq, Sg, ap, se, id, qA, qB, qC, qD, qE, qF, qG, Rg.putL, Act.put] at hO ⊢
  generalize ν 2 = n5 at hO ⊢
  clear ν
  go_upto_region 4 with (fail)
  by_cases hbig : pP ≤ m
  · skip
    have hs : sameB (byt (m % pP)) (cob f) = false := by rw [same_num (byt_lt _) (cob_lt f hf), nb_byt32 (Nat.lt_of_le_of_lt (Nat.mod_le _ _) hm2), Hm.out]; exact decide_eq_false (by have := Nat.mod_lt m pP_pos; omega)
    refine Rg.pd [1] (fun _ => [(17, A (arr 4 (limb (m % pP)))), (18, A (vals .u8 32 (byt (m % pP)))), (19, A (vals .u8 32 (cob f))), (20, .bool true)]) (OI w (Sq _ (fun _ => [id]))) (fun _ => 0) hO.drew (Rg.ac (nld 0 0 2 (fun _ => n5) (fun _ => arr 4 (limb (m % pP))) (t1 0) Tryz.underlying47) (Rg.ac (sC 0 49 _ _ (fun _ => bytes_c (m % pP))) (Rg.ac (nld 0 1 0 (fun _ => n1) (fun _ => vals .u8 32 (cob f)) (t2 0 1 (t1 1)) Tryz.underlying22) (Rg.ac (nx (fun _ => .bool true) (fun _ w => neq_c _ _ _ _ false hs w rfl (by kernel_rfl) (by kernel_rfl))) Rg.an)))) ?_
    intro ν w5 hO
    simp only [OI, Sq, Sg, id, qC, qD, qE, qF, qG, Rg.putL, Act.put] at hO ⊢
    clear ν
    have Hs := hide hs
    clear hs
    go_upto_region 5 with (fail)
    refine Rg.ps [1] (fun _ => [(21, A (ps [0, 0])), (3, .bool false)]) (OI w (Sq _ (fun _ => [id]))) (fun _ => 0) hO (Rg.ac (nx (fun _ => A (ps [0, 0])) (fun _ w => run_bd 49 _ rfl [] (by kernel_rfl) _ bd_pt0 w)) (Rg.ac (sr 0 1 (fun _ => ps [0, 0]) (fun _ => ft (fit_pt _ _))) (Rg.ac nV Rg.an))) ?_
    intro ν w6 hO
    simp only [OI, Sq, Sg, id, qC, qD, qE, qF, qG, Rg.putL, Act.put] at hO ⊢
    clear ν
    go_wp2_with fail
    have hd := dec_big (Em.out ▸ hbig)
    refine bodyPost_ret (v := .tuple #[.agg (ps [0, 0]), .bool false]) (results_and Tryz.results22 _ _ n2 49 _ (0, 0) _ _ rfl (hO.row 1 rfl) Tryz.underlying49 rfl (fit_pt _ _).size rfl) rfl ⟨?_, hO.low⟩
    rw [hd, pt_zero]
  · skip
    have hlt : m < pP := by omega
    have hs : sameB (byt (m % pP)) (cob f) = true := by rw [same_num (byt_lt _) (cob_lt f hf), nb_byt32 (Nat.lt_of_le_of_lt (Nat.mod_le _ _) hm2), Hm.out]; exact decide_eq_true (Nat.mod_eq_of_lt hlt)
    refine Rg.pd [1] (fun _ => [(17, A (arr 4 (limb (m % pP)))), (18, A (vals .u8 32 (byt (m % pP)))), (19, A (vals .u8 32 (cob f))), (20, .bool false)]) (OI w (Sq _ (fun _ => [id]))) (fun _ => 0) hO.drew (Rg.ac (nld 0 0 2 (fun _ => n5) (fun _ => arr 4 (limb (m % pP))) (t1 0) Tryz.underlying47) (Rg.ac (sC 0 49 _ _ (fun _ => bytes_c (m % pP))) (Rg.ac (nld 0 1 0 (fun _ => n1) (fun _ => vals .u8 32 (cob f)) (t2 0 1 (t1 1)) Tryz.underlying22) (Rg.ac (nx (fun _ => .bool false) (fun _ w => neq_c _ _ _ _ true hs w rfl (by kernel_rfl) (by kernel_rfl))) Rg.an)))) ?_
    intro ν w5 hO
    simp only [OI, Sq, Sg, id, qC, qD, qE, qF, qG, Rg.putL, Act.put] at hO ⊢
    clear ν
    have Hs := hide hs
    clear hs hbig
    rw [Nat.mod_eq_of_lt hlt] at hO
    have hL : n % 2 ^ 255 < pP := Em.out ▸ hlt
    go_upto_region 6 with (fail)
    refine Rg.ps [1, 2, 3] (fun ν => [(22, A (arr 4 (limb m))), (23, A (arr 4 (limb (mm m m)))), (6, D (ν 2))]) (OI w (Sq _ (fun ν => [id, ap ((ν 2), arr 4 (limb 0), 47), se 3 ((ν 2), arr 4 (limb (mm m m)), 47)]))) (fun _ => 0) hO (Rg.ac (nld 0 0 2 (fun _ => n5) (fun _ => arr 4 (limb m)) (t1 0) Tryz.underlying47) (Rg.ac (sC 0 50 _ _ (fun _ => sq_c m hlt)) (Rg.ac (sn 1 (fun _ => arr 4 (limb 0)) 47 (fun _ w => al27 rfl w) (fun _ => ft (fit_fe _))) (Rg.ac (sr 2 3 (fun _ => arr 4 (limb (mm m m))) (fun _ => ft (fit_fe _))) Rg.an)))) ?_
    intro ν w6 hO
    simp only [OI, Sq, Sg, ap, se, id, qA, qB, qC, qD, qE, qF, qG, Rg.putL, Act.put] at hO ⊢
    generalize ν 2 = n6 at hO ⊢
    clear ν
    have hr := ratio_c (u7 m) (v7 m) (u7_lt m) (v7_lt m)
    obtain ⟨X, hX⟩ : ∃ X, X = rVal (u7 m) (v7 m) := ⟨_, rfl⟩
    obtain ⟨ok, hok⟩ : ∃ b, b = rOk (u7 m) (v7 m) := ⟨_, rfl⟩
    have hXl : X < pP := hX ▸ val_lt _ _
    rw [← hX, ← hok] at hr
    have Hr := hide hr
    have HX := hide hX
    have Hk := hide hok
    clear hr hX hok
    go_upto_region 7 with (fail)
    refine Rf.pg (fun ν => [(25, A (arr 4 (limb (mm m m)))), (26, A (arr 4 (limb 1))), (27, A (arr 4 (limb (sm (mm m m) 1)))), (28, A (arr 4 (limb d7N))), (29, A (arr 4 (limb (mm m m)))), (30, A (arr 4 (limb (mm d7N (mm m m))))), (31, A (arr 4 (limb 1))), (32, A (arr 4 (limb (am (mm d7N (mm m m)) 1)))), (33, .tuple #[A (arr 4 (limb X)), .bool ok]), (24, .tuple #[A (arr 4 (limb X)), .bool ok]), (34, A (arr 4 (limb X))), (35, .bool ok), (7, D (ν 12)), (8, .bool ok)]) [(n1, vals .u8 32 (cob f), 22, none), (n2, ps [0, 0], 49, none), (n5, arr 4 (limb m), 47, none), (n6, arr 4 (limb (mm m m)), 47, none)] (fun _ => [(12, arr 4 (limb 0), 47, some (13, arr 4 (limb X)))]) (fun _ => 0) hO.drew (Rg.ac (Rf.fld 3 (fun _ => n6) (fun _ => arr 4 (limb (mm m m))) (fun D ν _ => rfl) Tryz.underlying47) (Rg.ac (Rf.fq 53 _ _ (fun D ν w my hO => (one_c) w)) (Rg.ac (Rf.fq 52 _ _ (fun D ν w my hO => (sub_c (mm m m) 1 (mm_lt _ _) (of_lt (by omega))) w)) (Rg.ac (Rf.fq 56 _ _ (fun D ν w my hO => (d_c) w)) (Rg.ac (Rf.fld 3 (fun _ => n6) (fun _ => arr 4 (limb (mm m m))) (fun D ν _ => rfl) Tryz.underlying47) (Rg.ac (Rf.fq 55 _ _ (fun D ν w my hO => (mul_c d7N (mm m m) d7_lt (mm_lt _ _)) w)) (Rg.ac (Rf.fq 53 _ _ (fun D ν w my hO => (one_c) w)) (Rg.ac (Rf.fq 54 _ _ (fun D ν w my hO => (add_c (mm d7N (mm m m)) 1 (mm_lt _ _) (of_lt (by omega))) w)) (Rg.ac (Rf.fq 51 _ _ (fun D ν w my hO => (Hr.out) w)) (Rg.ac Rf.fv (Rg.ac Rf.fv (Rg.ac Rf.fv (Rg.ac (Rf.ga 0 (fun _ _ => rfl) (fun _ _ => rfl) (fun _ w => al27 rfl w) (fun _ => ft (fit_fe _))) (Rg.ac (Rf.gm 0 12 (fun _ => rfl) (ft (fit_fe _))) (Rg.ac Rf.fv Rg.an))))))))))))))) ?_
    intro ν w7 hO
    replace hO : Wn w w7 [(n1, vals .u8 32 (cob f), 22), (n2, ps [0, 0], 49), (n5, arr 4 (limb m), 47), (n6, arr 4 (limb (mm m m)), 47), ((ν 12), arr 4 (limb X), 47)] := hO
    simp only [qC, qD, qE, Rg.putL, Act.put]
    generalize ν 12 = n7 at hO ⊢
    clear ν
    cases ok
    · skip
      go_upto_region 8 with (fail)
      refine Rg.ps [] (fun _ => [(36, .bool false), (37, .bool true), (38, .bool true), (39, U), (40, U), (41, U), (42, U), (43, U), (44, U), (45, .bool true)]) (OI w (Sq _ (fun _ => []))) (fun _ => 0) hO (Rg.ac nV (Rg.ac nV (Rg.ac nV (Rg.ac nk (Rg.ac nk (Rg.ac nk (Rg.ac nk (Rg.ac nk (Rg.ac nk (Rg.ac nV Rg.an)))))))))) ?_
      intro ν w8 hO
      simp only [OI, Sq, Sg, qC, qD, qE, Rg.putL, Act.put] at hO ⊢
      clear ν
      go_upto_region 9 with (fail)
      refine Rg.ps [1] (fun _ => [(46, A (ps [0, 0])), (3, .bool false)]) (OI w (Sq _ (fun _ => [id]))) (fun _ => 0) hO (Rg.ac (nx (fun _ => A (ps [0, 0])) (fun _ w => run_bd 49 _ rfl [] (by kernel_rfl) _ bd_pt0 w)) (Rg.ac (sr 0 1 (fun _ => ps [0, 0]) (fun _ => ft (fit_pt _ _))) (Rg.ac nV Rg.an))) ?_
      intro ν w9 hO
      simp only [OI, Sq, Sg, id, qC, qD, qE, qF, qG, Rg.putL, Act.put] at hO ⊢
      clear ν
      go_wp2_with fail
      have hd := dec_bad hL (Em.out ▸ Hk.out)
      refine bodyPost_ret (v := .tuple #[.agg (ps [0, 0]), .bool false]) (results_and Tryz.results22 _ _ n2 49 _ (0, 0) _ _ rfl (hO.row 1 rfl) Tryz.underlying49 rfl (fit_pt _ _).size rfl) rfl ⟨?_, hO.low⟩
      rw [hd, pt_zero]
    · skip
      cases odd
      · skip
        go_upto_region 8 with (fail)
        refine Rg.ps [] (fun _ => [(36, .bool true), (37, .bool false), (38, .bool false), (39, .bool false), (40, .bool false), (41, U), (42, U), (43, U), (44, .bool false), (45, .bool false)]) (OI w (Sq _ (fun _ => []))) (fun _ => 0) hO (Rg.ac nV (Rg.ac nV (Rg.ac nV (Rg.ac nV (Rg.ac nV (Rg.ac nk (Rg.ac nk (Rg.ac nk (Rg.ac nV (Rg.ac nV Rg.an)))))))))) ?_
        intro ν w8 hO
        simp only [OI, Sq, Sg, qC, qD, qE, Rg.putL, Act.put] at hO ⊢
        clear ν
        go_upto_region 10 with (fail)
        refine Rg.pd [1, 4, 6, 7] (fun _ => [(47, A (arr 4 (limb X))), (48, A (arr 4 (limb (ng X)))), (49, A (arr 4 (limb X))), (50, .bool false), (51, A (arr 4 (limb (cond false (ng X) X)))), (52, A (arr 4 (limb m))), (53, A (ps [cond false (ng X) X, sm m 1])), (3, .bool true)]) (OI w (Sq _ (fun _ => [id, id, id, se 1 (n2, ps [cond false (ng X) X, sm m 1], 49)]))) (fun _ => 0) hO.drew (Rg.ac (nld 0 0 4 (fun _ => n7) (fun _ => arr 4 (limb X)) (t1 0) Tryz.underlying47) (Rg.ac (sC 0 60 _ _ (fun _ => neg_c X hXl)) (Rg.ac (nld 0 1 4 (fun _ => n7) (fun _ => arr 4 (limb X)) (t2 0 1 (t1 1)) Tryz.underlying47) (Rg.ac nV (Rg.ac (sC 1 59 _ _ (fun _ => pick_c (ng X) X false)) (Rg.ac (nld 0 2 2 (fun _ => n5) (fun _ => arr 4 (limb m)) (t2 0 2 (t2 1 2 (t1 2))) Tryz.underlying47) (Rg.ac (sC 2 58 _ _ (fun _ => pointAt_c (cond false (ng X) X) m hlt)) (Rg.ac (sr 3 1 (fun _ => ps [cond false (ng X) X, sm m 1]) (fun _ => ft (fit_pt _ _))) (Rg.ac nV Rg.an))))))))) ?_
        intro ν w9 hO
        simp only [OI, Sq, Sg, se, id, qC, qD, qE, qF, qG, Rg.putL, Act.put] at hO ⊢
        clear ν
        go_wp2_with fail
        have hd := dec_even hL (Em.out ▸ HX.out) (Em.out ▸ Hk.out) Ho.out
        refine bodyPost_ret (v := .tuple #[.agg (ps [cond false (ng X) X, sm m 1]), .bool true]) (results_and Tryz.results22 _ _ n2 49 _ (0, 0) _ _ rfl (hO.row 1 rfl) Tryz.underlying49 rfl (fit_pt _ _).size rfl) rfl ⟨?_, hO.low⟩
        rw [hd, ← Em.out]; rfl
      · skip
        have hs := same_c X 0 hXl (of_lt (by omega))
        by_cases h0 : X = 0
        · skip
          rw [decide_eq_true h0] at hs
          go_upto_region 8 with (fail)
          refine Rg.ps [7] (fun _ => [(36, .bool true), (37, .bool false), (38, .bool false), (39, .bool true), (40, .bool true), (41, A (arr 4 (limb X))), (42, A (arr 4 (limb 0))), (43, .bool true), (44, .bool true), (45, .bool true)]) (OI w (Sq _ (fun _ => [id]))) (fun _ => 0) hO (Rg.ac nV (Rg.ac nV (Rg.ac nV (Rg.ac nV (Rg.ac nV (Rg.ac (nld 0 0 4 (fun _ => n7) (fun _ => arr 4 (limb X)) (t1 0) Tryz.underlying47) (Rg.ac (nx (fun _ => A (arr 4 (limb 0))) (fun _ w => run_bd 47 _ rfl [] (by kernel_rfl) _ bd_fe0 w)) (Rg.ac (sC 0 57 _ _ (fun _ => hs)) (Rg.ac nV (Rg.ac nV Rg.an)))))))))) ?_
          intro ν w8 hO
          simp only [OI, Sq, Sg, id, qC, qD, qE, qF, qG, Rg.putL, Act.put] at hO ⊢
          clear ν
          go_upto_region 9 with (fail)
          refine Rg.ps [1] (fun _ => [(46, A (ps [0, 0])), (3, .bool false)]) (OI w (Sq _ (fun _ => [id]))) (fun _ => 0) hO (Rg.ac (nx (fun _ => A (ps [0, 0])) (fun _ w => run_bd 49 _ rfl [] (by kernel_rfl) _ bd_pt0 w)) (Rg.ac (sr 0 1 (fun _ => ps [0, 0]) (fun _ => ft (fit_pt _ _))) (Rg.ac nV Rg.an))) ?_
          intro ν w9 hO
          simp only [OI, Sq, Sg, id, qC, qD, qE, qF, qG, Rg.putL, Act.put] at hO ⊢
          clear ν
          go_wp2_with fail
          have hd := dec_flat hL (Em.out ▸ HX.out) h0 Ho.out
          refine bodyPost_ret (v := .tuple #[.agg (ps [0, 0]), .bool false]) (results_and Tryz.results22 _ _ n2 49 _ (0, 0) _ _ rfl (hO.row 1 rfl) Tryz.underlying49 rfl (fit_pt _ _).size rfl) rfl ⟨?_, hO.low⟩
          rw [hd, pt_zero]
        · skip
          rw [decide_eq_false h0] at hs
          go_upto_region 8 with (fail)
          refine Rg.ps [7] (fun _ => [(36, .bool true), (37, .bool false), (38, .bool false), (39, .bool true), (40, .bool true), (41, A (arr 4 (limb X))), (42, A (arr 4 (limb 0))), (43, .bool false), (44, .bool false), (45, .bool false)]) (OI w (Sq _ (fun _ => [id]))) (fun _ => 0) hO (Rg.ac nV (Rg.ac nV (Rg.ac nV (Rg.ac nV (Rg.ac nV (Rg.ac (nld 0 0 4 (fun _ => n7) (fun _ => arr 4 (limb X)) (t1 0) Tryz.underlying47) (Rg.ac (nx (fun _ => A (arr 4 (limb 0))) (fun _ w => run_bd 47 _ rfl [] (by kernel_rfl) _ bd_fe0 w)) (Rg.ac (sC 0 57 _ _ (fun _ => hs)) (Rg.ac nV (Rg.ac nV Rg.an)))))))))) ?_
          intro ν w8 hO
          simp only [OI, Sq, Sg, id, qC, qD, qE, qF, qG, Rg.putL, Act.put] at hO ⊢
          clear ν
          go_upto_region 10 with (fail)
          refine Rg.pd [1, 4, 6, 7] (fun _ => [(47, A (arr 4 (limb X))), (48, A (arr 4 (limb (ng X)))), (49, A (arr 4 (limb X))), (50, .bool true), (51, A (arr 4 (limb (cond true (ng X) X)))), (52, A (arr 4 (limb m))), (53, A (ps [cond true (ng X) X, sm m 1])), (3, .bool true)]) (OI w (Sq _ (fun _ => [id, id, id, se 1 (n2, ps [cond true (ng X) X, sm m 1], 49)]))) (fun _ => 0) hO.drew (Rg.ac (nld 0 0 4 (fun _ => n7) (fun _ => arr 4 (limb X)) (t1 0) Tryz.underlying47) (Rg.ac (sC 0 60 _ _ (fun _ => neg_c X hXl)) (Rg.ac (nld 0 1 4 (fun _ => n7) (fun _ => arr 4 (limb X)) (t2 0 1 (t1 1)) Tryz.underlying47) (Rg.ac nV (Rg.ac (sC 1 59 _ _ (fun _ => pick_c (ng X) X true)) (Rg.ac (nld 0 2 2 (fun _ => n5) (fun _ => arr 4 (limb m)) (t2 0 2 (t2 1 2 (t1 2))) Tryz.underlying47) (Rg.ac (sC 2 58 _ _ (fun _ => pointAt_c (cond true (ng X) X) m hlt)) (Rg.ac (sr 3 1 (fun _ => ps [cond true (ng X) X, sm m 1]) (fun _ => ft (fit_pt _ _))) (Rg.ac nV Rg.an))))))))) ?_
          intro ν w9 hO
          simp only [OI, Sq, Sg, se, id, qC, qD, qE, qF, qG, Rg.putL, Act.put] at hO ⊢
          clear ν
          go_wp2_with fail
          have hd := dec_odd hL (Em.out ▸ HX.out) (Em.out ▸ Hk.out) h0 Ho.out
          refine bodyPost_ret (v := .tuple #[.agg (ps [cond true (ng X) X, sm m 1]), .bool true]) (results_and Tryz.results22 _ _ n2 49 _ (0, 0) _ _ rfl (hO.row 1 rfl) Tryz.underlying49 rfl (fit_pt _ _).size rfl) rfl ⟨?_, hO.low⟩
          rw [hd, ← Em.out]; rfl
end Go.Proofs.YtbpmakegimgbpaaGreatDoor

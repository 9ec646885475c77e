/- Texts in one: Hs Pt. -/
import Derived.Test.YtbpmakegimgbpaaGreatDoorPn
import Derived.Test.YtbpmakegimgbpaaGreatDoorJq
import Derived.Test.YtbpmakegimgbpaaGreatDoorSh
namespace Go.Proofs.YtbpmakegimgbpaaGreatDoor
set_option maxRecDepth 100000
open F Go.RowKit Rg

/-- A multiple of the base point, as bytes. -/
def ptb (n : Nat) : Nat → Nat := byt (num7 (mul7 base7 n))
/-- A list's digest, below the order. -/
def dgn (l : List Nat) : Nat := nb (T.dg l) 64 % S.qL
theorem dgn_lt (l : List Nat) : dgn l < 2 ^ 256 := Nat.lt_trans (Nat.mod_lt _ S.qL_pos) S.qL_lt256
def sec (f : Nat → Nat) : Nat → Nat := clb (T.dg (bl f))
def pre (f : Nat → Nat) (j : Nat) : Nat := T.dg (bl f) (32 + j)
theorem sec_lt (f : Nat → Nat) (i : Nat) : sec f i < 256 := clb_lt _ (T.dg_lt _) i
theorem pre_lt (f : Nat → Nat) (j : Nat) : pre f j < 256 := T.dg_lt _ _
/-- The package's variables. -/
def Glb (w : World) : Prop := S.Glob w ∧ T.Glob w
theorem Glb.low {w w' : World} (h : Glb w) (hb : Below w.heap.size w w') : Glb w' := ⟨h.1.low hb, h.2.low hb⟩
theorem u8_and_248 (n : Nat) (h : n < 256) : bits .and .u8 (n : Int) 248 = ((n / 8 * 8 : Nat) : Int) := by
  have := (by decide +kernel : ∀ i : Fin 256, bits .and .u8 ((i.val : Nat) : Int) 248 = ((i.val / 8 * 8 : Nat) : Int)) ⟨n, h⟩
  exact this
theorem u8_and_63 (n : Nat) (h : n < 256) : bits .and .u8 (n : Int) 63 = ((n % 64 : Nat) : Int) := by
  have := (by decide +kernel : ∀ i : Fin 256, bits .and .u8 ((i.val : Nat) : Int) 63 = ((i.val % 64 : Nat) : Int)) ⟨n, h⟩
  exact this
theorem u8_or_64 (n : Nat) (h : n < 64) : bits .or .u8 (n : Int) 64 = ((n + 64 : Nat) : Int) := by
  have := (by decide +kernel : ∀ i : Fin 64, bits .or .u8 ((i.val : Nat) : Int) 64 = ((i.val + 64 : Nat) : Int)) ⟨n, h⟩
  exact this
set_option maxHeartbeats 4000000 in
theorem halves_c (f : Nat → Nat) (w : World) : Ret 21 #[.agg (vals .u8 64 f)] w (.tuple #[.agg (vals .u8 32 f), .agg (vals .u8 32 (fun j => f (32 + j)))]) := by
  go_enter Tryz.func21, Tryz.ntmps21
  have hO := Wn.start w
  go_upto_region 0 with (fail)
  refine Rg.ps [0, 1, 2] (fun ν => [(1, D (ν 0)), (2, D (ν 1)), (3, D (ν 2))]) (OI w (Sq _ (fun ν => [ap ((ν 0), vals .u8 64 f, 24), ap ((ν 1), vals .u8 32 (fun _ => 0), 22), ap ((ν 2), vals .u8 32 (fun _ => 0), 22)]))) (fun _ => 0) hO (Rg.ac (sn 0 (fun _ => vals .u8 64 f) 24 (fun _ w => run_box 24 _ rfl _ (by kernel_rfl) w) (fun _ => ft (fit_b6 _))) (Rg.ac (sn 1 (fun _ => vals .u8 32 (fun _ => 0)) 22 (fun _ w => al22 rfl w) (fun _ => ft (fit_by _))) (Rg.ac (sn 2 (fun _ => vals .u8 32 (fun _ => 0)) 22 (fun _ w => al22 rfl w) (fun _ => ft (fit_by _))) Rg.an))) ?_
  intro ν w1 hO
  simp only [OI, Sq, Sg, ap, qA, qB, qC, qD, qE, qF, qG, Rg.putL, Act.put] at hO ⊢
  generalize ν 0 = n1 at hO ⊢
  generalize ν 1 = n2 at hO ⊢
  generalize ν 2 = n3 at hO ⊢
  clear ν
  go_upto_region 1 with (fail)
  refine Rg.pd [6, 7] (fun _ => [(4, .slice (some ⟨n1, 0, none⟩) 32 64), (5, E n1 0), (6, .agg (vals .u8 32 f)), (7, .slice (some ⟨n1, 32, none⟩) 32 32), (8, E n1 32), (9, .agg (vals .u8 32 (fun j => f (32 + j))))]) (OI w (Sq _ (fun _ => [se 1 (n2, vals .u8 32 f, 22), se 2 (n3, vals .u8 32 (fun j => f (32 + j)), 22)]))) (fun _ => 0) hO.drew (Rg.ac nV (Rg.ac nV (Rg.ac (npt 0 0 0 0 (fun _ => n1) 24 (c := fun _ => vals .u8 64 f) (e := fun _ => vals .u8 32 f) (fun _ => (part_b60 _)) (t1 0) Tryz.underlying22) (Rg.ac nV (Rg.ac nV (Rg.ac (npt 0 1 0 32 (fun _ => n1) 24 (c := fun _ => vals .u8 64 f) (e := fun _ => vals .u8 32 (fun j => f (32 + j))) (fun _ => (part_b632 _)) (t2 0 1 (t1 1)) Tryz.underlying22) (Rg.ac (sr 0 1 (fun _ => vals .u8 32 f) (fun _ => ft (fit_by _))) (Rg.ac (sr 1 2 (fun _ => vals .u8 32 (fun j => f (32 + j))) (fun _ => ft (fit_by _))) Rg.an)))))))) ?_
  intro ν w2 hO
  simp only [OI, Sq, Sg, se, qC, qD, qE, qF, qG, Rg.putL, Act.put] at hO ⊢
  clear ν
  go_wp2_with fail
  exact bodyPost_ret (v := .tuple #[.agg (vals .u8 32 f), .agg (vals .u8 32 (fun j => f (32 + j)))]) (results_two Tryz.results21 _ _ n2 n3 22 22 _ _ (0, 0) (0, 0) _ _ rfl (hO.row 1 rfl) Tryz.underlying22 rfl (fit_by _).size rfl (hO.row 2 rfl) Tryz.underlying22 rfl (fit_by _).size) rfl ⟨rfl, hO.low⟩
set_option maxHeartbeats 4000000 in
theorem times_c (f : Nat → Nat) (hf : ∀ i, f i < 256) (w : World) : Ret 13 #[.agg (vals .u8 32 f)] w (.agg (vals .u8 32 (ptb (nb f 32)))) := by
  go_enter Tryz.func13, Tryz.ntmps13
  have hO := Wn.start w
  go_upto_region 0 with (fail)
  refine Rg.ps [0, 1] (fun ν => [(1, D (ν 0)), (2, D (ν 1))]) (OI w (Sq _ (fun ν => [ap ((ν 0), vals .u8 32 f, 22), ap ((ν 1), vals .u8 32 (fun _ => 0), 22)]))) (fun _ => 0) hO (Rg.ac (sn 0 (fun _ => vals .u8 32 f) 22 (fun _ w => run_box 22 _ rfl _ (by kernel_rfl) w) (fun _ => ft (fit_by _))) (Rg.ac (sn 1 (fun _ => vals .u8 32 (fun _ => 0)) 22 (fun _ w => al22 rfl w) (fun _ => ft (fit_by _))) Rg.an)) ?_
  intro ν w1 hO
  simp only [OI, Sq, Sg, ap, qA, qB, qC, qD, qE, qF, qG, Rg.putL, Act.put] at hO ⊢
  generalize ν 0 = n1 at hO ⊢
  generalize ν 1 = n2 at hO ⊢
  clear ν
  go_upto_region 1 with (fail)
  refine Rg.pd [1, 2, 3, 4] (fun _ => [(3, .agg (vals .u8 32 f)), (4, .agg (pt base7)), (5, .agg (pt (mul7 base7 (nb f 32)))), (6, .agg (vals .u8 32 (byt (num7 (mul7 base7 (nb f 32))))))]) (OI w (Sq _ (fun _ => [id, id, id, se 1 (n2, vals .u8 32 (byt (num7 (mul7 base7 (nb f 32)))), 22)]))) (fun _ => 0) hO.drew (Rg.ac (nld 0 1 0 (fun _ => n1) (fun _ => vals .u8 32 f) (t2 0 1 (t1 1)) Tryz.underlying22) (Rg.ac (sC 0 26 _ _ (fun _ => base_p)) (Rg.ac (sC 1 34 (fun _ => #[.agg (vals .u8 32 f), .agg (pt base7)]) (fun _ => .agg (pt (mul7 base7 (nb f 32)))) (fun _ => (mul7_c _ hf ok_base))) (Rg.ac (sC 2 35 (fun _ => #[.agg (pt (mul7 base7 (nb f 32)))]) (fun _ => .agg (vals .u8 32 (byt (num7 (mul7 base7 (nb f 32)))))) (fun _ => (bytes_p (ok_mul ok_base _)))) (Rg.ac (sr 3 1 (fun _ => vals .u8 32 (byt (num7 (mul7 base7 (nb f 32))))) (fun _ => ft (fit_by _))) Rg.an))))) ?_
  intro ν w2 hO
  simp only [OI, Sq, Sg, se, id, qC, qD, qE, qF, qG, Rg.putL, Act.put] at hO ⊢
  clear ν
  go_wp2_with fail
  refine bodyPost_ret (v := .agg (vals .u8 32 (byt (num7 (mul7 base7 (nb f 32)))))) (results_cell_row Tryz.results13 _ _ n2 22 _ (0, 0) _ rfl (hO.row 1 rfl) Tryz.underlying22 rfl (fit_by _).size) rfl ⟨rfl, hO.low⟩
theorem sum1_c {b q : Nat} {f : Nat → Nat} {w : World} {t : TypeId} (hf : ∀ i, f i < 256) (hG : Glb w) (hB : Blk w b (vals .u8 32 f) t) (hq : Blk w q #[.slice (some ⟨b, 0, none⟩) 32 32] 23) : Ret 33 #[.slice (some ⟨q, 0, none⟩) 1 1] w (.agg (vals .u8 64 (T.dg (bl f)))) := by
  have h := T.all_at (some ⟨q, 0, none⟩) [pt32 b f] 1 _ w rfl hG.2 (pt_one1 hq (bl_len f)) (fun p hp => by
    obtain rfl : p = pt32 b f := by simpa using hp
    exact ok32 hB hf) (by rw [cat_one]; show (bl f).length < _; rw [bl_len]; omega) (by simp)
  rw [cat_one] at h
  exact h
theorem reduce_c (l : List Nat) {w : World} (hG : Glb w) : Ret 82 #[.agg (vals .u8 64 (T.dg l))] w (.agg (vals .u8 32 (byt (dgn l)))) := S.reduce_at _ _ w rfl hG.1 (T.dg_lt l)
theorem clb_step (g : Nat → Nat) : vals .u8 32 (fun j => if j = 31 then g 31 % 64 + 64 else (fun j => if j = 0 then g 0 / 8 * 8 else g j) j) = vals .u8 32 (clb g) := vals_congr _ _ _ _ fun j _ => by
  unfold clb
  dsimp only
  by_cases h0 : j = 0
  · subst h0; rw [if_pos rfl, if_pos rfl, if_neg (by omega)]
  · by_cases h1 : j = 31
    · subst h1; rw [if_pos rfl, if_neg (by omega), if_pos rfl]
    · rw [if_neg h1, if_neg h0, if_neg h0, if_neg h1]
theorem sec_and {o : Oper} (a : Act) (w : World) (g : Nat) (hg : g < 256) (h0 : a.eval (.tmp 12) = .int .u8 ((g : Nat) : Int)) (ho : o.op = .binOp .and 5 (.tmp 12) (.const (.int .u8 248)) 5 := by rfl) : (execOp a.eval o).run Tryz.prog w = .ok (.value (.int .u8 ((g / 8 * 8 : Nat) : Int))) w := by
  unfold execOp
  simp only [ho, h0]
  have e0 : a.eval (.const (.int .u8 248)) = .int .u8 248 := rfl
  have e := u8_and_248 g hg
  go_simp
theorem sec_low {o : Oper} (a : Act) (w : World) (g : Nat) (hg : g < 256) (h0 : a.eval (.tmp 16) = .int .u8 ((g : Nat) : Int)) (ho : o.op = .binOp .and 5 (.tmp 16) (.const (.int .u8 63)) 5 := by rfl) : (execOp a.eval o).run Tryz.prog w = .ok (.value (.int .u8 ((g % 64 : Nat) : Int))) w := by
  unfold execOp
  simp only [ho, h0]
  have e0 : a.eval (.const (.int .u8 63)) = .int .u8 63 := rfl
  have e := u8_and_63 g hg
  go_simp
theorem sec_or {o : Oper} (a : Act) (w : World) (g : Nat) (hg : g < 64) (h0 : a.eval (.tmp 17) = .int .u8 ((g : Nat) : Int)) (ho : o.op = .binOp .or 5 (.tmp 17) (.const (.int .u8 64)) 5 := by rfl) : (execOp a.eval o).run Tryz.prog w = .ok (.value (.int .u8 ((g + 64 : Nat) : Int))) w := by
  unfold execOp
  simp only [ho, h0]
  have e0 : a.eval (.const (.int .u8 64)) = .int .u8 64 := rfl
  have e := u8_or_64 g hg
  go_simp
set_option maxHeartbeats 4000000 in
theorem secret_g (f g : Nat → Nat) (hf : ∀ i, f i < 256) (hg : Hid (T.dg (bl f) = g)) (hgl : ∀ i, g i < 256) (w : World) (hG : Glb w) : Ret 12 #[.agg (vals .u8 32 f)] w (.tuple #[.agg (vals .u8 32 (clb g)), .agg (vals .u8 32 (fun j => g (32 + j)))]) := by
  go_enter Tryz.func12, Tryz.ntmps12
  have hO := Wn.start w
  have HG := hide hG
  clear hG
  go_upto_region 0 with (fail)
  refine Rg.ps [0, 1, 2] (fun ν => [(1, D (ν 0)), (2, D (ν 1)), (3, D (ν 2))]) (OI w (Sq _ (fun ν => [ap ((ν 0), vals .u8 32 f, 22), ap ((ν 1), vals .u8 32 (fun _ => 0), 22), ap ((ν 2), vals .u8 32 (fun _ => 0), 22)]))) (fun _ => 0) hO (Rg.ac (sn 0 (fun _ => vals .u8 32 f) 22 (fun _ w => run_box 22 _ rfl _ (by kernel_rfl) w) (fun _ => ft (fit_by _))) (Rg.ac (sn 1 (fun _ => vals .u8 32 (fun _ => 0)) 22 (fun _ w => al22 rfl w) (fun _ => ft (fit_by _))) (Rg.ac (sn 2 (fun _ => vals .u8 32 (fun _ => 0)) 22 (fun _ w => al22 rfl w) (fun _ => ft (fit_by _))) Rg.an))) ?_
  intro ν w1 hO
  simp only [OI, Sq, Sg, ap, qA, qB, qC, qD, qE, qF, qG, Rg.putL, Act.put] at hO ⊢
  generalize ν 0 = n1 at hO ⊢
  generalize ν 1 = n2 at hO ⊢
  generalize ν 2 = n3 at hO ⊢
  clear ν
  go_upto_region 1 with (fail)
  refine Rg.ps [1, 2, 3, 7, 8] (fun ν => [(5, .slice (some ⟨n1, 0, none⟩) 32 32), (6, .slice (some ⟨(ν 1), 0, none⟩) 1 1), (7, .agg (vals .u8 64 g)), (8, .tuple #[.agg (vals .u8 32 g), .agg (vals .u8 32 (fun j => g (32 + j)))]), (4, .tuple #[.agg (vals .u8 32 g), .agg (vals .u8 32 (fun j => g (32 + j)))]), (9, .agg (vals .u8 32 g)), (10, .agg (vals .u8 32 (fun j => g (32 + j))))]) (OI w (Sq _ (fun ν => [ap ((ν 1), #[.slice (some ⟨n1, 0, none⟩) 32 32], 23), id, id, se 1 (n2, vals .u8 32 g, 22), se 2 (n3, vals .u8 32 (fun j => g (32 + j)), 22)]))) (fun _ => 0) hO (Rg.ac nV (Rg.ac (sv 0 (fun ν q => .slice (some ⟨q, 0, none⟩) 1 1) (fun _ => #[.slice (some ⟨n1, 0, none⟩) 32 32]) 23 (fun _ _ => run_bsl 35 23 1 _ rfl #[(0, .slice (some ⟨n1, 0, none⟩) 32 32)] (by kernel_rfl) (by kernel_rfl)) (fun _ => fit_any (by kernel_rfl))) (Rg.ac (sq 1 33 (fun ν => #[.slice (some ⟨(ν 1), 0, none⟩) 1 1]) (fun _ => .agg (vals .u8 64 g)) (fun ν w hO => hg.out ▸ sum1_c hf (HG.out.low hO.low) (Wn.row hO 0 rfl) (Wn.row hO 3 rfl))) (Rg.ac (sC 2 21 _ _ (fun _ => halves_c g)) (Rg.ac nV (Rg.ac nV (Rg.ac nV (Rg.ac (sr 3 1 (fun _ => vals .u8 32 g) (fun _ => ft (fit_by _))) (Rg.ac (sr 4 2 (fun _ => vals .u8 32 (fun j => g (32 + j))) (fun _ => ft (fit_by _))) Rg.an))))))))) ?_
  intro ν w2 hO
  simp only [OI, Sq, Sg, ap, se, id, qA, qB, qC, qD, qE, qF, qG, Rg.putL, Act.put] at hO ⊢
  generalize ν 1 = n6 at hO ⊢
  clear ν
  go_upto_region 2 with (fail)
  refine Rg.ps [4] (fun _ => [(11, E n2 0), (12, Nv .u8 (g 0)), (13, Nv .u8 (g 0 / 8 * 8)), (14, E n2 0)]) (OI w (Sq _ (fun _ => [se 1 (n2, vals .u8 32 (fun j => if j = 0 then g 0 / 8 * 8 else g j), 22)]))) (fun _ => 0) hO (Rg.ac nV (Rg.ac (nc 0 0 1 (fun _ => n2) 22 (fun _ => vals .u8 32 g) (fun _ => 0) (fun _ => Nv .u8 (g 0)) agg_u8 (fun _ => (vals_get _ _ _ _ (by omega))) (t1 0)) (Rg.ac (nx (fun _ => Nv .u8 (g 0 / 8 * 8)) (fun _ w => sec_and _ w _ (hgl _) (by kernel_rfl))) (Rg.ac nV (Rg.ac (sL 0 1 (fun _ => 0) (fun _ => Nv .u8 (g 0)) (fun _ => ((g 0 / 8 * 8 : Nat) : Int)) sz_u8 (fun _ => (vals_get _ _ _ _ (by omega))) (fun _ => (set_by _ _ _)) (fun _ => ft (fit_by _))) Rg.an))))) ?_
  intro ν w3 hO
  simp only [OI, Sq, Sg, se, qC, qD, qE, qF, qG, Rg.putL, Act.put] at hO ⊢
  clear ν
  go_upto_region 3 with (fail)
  refine Rg.ps [5] (fun _ => [(15, E n2 31), (16, Nv .u8 (g 31)), (17, Nv .u8 (g 31 % 64)), (18, Nv .u8 (g 31 % 64 + 64)), (19, E n2 31)]) (OI w (Sq _ (fun _ => [se 1 (n2, vals .u8 32 (fun j => if j = 31 then g 31 % 64 + 64 else (fun j => if j = 0 then g 0 / 8 * 8 else g j) j), 22)]))) (fun _ => 0) hO (Rg.ac nV (Rg.ac (nc 0 0 1 (fun _ => n2) 22 (fun _ => vals .u8 32 (fun j => if j = 0 then g 0 / 8 * 8 else g j)) (fun _ => 31) (fun _ => Nv .u8 (g 31)) agg_u8 (fun _ => ((get_by _ 31 (by omega)).trans rfl)) (t1 0)) (Rg.ac (nx (fun _ => Nv .u8 (g 31 % 64)) (fun _ w => sec_low _ w _ (hgl _) (by kernel_rfl))) (Rg.ac (nx (fun _ => Nv .u8 (g 31 % 64 + 64)) (fun _ w => sec_or _ w _ (Nat.mod_lt _ (by omega)) (by kernel_rfl))) (Rg.ac nV (Rg.ac (sL 0 1 (fun _ => 31) (fun _ => Nv .u8 (g 31)) (fun _ => ((g 31 % 64 + 64 : Nat) : Int)) sz_u8 (fun _ => ((get_by _ 31 (by omega)).trans rfl)) (fun _ => (set_by _ _ _)) (fun _ => ft (fit_by _))) Rg.an)))))) ?_
  intro ν w4 hO
  simp only [OI, Sq, Sg, se, qC, qD, qE, qF, qG, Rg.putL, Act.put] at hO ⊢
  clear ν
  rw [clb_step g] at hO
  go_upto_region 4 with (fail)
  refine Rg.pd [2, 3] (fun _ => [(20, .agg (vals .u8 32 (clb g))), (21, .agg (vals .u8 32 (fun j => g (32 + j))))]) (OI w (Sq _ (fun _ => [id, id]))) (fun _ => 0) hO.drew (Rg.ac (nld 0 0 1 (fun _ => n2) (fun _ => vals .u8 32 (clb g)) (t1 0) Tryz.underlying22) (Rg.ac (nld 0 1 2 (fun _ => n3) (fun _ => vals .u8 32 (fun j => g (32 + j))) (t2 0 1 (t1 1)) Tryz.underlying22) (Rg.ac (sr 0 1 (fun _ => vals .u8 32 (clb g)) (fun _ => ft (fit_by _))) (Rg.ac (sr 1 2 (fun _ => vals .u8 32 (fun j => g (32 + j))) (fun _ => ft (fit_by _))) Rg.an)))) ?_
  intro ν w5 hO
  simp only [OI, Sq, Sg, id, qC, qD, qE, qF, qG, Rg.putL, Act.put] at hO ⊢
  clear ν
  go_wp2_with fail
  exact bodyPost_ret (v := .tuple #[.agg (vals .u8 32 (clb g)), .agg (vals .u8 32 (fun j => g (32 + j)))]) (results_two Tryz.results12 _ _ n2 n3 22 22 _ _ (0, 0) (0, 0) _ _ rfl (hO.row 1 rfl) Tryz.underlying22 rfl (fit_by _).size rfl (hO.row 2 rfl) Tryz.underlying22 rfl (fit_by _).size) rfl ⟨rfl, hO.low⟩
theorem secret_c (f : Nat → Nat) (hf : ∀ i, f i < 256) (w : World) (hG : Glb w) : Ret 12 #[.agg (vals .u8 32 f)] w (.tuple #[.agg (vals .u8 32 (sec f)), .agg (vals .u8 32 (pre f))]) := secret_g f _ hf (hide rfl) (T.dg_lt _) w hG
set_option maxHeartbeats 4000000 in
theorem number_c (P : Option Addr) (ps : List T.Pt) (pc : Nat) (w : World) (hG : Glb w) (hP : T.Prt w P ps) (hO : T.PtOk w ps) (hs : (T.cat ps).length < 2 ^ 50) (hp : ps.length < 2 ^ 50) : Ret 37 #[.slice P ps.length pc] w (.agg (vals .u8 32 (byt (dgn (T.cat ps))))) := by
  go_enter Tryz.func37, Tryz.ntmps37
  have HG := hide hG
  have HP := hide hP
  have HO := hide hO
  clear hG hP hO
  have hO := Wn.start w
  go_upto_region 0 with (fail)
  refine Rg.ps [0] (fun ν => [(2, D (ν 0))]) (OI w (Sq _ (fun ν => [ap ((ν 0), vals .u8 32 (fun _ => 0), 22)]))) (fun _ => 0) hO (Rg.ac (sn 0 (fun _ => vals .u8 32 (fun _ => 0)) 22 (fun _ w => al22 rfl w) (fun _ => ft (fit_by _))) Rg.an) ?_
  intro ν w1 hO
  simp only [OI, Sq, Sg, ap, qB, qC, qD, qE, qF, qG, Rg.putL, Act.put] at hO ⊢
  generalize ν 0 = n2 at hO ⊢
  clear ν
  go_upto_region 1 with (fail)
  refine Rg.ps [1, 2, 3] (fun _ => [(3, .slice P ps.length pc), (4, .agg (vals .u8 64 (T.dg (T.cat ps)))), (5, .agg (vals .u8 32 (byt (dgn (T.cat ps)))))]) (OI w (Sq _ (fun _ => [id, id, se 0 (n2, vals .u8 32 (byt (dgn (T.cat ps))), 22)]))) (fun _ => 0) hO (Rg.ac nV (Rg.ac (sq 0 33 (fun _ => #[.slice P ps.length pc]) (fun _ => .agg (vals .u8 64 (T.dg (T.cat ps)))) (fun ν w hO => T.all_at P ps pc _ w rfl (HG.out.low hO.low).2 (HP.out.low hO.low) (HO.out.low hO.low) (by omega) (by omega))) (Rg.ac (sq 1 82 (fun _ => #[.agg (vals .u8 64 (T.dg (T.cat ps)))]) (fun _ => .agg (vals .u8 32 (byt (dgn (T.cat ps))))) (fun ν w hO => reduce_c _ (HG.out.low hO.low))) (Rg.ac (sr 2 0 (fun _ => vals .u8 32 (byt (dgn (T.cat ps)))) (fun _ => ft (fit_by _))) Rg.an)))) ?_
  intro ν w2 hO
  simp only [OI, Sq, Sg, se, id, qC, qD, qE, qF, qG, Rg.putL, Act.put] at hO ⊢
  clear ν
  go_wp2_with fail
  refine bodyPost_ret (v := .agg (vals .u8 32 (byt (dgn (T.cat ps))))) (results_cell_row Tryz.results37 _ _ n2 22 _ (0, 0) _ rfl (hO.row 0 rfl) Tryz.underlying22 rfl (fit_by _).size) rfl ⟨rfl, hO.low⟩
theorem behind_c (A : Option Addr) (n c : Nat) (w : World) : CallsNew 14 #[.slice A n c] 36 w #[.slice A n c] 35 := by
  have hmf : ∀ (fn : Fn) (first cap : Array Value) (w : World), (Instr.makeFunc fn first cap).run Tryz.prog w = .ok (.func fn first cap) w := fun _ _ _ _ => rfl
  have B0 := hide (Blk.new w #[.slice A n c] 35)
  have L0 := hide ((Below.refl w.heap.size w).alloc (Nat.le_refl _) (.cells #[.slice A n c] 35))
  unfold CallsNew
  go_enter Tryz.func14, Tryz.ntmps14
  go_wp2
  go_ret
  exact ⟨rfl, B0.out, L0.out⟩
theorem vok_pt {w : World} {A : Option Addr} {xs : List T.Pt} {c : Nat} (h : T.Prt w A xs) : T.Vok 35 w (.slice A xs.length c, T.ptv xs) := ⟨⟨A, c, by rw [T.ptv_len]⟩, fun _ hb => T.src_prt c (h.low hb)⟩
theorem number_at (P : Option Addr) (ps : List T.Pt) (pc : Nat) (args : Array Value) (w : World) (h : args = #[.slice P ps.length pc]) (hG : Glb w) (hP : T.Prt w P ps) (hO : T.PtOk w ps) (hs : (T.cat ps).length < 2 ^ 50) (hp : ps.length < 2 ^ 50) : Calls Tryz.prog 37 args w fun e w' => e = .returned (.agg (vals .u8 32 (byt (dgn (T.cat ps))))) ∧ Below w.heap.size w w' := by
  subst h; exact number_c P ps pc w hG hP hO hs hp
theorem cat_app2 (k l : List T.Pt) : T.cat (k ++ l) = T.cat k ++ T.cat l := by simp [T.cat]
set_option maxHeartbeats 4000000 in
theorem clos_c (A : Option Addr) (xs : List T.Pt) (ca : Nat) (P : Option Addr) (ts : List T.Pt) (pc b : Nat) (w : World) (hG : Glb w) (hX : T.Prt w A xs) (hXo : T.PtOk w xs) (hB : Blk w b #[.slice P ts.length pc] 35) (hP : T.Prt w P ts) (hPo : T.PtOk w ts)
    (hs : (T.cat xs).length + (T.cat ts).length < 2 ^ 40) (hp : xs.length + ts.length < 2 ^ 40) : Ret 36 #[.slice A xs.length ca, .pointer (some ⟨b, 0, none⟩)] w (.agg (vals .u8 32 (byt (dgn (T.cat xs ++ T.cat ts))))) := by
  have HG := hide hG
  have HX := hide hX
  have HXo := hide hXo
  have HP := hide hP
  have HPo := hide hPo
  have Hs := hide hs
  have Hp := hide hp
  have R0 := hide (Blk.new w (vals .u8 32 (fun _ => 0)) 22)
  have L0 := hide ((Below.refl w.heap.size w).alloc (Nat.le_refl _) (.cells (vals .u8 32 (fun _ => 0)) 22))
  have hz : ∀ w, (zeroValue 22).run Tryz.prog w = .ok (.agg (vals .u8 32 (fun _ => 0))) w := fun w => by kernel_rfl
  have hc : (w.alloc (.cells (vals .u8 32 (fun _ => 0)) 22)).cell? ⟨b, 0, none⟩ = some (.slice P ts.length pc) := ((hB.alloc _).cell 0).trans rfl
  clear hG hX hXo hP hPo hs hp hB
  go_enter Tryz.func36, Tryz.ntmps36
  go_upto_region 1 with (fail)
  clear hz
  generalize w.alloc (.cells (vals .u8 32 (fun _ => 0)) 22) = w1 at *
  obtain ⟨zs, hzs⟩ : ∃ zs, zs = xs ++ ts := ⟨_, rfl⟩
  have Hz := hide hzs
  have Hzo : Hid (T.PtOk w zs) := hide (fun p hp => by
    rw [hzs] at hp
    rcases List.mem_append.1 hp with h | h
    · exact HXo.out p h
    · exact HPo.out p h)
  have Hzc : Hid (T.cat xs ++ T.cat ts = T.cat zs ∧ (T.cat zs).length < 2 ^ 50 ∧ zs.length < 2 ^ 50) := hide (by
    have h1 := Hs.out
    have h2 := Hp.out
    rw [hzs, cat_app2, List.length_append, List.length_append]
    exact ⟨rfl, by omega, by omega⟩)
  clear hzs
  have Hsl : Hid (∀ w2, Below w1.heap.size w1 w2 → ∀ g, Blk w2 g #[.slice A xs.length ca, .slice P ts.length pc] 35 → Calls Tryz.prog 38 #[.slice (some ⟨g, 0, none⟩) 2 2] w2 fun e w' => ∃ Q pq, e = .returned (.slice Q zs.length pq) ∧ T.Prt w' Q zs ∧ Below w2.heap.size w2 w') := hide (fun w2 hb g hg => by
    have h := T.concat_s_at (some ⟨g, 0, none⟩) [(.slice A xs.length ca, T.ptv xs), (.slice P ts.length pc, T.ptv ts)] 2 _ w2 rfl (Or.inr ⟨_, rfl, hg.lt, fun i q hq => by
        rcases i with _ | _ | i
        · obtain rfl := Option.some.inj hq; rw [Addr.add_mid, Nat.zero_add, hg.cell]; rfl
        · obtain rfl := Option.some.inj hq; rw [Addr.add_mid, Nat.zero_add, hg.cell]; rfl
        · cases hq⟩) (fun q hq => by
        rcases List.mem_cons.1 hq with rfl | hq
        · exact vok_pt ((HX.out.low L0.out).low hb)
        · obtain rfl : q = (.slice P ts.length pc, T.ptv ts) := by simpa using hq
          exact vok_pt ((HP.out.low L0.out).low hb)) (by simp [T.flat, T.ptv_len]; have := Hp.out; omega) (by simp)
    refine h.mono fun e w' hh => ?_
    obtain ⟨v, rfl, ho, hb'⟩ := hh
    have e1 : T.flat [(.slice A xs.length ca, T.ptv xs), (.slice P ts.length pc, T.ptv ts)] = T.ptv zs := by rw [Hz.out, T.ptv_app]; simp [T.flat]
    rw [e1] at ho
    obtain ⟨Q, pq, rfl, hQ⟩ := T.own_prt ho
    exact ⟨Q, pq, rfl, hQ, hb'⟩)
  go_wp2_with (first
    | (go_at_call 38; refine (Hsl.out _ ((Below.refl _ w1).alloc (Nat.le_refl _) _) w1.heap.size (Blk.new w1 _ _)).mono ?_; rintro e w3 ⟨Q, pq, rfl, hQ, hb⟩; have HQ := hide hQ; have R3 := hide ((R0.out.alloc _).call hb); have L3 := hide (T.keepLow2 (L0.out.alloc L0.out.size _) hb); clear hb hQ; dsimp only)
    | (go_at_call 37; refine (number_at Q zs pq _ _ rfl (HG.out.low L3.out) HQ.out (Hzo.out.low L3.out) Hzc.out.2.1 Hzc.out.2.2).mono ?_; rintro e w4 ⟨rfl, hb⟩; have R4 := hide (R3.out.call hb); have L4 := hide (T.keepLow2 L3.out hb); clear hb; dsimp only)
    | (refine wpList_store_row rfl 22 _ _ rfl w.heap.size (vals .u8 32 (byt (dgn (T.cat zs)))) rfl rfl 22 _ R4.out (fit_by _).size (by rw [vals_size, vals_size]) (vals_one _ _ _) ?_))
  refine bodyPost_ret (v := .agg (vals .u8 32 (byt (dgn (T.cat zs))))) (results_cell_row Tryz.results36 _ _ w.heap.size 22 _ (0, 0) _ rfl (R4.out.row _) Tryz.underlying22 rfl (fit_by _).size) rfl ⟨by rw [Hzc.out.1], Below.row L4.out (Nat.le_refl _) _⟩
end Go.Proofs.YtbpmakegimgbpaaGreatDoor
namespace Go.Proofs.YtbpmakegimgbpaaGreatDoor
set_option maxRecDepth 100000
open F Go.RowKit

def jn (f g : Nat → Nat) (j : Nat) : Nat := if j < 32 then f j else g (j - 32)
theorem jn_lt {f g : Nat → Nat} (hf : ∀ i, f i < 256) (hg : ∀ i, g i < 256) (j : Nat) : jn f g j < 256 := by unfold jn; split; exact hf _; exact hg _
theorem vok_bl {w : World} {b : Nat} {t : TypeId} {f : Nat → Nat} (h : Blk w b (vals .u8 32 f) t) : T.Vok 23 w (.slice (some ⟨b, 0, none⟩) 32 32, T.bv8 (bl f)) :=
  ⟨⟨_, 32, by rw [T.bv8_len, bl_len]⟩, fun w' hb => by have h1 := T.src_rds (A := some ⟨b, 0, none⟩) 32 ((rds_bl h).low hb); rw [bl_len] at h1; exact h1⟩
theorem jn_get (f g : Nat → Nat) (i : Nat) (v : Value) (h : (vals .u8 64 (jn f g)).toList[i]? = some v) : (T.bv8 (bl f) ++ T.bv8 (bl g))[i]? = some v := by
  have hi : i < 64 := by have := (List.getElem?_eq_some_iff.1 h).1; simpa [vals_size] using this
  rw [Array.getElem?_toList, vals_get _ _ _ _ hi] at h
  rw [← h]
  unfold T.bv8 bl
  by_cases h1 : i < 32
  · rw [List.getElem?_append_left (by simpa using h1)]
    simp [h1, jn]
  · rw [List.getElem?_append_right (by simpa using h1)]
    have h2 : i - 32 < 32 := by omega
    simp [h2, jn, h1]
/-- Two rows' bytes, one behind the other. -/
theorem concat2 {a b q : Nat} {f g : Nat → Nat} {w : World} {s t : TypeId} (hA : Blk w a (vals .u8 32 f) s) (hB : Blk w b (vals .u8 32 g) t) (hq : Blk w q #[.slice (some ⟨a, 0, none⟩) 32 32, .slice (some ⟨b, 0, none⟩) 32 32] 23) :
    Calls Tryz.prog 39 #[.slice (some ⟨q, 0, none⟩) 2 2] w fun e w' => ∃ (g0 cap : Nat) (cells : Array Value), e = .returned (.slice (some ⟨g0, 0, none⟩) 64 cap) ∧ 64 ≤ cap ∧ Blk w' g0 cells 5 ∧ (∀ (i : Nat) (v : Value), (vals .u8 64 (jn f g)).toList[i]? = some v → cells[i]? = some v) ∧ Below w.heap.size w w' := by
  have h := T.concat_b_at (some ⟨q, 0, none⟩) [(.slice (some ⟨a, 0, none⟩) 32 32, T.bv8 (bl f)), (.slice (some ⟨b, 0, none⟩) 32 32, T.bv8 (bl g))] 2 _ w rfl (Or.inr ⟨_, rfl, hq.lt, fun i p hp => by
      rcases i with _ | _ | i
      · obtain rfl := Option.some.inj hp; rw [Addr.add_mid, Nat.zero_add, hq.cell]; rfl
      · obtain rfl := Option.some.inj hp; rw [Addr.add_mid, Nat.zero_add, hq.cell]; rfl
      · cases hp⟩) (fun p hp => by
      rcases List.mem_cons.1 hp with rfl | hp
      · exact vok_bl hA
      · obtain rfl : p = (.slice (some ⟨b, 0, none⟩) 32 32, T.bv8 (bl g)) := by simpa using hp
        exact vok_bl hB) (by simp [T.flat, T.bv8_len, bl_len]) (by simp)
  refine h.mono fun e w' hh => ?_
  obtain ⟨v, rfl, ⟨A, cap, cells, rfl, h2, h3, h4, h5⟩, hb⟩ := hh
  have e1 : T.flat [(.slice (some ⟨a, 0, none⟩) 32 32, T.bv8 (bl f)), (.slice (some ⟨b, 0, none⟩) 32 32, T.bv8 (bl g))] = T.bv8 (bl f) ++ T.bv8 (bl g) := by simp [T.flat]
  have e2 : (T.bv8 (bl f) ++ T.bv8 (bl g)).length = 64 := by rw [List.length_append, T.bv8_len, T.bv8_len, bl_len, bl_len]
  rw [e1] at h2 h4 ⊢
  rw [e2] at h2 ⊢
  rcases h5 with ⟨g0, rfl, _, hB0⟩ | ⟨rfl, rfl⟩
  · exact ⟨g0, cap, cells, rfl, h2, hB0, fun i v hv => h4 i v (jn_get f g i v hv), hb⟩
  · omega
def s15r0Op0 : Oper := ⟨some 2, .box 22 (.tmp 0), 0, "sign.go:66", #[], none⟩
def s15r0Op1 : Oper := ⟨some 3, .box 22 (.tmp 1), 0, "sign.go:66", #[], none⟩
def s15r0Op2 : Oper := ⟨some 4, .alloc 24, 0, "sign.go:66", #[], none⟩
def s15r0Ops : Array Oper := #[s15r0Op0, s15r0Op1, s15r0Op2]
set_option maxHeartbeats 2000000 in
theorem s15r0_r {Q : Exit → Act → World → Prop} {u w : World} {L : List Row} {z2 z3 z4 : Value} {zz : List Value} {e0 e1 : Array Value} (hO : Own u w L) (fe0_22 : Fit 22 e0) (fe1_22 : Fit 22 e1) (H : ∀ (n2 : Nat) (n3 : Nat) (n4 : Nat) (w' : World), Own u w' ((n4, vals .u8 64 (fun _ => 0), 24) :: (n3, e1, 22) :: (n2, e0, 22) :: L) → Q .normal { tmps := List.toArray ((.agg e0) :: (.agg e1) :: (.pointer (some ⟨n2, 0, none⟩)) :: (.pointer (some ⟨n3, 0, none⟩)) :: (.pointer (some ⟨n4, 0, none⟩)) :: zz), defers := [] } w') :
    (Code.region 0 s15r0Ops false).wp Tryz.prog Q { tmps := List.toArray ((.agg e0) :: (.agg e1) :: z2 :: z3 :: z4 :: zz), defers := [] } w := by
  refine wp_region_list (show wpList _ s15r0Ops _ [s15r0Op0, s15r0Op1, s15r0Op2] _ _ from ?_)
  refine l_new hO (e0) 22 (run_box 22 _ rfl _ (by kernel_rfl)) fe0_22 ?_
  intro n2 w1 hO
  refine l_new hO (e1) 22 (run_box 22 _ rfl _ (by kernel_rfl)) fe1_22 ?_
  intro n3 w2 hO
  refine l_new hO (vals .u8 64 (fun _ => 0)) 24 (alb6 rfl) (fit_b6 _) ?_
  intro n4 w3 hO
  exact l_fr _ (wpList_nil (H n2 n3 n4 _ hO))
def s15r1Op0 : Oper := ⟨some 5, .slice 22 (.tmp 2) none none none, 23, "sign.go:66", #[], none⟩
def s15r1Op1 : Oper := ⟨some 6, .slice 22 (.tmp 3) none none none, 23, "sign.go:66", #[], none⟩
def s15r1Op2 : Oper := ⟨some 7, .buildSlice 35 2 #[(0, .tmp 5), (1, .tmp 6)], 35, "sign.go:66", #[⟨0, .data⟩, ⟨1, .data⟩], none⟩
def s15r1Op3 : Oper := ⟨some 8, .call { callee := .value (.func 39), args := #[.tmp 7], argTypes := #[35] }, 23, "sign.go:66", #[⟨2, .data⟩], none⟩
def s15r1Op4 : Oper := ⟨some 9, .sliceToArrayPointer 24 (.tmp 8), 0, "sign.go:66", #[⟨3, .data⟩], none⟩
def s15r1Op5 : Oper := ⟨some 10, .load 24 (.tmp 9), 24, "sign.go:66", #[⟨4, .data⟩], none⟩
def s15r1Op6 : Oper := ⟨none, .store 24 (.tmp 4) (.tmp 10), 0, "sign.go:66", #[⟨5, .data⟩, ⟨3, .chain⟩, ⟨0, .phase⟩, ⟨1, .phase⟩, ⟨2, .phase⟩, ⟨3, .phase⟩, ⟨4, .phase⟩, ⟨5, .phase⟩], none⟩
def s15r1Ops : Array Oper := #[s15r1Op0, s15r1Op1, s15r1Op2, s15r1Op3, s15r1Op4, s15r1Op5, s15r1Op6]
set_option maxHeartbeats 4000000 in
theorem join_c (f g : Nat → Nat) (hf : ∀ i, f i < 256) (hg : ∀ i, g i < 256) (w : World) : Ret 15 #[.agg (vals .u8 32 f), .agg (vals .u8 32 g)] w (.agg (vals .u8 64 (jn f g))) := by
  have _ := hf
  have _ := hg
  go_enter Tryz.func15, Tryz.ntmps15
  have hO := Own.start w
  go_upto_region 0 with (fail)
  refine s15r0_r hO (fit_by _) (fit_by _) ?_
  intro n2 n3 n4 w1 hO
  go_upto_region 1 with (fail)
  refine wp_region_held_drew (S := fun _ => True) (ops := s15r1Ops) (by kernel_rfl) trivial (fun _ => ?_)
  replace hO := hO.drew
  generalize w1.drew = w2 at *
  refine d_tk 0 s15r1Op0 (.slice (some ⟨n2, 0, none⟩) 32 32) (fun _ _ _ _ _ h => h) (y_val (fun _ => by kernel_rfl)) trivial ?_
  refine d_tk 1 s15r1Op1 (.slice (some ⟨n3, 0, none⟩) 32 32) (fun _ _ _ _ _ h => h) (y_val (fun _ => by kernel_rfl)) trivial ?_
  refine d_fr (ls 7 3) (Fr [A (vals .u8 32 f), A (vals .u8 32 g), D n2, D n3, D n4, .slice (some ⟨n2, 0, none⟩) 32 32, .slice (some ⟨n3, 0, none⟩) 32 32, undef, undef, undef, undef] []) ?_
  refine d_one 2 s15r1Op2 (ls 7 7) (fun K hK => ?_)
  refine kb_bs hK hO (fun _ _ => trivial) 2 #[.slice (some ⟨n2, 0, none⟩) 32 32, .slice (some ⟨n3, 0, none⟩) 32 32] 23 (fun w => run_bsl 35 23 2 _ rfl #[(0, .slice (some ⟨n2, 0, none⟩) 32 32), (1, .slice (some ⟨n3, 0, none⟩) 32 32)] (by kernel_rfl) (by kernel_rfl)) ?_
  intro q7 w3 _ hB hO
  clear hK K
  refine d_fr (ls 7 7) (Fr [A (vals .u8 32 f), A (vals .u8 32 g), D n2, D n3, D n4, .slice (some ⟨n2, 0, none⟩) 32 32, .slice (some ⟨n3, 0, none⟩) 32 32, .slice (some ⟨q7, 0, none⟩) 2 2, undef, undef, undef] []) ?_
  refine d_one 3 s15r1Op3 (ls 7 15) (fun K hK => ?_)
  unfold Oper.wp
  rw [show (execOp _ s15r1Op3).run Tryz.prog w3 = .ok (.enter 39 #[.slice (some ⟨q7, 0, none⟩) 2 2]) w3 from by kernel_rfl, Oper.upon_enter]
  refine (concat2 (hO.row 2 rfl) (hO.row 1 rfl) hB).mono fun e w4 hh => ?_
  obtain ⟨g0, cap, cells, rfl, hcap, hB0, hcells, hb⟩ := hh
  replace hO := hO.call hb
  refine hK _ _ trivial ?_
  clear hK K hB hb
  refine d_fr (ls 7 15) (Fr [A (vals .u8 32 f), A (vals .u8 32 g), D n2, D n3, D n4, .slice (some ⟨n2, 0, none⟩) 32 32, .slice (some ⟨n3, 0, none⟩) 32 32, .slice (some ⟨q7, 0, none⟩) 2 2, .slice (some ⟨g0, 0, none⟩) 64 cap, undef, undef] []) ?_
  refine d_tk 4 s15r1Op4 (.pointer (some ⟨g0, 0, none⟩)) (fun _ _ _ _ _ h => h) (y_val (fun _ => by kernel_rfl)) trivial ?_
  refine d_fr (ls 7 31) (Fr [A (vals .u8 32 f), A (vals .u8 32 g), D n2, D n3, D n4, .slice (some ⟨n2, 0, none⟩) 32 32, .slice (some ⟨n3, 0, none⟩) 32 32, .slice (some ⟨q7, 0, none⟩) 2 2, .slice (some ⟨g0, 0, none⟩) 64 cap, .pointer (some ⟨g0, 0, none⟩), undef] []) ?_
  refine d_one 5 s15r1Op5 (ls 7 63) (fun K hK => ?_)
  refine wp_load_mid (P := Tryz.prog) (K := K) 24 (.tmp 9) rfl g0 0 (by kernel_rfl) (vals .u8 64 (jn f g)).toList _ (fun j v hv => by rw [hB0.cell, Nat.zero_add]; exact hcells j v hv) Tryz.underlying24 rfl (by rw [(fit_b6 (jn f g)).size]; simp) ?_
  refine hK _ _ trivial ?_
  clear hK K
  refine d_fr (ls 7 63) (Fr [A (vals .u8 32 f), A (vals .u8 32 g), D n2, D n3, D n4, .slice (some ⟨n2, 0, none⟩) 32 32, .slice (some ⟨n3, 0, none⟩) 32 32, .slice (some ⟨q7, 0, none⟩) 2 2, .slice (some ⟨g0, 0, none⟩) 64 cap, .pointer (some ⟨g0, 0, none⟩), A (vals .u8 64 (jn f g))] []) ?_
  refine d_one 6 s15r1Op6 (ls 7 127) (fun K hK => ?_)
  refine k_st hK hO 24 0 rfl (vals .u8 64 (jn f g)) (fit_b6 _) (fun _ _ => trivial) ?_
  intro w5 hO
  refine wpAnyH_done (by kernel_rfl) ?_ _
  go_wp2_with fail
  exact bodyPost_ret (v := .agg (vals .u8 64 (jn f g))) (results_cell_row Tryz.results15 _ _ n4 24 _ (0, 0) _ rfl (hO.row 0 rfl) Tryz.underlying24 rfl (fit_b6 _).size) rfl ⟨rfl, hO.low⟩
end Go.Proofs.YtbpmakegimgbpaaGreatDoor

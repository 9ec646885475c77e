/- Walks: Tag. The variable kept as it is laid; a text in at most 1000 parts; bytes below 256. -/
import Derived.Test.YtanahjoiilfcbaaDoorKe
import Derived.Test.YtanahjoiilfcbaaDoorOf
namespace Go.Proofs.YtanahjoiilfcbaaDoor
set_option maxRecDepth 100000
open Go.RowKit Rg

theorem sw_two (a b : Nat) (ha : a < 2 ^ 128) (hb : b < 2 ^ 128) : vals .u64 3 (sw (limb a) (limb b) 2) = vals .u64 3 (limb a) := vals_congr _ _ _ _ fun j hj => by
  unfold sw
  by_cases h : j < 2
  · rw [if_pos h]
  · rw [if_neg h]
    obtain rfl : j = 2 := by omega
    rw [limb_zero _ 2 hb, limb_zero _ 2 ha]
theorem ix39 (w : World) : ∀ k : Nat, k < 2 → (Instr.index 57 (A (vals .u64 2 kp)) (Nv .i64 k)).run Tryd.prog w = .ok (Nv .u64 (kp k)) w
  | 0, _ => by kernel_rfl
  | 1, _ => by kernel_rfl
theorem b_ix39 {ρ : Operand → Value} {o : Oper} {x y : Operand} {k : Nat} (hk : k < 2) (w : World) (ho : o.op = .index 57 x y := by rfl) (hx : ρ x = A (vals .u64 2 kp) := by kernel_rfl) (hy : ρ y = Nv .i64 k := by kernel_rfl) : (execOp ρ o).run Tryd.prog w = .ok (.value (Nv .u64 (kp k))) w := by
  unfold execOp
  simp only [ho, hx, hy, Sem.run_bind, ix39 w k hk, Result.andThen_ok, Sem.run_pure]
theorem cells_kept : (Tryd.prog.info? 57).map (·.size) = some (vals .u64 2 kp).size := by kernel_rfl
theorem b_shrE {ρ : Operand → Value} {o : Oper} {x y : Operand} {a s d : Nat} (hs : s < 64) (h : a / 2 ^ s = d) (w : World) (ho : o.op = .binOp .shr 38 x y 3 := by rfl) (hx : ρ x = Nv .u64 a := by kernel_rfl) (hy : ρ y = Nv .i64 s := by kernel_rfl) : (execOp ρ o).run Tryd.prog w = .ok (.value (Nv .u64 d)) w := by
  subst h; exact b_shr hs w ho hx hy
theorem b_c645E {ρ : Operand → Value} {o : Oper} {x : Operand} {a d : Nat} (h : a % 256 = d) (w : World) (ho : o.op = .convert 38 5 x := by rfl) (hx : ρ x = Nv .u64 a := by kernel_rfl) : (execOp ρ o).run Tryd.prog w = .ok (.value (Nv .u8 d)) w := by
  subst h; exact b_c645 w ho hx
set_option maxHeartbeats 4000000 in
theorem tag_c (key : Nat → Nat) (hk : ∀ i, key i < 256) (S : Option Addr) (mm pc : Nat) (g o : Nat → Nat) (hg : ∀ i, g i < 256) (hmm : mm ≤ 1000) (w : World) (hG : Gl w 1 (vals .u64 2 kp)) (hP : Pts w S mm g o) : Ret 20 #[A (vals .u8 32 key), .slice S mm pc] w (A (vals .u8 16 (tg key g (o mm)))) := by
  obtain ⟨r0, hr0⟩ : ∃ r0, Hid (nb key 16 = r0) := ⟨_, hide rfl⟩
  obtain ⟨r1, hr1⟩ : ∃ r1, Hid (nb (cl key) 16 = r1) := ⟨_, hide rfl⟩
  obtain ⟨e0, hs⟩ : ∃ e0, Hid (sk16 key = e0) := ⟨_, hide rfl⟩
  obtain ⟨y, hy⟩ : ∃ y, Hid (pv r1 g (o mm) = y) := ⟨_, hide rfl⟩
  obtain ⟨T, hT⟩ : ∃ T, Hid (low y + e0 = T) := ⟨_, hide rfl⟩
  have hr1l : r1 < 2 ^ 124 := hr1.out ▸ cl_top key hk
  have Hsw : Hid (vals .u64 3 (sw (limb r1) (limb r0) 2) = vals .u64 3 (limb r1)) := hide (sw_two r1 r0 (by omega) (hr0.out ▸ nb_lt key hk 16))
  have Hkp : Hid (∀ i, limb r0 i &&& kp i = limb r1 i) := hide fun i => by rw [← hr0.out, ← hr1.out]; exact limb_kp key hk i
  have Htg : Hid (tg key g (o mm) = byt T) := hide (by unfold tg; rw [hr1.out, hs.out, hy.out, hT.out])
  have HR0 : Hid (∀ (q : Nat) (w1 : World), Rd w1 (some ⟨q, 0, none⟩) 16 key → Ret 30 #[.slice (some ⟨q, 0, none⟩) 16 32] w1 (A (vals .u64 3 (limb r0)))) := hide fun q w1 h => hr0.out ▸ read_c _ 16 32 key hk (by decide) w1 h
  have HS0 : Hid (∀ (q : Nat) (w1 : World), Rd w1 (some ⟨q, 16, none⟩) 16 (fun j => key (16 + j)) → Ret 30 #[.slice (some ⟨q, 16, none⟩) 16 16] w1 (A (vals .u64 3 (limb e0)))) := hide fun q w1 h => hs.out ▸ read_c _ 16 16 (fun j => key (16 + j)) (fun _ => hk _) (by decide) w1 h
  have HRk : Hid (∀ w1 : World, Below w.heap.size w w1 → Ret 33 #[A (vals .u64 3 (limb r1)), .slice S mm pc] w1 (A (vals .u64 3 (limb y)))) := hide fun w1 h => reckoned_c S mm pc g o hg hmm r1 hr1l y hy.out.symm w1 (hP.low h)
  have HLo : Hid (∀ w1 : World, Ret 32 #[A (vals .u64 3 (limb y))] w1 (A (vals .u64 3 (limb (low y))))) := hide fun w1 => lowest_c y (Nat.lt_trans (hy.out ▸ pv_lt r1 g hg hr1l (o mm)) (by decide)) w1
  have HPl : Hid (∀ w1 : World, Ret 31 #[A (vals .u64 3 (limb (low y))), A (vals .u64 3 (limb e0))] w1 (A (vals .u64 3 (limb T)))) := hide fun w1 => hT.out ▸ plus_c (low y) e0 w1
  obtain ⟨ly, hly⟩ : ∃ ly, Hid (low y = ly) := ⟨_, hide rfl⟩
  rw [hly.out] at HLo HPl
  rw [Htg.out]
  clear hP hT hs hy hr0 hr1 Htg hly hr1l
  go_enter Tryd.func20, Tryd.ntmps20
  have hO := Own.start w
  go_upto_region 0 with (fail)
  refine Rg.ps [0, 1] (fun ν => [(2, D (ν 0)), (4, D (ν 1))]) (OI w (fun s ν => [[], [((ν 0), vals .u8 32 key, 23)], [((ν 0), vals .u8 32 key, 23), ((ν 1), vals .u8 16 (fun _ => 0), 35)]].getD s [])) (fun _ => 0) hO (Rg.ac (sn 0 (fun _ => vals .u8 32 key) 23 (fun _ w => run_box 23 _ rfl _ (by kernel_rfl) w) (fun _ => fit_b32 _)) (Rg.ac (sn 1 (fun _ => vals .u8 16 (fun _ => 0)) 35 (fun _ w => al_b16 rfl w) (fun _ => fit_b16 _)) Rg.an)) ?_
  intro ν w1 hO
  replace hO : Own w w1 [((ν 0), vals .u8 32 key, 23), ((ν 1), vals .u8 16 (fun _ => 0), 35)] := hO
  simp only [Rg.putL, Act.put, List.setIfInBounds_toArray, List.set_cons_succ, List.set_cons_zero]
  generalize ν 0 = n2 at hO ⊢
  generalize ν 1 = n4 at hO ⊢
  clear ν
  go_upto_region 1 with (fail)
  refine Rf.pf (fun ν => [(12, .slice (some ⟨n2, 0, none⟩) 16 32), (13, A (vals .u64 3 (limb r0))), (14, .slice (some ⟨n2, 16, none⟩) 16 16), (15, A (vals .u64 3 (limb e0))), (5, D (ν 4)), (6, D (ν 5))]) (Rf.OD w (fun D ν => (n2, vals .u8 32 key, 23) :: (n4, vals .u8 16 (fun _ => 0), 35) :: ((bif D 4 then [((ν 4), vals .u64 3 (bif D 6 then (limb r0) else (fun _ => 0)), 55)] else [] : List Row) ++ (bif D 5 then [((ν 5), vals .u64 3 (bif D 7 then (limb e0) else (fun _ => 0)), 55)] else [] : List Row)))) (fun _ => 0) hO.drew (Rg.ac Rf.fv (Rg.ac (Rf.fq 30 (fun ν => #[.slice (some ⟨n2, 0, none⟩) 16 32]) (fun ν => A (vals .u64 3 (limb r0))) (fun D ν w my hO => HR0.out _ w ((rd_row (hO.row 0 rfl) (by decide)).congr fun i _ => by rw [Nat.zero_add]))) (Rg.ac Rf.fv (Rg.ac (Rf.fq 30 (fun ν => #[.slice (some ⟨n2, 16, none⟩) 16 16]) (fun ν => A (vals .u64 3 (limb e0))) (fun D ν w my hO => HS0.out _ w (rd_row (hO.row 0 rfl) (by decide)))) (Rg.ac (Rf.fal (fun ν => vals .u64 3 (fun _ => 0)) 55 (fun ν w => al_l3 rfl w) (fun ν => fit_l3 _) (fun D ν nw my => by have f4 := my.not; have f6 := my.nf (k := 6) f4 (by kernel_rfl); have f7 := my.nf (k := 7) f4 (by kernel_rfl); have e : ∀ b4 b5 b6 b7 : Bool, b4 = false → b6 = false → b7 = false → (((n2, vals .u8 32 key, 23) :: (n4, vals .u8 16 (fun _ => 0), 35) :: ((bif b4 then [((ν 4), vals .u64 3 (bif b6 then (limb r0) else (fun _ => 0)), 55)] else [] : List Row) ++ (bif b5 then [((ν 5), vals .u64 3 (bif b7 then (limb e0) else (fun _ => 0)), 55)] else [] : List Row)) : List Row) ++ ([(nw, vals .u64 3 (fun _ => 0), 55)] : List Row)).Perm ((n2, vals .u8 32 key, 23) :: (n4, vals .u8 16 (fun _ => 0), 35) :: ((bif true then [(nw, vals .u64 3 (bif b6 then (limb r0) else (fun _ => 0)), 55)] else [] : List Row) ++ (bif b5 then [((ν 5), vals .u64 3 (bif b7 then (limb e0) else (fun _ => 0)), 55)] else [] : List Row))) := (by intro b4 b5 b6 b7; intros; subst_vars; cases b5 <;> (first | exact List.Perm.refl _ | exact List.Perm.cons _ (List.Perm.cons _ (List.Perm.swap _ _ _)))); exact e _ _ _ _ f4 f6 f7)) (Rg.ac (Rf.fal (fun ν => vals .u64 3 (fun _ => 0)) 55 (fun ν w => al_l3 rfl w) (fun ν => fit_l3 _) (fun D ν nw my => by have f5 := my.not; have f6 := my.nf (k := 6) f5 (by kernel_rfl); have f7 := my.nf (k := 7) f5 (by kernel_rfl); have e : ∀ b4 b5 b6 b7 : Bool, b5 = false → b6 = false → b7 = false → (((n2, vals .u8 32 key, 23) :: (n4, vals .u8 16 (fun _ => 0), 35) :: ((bif b4 then [((ν 4), vals .u64 3 (bif b6 then (limb r0) else (fun _ => 0)), 55)] else [] : List Row) ++ (bif b5 then [((ν 5), vals .u64 3 (bif b7 then (limb e0) else (fun _ => 0)), 55)] else [] : List Row)) : List Row) ++ ([(nw, vals .u64 3 (fun _ => 0), 55)] : List Row)).Perm ((n2, vals .u8 32 key, 23) :: (n4, vals .u8 16 (fun _ => 0), 35) :: ((bif b4 then [((ν 4), vals .u64 3 (bif b6 then (limb r0) else (fun _ => 0)), 55)] else [] : List Row) ++ (bif true then [(nw, vals .u64 3 (bif b7 then (limb e0) else (fun _ => 0)), 55)] else [] : List Row))) := (by intro b4 b5 b6 b7; intros; subst_vars; cases b4 <;> (exact List.Perm.refl _)); exact e _ _ _ _ f5 f6 f7)) (Rg.ac (Rf.fst 2 (fun ν => (ν 4)) (fun ν => vals .u64 3 (fun _ => 0)) (fun ν => vals .u64 3 (limb r0)) (fun ν => fit_l3 _) (fun D ν my => by have f6 := my.not; have f4 := my.pre 4 (by kernel_rfl); have f5 := my.pre 5 (by kernel_rfl); have f7 := my.nf (k := 7) f6 (by kernel_rfl); have e : ∀ b4 b5 b6 b7 : Bool, b4 = true → b5 = true → b6 = false → b7 = false → ((n2, vals .u8 32 key, 23) :: (n4, vals .u8 16 (fun _ => 0), 35) :: ((bif b4 then [((ν 4), vals .u64 3 (bif b6 then (limb r0) else (fun _ => 0)), 55)] else [] : List Row) ++ (bif b5 then [((ν 5), vals .u64 3 (bif b7 then (limb e0) else (fun _ => 0)), 55)] else [] : List Row)) : List Row)[2]? = some ((ν 4), vals .u64 3 (fun _ => 0), 55) := (by intros; subst_vars; rfl); exact e _ _ _ _ f4 f5 f6 f7) (fun D ν my => by have f6 := my.not; have f4 := my.pre 4 (by kernel_rfl); have f5 := my.pre 5 (by kernel_rfl); have f7 := my.nf (k := 7) f6 (by kernel_rfl); have e : ∀ b4 b5 b6 b7 : Bool, b4 = true → b5 = true → b6 = false → b7 = false → ((n2, vals .u8 32 key, 23) :: (n4, vals .u8 16 (fun _ => 0), 35) :: ((bif b4 then [((ν 4), vals .u64 3 (bif true then (limb r0) else (fun _ => 0)), 55)] else [] : List Row) ++ (bif b5 then [((ν 5), vals .u64 3 (bif b7 then (limb e0) else (fun _ => 0)), 55)] else [] : List Row)) : List Row) = ((n2, vals .u8 32 key, 23) :: (n4, vals .u8 16 (fun _ => 0), 35) :: ((bif b4 then [((ν 4), vals .u64 3 (bif b6 then (limb r0) else (fun _ => 0)), 55)] else [] : List Row) ++ (bif b5 then [((ν 5), vals .u64 3 (bif b7 then (limb e0) else (fun _ => 0)), 55)] else [] : List Row)) : List Row).set 2 ((ν 4), vals .u64 3 (limb r0), 55) := (by intros; subst_vars; rfl); exact e _ _ _ _ f4 f5 f6 f7)) (Rg.ac (Rf.fst 3 (fun ν => (ν 5)) (fun ν => vals .u64 3 (fun _ => 0)) (fun ν => vals .u64 3 (limb e0)) (fun ν => fit_l3 _) (fun D ν my => by have f7 := my.not; have f4 := my.pre 4 (by kernel_rfl); have f5 := my.pre 5 (by kernel_rfl); have f6 := my.pre 6 (by kernel_rfl); have e : ∀ b4 b5 b6 b7 : Bool, b4 = true → b5 = true → b6 = true → b7 = false → ((n2, vals .u8 32 key, 23) :: (n4, vals .u8 16 (fun _ => 0), 35) :: ((bif b4 then [((ν 4), vals .u64 3 (bif b6 then (limb r0) else (fun _ => 0)), 55)] else [] : List Row) ++ (bif b5 then [((ν 5), vals .u64 3 (bif b7 then (limb e0) else (fun _ => 0)), 55)] else [] : List Row)) : List Row)[3]? = some ((ν 5), vals .u64 3 (fun _ => 0), 55) := (by intros; subst_vars; rfl); exact e _ _ _ _ f4 f5 f6 f7) (fun D ν my => by have f7 := my.not; have f4 := my.pre 4 (by kernel_rfl); have f5 := my.pre 5 (by kernel_rfl); have f6 := my.pre 6 (by kernel_rfl); have e : ∀ b4 b5 b6 b7 : Bool, b4 = true → b5 = true → b6 = true → b7 = false → ((n2, vals .u8 32 key, 23) :: (n4, vals .u8 16 (fun _ => 0), 35) :: ((bif b4 then [((ν 4), vals .u64 3 (bif b6 then (limb r0) else (fun _ => 0)), 55)] else [] : List Row) ++ (bif b5 then [((ν 5), vals .u64 3 (bif true then (limb e0) else (fun _ => 0)), 55)] else [] : List Row)) : List Row) = ((n2, vals .u8 32 key, 23) :: (n4, vals .u8 16 (fun _ => 0), 35) :: ((bif b4 then [((ν 4), vals .u64 3 (bif b6 then (limb r0) else (fun _ => 0)), 55)] else [] : List Row) ++ (bif b5 then [((ν 5), vals .u64 3 (bif b7 then (limb e0) else (fun _ => 0)), 55)] else [] : List Row)) : List Row).set 3 ((ν 5), vals .u64 3 (limb e0), 55) := (by intros; subst_vars; rfl); exact e _ _ _ _ f4 f5 f6 f7)) Rg.an)))))))) ?_
  intro D ν w2 hall hO
  have f4 : D 4 = true := hall 4 (by decide)
  have f5 : D 5 = true := hall 5 (by decide)
  have f6 : D 6 = true := hall 6 (by decide)
  have f7 : D 7 = true := hall 7 (by decide)
  replace hO : Own w w2 [(n2, vals .u8 32 key, 23), (n4, vals .u8 16 (fun _ => 0), 35), ((ν 4), vals .u64 3 (limb r0), 55), ((ν 5), vals .u64 3 (limb e0), 55)] := by
    have e : ∀ b4 b5 b6 b7 : Bool, b4 = true → b5 = true → b6 = true → b7 = true → Own w w2 ((n2, vals .u8 32 key, 23) :: (n4, vals .u8 16 (fun _ => 0), 35) :: ((bif b4 then [((ν 4), vals .u64 3 (bif b6 then (limb r0) else (fun _ => 0)), 55)] else [] : List Row) ++ (bif b5 then [((ν 5), vals .u64 3 (bif b7 then (limb e0) else (fun _ => 0)), 55)] else [] : List Row))) → Own w w2 [(n2, vals .u8 32 key, 23), (n4, vals .u8 16 (fun _ => 0), 35), ((ν 4), vals .u64 3 (limb r0), 55), ((ν 5), vals .u64 3 (limb e0), 55)] := by (intros; subst_vars; assumption)
    exact e _ _ _ _ f4 f5 f6 f7 hO
  clear hall f4 f5 f6 f7
  simp only [Rg.putL, Act.put, List.setIfInBounds_toArray, List.set_cons_succ, List.set_cons_zero]
  generalize ν 4 = n5 at hO ⊢
  generalize ν 5 = n6 at hO ⊢
  clear ν D
  go_upto_region 2 with (fail)
  refine Rg.ps [] (fun _ => [(16, A (vals .u64 2 kp)), (17, Nv .i64 0)]) (OI w (fun _ _ => [(n2, vals .u8 32 key, 23), (n4, vals .u8 16 (fun _ => 0), 35), (n5, vals .u64 3 (limb r0), 55), (n6, vals .u64 3 (limb e0), 55)])) (fun _ => 0) hO (Rg.ac (nfr 1 (vals .u64 2 kp) hG cells_kept Tryd.underlying57) (Rg.ac nv Rg.an)) ?_
  intro ν w3 hO
  replace hO : Own w w3 [(n2, vals .u8 32 key, 23), (n4, vals .u8 16 (fun _ => 0), 35), (n5, vals .u64 3 (limb r0), 55), (n6, vals .u64 3 (limb e0), 55)] := hO
  simp only [Rg.putL, Act.put, List.setIfInBounds_toArray, List.set_cons_succ, List.set_cons_zero]
  clear ν
  have HO : Hid (Own w w3 [(n2, vals .u8 32 key, 23), (n4, vals .u8 16 (fun _ => 0), 35), (n5, vals .u64 3 (sw (limb r1) (limb r0) 0), 55), (n6, vals .u64 3 (limb e0), 55)]) := hide (by rw [sw_zero]; exact hO)
  clear hO
  go_wp2_with (fail)
  go_loopw [17] (fun x17 wr => ∃ k : Nat, k ≤ 2 ∧ x17 = .int .i64 k ∧ Own w wr [(n2, vals .u8 32 key, 23), (n4, vals .u8 16 (fun _ => 0), 35), (n5, vals .u64 3 (sw (limb r1) (limb r0) k), 55), (n6, vals .u64 3 (limb e0), 55)]) (fun x17 _ => 2 - (intOf x17).toNat)
  case atStart => exact ⟨0, Nat.zero_le _, rfl, HO.out⟩
  case round =>
    clear HO
    obtain ⟨k, hk9, rfl, hO⟩ := hrel
    by_cases hlt : k < 2
    · have hq0 : (0 : Int) ≤ (k : Int) := Int.natCast_nonneg k
      have hq1 : (k : Int) < 2 := by omega
      have hw1 := wr1 k (by omega)
      have hw0 := wr0 k (by omega)
      have hk3 : k < 3 := by omega
      go_upto_region 4 with (fail)
      refine Rg.ps [] (fun _ => [(19, Nv .i64 k), (20, Nv .u64 (kp k)), (7, Nv .i64 k), (8, Nv .u64 (kp k))]) (OI w (fun _ _ => [(n2, vals .u8 32 key, 23), (n4, vals .u8 16 (fun _ => 0), 35), (n5, vals .u64 3 (sw (limb r1) (limb r0) k), 55), (n6, vals .u64 3 (limb e0), 55)])) (fun _ => 0) hO (Rg.ac nv (Rg.ac (nx (fun _ => Nv .u64 (kp k)) (fun _ w => b_ix39 hlt w)) (Rg.ac nv (Rg.ac nv Rg.an)))) ?_
      intro ν w4 hO
      replace hO : Own w w4 [(n2, vals .u8 32 key, 23), (n4, vals .u8 16 (fun _ => 0), 35), (n5, vals .u64 3 (sw (limb r1) (limb r0) k), 55), (n6, vals .u64 3 (limb e0), 55)] := hO
      simp only [Rg.putL, Act.put, List.setIfInBounds_toArray, List.set_cons_succ, List.set_cons_zero]
      clear ν
      go_upto_region 5 with (fail)
      refine Rg.ps [6] (fun _ => [(21, Nv .i64 k), (22, E n5 k), (23, Nv .u64 (limb r0 k)), (24, Nv .u64 (kp k)), (25, Nv .u64 (limb r1 k)), (26, E n5 k)]) (OI w (fun s ν => [[(n2, vals .u8 32 key, 23), (n4, vals .u8 16 (fun _ => 0), 35), (n5, vals .u64 3 (sw (limb r1) (limb r0) k), 55), (n6, vals .u64 3 (limb e0), 55)], [(n2, vals .u8 32 key, 23), (n4, vals .u8 16 (fun _ => 0), 35), (n5, vals .u64 3 (sw (limb r1) (limb r0) (k + 1)), 55), (n6, vals .u64 3 (limb e0), 55)]].getD s [])) (fun _ => 0) hO (Rg.ac nv (Rg.ac (nx (fun _ => E n5 k) (fun _ w => b_ia_l3 hk3 w)) (Rg.ac (nc 0 0 2 (fun _ => k) (fun _ => Nv .u64 (limb r0 k)) agg_u64 (fun _ => (vals_get _ _ _ _ hk3).trans (by rw [sw_here])) (at1 0 fun _ => by kernel_rfl)) (Rg.ac nv (Rg.ac (nx (fun _ => Nv .u64 (limb r1 k)) (fun _ w => b_and64 (Hkp.out k) (limb_lt _ _) (limb_lt _ _) w)) (Rg.ac (nx (fun _ => E n5 k) (fun _ w => b_ia_l3 hk3 w)) (Rg.ac (sl 0 2 (fun _ => k) (fun _ => Nv .u64 (limb r0 k)) (fun _ => ((limb r1 k : Nat) : Int)) sz_u64 (fun _ => (vals_get _ _ _ _ hk3).trans (by rw [sw_here])) (fun _ => sw_set _ _ _ _ _ _ rfl) (fun _ => fit_l3 _)) Rg.an))))))) ?_
      intro ν w5 hO
      replace hO : Own w w5 [(n2, vals .u8 32 key, 23), (n4, vals .u8 16 (fun _ => 0), 35), (n5, vals .u64 3 (sw (limb r1) (limb r0) (k + 1)), 55), (n6, vals .u64 3 (limb e0), 55)] := hO
      simp only [Rg.putL, Act.put, List.setIfInBounds_toArray, List.set_cons_succ, List.set_cons_zero]
      clear ν
      have HO2 : Hid (Own w w5 [(n2, vals .u8 32 key, 23), (n4, vals .u8 16 (fun _ => 0), 35), (n5, vals .u64 3 (sw (limb r1) (limb r0) (k + 1)), 55), (n6, vals .u64 3 (limb e0), 55)]) := hide hO
      clear hO
      go_wp2_with (fail)
      go_roundw
      case rel => exact ⟨k + 1, hlt, in_succ k, HO2.out⟩
      case measure => exact ms_lt hlt
    · have ek : k = 2 := by omega
      subst ek
      clear hlt hk9
      rw [Hsw.out] at hO
      go_upto_region 7 with (fail)
      refine Rf.pf (fun ν => [(28, A (vals .u64 3 (limb r1))), (29, .slice S mm pc), (30, A (vals .u64 3 (limb y))), (31, A (vals .u64 3 (limb ly))), (32, A (vals .u64 3 (limb e0))), (33, A (vals .u64 3 (limb T))), (9, D (ν 6))]) (Rf.OD w (fun D ν => (n2, vals .u8 32 key, 23) :: (n4, vals .u8 16 (fun _ => 0), 35) :: (n5, vals .u64 3 (limb r1), 55) :: (n6, vals .u64 3 (limb e0), 55) :: ((bif D 6 then [((ν 6), vals .u64 3 (bif D 7 then (limb T) else (fun _ => 0)), 55)] else [] : List Row)))) (fun _ => 0) hO.drew (Rg.ac (Rf.fld 2 (fun ν => n5) (fun ν => vals .u64 3 (limb r1)) (fun D ν _ => rfl) Tryd.underlying55) (Rg.ac Rf.fv (Rg.ac (Rf.fq 33 (fun ν => #[A (vals .u64 3 (limb r1)), .slice S mm pc]) (fun ν => A (vals .u64 3 (limb y))) (fun D ν w my hO => HRk.out w hO.low)) (Rg.ac (Rf.fq 32 (fun ν => #[A (vals .u64 3 (limb y))]) (fun ν => A (vals .u64 3 (limb ly))) (fun D ν w my hO => HLo.out w)) (Rg.ac (Rf.fld 3 (fun ν => n6) (fun ν => vals .u64 3 (limb e0)) (fun D ν _ => rfl) Tryd.underlying55) (Rg.ac (Rf.fq 31 (fun ν => #[A (vals .u64 3 (limb ly)), A (vals .u64 3 (limb e0))]) (fun ν => A (vals .u64 3 (limb T))) (fun D ν w my hO => HPl.out w)) (Rg.ac (Rf.fal (fun ν => vals .u64 3 (fun _ => 0)) 55 (fun ν w => al_l3 rfl w) (fun ν => fit_l3 _) (fun D ν nw my => by have f6 := my.not; have f7 := my.nf (k := 7) f6 (by kernel_rfl); have e : ∀ b6 b7 : Bool, b6 = false → b7 = false → (((n2, vals .u8 32 key, 23) :: (n4, vals .u8 16 (fun _ => 0), 35) :: (n5, vals .u64 3 (limb r1), 55) :: (n6, vals .u64 3 (limb e0), 55) :: ((bif b6 then [((ν 6), vals .u64 3 (bif b7 then (limb T) else (fun _ => 0)), 55)] else [] : List Row)) : List Row) ++ ([(nw, vals .u64 3 (fun _ => 0), 55)] : List Row)).Perm ((n2, vals .u8 32 key, 23) :: (n4, vals .u8 16 (fun _ => 0), 35) :: (n5, vals .u64 3 (limb r1), 55) :: (n6, vals .u64 3 (limb e0), 55) :: ((bif true then [(nw, vals .u64 3 (bif b7 then (limb T) else (fun _ => 0)), 55)] else [] : List Row))) := (by intro b6 b7; intros; subst_vars; (exact List.Perm.refl _)); exact e _ _ f6 f7)) (Rg.ac (Rf.fst 4 (fun ν => (ν 6)) (fun ν => vals .u64 3 (fun _ => 0)) (fun ν => vals .u64 3 (limb T)) (fun ν => fit_l3 _) (fun D ν my => by have f7 := my.not; have f6 := my.pre 6 (by kernel_rfl); have e : ∀ b6 b7 : Bool, b6 = true → b7 = false → ((n2, vals .u8 32 key, 23) :: (n4, vals .u8 16 (fun _ => 0), 35) :: (n5, vals .u64 3 (limb r1), 55) :: (n6, vals .u64 3 (limb e0), 55) :: ((bif b6 then [((ν 6), vals .u64 3 (bif b7 then (limb T) else (fun _ => 0)), 55)] else [] : List Row)) : List Row)[4]? = some ((ν 6), vals .u64 3 (fun _ => 0), 55) := (by intros; subst_vars; rfl); exact e _ _ f6 f7) (fun D ν my => by have f7 := my.not; have f6 := my.pre 6 (by kernel_rfl); have e : ∀ b6 b7 : Bool, b6 = true → b7 = false → ((n2, vals .u8 32 key, 23) :: (n4, vals .u8 16 (fun _ => 0), 35) :: (n5, vals .u64 3 (limb r1), 55) :: (n6, vals .u64 3 (limb e0), 55) :: ((bif b6 then [((ν 6), vals .u64 3 (bif true then (limb T) else (fun _ => 0)), 55)] else [] : List Row)) : List Row) = ((n2, vals .u8 32 key, 23) :: (n4, vals .u8 16 (fun _ => 0), 35) :: (n5, vals .u64 3 (limb r1), 55) :: (n6, vals .u64 3 (limb e0), 55) :: ((bif b6 then [((ν 6), vals .u64 3 (bif b7 then (limb T) else (fun _ => 0)), 55)] else [] : List Row)) : List Row).set 4 ((ν 6), vals .u64 3 (limb T), 55) := (by intros; subst_vars; rfl); exact e _ _ f6 f7)) Rg.an)))))))) ?_
      intro D ν w6 hall hO
      have f6 : D 6 = true := hall 6 (by decide)
      have f7 : D 7 = true := hall 7 (by decide)
      replace hO : Own w w6 [(n2, vals .u8 32 key, 23), (n4, vals .u8 16 (fun _ => 0), 35), (n5, vals .u64 3 (limb r1), 55), (n6, vals .u64 3 (limb e0), 55), ((ν 6), vals .u64 3 (limb T), 55)] := by
        have e : ∀ b6 b7 : Bool, b6 = true → b7 = true → Own w w6 ((n2, vals .u8 32 key, 23) :: (n4, vals .u8 16 (fun _ => 0), 35) :: (n5, vals .u64 3 (limb r1), 55) :: (n6, vals .u64 3 (limb e0), 55) :: ((bif b6 then [((ν 6), vals .u64 3 (bif b7 then (limb T) else (fun _ => 0)), 55)] else [] : List Row))) → Own w w6 [(n2, vals .u8 32 key, 23), (n4, vals .u8 16 (fun _ => 0), 35), (n5, vals .u64 3 (limb r1), 55), (n6, vals .u64 3 (limb e0), 55), ((ν 6), vals .u64 3 (limb T), 55)] := by (intros; subst_vars; assumption)
        exact e _ _ f6 f7 hO
      clear hall f6 f7
      simp only [Rg.putL, Act.put, List.setIfInBounds_toArray, List.set_cons_succ, List.set_cons_zero]
      generalize ν 6 = n9 at hO ⊢
      clear ν D
      go_upto_region 8 with (fail)
      refine Rg.ps [0] (fun ν => [(10, D (ν 0))]) (OI w (fun s ν => [[(n2, vals .u8 32 key, 23), (n4, vals .u8 16 (fun _ => 0), 35), (n5, vals .u64 3 (limb r1), 55), (n6, vals .u64 3 (limb e0), 55), (n9, vals .u64 3 (limb T), 55)], [(n2, vals .u8 32 key, 23), (n4, vals .u8 16 (fun _ => 0), 35), (n5, vals .u64 3 (limb r1), 55), (n6, vals .u64 3 (limb e0), 55), (n9, vals .u64 3 (limb T), 55), ((ν 0), vals .u8 16 (fun _ => 0), 35)]].getD s [])) (fun _ => 0) hO (Rg.ac (sn 0 (fun _ => vals .u8 16 (fun _ => 0)) 35 (fun _ w => al_b16 rfl w) (fun _ => fit_b16 _)) Rg.an) ?_
      intro ν w7 hO
      replace hO : Own w w7 [(n2, vals .u8 32 key, 23), (n4, vals .u8 16 (fun _ => 0), 35), (n5, vals .u64 3 (limb r1), 55), (n6, vals .u64 3 (limb e0), 55), (n9, vals .u64 3 (limb T), 55), ((ν 0), vals .u8 16 (fun _ => 0), 35)] := hO
      simp only [Rg.putL, Act.put, List.setIfInBounds_toArray, List.set_cons_succ, List.set_cons_zero]
      generalize ν 0 = n10 at hO ⊢
      clear ν
      have HO : Hid (Own w w7 [(n2, vals .u8 32 key, 23), (n4, vals .u8 16 (fun _ => 0), 35), (n5, vals .u64 3 (limb r1), 55), (n6, vals .u64 3 (limb e0), 55), (n9, vals .u64 3 (limb T), 55), (n10, vals .u8 16 (sw (byt T) (fun _ => 0) 0), 35)]) := hide (by rw [sw_zero]; exact hO)
      clear hO
      go_wp2_with (fail)
      go_loopw [34] (fun x34 wr => ∃ k : Nat, k ≤ 16 ∧ x34 = .int .i64 k ∧ Own w wr [(n2, vals .u8 32 key, 23), (n4, vals .u8 16 (fun _ => 0), 35), (n5, vals .u64 3 (limb r1), 55), (n6, vals .u64 3 (limb e0), 55), (n9, vals .u64 3 (limb T), 55), (n10, vals .u8 16 (sw (byt T) (fun _ => 0) k), 35)]) (fun x34 _ => 16 - (intOf x34).toNat)
      case atStart => exact ⟨0, Nat.zero_le _, rfl, HO.out⟩
      case round =>
        clear HO
        obtain ⟨k, hk9, rfl, hO⟩ := hrel
        by_cases hlt : k < 16
        · have hq0 : (0 : Int) ≤ (k : Int) := Int.natCast_nonneg k
          have hq1 : (k : Int) < 16 := by omega
          have hw1 := wr1 k (by omega)
          have hw0 := wr0 k (by omega)
          have hk3 : k / 8 < 3 := by omega
          have hk40 : k < 2 ^ 40 := by omega
          have hkm : k % 8 < 2 ^ 40 := by omega
          have hk64 : k % 8 * 8 < 64 := by omega
          obtain ⟨z, hz⟩ : ∃ z, Hid (limb T (k / 8) / 2 ^ (k % 8 * 8) = z) := ⟨_, hide rfl⟩
          have Hb : Hid (z % 256 = byt T k) := hide (by rw [← hz.out]; exact byt_eq T k)
          go_upto_region 12 with (fail)
          refine Rg.ps [11] (fun _ => [(37, Nv .i64 k), (38, Nv .i64 k), (39, Nv .i64 (k / 8)), (40, E n9 (k / 8)), (41, Nv .u64 ((limb T) (k / 8))), (42, Nv .i64 k), (43, Nv .i64 (k % 8)), (44, Nv .i64 (k % 8 * 8)), (45, Nv .u64 z), (46, Nv .u8 (byt T k)), (47, E n10 k)]) (OI w (fun s ν => [[(n2, vals .u8 32 key, 23), (n4, vals .u8 16 (fun _ => 0), 35), (n5, vals .u64 3 (limb r1), 55), (n6, vals .u64 3 (limb e0), 55), (n9, vals .u64 3 (limb T), 55), (n10, vals .u8 16 (sw (byt T) (fun _ => 0) k), 35)], [(n2, vals .u8 32 key, 23), (n4, vals .u8 16 (fun _ => 0), 35), (n5, vals .u64 3 (limb r1), 55), (n6, vals .u64 3 (limb e0), 55), (n9, vals .u64 3 (limb T), 55), (n10, vals .u8 16 (sw (byt T) (fun _ => 0) (k + 1)), 35)]].getD s [])) (fun _ => 0) hO (Rg.ac nv (Rg.ac nv (Rg.ac (nx (fun _ => Nv .i64 (k / 8)) (fun _ w => b_quo8 hk40 w)) (Rg.ac (nx (fun _ => E n9 (k / 8)) (fun _ w => b_ia_l3 hk3 w)) (Rg.ac (nc 0 0 4 (fun _ => (k / 8)) (fun _ => Nv .u64 ((limb T) (k / 8))) agg_u64 (fun _ => vals_get _ _ _ _ hk3) (at1 0 fun _ => by kernel_rfl)) (Rg.ac nv (Rg.ac (nx (fun _ => Nv .i64 (k % 8)) (fun _ w => b_rem8 w)) (Rg.ac (nx (fun _ => Nv .i64 (k % 8 * 8)) (fun _ w => b_mulr8 hkm w)) (Rg.ac (nx (fun _ => Nv .u64 z) (fun _ w => b_shrE hk64 hz.out w)) (Rg.ac (nx (fun _ => Nv .u8 (byt T k)) (fun _ w => b_c645E Hb.out w)) (Rg.ac (nx (fun _ => E n10 k) (fun _ w => b_ia_b16 hlt w)) (Rg.ac (sl 0 5 (fun _ => k) (fun _ => Nv .u8 0) (fun _ => ((byt T k : Nat) : Int)) sz_u8 (fun _ => (vals_get _ _ _ _ hlt).trans (by rw [sw_here])) (fun _ => sw_set _ _ _ _ _ _ rfl) (fun _ => fit_b16 _)) Rg.an)))))))))))) ?_
          intro ν w8 hO
          replace hO : Own w w8 [(n2, vals .u8 32 key, 23), (n4, vals .u8 16 (fun _ => 0), 35), (n5, vals .u64 3 (limb r1), 55), (n6, vals .u64 3 (limb e0), 55), (n9, vals .u64 3 (limb T), 55), (n10, vals .u8 16 (sw (byt T) (fun _ => 0) (k + 1)), 35)] := hO
          simp only [Rg.putL, Act.put, List.setIfInBounds_toArray, List.set_cons_succ, List.set_cons_zero]
          clear ν
          have HO2 : Hid (Own w w8 [(n2, vals .u8 32 key, 23), (n4, vals .u8 16 (fun _ => 0), 35), (n5, vals .u64 3 (limb r1), 55), (n6, vals .u64 3 (limb e0), 55), (n9, vals .u64 3 (limb T), 55), (n10, vals .u8 16 (sw (byt T) (fun _ => 0) (k + 1)), 35)]) := hide hO
          clear hO
          go_wp2_with (fail)
          go_roundw
          case rel => exact ⟨k + 1, hlt, in_succ k, HO2.out⟩
          case measure => exact ms_lt hlt
        · have ek : k = 16 := by omega
          subst ek
          clear hlt hk9
          rw [sw_end] at hO
          go_upto_region 14 with (fail)
          refine Rg.ps [1] (fun _ => [(49, A (vals .u8 16 (byt T)))]) (OI w (fun s ν => [[(n2, vals .u8 32 key, 23), (n4, vals .u8 16 (fun _ => 0), 35), (n5, vals .u64 3 (limb r1), 55), (n6, vals .u64 3 (limb e0), 55), (n9, vals .u64 3 (limb T), 55), (n10, vals .u8 16 (byt T), 35)], [(n2, vals .u8 32 key, 23), (n4, vals .u8 16 (byt T), 35), (n5, vals .u64 3 (limb r1), 55), (n6, vals .u64 3 (limb e0), 55), (n9, vals .u64 3 (limb T), 55), (n10, vals .u8 16 (byt T), 35)]].getD s [])) (fun _ => 0) hO (Rg.ac (nld 0 0 5 (at1 0 fun _ => by kernel_rfl) Tryd.underlying35) (Rg.ac (sr 0 1 (fun _ => vals .u8 16 (byt T)) (fun _ => fit_b16 _)) Rg.an)) ?_
          intro ν w9 hO
          replace hO : Own w w9 [(n2, vals .u8 32 key, 23), (n4, vals .u8 16 (byt T), 35), (n5, vals .u64 3 (limb r1), 55), (n6, vals .u64 3 (limb e0), 55), (n9, vals .u64 3 (limb T), 55), (n10, vals .u8 16 (byt T), 35)] := hO
          simp only [Rg.putL, Act.put, List.setIfInBounds_toArray, List.set_cons_succ, List.set_cons_zero]
          clear ν
          go_wp2_with (fail)
          refine bodyPost_ret (v := A (vals .u8 16 (byt T))) (results_cell_row Tryd.results20 _ _ n4 35 _ (0, 0) _ rfl (hO.row 1 rfl) Tryd.underlying35 rfl ((fit_b16 _).size rfl)) rfl ⟨rfl, hO.low⟩
end Go.Proofs.YtanahjoiilfcbaaDoor

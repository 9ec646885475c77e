/- Texts in one: Rv Rx. -/
import Derived.Test.YtbpmakegimgbpaaGreatDoorJz
import Derived.Test.YtbpmakegimgbpaaGreatDoorJk
import Derived.Test.YtbpmakegimgbpaaGreatDoorSr
import Derived.Test.YtbpmakegimgbpaaGreatDoorTr
namespace Go.Proofs.YtbpmakegimgbpaaGreatDoor
set_option maxRecDepth 100000
open F Go.RowKit

theorem run_part {c e : Array Value} {off : Nat} {ty : TypeId} {d : TypeDesc} (hp : Part c off ty e) (hu : Tryz.prog.underlying ty = some d) (hd : d.isRow = true) (w : World) : (part ty c off).run Tryz.prog w = .ok (.agg e) w := by
  have hagg : ∀ w, (isAgg ty).run Tryz.prog w = .ok true w := by
    intro w
    unfold isAgg
    rw [Sem.run_bind, run_underlying hu w]
    cases d <;> simp_all
  cases hq : Tryz.prog.info? ty with
  | none => have := hp.size; simp [hq] at this
  | some i =>
    have hs : i.size = e.size := by have := hp.size; simpa [hq] using this
    simp [part, hagg, sizeOf, typeInfo, hq, hs, hp.eq]
theorem eqN9 (x y : Nat) (hx : x < pP) (hy : y < pP) (w : World) : (Op.equalIn 9999 58 (.agg (vals .u64 16 (F.dg x))) (.agg (vals .u64 16 (F.dg y)))).run Tryz.prog w = .ok (decide (x = y)) w := by
  rw [← all16 x y (lt256 hx) (lt256 hy)]
  exact run_equal_vals (P := Tryz.prog) w 9997 58 44 16 .u64 Tryz.underlying58 Tryz.underlying44 size24 _ _
theorem eqR {P Q : Nat × Nat} (hP : Ok7 P) (hQ : Ok7 Q) (w : World) : (Op.equalIn 10000 60 (.agg (rp P)) (.agg (rp Q))).run Tryz.prog w = .ok (decide (P = Q)) w := by
  rw [run_equalIn_struct w 9999 60 _ _ (by kernel_rfl) (by kernel_rfl)]
  obtain ⟨F1, F2, hF, n1, t1, o1, n2, t2, o2⟩ : ∃ F1 F2 : Field, (Tryz.prog.fieldsOf 60).toList = [F1, F2] ∧ F1.name ≠ "_" ∧ F1.type = 58 ∧ F1.offset = 0 ∧ F2.name ≠ "_" ∧ F2.type = 58 ∧ F2.offset = 16 := ⟨{ name := "X", type := 58, offset := 0, embedded := false, tag := "", pkgPath := "", byteOffset := 0 }, { name := "Y", type := 58, offset := 16, embedded := false, tag := "", pkgPath := "", byteOffset := 128 }, (by kernel_rfl), (by decide), rfl, rfl, (by decide), rfl, rfl⟩
  rw [hF]
  have e1 : ∀ w, (part 58 (rp P) 0).run Tryz.prog w = .ok (.agg (vals .u64 16 (F.dg P.1))) w := run_part (part_rp0 P.1 P.2) Tryz.underlying58 rfl
  have e2 : ∀ w, (part 58 (rp Q) 0).run Tryz.prog w = .ok (.agg (vals .u64 16 (F.dg Q.1))) w := run_part (part_rp0 Q.1 Q.2) Tryz.underlying58 rfl
  have e3 : ∀ w, (part 58 (rp P) 16).run Tryz.prog w = .ok (.agg (vals .u64 16 (F.dg P.2))) w := run_part (part_rp1 P.1 P.2) Tryz.underlying58 rfl
  have e4 : ∀ w, (part 58 (rp Q) 16).run Tryz.prog w = .ok (.agg (vals .u64 16 (F.dg Q.2))) w := run_part (part_rp1 Q.1 Q.2) Tryz.underlying58 rfl
  have q1 := eqN9 P.1 Q.1 hP.x hQ.x
  have q2 := eqN9 P.2 Q.2 hP.y hQ.y
  simp only [Op.eqFields, n1, n2, t1, t2, o1, o2, ne_eq, not_false_eq_true, if_true, Sem.run_bind, e1, e2, q1, Result.andThen_ok]
  have hd : decide (P = Q) = (decide (P.1 = Q.1) && decide (P.2 = Q.2)) := by
    rw [Bool.eq_iff_iff]
    simp only [Bool.and_eq_true, decide_eq_true_eq]
    exact ⟨fun h => ⟨h ▸ rfl, h ▸ rfl⟩, fun h => Prod.ext h.1 h.2⟩
  rw [hd]
  clear hd q1
  generalize decide (P.1 = Q.1) = b1
  generalize decide (P.2 = Q.2) = b2 at q2 ⊢
  cases b1
  · simp
  · cases b2 <;> simp [e3, e4, q2]
theorem eqR_c {ρ : Operand → Value} {o : Oper} {P Q : Nat × Nat} (x y : Operand) (hP : Ok7 P) (hQ : Ok7 Q) (w : World) (ho : o.op = .binOp .eql 60 x y 60) (hx : ρ x = .agg (rp P)) (hy : ρ y = .agg (rp Q)) : (execOp ρ o).run Tryz.prog w = .ok (.value (.bool (decide (P = Q)))) w := by
  have h := eqR hP hQ
  unfold execOp
  simp only [ho, hx, hy]
  go_simp
def s18r0Op0 : Oper := ⟨some 1, .box 22 (.tmp 0), 0, "ref.go:23", #[], none⟩
def s18r0Op1 : Oper := ⟨some 2, .alloc 22, 0, "ref.go:23", #[], none⟩
def s18r0Ops : Array Oper := #[s18r0Op0, s18r0Op1]
set_option maxHeartbeats 2000000 in
theorem s18r0_r {Q : Exit → Act → World → Prop} {u w : World} {L : List Row} {z1 z2 : Value} {zz : List Value} {e0 : Array Value} (hO : Own u w L) (fe0_22 : Fit 22 e0) (H : ∀ (n1 : Nat) (n2 : Nat) (w' : World), Own u w' ((n2, vals .u8 32 (fun _ => 0), 22) :: (n1, e0, 22) :: L) → Q .normal { tmps := List.toArray ((.agg e0) :: (.pointer (some ⟨n1, 0, none⟩)) :: (.pointer (some ⟨n2, 0, none⟩)) :: zz), defers := [] } w') :
    (Code.region 0 s18r0Ops false).wp Tryz.prog Q { tmps := List.toArray ((.agg e0) :: z1 :: z2 :: zz), defers := [] } w := by
  refine wp_region_list (show wpList _ s18r0Ops _ [s18r0Op0, s18r0Op1] _ _ from ?_)
  refine l_new hO (e0) 22 (run_box 22 _ rfl _ (by kernel_rfl)) fe0_22 ?_
  intro n1 w1 hO
  refine l_new hO (vals .u8 32 (fun _ => 0)) 22 (al22 rfl) (fit_by _) ?_
  intro n2 w2 hO
  exact l_fr _ (wpList_nil (H n1 n2 _ hO))
def s18r1Op0 : Oper := ⟨some 3, .load 22 (.tmp 1), 22, "ref.go:24", #[], none⟩
def s18r1Op1 : Oper := ⟨some 4, .call { callee := .value (.func 32), args := #[], argTypes := #[] }, 60, "ref.go:24", #[], none⟩
def s18r1Op2 : Oper := ⟨some 5, .call { callee := .value (.func 31), args := #[.tmp 3, .tmp 4], argTypes := #[22, 60] }, 60, "ref.go:24", #[⟨0, .data⟩, ⟨1, .data⟩, ⟨1, .chain⟩], none⟩
def s18r1Op3 : Oper := ⟨some 6, .call { callee := .value (.func 44), args := #[.tmp 5], argTypes := #[60] }, 22, "ref.go:24", #[⟨2, .data⟩, ⟨2, .chain⟩], none⟩
def s18r1Op4 : Oper := ⟨none, .store 22 (.tmp 2) (.tmp 6), 0, "ref.go:24", #[⟨3, .data⟩, ⟨3, .chain⟩, ⟨0, .phase⟩, ⟨1, .phase⟩, ⟨2, .phase⟩, ⟨3, .phase⟩], none⟩
def s18r1Ops : Array Oper := #[s18r1Op0, s18r1Op1, s18r1Op2, s18r1Op3, s18r1Op4]
set_option maxHeartbeats 2000000 in
theorem s18r1_r {Q : Exit → Act → World → Prop} {u w : World} {L : List Row} {z0 z3 z4 z5 z6 : Value} {b1 b2 : Nat} {c1 c2 : Array Value} {e4 e5 e6 : Array Value} (hQ : ∀ c a w n v, Q (.panic c) (a.put (some n) v) w → Q (.panic c) a w) (hO : Own u w L) (i1 : Nat) (h1 : L[i1]? = some (b1, c1, 22)) (i2 : Nat) (h2 : L[i2]? = some (b2, c2, 22)) (e2_1 : i2 ≠ i1) (r4 : ∀ w, Ret 32 #[] w (.agg e4)) (r5 : ∀ w, Ret 31 #[.agg c1, .agg e4] w (.agg e5)) (r6 : ∀ w, Ret 44 #[.agg e5] w (.agg e6)) (fe6_22 : Fit 22 e6) (H : ∀ (w' : World), Own u w' ((L.set i2 (b2, e6, 22))) → Q .normal { tmps := List.toArray (z0 :: (.pointer (some ⟨b1, 0, none⟩)) :: (.pointer (some ⟨b2, 0, none⟩)) :: (.agg c1) :: (.agg e4) :: (.agg e5) :: (.agg e6) :: []), defers := [] } w') :
    (Code.region 1 s18r1Ops true).wp Tryz.prog Q { tmps := List.toArray (z0 :: (.pointer (some ⟨b1, 0, none⟩)) :: (.pointer (some ⟨b2, 0, none⟩)) :: z3 :: z4 :: z5 :: z6 :: []), defers := [] } w := by
  have fc1_22 := hO.fits i1 h1
  refine wp_region_held_drew (S := Has [(b1, c1, 22)]) (by kernel_rfl) ⟨hO.drew.row _ h1, trivial⟩ (fun hS => ?_)
  replace hO := hO.drew
  refine d_tk 0 s18r1Op0 (.agg c1) hQ (y_l 22 (fun _ h => h.1) fc1_22 Tryz.underlying22) hS ?_
  refine d_fr (ls 5 1) (Fr [z0, D b1, D b2, A c1, z4, z5, z6] []) ?_
  refine d_one 1 s18r1Op1 (ls 5 3) (fun K hK => ?_)
  refine k_call hK hO (fun _ hO => ⟨hO.row _ h1, trivial⟩) 32 #[] (.agg e4) r4 ?_
  intro w1 hO
  refine d_one 2 s18r1Op2 (ls 5 7) (fun K hK => ?_)
  refine k_call hK hO (fun _ hO => ⟨hO.row _ h1, trivial⟩) 31 #[.agg c1, .agg e4] (.agg e5) r5 ?_
  intro w2 hO
  refine d_one 3 s18r1Op3 (ls 5 15) (fun K hK => ?_)
  refine k_call hK hO (fun _ hO => ⟨hO.row _ h1, trivial⟩) 44 #[.agg e5] (.agg e6) r6 ?_
  intro w3 hO
  refine d_fr (ls 5 15) (Fr [z0, D b1, D b2, A c1, A e4, A e5, A e6] []) ?_
  refine d_one 4 s18r1Op4 (ls 5 31) (fun K hK => ?_)
  refine k_st hK hO 22 i2 h2 e6 fe6_22 (fun _ hO => ⟨hO.row _ (get_set h1 e2_1), trivial⟩) ?_
  intro w4 hO
  exact wpAnyH_done (by kernel_rfl) (H  _ hO) _
set_option maxHeartbeats 4000000 in
theorem rtimes_g (f b : Nat → Nat) (R0 R1 : Array Value) (hB : ∀ w, Ret 32 #[] w (.agg R0)) (hM : ∀ w, Ret 31 #[.agg (vals .u8 32 f), .agg R0] w (.agg R1)) (hY : ∀ w, Ret 44 #[.agg R1] w (.agg (vals .u8 32 b))) (w : World) : Ret 18 #[.agg (vals .u8 32 f)] w (.agg (vals .u8 32 b)) := by
  go_enter Tryz.func18, Tryz.ntmps18
  have hO := Own.start w
  go_upto_region 0 with (fail)
  refine s18r0_r hO (fit_by _) ?_
  intro n1 n2 w1 hO
  replace hO : Own w w1 [(n2, vals .u8 32 (fun _ => 0), 22), (n1, vals .u8 32 f, 22)] := hO
  go_upto_region 1 with (fail)
  refine s18r1_r (fun _ _ _ _ _ h => h) hO 1 rfl 0 rfl (by decide) hB hM hY (fit_by _) ?_
  intro w2 hO
  replace hO : Own w w2 [(n2, vals .u8 32 b, 22), (n1, vals .u8 32 f, 22)] := hO
  go_wp2_with fail
  refine bodyPost_ret (v := .agg (vals .u8 32 b)) (results_cell_row Tryz.results18 _ _ n2 22 _ (0, 0) _ rfl (hO.row 0 rfl) Tryz.underlying22 rfl (fit_by _).size) rfl ⟨rfl, hO.low⟩
theorem rbytes_b (P : Nat × Nat) (b : Nat → Nat) (hP : Ok7 P) (hb : byt (num7 P) = b) (w : World) : Ret 44 #[.agg (rp P)] w (.agg (vals .u8 32 b)) := by
  subst hb; exact rbytes_p hP w
theorem ptb_def (n : Nat) : byt (num7 (mul7 base7 n)) = ptb n := by unfold ptb; rfl
theorem rtimes_p (f b : Nat → Nat) (P Q : Nat × Nat) (hP : Ok7 P) (hQ : Ok7 Q) (hB : ∀ w, Ret 32 #[] w (.agg (rp P))) (hf : ∀ i, f i < 256) (hm : mul7 P (nb f 32) = Q) (hb : byt (num7 Q) = b) (w : World) : Ret 18 #[.agg (vals .u8 32 f)] w (.agg (vals .u8 32 b)) := by
  subst hm
  exact rtimes_g f b (rp P) (rp (mul7 P (nb f 32))) hB (rmul_p f hf hP) (rbytes_b _ b hQ hb) w
theorem rtimes_c (f : Nat → Nat) (hf : ∀ i, f i < 256) (w : World) : Ret 18 #[.agg (vals .u8 32 f)] w (.agg (vals .u8 32 (ptb (nb f 32)))) := by
  obtain ⟨Q, hQ⟩ : ∃ Q, mul7 base7 (nb f 32) = Q := ⟨_, rfl⟩
  exact rtimes_p f (ptb (nb f 32)) base7 Q ok_base (hQ ▸ ok_mul ok_base _) rbase_p hf hQ (hQ ▸ ptb_def _) w
theorem rtimes_n (n : Nat) (hn : n < 2 ^ 256) (w : World) : Ret 18 #[.agg (vals .u8 32 (byt n))] w (.agg (vals .u8 32 (ptb n))) := by
  have h := rtimes_c (byt n) (byt_lt n) w
  rw [byt_n hn] at h
  exact h
theorem dgn_def (l : List Nat) : nb (T.dg l) 64 % S.qL = dgn l := by unfold dgn; rfl
theorem rred_at (l : List Nat) (args : Array Value) (w : World) (h : args = #[.agg (vals .u8 64 (T.dg l))]) : Calls Tryz.prog 45 args w fun e w' => e = .returned (.agg (vals .u8 32 (byt (dgn l)))) ∧ Below w.heap.size w w' := S.rReduce_n (T.dg l) (dgn l) args w h (T.dg_lt l) (dgn_def l)
theorem empty_own {w : World} {B : Nat} (hB : B ≤ w.heap.size) : T.Own (w.alloc (.cells #[] 5)) B 5 (.slice (some ⟨w.heap.size, 0, none⟩) 0 0) (T.bv8 []) := T.own_lit (Blk.new w #[] 5) hB
theorem app_b {B : Nat} {w : World} {v : Value} {vs : List Nat} (h : T.Own w B 5 v (T.bv8 vs)) (hBw : B ≤ w.heap.size) (A2 : Option Addr) (l : List Nat) (c2 : Nat) (hs : T.Rds w A2 l) (hl : vs.length + l.length ≤ 2 ^ 40) :
    ∃ A' c' w', (∀ ty, (Builtin.append_ #[23, 23] ty #[v, .slice A2 l.length c2]).run Tryz.prog w = .ok (.slice A' (vs ++ l).length c') w') ∧ T.Own w' B 5 (.slice A' (vs ++ l).length c') (T.bv8 (vs ++ l)) ∧ (∀ a, Below B a w → Below B a w') ∧ w.heap.size ≤ w'.heap.size := by
  obtain ⟨v', w', hr, ho, hsz, hlo⟩ := T.own_app T.elt5 h hBw (.slice A2 l.length c2) (T.bv8 l) (T.src_rds c2 hs) (by rw [T.bv8_len, T.bv8_len]; exact hl)
  rw [← T.bv8_app] at ho
  obtain ⟨A', c', rfl, _⟩ := T.own_rds ho
  exact ⟨A', c', w', hr, ho, hlo, hsz⟩
set_option maxHeartbeats 4000000 in
theorem digest_c (A1 A2 A3 : Option Addr) (l1 l2 l3 : List Nat) (c1 c2 c3 : Nat) (w : World) (h1 : T.Rds w A1 l1) (h2 : T.Rds w A2 l2) (h3 : T.Rds w A3 l3) (x1 : ∀ x ∈ l1, x < 256) (x2 : ∀ x ∈ l2, x < 256) (x3 : ∀ x ∈ l3, x < 256) (hl : l1.length + l2.length + l3.length < 2 ^ 29) :
    Ret 19 #[.slice A1 l1.length c1, .slice A2 l2.length c2, .slice A3 l3.length c3] w (.agg (vals .u8 32 (byt (dgn (l1 ++ l2 ++ l3))))) := by
  have H1 := hide h1
  have H2 := hide h2
  have H3 := hide h3
  have hz : ∀ w, (zeroValue 22).run Tryz.prog w = .ok (.agg (vals .u8 32 (fun _ => 0))) w := fun w => by kernel_rfl
  have R0 := hide (Blk.new w (vals .u8 32 (fun _ => 0)) 22)
  have L0 := hide ((Below.refl w.heap.size w).alloc (Nat.le_refl _) (.cells (vals .u8 32 (fun _ => 0)) 22))
  have Hx : Hid (∀ x ∈ l1 ++ l2 ++ l3, x < 256) := hide (fun x hx => by
    rcases List.mem_append.1 hx with hx | hx
    · rcases List.mem_append.1 hx with hx | hx
      · exact x1 x hx
      · exact x2 x hx
    · exact x3 x hx)
  have Hl := hide hl
  clear h1 h2 h3 x1 x2 x3 hl
  go_enter Tryz.func19, Tryz.ntmps19
  go_upto_region 1 with (fail)
  clear hz
  generalize w.alloc (.cells (vals .u8 32 (fun _ => 0)) 22) = w1 at *
  have E0 := hide ((Below.refl w1.heap.size w1).alloc (Nat.le_refl _) (.cells #[] 5))
  obtain ⟨B1, d1, w2, r1, o1, b1, s1⟩ := app_b (empty_own (Nat.le_refl w1.heap.size)) E0.out.size A1 l1 c1 ((H1.out.low L0.out).low E0.out) (by have := Hl.out; simp; omega)
  have L1 := hide (b1 w1 E0.out)
  obtain ⟨B2, d2, w3, r2, o2, b2, s2⟩ := app_b o1 L1.out.size A2 l2 c2 ((H2.out.low L0.out).low L1.out) (by have := Hl.out; simp; omega)
  have L2 := hide (b2 w1 L1.out)
  obtain ⟨B3, d3, w4, r3, o3, b3, s3⟩ := app_b o2 L2.out.size A3 l3 c3 ((H3.out.low L0.out).low L2.out) (by have := Hl.out; simp; omega)
  have L3 := hide (b3 w1 L2.out)
  simp only [List.nil_append] at r1 r2 r3 o3
  obtain ⟨ls, hls⟩ : ∃ ls, ls = l1 ++ l2 ++ l3 := ⟨_, rfl⟩
  obtain ⟨n2, hn2⟩ : ∃ n2, n2 = (l1 ++ l2).length := ⟨_, rfl⟩
  rw [← hls] at r3 o3 Hx
  rw [← hn2] at r2 r3
  have Hls : Hid (ls.length < 2 ^ 30) := hide (by have := Hl.out; rw [hls, List.length_append, List.length_append]; omega)
  obtain ⟨A4, c4, e4, hc4, hr4, _⟩ := T.own_rds o3
  injection e4 with e5 _ e6
  subst e5 e6
  have HR := hide hr4
  have HC := hide hc4
  have Q1 := hide r1
  have Q2 := hide r2
  have Q3 := hide r3
  have K0 := hide (R0.out.below L3.out R0.out.lt)
  have K1 := hide (L0.out.trans (L3.out.mono L0.out.size))
  have Hq := hide hls
  clear r1 r2 r3 o1 o2 o3 b1 b2 b3 s1 s2 s3 hr4 hc4 hn2 hls H1 H2 H3 E0 L1 L2 Hl
  go_wp2_with (first
    | (at_builtin; refine T.wpList_app rfl _ _ 23 23 rfl rfl rfl Q1.out ?_; clear Q1)
    | (at_builtin; refine T.wpList_app rfl _ _ 23 23 rfl rfl rfl Q2.out ?_; clear Q2)
    | (at_builtin; refine T.wpList_app rfl _ _ 23 23 rfl rfl rfl Q3.out ?_; clear Q3)
    | (go_at_call 43; refine (T.rSum_at _ ls _ _ _ rfl HR.out HC.out Hx.out Hls.out).mono ?_; rintro e w5 ⟨rfl, hb⟩; have K2 := hide (K0.out.call hb); have K3 := hide (T.keepLow2 K1.out hb); clear hb; dsimp only)
    | (go_at_call 45; refine (rred_at ls _ _ rfl).mono ?_; rintro e w6 ⟨rfl, hb⟩; have K4 := hide (K2.out.call hb); have K5 := hide (T.keepLow2 K3.out hb); clear hb; dsimp only)
    | (refine wpList_store_row rfl 22 _ _ rfl w.heap.size (vals .u8 32 (byt (dgn ls))) rfl rfl 22 _ K4.out (fit_by _).size (by rw [vals_size, vals_size]) (vals_one _ _ _) ?_))
  refine bodyPost_ret (v := .agg (vals .u8 32 (byt (dgn ls)))) (results_cell_row Tryz.results19 _ _ w.heap.size 22 _ (0, 0) _ rfl (K4.out.row _) Tryz.underlying22 rfl (fit_by _).size) rfl ⟨by rw [Hq.out, List.append_assoc], Below.row K5.out (Nat.le_refl _) _⟩
def s17r0Op0 : Oper := ⟨some 1, .box 22 (.tmp 0), 0, "ref.go:11", #[], none⟩
def s17r0Op1 : Oper := ⟨some 2, .alloc 22, 0, "ref.go:11", #[], none⟩
def s17r0Op2 : Oper := ⟨some 3, .assign (.const (.slice none 0 0)), 23, "ref.go:11", #[], none⟩
def s17r0Ops : Array Oper := #[s17r0Op0, s17r0Op1, s17r0Op2]
set_option maxHeartbeats 2000000 in
theorem s17r0_r {Q : Exit → Act → World → Prop} {u w : World} {L : List Row} {z1 z2 z3 : Value} {zz : List Value} {e0 : Array Value} (hO : Own u w L) (fe0_22 : Fit 22 e0) (H : ∀ (n1 : Nat) (n2 : Nat) (w' : World), Own u w' ((n2, vals .u8 32 (fun _ => 0), 22) :: (n1, e0, 22) :: L) → Q .normal { tmps := List.toArray ((.agg e0) :: (.pointer (some ⟨n1, 0, none⟩)) :: (.pointer (some ⟨n2, 0, none⟩)) :: (.slice none 0 0) :: zz), defers := [] } w') :
    (Code.region 0 s17r0Ops false).wp Tryz.prog Q { tmps := List.toArray ((.agg e0) :: z1 :: z2 :: z3 :: zz), defers := [] } w := by
  refine wp_region_list (show wpList _ s17r0Ops _ [s17r0Op0, s17r0Op1, s17r0Op2] _ _ from ?_)
  refine l_new hO (e0) 22 (run_box 22 _ rfl _ (by kernel_rfl)) fe0_22 ?_
  intro n1 w1 hO
  refine l_new hO (vals .u8 32 (fun _ => 0)) 22 (al22 rfl) (fit_by _) ?_
  intro n2 w2 hO
  refine l_val (.slice none 0 0) (by kernel_rfl) ?_
  exact l_fr _ (wpList_nil (H n1 n2 _ hO))
def s17r1Op0 : Oper := ⟨some 7, .slice 22 (.tmp 1) none none none, 23, "ref.go:12", #[], none⟩
def s17r1Op1 : Oper := ⟨some 8, .call { callee := .value (.func 43), args := #[.tmp 7], argTypes := #[23] }, 24, "ref.go:12", #[⟨0, .data⟩], none⟩
def s17r1Op2 : Oper := ⟨some 4, .alloc 24, 0, "ref.go:12", #[], none⟩
def s17r1Op3 : Oper := ⟨none, .store 24 (.tmp 4) (.tmp 8), 0, "ref.go:12", #[⟨2, .data⟩, ⟨1, .data⟩, ⟨1, .chain⟩, ⟨0, .phase⟩, ⟨1, .phase⟩, ⟨2, .phase⟩], none⟩
def s17r1Ops : Array Oper := #[s17r1Op0, s17r1Op1, s17r1Op2, s17r1Op3]
set_option maxHeartbeats 2000000 in
theorem s17r1_r {Q : Exit → Act → World → Prop} {u w : World} {L : List Row} {z0 z2 z3 z4 z5 z6 z7 z8 : Value} {zz : List Value} {b1 : Nat} {c1 : Array Value} {e8 : Array Value} (hO : Own u w L) (i1 : Nat) (h1 : L[i1]? = some (b1, c1, 22)) (r8 : ∀ (w : World), Below u.heap.size u w → Blk w b1 c1 22 → Ret 43 #[.slice (some ⟨b1, 0, none⟩) 32 32] w (.agg e8)) (fe8_24 : Fit 24 e8) (H : ∀ (n4 : Nat) (w' : World), Own u w' ((n4, e8, 24) :: L) → Q .normal { tmps := List.toArray (z0 :: (.pointer (some ⟨b1, 0, none⟩)) :: z2 :: z3 :: (.pointer (some ⟨n4, 0, none⟩)) :: z5 :: z6 :: (.slice (some ⟨b1, 0, none⟩) 32 32) :: (.agg e8) :: zz), defers := [] } w') :
    (Code.region 1 s17r1Ops false).wp Tryz.prog Q { tmps := List.toArray (z0 :: (.pointer (some ⟨b1, 0, none⟩)) :: z2 :: z3 :: z4 :: z5 :: z6 :: z7 :: z8 :: zz), defers := [] } w := by
  refine wp_region_list (show wpList _ s17r1Ops _ [s17r1Op0, s17r1Op1, s17r1Op2, s17r1Op3] _ _ from ?_)
  refine l_val (.slice (some ⟨b1, 0, none⟩) 32 32) (by kernel_rfl) ?_
  refine l_cw hO 43 #[.slice (some ⟨b1, 0, none⟩) 32 32] (.agg e8) (r8 _ hO.low (hO.row (i1) h1)) ?_
  intro w1 _ hO
  refine l_new hO (vals .u8 64 (fun _ => 0)) 24 (alb6 rfl) (fit_b6 _) ?_
  intro n4 w2 hO
  refine l_fr (Fr [z0, D b1, z2, z3, D n4, z5, z6, .slice (some ⟨b1, 0, none⟩) 32 32, A e8] zz) ?_
  refine l_st hO 24 0 rfl e8 fe8_24 ?_
  intro w3 hO
  exact l_fr _ (wpList_nil (H n4 _ hO))
def s17r2Op0 : Oper := ⟨some 9, .build 22 #[], 22, "ref.go:13", #[], none⟩
def s17r2Op1 : Oper := ⟨some 5, .alloc 22, 0, "ref.go:13", #[], none⟩
def s17r2Op2 : Oper := ⟨none, .store 22 (.tmp 5) (.tmp 9), 0, "ref.go:13", #[⟨1, .data⟩, ⟨0, .data⟩, ⟨0, .phase⟩, ⟨1, .phase⟩], none⟩
def s17r2Ops : Array Oper := #[s17r2Op0, s17r2Op1, s17r2Op2]
set_option maxHeartbeats 2000000 in
theorem s17r2_r {Q : Exit → Act → World → Prop} {u w : World} {L : List Row} {z0 z1 z2 z3 z4 z5 z6 z7 z8 z9 : Value} {zz : List Value} {e9 : Array Value} (hO : Own u w L) (q9 : Tryz.prog.built 22 [] = some e9) (fe9_22 : Fit 22 e9) (H : ∀ (n5 : Nat) (w' : World), Own u w' ((n5, e9, 22) :: L) → Q .normal { tmps := List.toArray (z0 :: z1 :: z2 :: z3 :: z4 :: (.pointer (some ⟨n5, 0, none⟩)) :: z6 :: z7 :: z8 :: (.agg e9) :: zz), defers := [] } w') :
    (Code.region 2 s17r2Ops false).wp Tryz.prog Q { tmps := List.toArray (z0 :: z1 :: z2 :: z3 :: z4 :: z5 :: z6 :: z7 :: z8 :: z9 :: zz), defers := [] } w := by
  refine wp_region_list (show wpList _ s17r2Ops _ [s17r2Op0, s17r2Op1, s17r2Op2] _ _ from ?_)
  refine l_val (.agg e9) (run_bd 22 _ rfl [] (by kernel_rfl) e9 q9 _) ?_
  refine l_new hO (vals .u8 32 (fun _ => 0)) 22 (al22 rfl) (fit_by _) ?_
  intro n5 w1 hO
  refine l_st hO 22 0 rfl e9 fe9_22 ?_
  intro w2 hO
  exact l_fr _ (wpList_nil (H n5 _ hO))
def s17r6Op0 : Oper := ⟨some 14, .move (.tmp 6), 3, "ref.go:15", #[], none⟩
def s17r6Op1 : Oper := ⟨some 15, .move (.tmp 6), 3, "ref.go:15", #[], none⟩
def s17r6Op2 : Oper := ⟨some 16, .indexAddr 24 (.tmp 4) (.tmp 15), 0, "ref.go:15", #[⟨1, .data⟩], none⟩
def s17r6Op3 : Oper := ⟨some 17, .load 5 (.tmp 16), 5, "ref.go:15", #[⟨2, .data⟩], none⟩
def s17r6Op4 : Oper := ⟨some 18, .indexAddr 22 (.tmp 5) (.tmp 14), 0, "ref.go:15", #[⟨0, .data⟩, ⟨0, .phase⟩, ⟨1, .phase⟩, ⟨2, .phase⟩, ⟨3, .phase⟩], none⟩
def s17r6Op5 : Oper := ⟨none, .store 5 (.tmp 18) (.tmp 17), 0, "ref.go:15", #[⟨4, .data⟩, ⟨3, .data⟩, ⟨0, .phase⟩, ⟨1, .phase⟩, ⟨2, .phase⟩, ⟨3, .phase⟩], none⟩
def s17r6Ops : Array Oper := #[s17r6Op0, s17r6Op1, s17r6Op2, s17r6Op3, s17r6Op4, s17r6Op5]
set_option maxHeartbeats 2000000 in
theorem s17r6_r {Q : Exit → Act → World → Prop} {u w : World} {L : List Row} {z0 z1 z2 z3 z7 z8 z9 z10 z11 z12 z13 z14 z15 z16 z17 z18 : Value} {zz : List Value} {b4 b5 : Nat} {c4 c5 : Array Value} {e905 : Array Value} {k j16 g17 j18 g905 : Nat} (hO : Own u w L) (i4 : Nat) (h4 : L[i4]? = some (b4, c4, 24)) (i5 : Nat) (h5 : L[i5]? = some (b5, c5, 22)) (k16 : ∀ (a : Act) (w : World), a.eval (.tmp 15) = .int .i64 ((k : Nat) : Int) → a.eval (.tmp 4) = .pointer (some ⟨b4, 0, none⟩) → (execOp a.eval s17r6Op2).run Tryz.prog w = .ok (.value (.pointer (some ⟨b4, j16, none⟩))) w) (v17 : c4[j16]? = some (.int .u8 ((g17 : Nat) : Int))) (k18 : ∀ (a : Act) (w : World), a.eval (.tmp 14) = .int .i64 ((k : Nat) : Int) → a.eval (.tmp 5) = .pointer (some ⟨b5, 0, none⟩) → (execOp a.eval s17r6Op4).run Tryz.prog w = .ok (.value (.pointer (some ⟨b5, j18, none⟩))) w) (v905 : c5[j18]? = some (.int .u8 ((g905 : Nat) : Int))) (s5 : c5.setIfInBounds j18 (.int .u8 ((g17 : Nat) : Int)) = e905) (fe905_22 : Fit 22 e905) (H : ∀ (w' : World), Own u w' ((L.set i5 (b5, e905, 22))) → Q .normal { tmps := List.toArray (z0 :: z1 :: z2 :: z3 :: (.pointer (some ⟨b4, 0, none⟩)) :: (.pointer (some ⟨b5, 0, none⟩)) :: (.int .i64 ((k : Nat) : Int)) :: z7 :: z8 :: z9 :: z10 :: z11 :: z12 :: z13 :: (.int .i64 ((k : Nat) : Int)) :: (.int .i64 ((k : Nat) : Int)) :: (.pointer (some ⟨b4, j16, none⟩)) :: (.int .u8 ((g17 : Nat) : Int)) :: (.pointer (some ⟨b5, j18, none⟩)) :: zz), defers := [] } w') :
    (Code.region 6 s17r6Ops false).wp Tryz.prog Q { tmps := List.toArray (z0 :: z1 :: z2 :: z3 :: (.pointer (some ⟨b4, 0, none⟩)) :: (.pointer (some ⟨b5, 0, none⟩)) :: (.int .i64 ((k : Nat) : Int)) :: z7 :: z8 :: z9 :: z10 :: z11 :: z12 :: z13 :: z14 :: z15 :: z16 :: z17 :: z18 :: zz), defers := [] } w := by
  refine wp_region_list (show wpList _ s17r6Ops _ [s17r6Op0, s17r6Op1, s17r6Op2, s17r6Op3, s17r6Op4, s17r6Op5] _ _ from ?_)
  refine l_val (.int .i64 ((k : Nat) : Int)) (by kernel_rfl) ?_
  refine l_val (.int .i64 ((k : Nat) : Int)) (by kernel_rfl) ?_
  refine l_val (.pointer (some ⟨b4, j16, none⟩)) (k16 _ _ (by kernel_rfl) (by kernel_rfl)) ?_
  refine l_fr (Fr [z0, z1, z2, z3, D b4, D b5, .int .i64 ((k : Nat) : Int), z7, z8, z9, z10, z11, z12, z13, .int .i64 ((k : Nat) : Int), .int .i64 ((k : Nat) : Int), .pointer (some ⟨b4, j16, none⟩), z17, z18] zz) ?_
  refine l_c8 hO i4 h4 v17 ?_
  refine l_val (.pointer (some ⟨b5, j18, none⟩)) (k18 _ _ (by kernel_rfl) (by kernel_rfl)) ?_
  refine l_stc hO i5 h5 g17 v905 s5 fe905_22 ?_
  intro w1 hO
  exact l_fr _ (wpList_nil (H  _ hO))
def s17r7Op0 : Oper := ⟨some 19, .indexAddr 22 (.tmp 5) (.const (.int .i64 0)), 0, "ref.go:17", #[], none⟩
def s17r7Op1 : Oper := ⟨some 20, .load 5 (.tmp 19), 5, "ref.go:17", #[⟨0, .data⟩], none⟩
def s17r7Op2 : Oper := ⟨some 21, .binOp .andNot 5 (.tmp 20) (.const (.int .u8 7)) 5, 5, "ref.go:17", #[⟨1, .data⟩], none⟩
def s17r7Op3 : Oper := ⟨some 22, .indexAddr 22 (.tmp 5) (.const (.int .i64 0)), 0, "ref.go:17", #[⟨0, .phase⟩, ⟨1, .phase⟩, ⟨2, .phase⟩], none⟩
def s17r7Op4 : Oper := ⟨none, .store 5 (.tmp 22) (.tmp 21), 0, "ref.go:17", #[⟨3, .data⟩, ⟨2, .data⟩, ⟨0, .phase⟩, ⟨1, .phase⟩, ⟨2, .phase⟩], none⟩
def s17r7Ops : Array Oper := #[s17r7Op0, s17r7Op1, s17r7Op2, s17r7Op3, s17r7Op4]
set_option maxHeartbeats 2000000 in
theorem s17r7_r {Q : Exit → Act → World → Prop} {u w : World} {L : List Row} {z0 z1 z2 z3 z4 z6 z7 z8 z9 z10 z11 z12 z13 z14 z15 z16 z17 z18 z19 z20 z21 z22 : Value} {zz : List Value} {b5 : Nat} {c5 : Array Value} {e904 : Array Value} {g20 g21 : Nat} (hO : Own u w L) (i5 : Nat) (h5 : L[i5]? = some (b5, c5, 22)) (v20 : c5[0]? = some (.int .u8 ((g20 : Nat) : Int))) (k21 : ∀ (a : Act) (w : World), a.eval (.tmp 20) = .int .u8 ((g20 : Nat) : Int) → (execOp a.eval s17r7Op2).run Tryz.prog w = .ok (.value (.int .u8 ((g21 : Nat) : Int))) w) (s4 : c5.setIfInBounds 0 (.int .u8 ((g21 : Nat) : Int)) = e904) (fe904_22 : Fit 22 e904) (H : ∀ (w' : World), Own u w' ((L.set i5 (b5, e904, 22))) → Q .normal { tmps := List.toArray (z0 :: z1 :: z2 :: z3 :: z4 :: (.pointer (some ⟨b5, 0, none⟩)) :: z6 :: z7 :: z8 :: z9 :: z10 :: z11 :: z12 :: z13 :: z14 :: z15 :: z16 :: z17 :: z18 :: (.pointer (some ⟨b5, 0, none⟩)) :: (.int .u8 ((g20 : Nat) : Int)) :: (.int .u8 ((g21 : Nat) : Int)) :: (.pointer (some ⟨b5, 0, none⟩)) :: zz), defers := [] } w') :
    (Code.region 7 s17r7Ops false).wp Tryz.prog Q { tmps := List.toArray (z0 :: z1 :: z2 :: z3 :: z4 :: (.pointer (some ⟨b5, 0, none⟩)) :: z6 :: z7 :: z8 :: z9 :: z10 :: z11 :: z12 :: z13 :: z14 :: z15 :: z16 :: z17 :: z18 :: z19 :: z20 :: z21 :: z22 :: zz), defers := [] } w := by
  refine wp_region_list (show wpList _ s17r7Ops _ [s17r7Op0, s17r7Op1, s17r7Op2, s17r7Op3, s17r7Op4] _ _ from ?_)
  refine l_val (.pointer (some ⟨b5, 0, none⟩)) (by kernel_rfl) ?_
  refine l_c8 hO i5 h5 v20 ?_
  refine l_val (.int .u8 ((g21 : Nat) : Int)) (k21 _ _ (by kernel_rfl)) ?_
  refine l_fr (Fr [z0, z1, z2, z3, z4, D b5, z6, z7, z8, z9, z10, z11, z12, z13, z14, z15, z16, z17, z18, .pointer (some ⟨b5, 0, none⟩), .int .u8 ((g20 : Nat) : Int), .int .u8 ((g21 : Nat) : Int), z22] zz) ?_
  refine l_val (.pointer (some ⟨b5, 0, none⟩)) (by kernel_rfl) ?_
  refine l_stc hO i5 h5 g21 v20 s4 fe904_22 ?_
  intro w1 hO
  exact l_fr _ (wpList_nil (H  _ hO))
def s17r8Op0 : Oper := ⟨some 23, .indexAddr 22 (.tmp 5) (.const (.int .i64 31)), 0, "ref.go:18", #[], none⟩
def s17r8Op1 : Oper := ⟨some 24, .load 5 (.tmp 23), 5, "ref.go:18", #[⟨0, .data⟩], none⟩
def s17r8Op2 : Oper := ⟨some 25, .binOp .andNot 5 (.tmp 24) (.const (.int .u8 128)) 5, 5, "ref.go:18", #[⟨1, .data⟩], none⟩
def s17r8Op3 : Oper := ⟨some 26, .binOp .or 5 (.tmp 25) (.const (.int .u8 64)) 5, 5, "ref.go:18", #[⟨2, .data⟩], none⟩
def s17r8Op4 : Oper := ⟨some 27, .indexAddr 22 (.tmp 5) (.const (.int .i64 31)), 0, "ref.go:18", #[⟨0, .phase⟩, ⟨1, .phase⟩, ⟨2, .phase⟩, ⟨3, .phase⟩], none⟩
def s17r8Op5 : Oper := ⟨none, .store 5 (.tmp 27) (.tmp 26), 0, "ref.go:18", #[⟨4, .data⟩, ⟨3, .data⟩, ⟨0, .phase⟩, ⟨1, .phase⟩, ⟨2, .phase⟩, ⟨3, .phase⟩], none⟩
def s17r8Ops : Array Oper := #[s17r8Op0, s17r8Op1, s17r8Op2, s17r8Op3, s17r8Op4, s17r8Op5]
set_option maxHeartbeats 2000000 in
theorem s17r8_r {Q : Exit → Act → World → Prop} {u w : World} {L : List Row} {z0 z1 z2 z3 z4 z6 z7 z8 z9 z10 z11 z12 z13 z14 z15 z16 z17 z18 z19 z20 z21 z22 z23 z24 z25 z26 z27 : Value} {zz : List Value} {b5 : Nat} {c5 : Array Value} {e905 : Array Value} {g24 g25 g26 : Nat} (hO : Own u w L) (i5 : Nat) (h5 : L[i5]? = some (b5, c5, 22)) (v24 : c5[31]? = some (.int .u8 ((g24 : Nat) : Int))) (k25 : ∀ (a : Act) (w : World), a.eval (.tmp 24) = .int .u8 ((g24 : Nat) : Int) → (execOp a.eval s17r8Op2).run Tryz.prog w = .ok (.value (.int .u8 ((g25 : Nat) : Int))) w) (k26 : ∀ (a : Act) (w : World), a.eval (.tmp 25) = .int .u8 ((g25 : Nat) : Int) → (execOp a.eval s17r8Op3).run Tryz.prog w = .ok (.value (.int .u8 ((g26 : Nat) : Int))) w) (s5 : c5.setIfInBounds 31 (.int .u8 ((g26 : Nat) : Int)) = e905) (fe905_22 : Fit 22 e905) (H : ∀ (w' : World), Own u w' ((L.set i5 (b5, e905, 22))) → Q .normal { tmps := List.toArray (z0 :: z1 :: z2 :: z3 :: z4 :: (.pointer (some ⟨b5, 0, none⟩)) :: z6 :: z7 :: z8 :: z9 :: z10 :: z11 :: z12 :: z13 :: z14 :: z15 :: z16 :: z17 :: z18 :: z19 :: z20 :: z21 :: z22 :: (.pointer (some ⟨b5, 31, none⟩)) :: (.int .u8 ((g24 : Nat) : Int)) :: (.int .u8 ((g25 : Nat) : Int)) :: (.int .u8 ((g26 : Nat) : Int)) :: (.pointer (some ⟨b5, 31, none⟩)) :: zz), defers := [] } w') :
    (Code.region 8 s17r8Ops false).wp Tryz.prog Q { tmps := List.toArray (z0 :: z1 :: z2 :: z3 :: z4 :: (.pointer (some ⟨b5, 0, none⟩)) :: z6 :: z7 :: z8 :: z9 :: z10 :: z11 :: z12 :: z13 :: z14 :: z15 :: z16 :: z17 :: z18 :: z19 :: z20 :: z21 :: z22 :: z23 :: z24 :: z25 :: z26 :: z27 :: zz), defers := [] } w := by
  refine wp_region_list (show wpList _ s17r8Ops _ [s17r8Op0, s17r8Op1, s17r8Op2, s17r8Op3, s17r8Op4, s17r8Op5] _ _ from ?_)
  refine l_val (.pointer (some ⟨b5, 31, none⟩)) (by kernel_rfl) ?_
  refine l_c8 hO i5 h5 v24 ?_
  refine l_val (.int .u8 ((g25 : Nat) : Int)) (k25 _ _ (by kernel_rfl)) ?_
  refine l_fr (Fr [z0, z1, z2, z3, z4, D b5, z6, z7, z8, z9, z10, z11, z12, z13, z14, z15, z16, z17, z18, z19, z20, z21, z22, .pointer (some ⟨b5, 31, none⟩), .int .u8 ((g24 : Nat) : Int), .int .u8 ((g25 : Nat) : Int), z26, z27] zz) ?_
  refine l_val (.int .u8 ((g26 : Nat) : Int)) (k26 _ _ (by kernel_rfl)) ?_
  refine l_val (.pointer (some ⟨b5, 31, none⟩)) (by kernel_rfl) ?_
  refine l_stc hO i5 h5 g26 v24 s5 fe905_22 ?_
  intro w1 hO
  exact l_fr _ (wpList_nil (H  _ hO))
def s17r9Op0 : Oper := ⟨some 28, .load 22 (.tmp 5), 22, "ref.go:19", #[], none⟩
def s17r9Op1 : Oper := ⟨some 29, .buildSlice 23 0 #[], 23, "ref.go:19", #[], none⟩
def s17r9Op2 : Oper := ⟨some 30, .slice 24 (.tmp 4) (some (.const (.int .i64 32))) none none, 23, "ref.go:19", #[], none⟩
def s17r9Op3 : Oper := ⟨some 31, .call { callee := .builtin Builtin.append, args := #[.tmp 29, .tmp 30], argTypes := #[23, 23] }, 23, "ref.go:19", #[⟨1, .data⟩, ⟨2, .data⟩], none⟩
def s17r9Op4 : Oper := ⟨none, .store 22 (.tmp 2) (.tmp 28), 0, "ref.go:19", #[⟨0, .data⟩, ⟨3, .chain⟩, ⟨0, .phase⟩, ⟨1, .textOnly .lateStores⟩, ⟨2, .textOnly .lateStoresUnsure⟩, ⟨3, .textOnly .lateStoresUnsure⟩], none⟩
def s17r9Op5 : Oper := ⟨some 3, .assign (.tmp 31), 23, "ref.go:19", #[⟨3, .data⟩, ⟨4, .chain⟩, ⟨0, .phase⟩, ⟨1, .phase⟩, ⟨2, .phase⟩, ⟨3, .phase⟩, ⟨4, .phase⟩], none⟩
def s17r9Ops : Array Oper := #[s17r9Op0, s17r9Op1, s17r9Op2, s17r9Op3, s17r9Op4, s17r9Op5]
theorem u8_not_7 (n : Nat) (h : n < 256) : bits .andNot .u8 (n : Int) 7 = ((n / 8 * 8 : Nat) : Int) := by
  have := (by decide +kernel : ∀ i : Fin 256, bits .andNot .u8 ((i.val : Nat) : Int) 7 = ((i.val / 8 * 8 : Nat) : Int)) ⟨n, h⟩
  exact this
theorem u8_or_64b (n : Nat) (h : n < 256) : bits .or .u8 ((n % 128 : Nat) : Int) 64 = ((n % 64 + 64 : Nat) : Int) := by
  have := (by decide +kernel : ∀ i : Fin 256, bits .or .u8 ((i.val % 128 : Nat) : Int) 64 = ((i.val % 64 + 64 : Nat) : Int)) ⟨n, h⟩
  exact this
theorem own_below {w : World} {B : Nat} {e : TypeId} {v : Value} {vs : List Value} {g : Nat} {cs : Array Value} (h : T.Own w B e v vs) (hg : g < B) : T.Own (w.setRow g cs) B e v vs := by
  obtain ⟨A, cap, cells, h1, h2, h3, h4, h5⟩ := h
  refine ⟨A, cap, cells, h1, h2, h3, h4, ?_⟩
  rcases h5 with ⟨k, hA, hk, hB⟩ | h5
  · exact Or.inl ⟨k, hA, hk, hB.rowOther cs (by omega)⟩
  · exact Or.inr h5
theorem wp_app {o : Oper} {a : Act} {w : World} {K : Act → World → Prop} {Q : Exit → Act → World → Prop} (d s : Operand) (t : TypeId) (ho : o.op = .call { callee := .builtin .append, args := #[d, s], argTypes := #[t, t] })
    {v x v' : Value} {w' : World} (hd : a.eval d = v) (hs : a.eval s = x) (hrun : ∀ ty, (Builtin.append_ #[t, t] ty #[v, x]).run Tryz.prog w = .ok v' w') (hK : K (a.put o.dst v') w') : o.wp Tryz.prog a w K Q := by
  unfold Oper.wp
  simp [execOp, ho, resolve, invoke, builtin, hd, hs, hrun, Result.andThen]
  exact hK
theorem clb_step2 (g : Nat → Nat) : vals .u8 32 (fun j => if j = 31 then g 31 % 64 + 64 else (fun j => if j = 0 then g 0 / 8 * 8 else g j) j) = vals .u8 32 (clb g) := clb_step g
/-- The cells of a row's second half. -/
theorem rds_half {w : World} {b : Nat} {t : TypeId} {g : Nat → Nat} (h : Blk w b (vals .u8 64 g) t) : T.Rds w (some ⟨b, 32, none⟩) (bl (fun j => g (32 + j))) := Or.inr ⟨_, rfl, h.lt, fun i x hx => by
  unfold bl at hx
  rw [List.getElem?_map] at hx
  by_cases hi : i < 32
  · rw [List.getElem?_range hi] at hx
    obtain rfl := Option.some.inj hx
    rw [Addr.add_mid, h.cell]
    exact vals_get _ _ _ _ (by omega)
  · rw [List.getElem?_eq_none (by simpa using hi)] at hx; cases hx⟩
theorem rsec_and (a : Act) (w : World) (g : Nat) (hg : g < 256) (h0 : a.eval (.tmp 20) = .int .u8 ((g : Nat) : Int)) : (execOp a.eval s17r7Op2).run Tryz.prog w = .ok (.value (.int .u8 ((g / 8 * 8 : Nat) : Int))) w := by
  unfold execOp s17r7Op2
  simp only [h0]
  have e0 : a.eval (.const (.int .u8 7)) = .int .u8 7 := rfl
  have e := u8_not_7 g hg
  go_simp
theorem rsec_low (a : Act) (w : World) (g : Nat) (hg : g < 256) (h0 : a.eval (.tmp 24) = .int .u8 ((g : Nat) : Int)) : (execOp a.eval s17r8Op2).run Tryz.prog w = .ok (.value (.int .u8 ((g % 128 : Nat) : Int))) w := by
  unfold execOp s17r8Op2
  simp only [h0]
  have e0 : a.eval (.const (.int .u8 128)) = .int .u8 128 := rfl
  have e := clr128 g hg
  go_simp
theorem rsec_or (a : Act) (w : World) (g : Nat) (hg : g < 256) (h0 : a.eval (.tmp 25) = .int .u8 ((g % 128 : Nat) : Int)) : (execOp a.eval s17r8Op3).run Tryz.prog w = .ok (.value (.int .u8 ((g % 64 + 64 : Nat) : Int))) w := by
  unfold execOp s17r8Op3
  simp only [h0]
  have e0 : a.eval (.const (.int .u8 64)) = .int .u8 64 := rfl
  have e : bits .or .u8 ((g : Int) % 128) 64 = (g : Int) % 64 + 64 := u8_or_64b g hg
  go_simp
theorem rsum_c {b : Nat} {f : Nat → Nat} {w : World} {t : TypeId} (hf : ∀ i, f i < 256) (h : Blk w b (vals .u8 32 f) t) : Ret 43 #[.slice (some ⟨b, 0, none⟩) 32 32] w (.agg (vals .u8 64 (T.dg (bl f)))) := T.rSum_at (some ⟨b, 0, none⟩) (bl f) 32 _ w (by rw [bl_len]) (rds_bl h) (by rw [bl_len]; exact Nat.le_refl _) (bl_lt f hf) (by rw [bl_len]; omega)
set_option maxHeartbeats 4000000 in
theorem rsecret_g (f g : Nat → Nat) (hf : ∀ i, f i < 256) (hg : Hid (T.dg (bl f) = g)) (hgl : ∀ i, g i < 256) (w : World) : Calls Tryz.prog 17 #[.agg (vals .u8 32 f)] w fun e w' => ∃ A c, e = .returned (.tuple #[.agg (vals .u8 32 (clb g)), .slice A 32 c]) ∧ 32 ≤ c ∧ T.Rds w' A (bl (fun j => g (32 + j))) ∧ Below w.heap.size w w' := by
  go_enter Tryz.func17, Tryz.ntmps17
  have hO := Own.start w
  go_upto_region 0 with (fail)
  refine s17r0_r hO (fit_by _) ?_
  intro n1 n2 w1 hO
  replace hO : Own w w1 [(n2, vals .u8 32 (fun _ => 0), 22), (n1, vals .u8 32 f, 22)] := hO
  go_upto_region 1 with (fail)
  refine s17r1_r hO 1 rfl (fun w' hL h1 => hg.out ▸ rsum_c hf h1) (fit_b6 _) ?_
  intro n4 w2 hO
  replace hO : Own w w2 [(n4, vals .u8 64 g, 24), (n2, vals .u8 32 (fun _ => 0), 22), (n1, vals .u8 32 f, 22)] := hO
  go_upto_region 2 with (fail)
  refine s17r2_r hO bd_by0 (fit_by _) ?_
  intro n5 w3 hO
  replace hO : Own w w3 [(n5, vals .u8 32 (fun _ => 0), 22), (n4, vals .u8 64 g, 24), (n2, vals .u8 32 (fun _ => 0), 22), (n1, vals .u8 32 f, 22)] := hO
  have hO2 : Own w w3 [(n5, vals .u8 32 (cutb g 0), 22), (n4, vals .u8 64 g, 24), (n2, vals .u8 32 (fun _ => 0), 22), (n1, vals .u8 32 f, 22)] := by rw [← cutb_zero 32 g]; exact hO
  clear hO
  go_wp2_with fail
  go_loopw [6] (fun i wr => ∃ k : Nat, k ≤ 32 ∧ i = .int .i64 k ∧ Own w wr [(n5, vals .u8 32 (cutb g k), 22), (n4, vals .u8 64 g, 24), (n2, vals .u8 32 (fun _ => 0), 22), (n1, vals .u8 32 f, 22)]) (fun i _ => (32 - intOf i).toNat)
  case atStart => exact ⟨0, by omega, rfl, hO2⟩
  case round =>
    clear hO2
    obtain ⟨k, hk, rfl, hO⟩ := hrel
    by_cases hlt : k < 32
    · have hlt' : (k : Int) < 32 := by omega
      have hkm : IntKind.i64.wrap ((k : Int) + 1) = (k : Int) + 1 := T.wrap_big _ (by omega) (by omega)
      go_upto_region 6 with (fail)
      refine s17r6_r hO 1 rfl 0 rfl (fun a w h1 h2 => idx28 rfl (by omega) h1 h2 w) (get_b6 _ k (by omega)) (fun a w h1 h2 => idx22 rfl hlt h1 h2 w) (get_by _ k (by omega)) (set_by _ _ _) (fit_by _) ?_
      intro w4 hO
      replace hO : Own w w4 [(n5, vals .u8 32 (fun j => if j = k then g k else (cutb g k) j), 22), (n4, vals .u8 64 g, 24), (n2, vals .u8 32 (fun _ => 0), 22), (n1, vals .u8 32 f, 22)] := hO
      rw [cutb_next 32 g k] at hO
      have HO9 := hide hO
      clear hO
      go_wp2_with fail
      go_roundw
      case rel => exact ⟨k + 1, by omega, by go_num, HO9.out⟩
      case measure => simp [intOf]; omega
    · have hk6 : k = 32 := by omega
      subst hk6
      rw [cutb_all] at hO
      go_upto_region 7 with (fail)
      refine s17r7_r hO 0 rfl (get_by _ 0 (by omega)) (fun a w h => rsec_and a w _ (hgl _) h) (set_by _ _ _) (fit_by _) ?_
      intro w5 hO
      replace hO : Own w w5 [(n5, vals .u8 32 (fun j => if j = 0 then g 0 / 8 * 8 else g j), 22), (n4, vals .u8 64 g, 24), (n2, vals .u8 32 (fun _ => 0), 22), (n1, vals .u8 32 f, 22)] := hO
      go_upto_region 8 with (fail)
      refine s17r8_r hO 0 rfl ((get_by _ 31 (by omega)).trans rfl) (fun a w h => rsec_low a w _ (hgl _) h) (fun a w h => rsec_or a w _ (hgl _) h) (set_by _ _ _) (fit_by _) ?_
      intro w6 hO
      replace hO : Own w w6 [(n5, vals .u8 32 (fun j => if j = 31 then g 31 % 64 + 64 else (fun j => if j = 0 then g 0 / 8 * 8 else g j) j), 22), (n4, vals .u8 64 g, 24), (n2, vals .u8 32 (fun _ => 0), 22), (n1, vals .u8 32 f, 22)] := hO
      rw [clb_step2 g] at hO
      go_upto_region 9 with (fail)
      refine wp_region_held_drew (S := fun w' => Blk w' n5 (vals .u8 32 (clb g)) 22) (ops := s17r9Ops) (by kernel_rfl) (hO.drew.row 0 rfl) (fun hS => ?_)
      replace hO := hO.drew
      generalize w6.drew = v2 at *
      refine d_tk 0 s17r9Op0 (.agg (vals .u8 32 (clb g))) ?_ (y_l 22 (fun _ h => h) (fit_by _) Tryz.underlying22) hS ?_
      · exact fun _ _ _ _ _ h => h
      refine d_tk 2 s17r9Op2 (.slice (some ⟨n4, 32, none⟩) 32 32) ?_ (y_val (fun _ => by kernel_rfl)) hS ?_
      · exact fun _ _ _ _ _ h => h
      refine d_fr (ls 6 5) (Fr [A (vals .u8 32 f), D n1, D n2, .slice none 0 0, D n4, D n5, .int .i64 ((32 : Nat) : Int), .slice (some ⟨n1, 0, none⟩) 32 32, A (vals .u8 64 g), A (vals .u8 32 (fun _ => 0)), .int .i64 ((32 : Nat) : Int), .bool false, u12, u13, u14, u15, u16, u17, u18, D n5, .int .u8 ((g 0 : Nat) : Int), .int .u8 ((g 0 / 8 * 8 : Nat) : Int), D n5, .pointer (some ⟨n5, 31, none⟩), .int .u8 ((g 31 : Nat) : Int), .int .u8 ((g 31 % 128 : Nat) : Int), .int .u8 ((g 31 % 64 + 64 : Nat) : Int), .pointer (some ⟨n5, 31, none⟩), A (vals .u8 32 (clb g)), undef, .slice (some ⟨n4, 32, none⟩) 32 32, undef] []) ?_
      refine d_one 1 s17r9Op1 (ls 6 7) (fun K hK => ?_)
      unfold Oper.wp
      rw [show (execOp _ s17r9Op1).run Tryz.prog v2 = .ok (.value (.slice (some ⟨v2.heap.size, 0, none⟩) 0 0)) (v2.alloc (.cells #[] 5)) from run_bsl 23 5 0 _ rfl #[] (by kernel_rfl) (by kernel_rfl), Oper.upon_value]
      have E0 := hide ((Below.refl v2.heap.size v2).alloc (Nat.le_refl _) (.cells #[] 5))
      have hO3 := hO.call E0.out
      refine hK _ _ (hO3.row 0 rfl) ?_
      clear hK K
      obtain ⟨A1, d1, v3, a1, o1, b1, s1⟩ := app_b (empty_own (Nat.le_refl v2.heap.size)) E0.out.size (some ⟨n4, 32, none⟩) (bl (fun j => g (32 + j))) 32 (rds_half (hO3.row 1 rfl)) (by simp [bl_len])
      have hO4 := hO.call (b1 v2 E0.out)
      rw [List.nil_append, bl_len] at a1 o1
      have N2 : n2 < v2.heap.size := (hO.row 2 rfl).lt
      have N5 : n2 ≠ n5 := by
        have h := hO.dist
        intro e
        rw [e] at h
        simp at h
      clear hO hO3 b1 s1 hS E0
      refine d_fr (ls 6 7) (Fr [A (vals .u8 32 f), D n1, D n2, .slice none 0 0, D n4, D n5, .int .i64 ((32 : Nat) : Int), .slice (some ⟨n1, 0, none⟩) 32 32, A (vals .u8 64 g), A (vals .u8 32 (fun _ => 0)), .int .i64 ((32 : Nat) : Int), .bool false, u12, u13, u14, u15, u16, u17, u18, D n5, .int .u8 ((g 0 : Nat) : Int), .int .u8 ((g 0 / 8 * 8 : Nat) : Int), D n5, .pointer (some ⟨n5, 31, none⟩), .int .u8 ((g 31 : Nat) : Int), .int .u8 ((g 31 % 128 : Nat) : Int), .int .u8 ((g 31 % 64 + 64 : Nat) : Int), .pointer (some ⟨n5, 31, none⟩), A (vals .u8 32 (clb g)), .slice (some ⟨v2.heap.size, 0, none⟩) 0 0, .slice (some ⟨n4, 32, none⟩) 32 32, undef] []) ?_
      refine d_one 3 s17r9Op3 (ls 6 15) (fun K hK => ?_)
      refine wp_app (.tmp 29) (.tmp 30) 23 rfl (by kernel_rfl) (by kernel_rfl) a1 ?_
      refine hK _ _ (hO4.row 0 rfl) ?_
      clear hK K a1
      refine d_one 4 s17r9Op4 (ls 6 31) (fun K hK => ?_)
      refine wp_store_row 22 (.tmp 2) (.tmp 28) rfl n2 (vals .u8 32 (clb g)) (by kernel_rfl) (by kernel_rfl) 22 _ (hO4.row 2 rfl) (fit_by _).size (by rw [vals_size, vals_size]) (vals_one _ _ _) ?_
      have o2 := own_below (cs := vals .u8 32 (clb g)) o1 N2
      have R2 := (hO4.row 2 rfl).row (vals .u8 32 (clb g))
      have R5 := (hO4.row 0 rfl).rowOther (b' := n2) (vals .u8 32 (clb g)) N5
      have L2 := Below.row hO4.low (hO4.new _ (List.mem_of_getElem? (show _ = some _ from (rfl : [(n5, vals .u8 32 (clb g), 22), (n4, vals .u8 64 g, 24), (n2, vals .u8 32 (fun _ => 0), 22), (n1, vals .u8 32 f, 22)][2]? = some (n2, vals .u8 32 (fun _ => 0), 22))))) (vals .u8 32 (clb g))
      clear o1 hO4
      generalize v3.setRow n2 (vals .u8 32 (clb g)) = v4 at *
      refine hK _ _ R5 ?_
      clear hK K
      refine d_tk 5 s17r9Op5 (.slice A1 32 d1) ?_ (y_val (fun _ => by kernel_rfl)) R5 ?_
      · exact fun _ _ _ _ _ h => h
      refine d_fr (ls 6 63) (Fr [A (vals .u8 32 f), D n1, D n2, .slice A1 32 d1, D n4, D n5, .int .i64 ((32 : Nat) : Int), .slice (some ⟨n1, 0, none⟩) 32 32, A (vals .u8 64 g), A (vals .u8 32 (fun _ => 0)), .int .i64 ((32 : Nat) : Int), .bool false, u12, u13, u14, u15, u16, u17, u18, D n5, .int .u8 ((g 0 : Nat) : Int), .int .u8 ((g 0 / 8 * 8 : Nat) : Int), D n5, .pointer (some ⟨n5, 31, none⟩), .int .u8 ((g 31 : Nat) : Int), .int .u8 ((g 31 % 128 : Nat) : Int), .int .u8 ((g 31 % 64 + 64 : Nat) : Int), .pointer (some ⟨n5, 31, none⟩), A (vals .u8 32 (clb g)), .slice (some ⟨v2.heap.size, 0, none⟩) 0 0, .slice (some ⟨n4, 32, none⟩) 32 32, .slice A1 32 d1] []) ?_
      refine wpAnyH_done (by kernel_rfl) ?_ _
      obtain ⟨A2, d2, e2, hd2, hr2, _⟩ := T.own_rds (l := bl (fun j => g (32 + j))) (by rw [show Value.slice A1 32 d1 = Value.slice A1 (bl (fun j => g (32 + j))).length d1 by rw [bl_len]] at o2; exact o2)
      rw [bl_len] at e2 hd2
      injection e2 with e3 _ e4
      subst e3 e4
      go_wp2_with fail
      exact bodyPost_ret (v := .tuple #[.agg (vals .u8 32 (clb g)), .slice A1 32 d1]) (results_and Tryz.results17 _ _ n2 22 _ (0, 0) _ _ rfl R2 Tryz.underlying22 rfl (fit_by _).size rfl) rfl ⟨_, _, rfl, hd2, hr2, L2⟩
theorem rsecret_c (f : Nat → Nat) (hf : ∀ i, f i < 256) (args : Array Value) (w : World) (h : args = #[.agg (vals .u8 32 f)]) : Calls Tryz.prog 17 args w fun e w' => ∃ A c, e = .returned (.tuple #[.agg (vals .u8 32 (sec f)), .slice A 32 c]) ∧ 32 ≤ c ∧ T.Rds w' A (bl (pre f)) ∧ Below w.heap.size w w' := by
  subst h; exact rsecret_g f _ hf (hide rfl) (T.dg_lt _) w
end Go.Proofs.YtbpmakegimgbpaaGreatDoor
namespace Go.Proofs.YtbpmakegimgbpaaGreatDoor
set_option maxRecDepth 100000
open F Go.RowKit
theorem bd_b60 : Tryz.prog.built 24 [] = some (vals .u8 64 (fun _ => 0)) := by kernel_rfl
theorem Own.trans {u w1 w2 : World} {L L' : List Row} (h : Own u w1 L) (h' : Own w1 w2 L') : Own u w2 (L' ++ L) := by
  refine ⟨h.low.trans (h'.low.mono h.low.size), fun r hr => ?_, fun r hr => ?_, fun r hr => ?_, ?_⟩
  · exact (List.mem_append.1 hr).elim (h'.blk r) (fun hr => (h.blk r hr).call h'.low)
  · exact (List.mem_append.1 hr).elim (fun hr => Nat.le_trans h.low.size (h'.new r hr)) (h.new r)
  · exact (List.mem_append.1 hr).elim (h'.fit r) (h.fit r)
  · rw [List.map_append]
    refine List.nodup_append.2 ⟨h'.dist, h.dist, fun a ha b hb => ?_⟩
    obtain ⟨x, hx, rfl⟩ := List.mem_map.1 ha
    obtain ⟨y, hy, rfl⟩ := List.mem_map.1 hb
    have h1 := h'.new x hx
    have h2 := (h.blk y hy).lt
    omega
section
variable {ops : Array Oper} {Q : Exit → Act → World → Prop} {rest : List Oper} {o : Oper} {a : Act} {u w : World} {L : List Row}
theorem l_sec {f s p : Nat → Nat} (hs : ∀ w, Calls Tryz.prog 17 #[.agg (vals .u8 32 f)] w fun e w' => ∃ A c, e = .returned (.tuple #[.agg (vals .u8 32 s), .slice A 32 c]) ∧ 32 ≤ c ∧ T.Rds w' A (bl p) ∧ Below w.heap.size w w') (hO : Own u w L) (hrun : (execOp a.eval o).run Tryz.prog w = .ok (.enter 17 #[.agg (vals .u8 32 f)]) w) (hg : Region.wanted o (yielded ops a.tmps) = true)
    (h : ∀ (A0 : Option Addr) (c : Nat) (w' : World), 32 ≤ c → T.Rds w' A0 (bl p) → Own u w' L → wpList Tryz.prog ops Q rest (a.put o.dst (.tuple #[.agg (vals .u8 32 s), .slice A0 32 c])) w') : wpList Tryz.prog ops Q (o :: rest) a w := by
  refine l_any hg fun K hK => ?_
  unfold Oper.wp
  rw [hrun, Oper.upon_enter]
  refine (hs w).mono fun e w' hh => ?_
  obtain ⟨A0, c, rfl, hc, hR, hb⟩ := hh
  exact hK _ _ (h A0 c w' hc hR (hO.call hb))
end
theorem rma_c (k r : Nat) (s : Nat → Nat) (hk : k < 2 ^ 256) (hr : r < 2 ^ 256) (hs : ∀ i, s i < 256) (w : World) : Ret 20 #[.agg (vals .u8 32 (byt k)), .agg (vals .u8 32 s), .agg (vals .u8 32 (byt r))] w (.agg (vals .u8 32 (byt ((k * nb s 32 + r) % S.qL)))) := by
  have h := S.rMulAdd_n (byt k) s (byt r) _ _ w rfl (byt_lt k) hs (byt_lt r) rfl
  rw [byt_n hk, byt_n hr] at h
  exact h
theorem rma_v (k r n : Nat) (s z : Nat → Nat) (hk : k < 2 ^ 256) (hr : r < 2 ^ 256) (hs : ∀ i, s i < 256) (hn : (k * nb s 32 + r) % S.qL = n) (hz : byt n = z) (w : World) : Ret 20 #[.agg (vals .u8 32 (byt k)), .agg (vals .u8 32 s), .agg (vals .u8 32 (byt r))] w (.agg (vals .u8 32 z)) := by
  subst hz hn
  exact rma_c k r s hk hr hs w
theorem dig_a {A A2 : Option Addr} {c c2 : Nat} {f : Nat → Nat} {m : List Nat} {r : Nat} {w : World} (hA : T.Rds w A (bl f)) (h2 : T.Rds w A2 m) (hf : ∀ i, f i < 256) (hm : ∀ x ∈ m, x < 256) (hl : m.length < 2 ^ 28) (hr : dgn (bl f ++ m) = r) : Ret 19 #[.slice A 32 c, .slice A2 m.length c2, .slice none 0 0] w (.agg (vals .u8 32 (byt r))) := by
  have h := digest_c A A2 none (bl f) m [] c c2 0 w hA h2 (Or.inl rfl) (bl_lt f hf) hm (fun x hx => by cases hx) (by rw [bl_len]; show 32 + m.length + 0 < _; omega)
  rw [List.append_nil, hr, bl_len] at h
  exact h
theorem dig_b {a b : Nat} {A2 : Option Addr} {c2 : Nat} {f g : Nat → Nat} {m : List Nat} {r : Nat} {w : World} {s t : TypeId} (hA : Blk w a (vals .u8 32 f) s) (hB : Blk w b (vals .u8 32 g) t) (h2 : T.Rds w A2 m) (hf : ∀ i, f i < 256) (hg : ∀ i, g i < 256) (hm : ∀ x ∈ m, x < 256) (hl : m.length < 2 ^ 28) (hr : dgn (bl f ++ bl g ++ m) = r) : Ret 19 #[.slice (some ⟨a, 0, none⟩) 32 32, .slice (some ⟨b, 0, none⟩) 32 32, .slice A2 m.length c2] w (.agg (vals .u8 32 (byt r))) := by
  have h := digest_c (some ⟨a, 0, none⟩) (some ⟨b, 0, none⟩) A2 (bl f) (bl g) m 32 32 c2 w (rds_bl hA) (rds_bl hB) h2 (bl_lt f hf) (bl_lt g hg) hm (by rw [bl_len, bl_len]; omega)
  rw [hr, bl_len, bl_len] at h
  exact h
theorem set_b6 (f : Nat → Nat) (i x : Nat) : (vals .u8 64 f).setIfInBounds i (.int .u8 (x : Int)) = vals .u8 64 (fun j => if j = i then x else f j) := vals_set _ _ _ _ _
/-- Two halves, as far as they are filled. -/
def cut2 (x z : Nat → Nat) (k j : Nat) : Nat := if j < k then x j else if 32 ≤ j ∧ j < 32 + k then z (j - 32) else 0
theorem cut2_zero (x z : Nat → Nat) : vals .u8 64 (fun _ => 0) = vals .u8 64 (cut2 x z 0) := vals_congr _ _ _ _ fun j _ => by
  unfold cut2; rw [if_neg (by omega), if_neg (by omega)]
theorem cut2_next (x z : Nat → Nat) (k : Nat) (hk : k < 32) : vals .u8 64 (fun j => if j = (32 + k) then z k else (fun j => if j = k then x k else cut2 x z k j) j) = vals .u8 64 (cut2 x z (k + 1)) := vals_congr _ _ _ _ fun j _ => by
  unfold cut2
  by_cases h1 : j = 32 + k
  · subst h1
    rw [if_pos rfl, if_neg (by omega), if_pos (by omega), Nat.add_sub_cancel_left]
  · rw [if_neg h1]
    by_cases h2 : j = k
    · subst h2
      simp
    · by_cases h3 : j < k
      · simp only [if_neg h2, if_pos h3]; rw [if_pos (by omega)]
      · simp only [if_neg h2, if_neg h3]
        rw [if_neg (by omega : ¬ j < k + 1)]
        by_cases h4 : 32 ≤ j ∧ j < 32 + k
        · rw [if_pos h4, if_pos (by omega)]
        · rw [if_neg h4, if_neg (by omega)]
theorem cut2_all (x z : Nat → Nat) : vals .u8 64 (cut2 x z 32) = vals .u8 64 (jn x z) := vals_congr _ _ _ _ fun j hj => by
  unfold cut2 jn
  by_cases h : j < 32
  · rw [if_pos h, if_pos h]
  · rw [if_neg h, if_neg h, if_pos (by omega)]
def s8r0Op0 : Oper := ⟨some 1, .box 22 (.tmp 0), 0, "ref.go:28", #[], none⟩
def s8r0Op1 : Oper := ⟨some 2, .alloc 22, 0, "ref.go:28", #[], none⟩
def s8r0Ops : Array Oper := #[s8r0Op0, s8r0Op1]
set_option maxHeartbeats 2000000 in
theorem s8r0_r {Q : Exit → Act → World → Prop} {u w : World} {L : List Row} {z1 z2 : Value} {zz : List Value} {e0 : Array Value} (hO : Own u w L) (fe0_22 : Fit 22 e0) (H : ∀ (n1 : Nat) (n2 : Nat) (w' : World), Own u w' ((n2, vals .u8 32 (fun _ => 0), 22) :: (n1, e0, 22) :: L) → Q .normal { tmps := List.toArray ((.agg e0) :: (.pointer (some ⟨n1, 0, none⟩)) :: (.pointer (some ⟨n2, 0, none⟩)) :: zz), defers := [] } w') :
    (Code.region 0 s8r0Ops false).wp Tryz.prog Q { tmps := List.toArray ((.agg e0) :: z1 :: z2 :: zz), defers := [] } w := by
  refine wp_region_list (show wpList _ s8r0Ops _ [s8r0Op0, s8r0Op1] _ _ from ?_)
  refine l_new hO (e0) 22 (run_box 22 _ rfl _ (by kernel_rfl)) fe0_22 ?_
  intro n1 w1 hO
  refine l_new hO (vals .u8 32 (fun _ => 0)) 22 (al22 rfl) (fit_by _) ?_
  intro n2 w2 hO
  exact l_fr _ (wpList_nil (H n1 n2 _ hO))
def s8r1Op0 : Oper := ⟨some 6, .load 22 (.tmp 1), 22, "ref.go:29", #[], none⟩
def s8r1Op1 : Oper := ⟨some 7, .call { callee := .value (.func 17), args := #[.tmp 6], argTypes := #[22] }, 40, "ref.go:29", #[⟨0, .data⟩], none⟩
def s8r1Op2 : Oper := ⟨some 5, .move (.tmp 7), 40, "ref.go:29", #[⟨1, .data⟩], none⟩
def s8r1Op3 : Oper := ⟨some 8, .extract (.tmp 5) 0, 22, "ref.go:29", #[⟨2, .data⟩], none⟩
def s8r1Op4 : Oper := ⟨some 9, .extract (.tmp 5) 1, 23, "ref.go:29", #[⟨2, .data⟩, ⟨6, .gcOnly .lateStores⟩], none⟩
def s8r1Op5 : Oper := ⟨some 3, .alloc 22, 0, "ref.go:29", #[], none⟩
def s8r1Op6 : Oper := ⟨none, .store 22 (.tmp 3) (.tmp 8), 0, "ref.go:29", #[⟨5, .data⟩, ⟨3, .data⟩, ⟨1, .chain⟩, ⟨0, .phase⟩, ⟨1, .phase⟩, ⟨2, .phase⟩, ⟨3, .phase⟩, ⟨4, .textOnly .lateStores⟩, ⟨5, .phase⟩], none⟩
def s8r1Op7 : Oper := ⟨some 4, .assign (.tmp 9), 23, "ref.go:29", #[⟨4, .data⟩, ⟨6, .chain⟩, ⟨0, .phase⟩, ⟨1, .phase⟩, ⟨2, .phase⟩, ⟨3, .phase⟩, ⟨4, .phase⟩, ⟨5, .phase⟩, ⟨6, .phase⟩], none⟩
def s8r1Ops : Array Oper := #[s8r1Op0, s8r1Op1, s8r1Op2, s8r1Op3, s8r1Op4, s8r1Op5, s8r1Op6, s8r1Op7]
theorem s8r1_r {Q : Exit → Act → World → Prop} {u w : World} {L : List Row} {z0 z2 z3 z4 z5 z6 z7 z8 z9 : Value} {zz : List Value} {b1 : Nat} {f s p : Nat → Nat} (hs : ∀ w, Calls Tryz.prog 17 #[.agg (vals .u8 32 f)] w fun e w' => ∃ A c, e = .returned (.tuple #[.agg (vals .u8 32 s), .slice A 32 c]) ∧ 32 ≤ c ∧ T.Rds w' A (bl p) ∧ Below w.heap.size w w') (hO : Own u w L) (i : Nat) (h : L[i]? = some (b1, vals .u8 32 f, 22)) (H : ∀ (A0 : Option Addr) (c n3 : Nat) (w1 w' : World), 32 ≤ c → T.Rds w1 A0 (bl p) → Own u w1 L → Own w1 w' [(n3, vals .u8 32 s, 22)] → Q .normal (Fr [z0, D b1, z2, D n3, .slice A0 32 c, .tuple #[A (vals .u8 32 s), .slice A0 32 c], A (vals .u8 32 f), .tuple #[A (vals .u8 32 s), .slice A0 32 c], A (vals .u8 32 s), .slice A0 32 c] zz) w') :
    (Code.region 1 s8r1Ops false).wp Tryz.prog Q (Fr [z0, D b1, z2, z3, z4, z5, z6, z7, z8, z9] zz) w := by
  refine wp_region_list (show wpList _ s8r1Ops _ [s8r1Op0, s8r1Op1, s8r1Op2, s8r1Op3, s8r1Op4, s8r1Op5, s8r1Op6, s8r1Op7] _ _ from ?_)
  refine l_ld hO 22 i h Tryz.underlying22 ?_
  refine l_sec hs hO (by kernel_rfl) (by kernel_rfl) ?_
  intro A0 c w1 hc hR hO
  have hO1 := Own.start w1
  refine l_val (.tuple #[A (vals .u8 32 s), .slice A0 32 c]) (by kernel_rfl) ?_
  refine l_fr (Fr [z0, D b1, z2, z3, z4, .tuple #[A (vals .u8 32 s), .slice A0 32 c], A (vals .u8 32 f), .tuple #[A (vals .u8 32 s), .slice A0 32 c], z8, z9] zz) ?_
  refine l_val (A (vals .u8 32 s)) (by kernel_rfl) ?_
  refine l_val (.slice A0 32 c) (by kernel_rfl) ?_
  refine l_new hO1 (vals .u8 32 (fun _ => 0)) 22 (al22 rfl) (fit_by _) ?_
  intro n3 w2 hO1
  refine l_fr (Fr [z0, D b1, z2, D n3, z4, .tuple #[A (vals .u8 32 s), .slice A0 32 c], A (vals .u8 32 f), .tuple #[A (vals .u8 32 s), .slice A0 32 c], A (vals .u8 32 s), .slice A0 32 c] zz) ?_
  refine l_st hO1 22 0 rfl (vals .u8 32 s) (fit_by _) ?_
  intro w3 hO1
  refine l_val (.slice A0 32 c) (by kernel_rfl) ?_
  exact l_fr _ (wpList_nil (H A0 c n3 w1 w3 hc hR hO hO1))
def s8r2Op0 : Oper := ⟨some 10, .load 22 (.tmp 3), 22, "ref.go:30", #[], none⟩
def s8r2Op1 : Oper := ⟨some 11, .call { callee := .value (.func 18), args := #[.tmp 10], argTypes := #[22] }, 22, "ref.go:30", #[⟨0, .data⟩], none⟩
def s8r2Op2 : Oper := ⟨none, .store 22 (.tmp 2) (.tmp 11), 0, "ref.go:30", #[⟨1, .data⟩, ⟨1, .chain⟩, ⟨0, .phase⟩, ⟨1, .phase⟩], none⟩
def s8r2Ops : Array Oper := #[s8r2Op0, s8r2Op1, s8r2Op2]
set_option maxHeartbeats 2000000 in
theorem s8r2_r {Q : Exit → Act → World → Prop} {u w : World} {L : List Row} {z0 z1 z4 z5 z6 z7 z8 z9 z10 z11 : Value} {b2 b3 : Nat} {c2 c3 : Array Value} {e11 : Array Value} (hO : Own u w L) (i2 : Nat) (h2 : L[i2]? = some (b2, c2, 22)) (i3 : Nat) (h3 : L[i3]? = some (b3, c3, 22)) (r11 : ∀ w, Ret 18 #[.agg c3] w (.agg e11)) (fe11_22 : Fit 22 e11) (H : ∀ (w' : World), Own u w' ((L.set i2 (b2, e11, 22))) → Q .normal { tmps := List.toArray (z0 :: z1 :: (.pointer (some ⟨b2, 0, none⟩)) :: (.pointer (some ⟨b3, 0, none⟩)) :: z4 :: z5 :: z6 :: z7 :: z8 :: z9 :: (.agg c3) :: (.agg e11) :: []), defers := [] } w') :
    (Code.region 2 s8r2Ops false).wp Tryz.prog Q { tmps := List.toArray (z0 :: z1 :: (.pointer (some ⟨b2, 0, none⟩)) :: (.pointer (some ⟨b3, 0, none⟩)) :: z4 :: z5 :: z6 :: z7 :: z8 :: z9 :: z10 :: z11 :: []), defers := [] } w := by
  refine wp_region_list (show wpList _ s8r2Ops _ [s8r2Op0, s8r2Op1, s8r2Op2] _ _ from ?_)
  refine l_ld hO 22 i3 h3 Tryz.underlying22 ?_
  refine l_call hO 18 #[.agg c3] (.agg e11) r11 ?_
  intro w1 hO
  refine l_st hO 22 i2 h2 e11 fe11_22 ?_
  intro w2 hO
  exact l_fr _ (wpList_nil (H  _ hO))
set_option maxHeartbeats 4000000 in
theorem rpublic_g (f s p t : Nat → Nat) (hs : ∀ w, Calls Tryz.prog 17 #[.agg (vals .u8 32 f)] w fun e w' => ∃ A c, e = .returned (.tuple #[.agg (vals .u8 32 s), .slice A 32 c]) ∧ 32 ≤ c ∧ T.Rds w' A (bl p) ∧ Below w.heap.size w w') (ht : ∀ w, Ret 18 #[.agg (vals .u8 32 s)] w (.agg (vals .u8 32 t))) (w : World) : Ret 8 #[.agg (vals .u8 32 f)] w (.agg (vals .u8 32 t)) := by
  go_enter Tryz.func8, Tryz.ntmps8
  have hO := Own.start w
  go_upto_region 0 with (fail)
  refine s8r0_r hO (fit_by _) ?_
  intro n1 n2 w1 hO
  replace hO : Own w w1 [(n2, vals .u8 32 (fun _ => 0), 22), (n1, vals .u8 32 f, 22)] := hO
  go_upto_region 1 with (fail)
  refine s8r1_r hs hO 1 rfl ?_
  intro A0 c n3 v1 w2 hc hR hO hO1
  clear hc hR
  replace hO := hO.trans hO1
  clear hO1
  replace hO : Own w w2 [(n3, vals .u8 32 s, 22), (n2, vals .u8 32 (fun _ => 0), 22), (n1, vals .u8 32 f, 22)] := hO
  go_upto_region 2 with (fail)
  refine s8r2_r hO 1 rfl 0 rfl ht (fit_by _) ?_
  intro w3 hO
  replace hO : Own w w3 [(n3, vals .u8 32 s, 22), (n2, vals .u8 32 t, 22), (n1, vals .u8 32 f, 22)] := hO
  go_wp2_with fail
  refine bodyPost_ret (v := .agg (vals .u8 32 t)) (results_cell_row Tryz.results8 _ _ n2 22 _ (0, 0) _ rfl (hO.row 1 rfl) Tryz.underlying22 rfl (fit_by _).size) rfl ⟨rfl, hO.low⟩
theorem rpublic_c (f : Nat → Nat) (hf : ∀ i, f i < 256) (w : World) : Ret 8 #[.agg (vals .u8 32 f)] w (.agg (vals .u8 32 (pub f))) := rpublic_g f (sec f) (pre f) (pub f) (fun w => rsecret_c f hf _ w rfl) (rtimes_c _ (sec_lt f)) w
def s9r0Op0 : Oper := ⟨some 2, .box 22 (.tmp 0), 0, "ref.go:39", #[], none⟩
def s9r0Op1 : Oper := ⟨some 4, .alloc 24, 0, "ref.go:39", #[], none⟩
def s9r0Ops : Array Oper := #[s9r0Op0, s9r0Op1]
set_option maxHeartbeats 2000000 in
theorem s9r0_r {Q : Exit → Act → World → Prop} {u w : World} {L : List Row} {z1 z2 z3 z4 : Value} {zz : List Value} {e0 : Array Value} (hO : Own u w L) (fe0_22 : Fit 22 e0) (H : ∀ (n2 : Nat) (n4 : Nat) (w' : World), Own u w' ((n4, vals .u8 64 (fun _ => 0), 24) :: (n2, e0, 22) :: L) → Q .normal { tmps := List.toArray ((.agg e0) :: z1 :: (.pointer (some ⟨n2, 0, none⟩)) :: z3 :: (.pointer (some ⟨n4, 0, none⟩)) :: zz), defers := [] } w') :
    (Code.region 0 s9r0Ops false).wp Tryz.prog Q { tmps := List.toArray ((.agg e0) :: z1 :: z2 :: z3 :: z4 :: zz), defers := [] } w := by
  refine wp_region_list (show wpList _ s9r0Ops _ [s9r0Op0, s9r0Op1] _ _ from ?_)
  refine l_new hO (e0) 22 (run_box 22 _ rfl _ (by kernel_rfl)) fe0_22 ?_
  intro n2 w1 hO
  refine l_new hO (vals .u8 64 (fun _ => 0)) 24 (alb6 rfl) (fit_b6 _) ?_
  intro n4 w2 hO
  exact l_fr _ (wpList_nil (H n2 n4 _ hO))
def s9r1Op0 : Oper := ⟨some 15, .load 22 (.tmp 2), 22, "ref.go:40", #[], none⟩
def s9r1Op1 : Oper := ⟨some 16, .call { callee := .value (.func 17), args := #[.tmp 15], argTypes := #[22] }, 40, "ref.go:40", #[⟨0, .data⟩], none⟩
def s9r1Op2 : Oper := ⟨some 14, .move (.tmp 16), 40, "ref.go:40", #[⟨1, .data⟩], none⟩
def s9r1Op3 : Oper := ⟨some 17, .extract (.tmp 14) 0, 22, "ref.go:40", #[⟨2, .data⟩], none⟩
def s9r1Op4 : Oper := ⟨some 18, .extract (.tmp 14) 1, 23, "ref.go:40", #[⟨2, .data⟩, ⟨6, .gcOnly .lateStores⟩], none⟩
def s9r1Op5 : Oper := ⟨some 5, .alloc 22, 0, "ref.go:40", #[], none⟩
def s9r1Op6 : Oper := ⟨none, .store 22 (.tmp 5) (.tmp 17), 0, "ref.go:40", #[⟨5, .data⟩, ⟨3, .data⟩, ⟨1, .chain⟩, ⟨0, .phase⟩, ⟨1, .phase⟩, ⟨2, .phase⟩, ⟨3, .phase⟩, ⟨4, .textOnly .lateStores⟩, ⟨5, .phase⟩], none⟩
def s9r1Op7 : Oper := ⟨some 6, .assign (.tmp 18), 23, "ref.go:40", #[⟨4, .data⟩, ⟨6, .chain⟩, ⟨0, .phase⟩, ⟨1, .phase⟩, ⟨2, .phase⟩, ⟨3, .phase⟩, ⟨4, .phase⟩, ⟨5, .phase⟩, ⟨6, .phase⟩], none⟩
def s9r1Ops : Array Oper := #[s9r1Op0, s9r1Op1, s9r1Op2, s9r1Op3, s9r1Op4, s9r1Op5, s9r1Op6, s9r1Op7]
theorem s9r1_r {Q : Exit → Act → World → Prop} {u w : World} {L : List Row} {z0 z1 z3 z4 z5 z6 z7 z8 z9 z10 z11 z12 z13 z14 z15 z16 z17 z18 : Value} {zz : List Value} {b2 : Nat} {f s p : Nat → Nat} (hs : ∀ w, Calls Tryz.prog 17 #[.agg (vals .u8 32 f)] w fun e w' => ∃ A c, e = .returned (.tuple #[.agg (vals .u8 32 s), .slice A 32 c]) ∧ 32 ≤ c ∧ T.Rds w' A (bl p) ∧ Below w.heap.size w w') (hO : Own u w L) (i : Nat) (h : L[i]? = some (b2, vals .u8 32 f, 22)) (H : ∀ (A0 : Option Addr) (c n5 : Nat) (w1 w' : World), 32 ≤ c → T.Rds w1 A0 (bl p) → Own u w1 L → Own w1 w' [(n5, vals .u8 32 s, 22)] → Q .normal (Fr [z0, z1, D b2, z3, z4, D n5, .slice A0 32 c, z7, z8, z9, z10, z11, z12, z13, .tuple #[A (vals .u8 32 s), .slice A0 32 c], A (vals .u8 32 f), .tuple #[A (vals .u8 32 s), .slice A0 32 c], A (vals .u8 32 s), .slice A0 32 c] zz) w') :
    (Code.region 1 s9r1Ops false).wp Tryz.prog Q (Fr [z0, z1, D b2, z3, z4, z5, z6, z7, z8, z9, z10, z11, z12, z13, z14, z15, z16, z17, z18] zz) w := by
  refine wp_region_list (show wpList _ s9r1Ops _ [s9r1Op0, s9r1Op1, s9r1Op2, s9r1Op3, s9r1Op4, s9r1Op5, s9r1Op6, s9r1Op7] _ _ from ?_)
  refine l_ld hO 22 i h Tryz.underlying22 ?_
  refine l_sec hs hO (by kernel_rfl) (by kernel_rfl) ?_
  intro A0 c w1 hc hR hO
  have hO1 := Own.start w1
  refine l_val (.tuple #[A (vals .u8 32 s), .slice A0 32 c]) (by kernel_rfl) ?_
  refine l_fr (Fr [z0, z1, D b2, z3, z4, z5, z6, z7, z8, z9, z10, z11, z12, z13, .tuple #[A (vals .u8 32 s), .slice A0 32 c], A (vals .u8 32 f), .tuple #[A (vals .u8 32 s), .slice A0 32 c], z17, z18] zz) ?_
  refine l_val (A (vals .u8 32 s)) (by kernel_rfl) ?_
  refine l_val (.slice A0 32 c) (by kernel_rfl) ?_
  refine l_new hO1 (vals .u8 32 (fun _ => 0)) 22 (al22 rfl) (fit_by _) ?_
  intro n5 w2 hO1
  refine l_fr (Fr [z0, z1, D b2, z3, z4, D n5, z6, z7, z8, z9, z10, z11, z12, z13, .tuple #[A (vals .u8 32 s), .slice A0 32 c], A (vals .u8 32 f), .tuple #[A (vals .u8 32 s), .slice A0 32 c], A (vals .u8 32 s), .slice A0 32 c] zz) ?_
  refine l_st hO1 22 0 rfl (vals .u8 32 s) (fit_by _) ?_
  intro w3 hO1
  refine l_val (.slice A0 32 c) (by kernel_rfl) ?_
  exact l_fr _ (wpList_nil (H A0 c n5 w1 w3 hc hR hO hO1))
def s9r2Op0 : Oper := ⟨some 19, .move (.tmp 6), 23, "ref.go:41", #[], none⟩
def s9r2Op1 : Oper := ⟨some 20, .move (.tmp 1), 23, "ref.go:41", #[], none⟩
def s9r2Op2 : Oper := ⟨some 21, .call { callee := .value (.func 19), args := #[.tmp 19, .tmp 20, .const (.slice none 0 0)], argTypes := #[23, 23, 23] }, 22, "ref.go:41", #[⟨0, .data⟩, ⟨1, .data⟩], none⟩
def s9r2Op3 : Oper := ⟨some 7, .alloc 22, 0, "ref.go:41", #[], none⟩
def s9r2Op4 : Oper := ⟨none, .store 22 (.tmp 7) (.tmp 21), 0, "ref.go:41", #[⟨3, .data⟩, ⟨2, .data⟩, ⟨2, .chain⟩, ⟨0, .phase⟩, ⟨1, .phase⟩, ⟨2, .phase⟩, ⟨3, .phase⟩], none⟩
def s9r2Ops : Array Oper := #[s9r2Op0, s9r2Op1, s9r2Op2, s9r2Op3, s9r2Op4]
set_option maxHeartbeats 2000000 in
theorem s9r2_r {Q : Exit → Act → World → Prop} {u w : World} {L : List Row} {z0 z2 z3 z4 z5 z7 z8 z9 z10 z11 z12 z13 z14 z15 z16 z17 z18 z19 z20 z21 : Value} {x6 x1 : Value} {zz : List Value} {e21 : Array Value} (hO : Own u w L) (r21 : ∀ (w : World), Below u.heap.size u w → Ret 19 #[x6, x1, .slice none 0 0] w (.agg e21)) (fe21_22 : Fit 22 e21) (H : ∀ (n7 : Nat) (w' : World), Own u w' ((n7, e21, 22) :: L) → Q .normal { tmps := List.toArray (z0 :: x1 :: z2 :: z3 :: z4 :: z5 :: x6 :: (.pointer (some ⟨n7, 0, none⟩)) :: z8 :: z9 :: z10 :: z11 :: z12 :: z13 :: z14 :: z15 :: z16 :: z17 :: z18 :: x6 :: x1 :: (.agg e21) :: zz), defers := [] } w') :
    (Code.region 2 s9r2Ops false).wp Tryz.prog Q { tmps := List.toArray (z0 :: x1 :: z2 :: z3 :: z4 :: z5 :: x6 :: z7 :: z8 :: z9 :: z10 :: z11 :: z12 :: z13 :: z14 :: z15 :: z16 :: z17 :: z18 :: z19 :: z20 :: z21 :: zz), defers := [] } w := by
  refine wp_region_list (show wpList _ s9r2Ops _ [s9r2Op0, s9r2Op1, s9r2Op2, s9r2Op3, s9r2Op4] _ _ from ?_)
  refine l_val (x6) (by kernel_rfl) ?_
  refine l_val (x1) (by kernel_rfl) ?_
  refine l_cw hO 19 #[x6, x1, .slice none 0 0] (.agg e21) (r21 _ hO.low) ?_
  intro w1 _ hO
  refine l_fr (Fr [z0, x1, z2, z3, z4, z5, x6, z7, z8, z9, z10, z11, z12, z13, z14, z15, z16, z17, z18, x6, x1, A e21] zz) ?_
  refine l_new hO (vals .u8 32 (fun _ => 0)) 22 (al22 rfl) (fit_by _) ?_
  intro n7 w2 hO
  refine l_st hO 22 0 rfl e21 fe21_22 ?_
  intro w3 hO
  exact l_fr _ (wpList_nil (H n7 _ hO))
def s9r3Op0 : Oper := ⟨some 22, .load 22 (.tmp 7), 22, "ref.go:42", #[], none⟩
def s9r3Op1 : Oper := ⟨some 23, .call { callee := .value (.func 18), args := #[.tmp 22], argTypes := #[22] }, 22, "ref.go:42", #[⟨0, .data⟩], none⟩
def s9r3Op2 : Oper := ⟨some 8, .alloc 22, 0, "ref.go:42", #[], none⟩
def s9r3Op3 : Oper := ⟨none, .store 22 (.tmp 8) (.tmp 23), 0, "ref.go:42", #[⟨2, .data⟩, ⟨1, .data⟩, ⟨1, .chain⟩, ⟨0, .phase⟩, ⟨1, .phase⟩, ⟨2, .phase⟩], none⟩
def s9r3Ops : Array Oper := #[s9r3Op0, s9r3Op1, s9r3Op2, s9r3Op3]
set_option maxHeartbeats 2000000 in
theorem s9r3_r {Q : Exit → Act → World → Prop} {u w : World} {L : List Row} {z0 z1 z2 z3 z4 z5 z6 z8 z9 z10 z11 z12 z13 z14 z15 z16 z17 z18 z19 z20 z21 z22 z23 : Value} {zz : List Value} {b7 : Nat} {c7 : Array Value} {e23 : Array Value} (hO : Own u w L) (i7 : Nat) (h7 : L[i7]? = some (b7, c7, 22)) (r23 : ∀ w, Ret 18 #[.agg c7] w (.agg e23)) (fe23_22 : Fit 22 e23) (H : ∀ (n8 : Nat) (w' : World), Own u w' ((n8, e23, 22) :: L) → Q .normal { tmps := List.toArray (z0 :: z1 :: z2 :: z3 :: z4 :: z5 :: z6 :: (.pointer (some ⟨b7, 0, none⟩)) :: (.pointer (some ⟨n8, 0, none⟩)) :: z9 :: z10 :: z11 :: z12 :: z13 :: z14 :: z15 :: z16 :: z17 :: z18 :: z19 :: z20 :: z21 :: (.agg c7) :: (.agg e23) :: zz), defers := [] } w') :
    (Code.region 3 s9r3Ops false).wp Tryz.prog Q { tmps := List.toArray (z0 :: z1 :: z2 :: z3 :: z4 :: z5 :: z6 :: (.pointer (some ⟨b7, 0, none⟩)) :: z8 :: z9 :: z10 :: z11 :: z12 :: z13 :: z14 :: z15 :: z16 :: z17 :: z18 :: z19 :: z20 :: z21 :: z22 :: z23 :: zz), defers := [] } w := by
  refine wp_region_list (show wpList _ s9r3Ops _ [s9r3Op0, s9r3Op1, s9r3Op2, s9r3Op3] _ _ from ?_)
  refine l_ld hO 22 i7 h7 Tryz.underlying22 ?_
  refine l_call hO 18 #[.agg c7] (.agg e23) r23 ?_
  intro w1 hO
  refine l_new hO (vals .u8 32 (fun _ => 0)) 22 (al22 rfl) (fit_by _) ?_
  intro n8 w2 hO
  refine l_fr (Fr [z0, z1, z2, z3, z4, z5, z6, D b7, D n8, z9, z10, z11, z12, z13, z14, z15, z16, z17, z18, z19, z20, z21, A c7, A e23] zz) ?_
  refine l_st hO 22 0 rfl e23 fe23_22 ?_
  intro w3 hO
  exact l_fr _ (wpList_nil (H n8 _ hO))
def s9r4Op0 : Oper := ⟨some 24, .load 22 (.tmp 5), 22, "ref.go:43", #[], none⟩
def s9r4Op1 : Oper := ⟨some 25, .call { callee := .value (.func 18), args := #[.tmp 24], argTypes := #[22] }, 22, "ref.go:43", #[⟨0, .data⟩], none⟩
def s9r4Op2 : Oper := ⟨some 9, .alloc 22, 0, "ref.go:43", #[], none⟩
def s9r4Op3 : Oper := ⟨none, .store 22 (.tmp 9) (.tmp 25), 0, "ref.go:43", #[⟨2, .data⟩, ⟨1, .data⟩, ⟨1, .chain⟩, ⟨0, .phase⟩, ⟨1, .phase⟩, ⟨2, .phase⟩], none⟩
def s9r4Ops : Array Oper := #[s9r4Op0, s9r4Op1, s9r4Op2, s9r4Op3]
set_option maxHeartbeats 2000000 in
theorem s9r4_r {Q : Exit → Act → World → Prop} {u w : World} {L : List Row} {z0 z1 z2 z3 z4 z6 z7 z8 z9 z10 z11 z12 z13 z14 z15 z16 z17 z18 z19 z20 z21 z22 z23 z24 z25 : Value} {zz : List Value} {b5 : Nat} {c5 : Array Value} {e25 : Array Value} (hO : Own u w L) (i5 : Nat) (h5 : L[i5]? = some (b5, c5, 22)) (r25 : ∀ w, Ret 18 #[.agg c5] w (.agg e25)) (fe25_22 : Fit 22 e25) (H : ∀ (n9 : Nat) (w' : World), Own u w' ((n9, e25, 22) :: L) → Q .normal { tmps := List.toArray (z0 :: z1 :: z2 :: z3 :: z4 :: (.pointer (some ⟨b5, 0, none⟩)) :: z6 :: z7 :: z8 :: (.pointer (some ⟨n9, 0, none⟩)) :: z10 :: z11 :: z12 :: z13 :: z14 :: z15 :: z16 :: z17 :: z18 :: z19 :: z20 :: z21 :: z22 :: z23 :: (.agg c5) :: (.agg e25) :: zz), defers := [] } w') :
    (Code.region 4 s9r4Ops false).wp Tryz.prog Q { tmps := List.toArray (z0 :: z1 :: z2 :: z3 :: z4 :: (.pointer (some ⟨b5, 0, none⟩)) :: z6 :: z7 :: z8 :: z9 :: z10 :: z11 :: z12 :: z13 :: z14 :: z15 :: z16 :: z17 :: z18 :: z19 :: z20 :: z21 :: z22 :: z23 :: z24 :: z25 :: zz), defers := [] } w := by
  refine wp_region_list (show wpList _ s9r4Ops _ [s9r4Op0, s9r4Op1, s9r4Op2, s9r4Op3] _ _ from ?_)
  refine l_ld hO 22 i5 h5 Tryz.underlying22 ?_
  refine l_call hO 18 #[.agg c5] (.agg e25) r25 ?_
  intro w1 hO
  refine l_new hO (vals .u8 32 (fun _ => 0)) 22 (al22 rfl) (fit_by _) ?_
  intro n9 w2 hO
  refine l_fr (Fr [z0, z1, z2, z3, z4, D b5, z6, z7, z8, D n9, z10, z11, z12, z13, z14, z15, z16, z17, z18, z19, z20, z21, z22, z23, A c5, A e25] zz) ?_
  refine l_st hO 22 0 rfl e25 fe25_22 ?_
  intro w3 hO
  exact l_fr _ (wpList_nil (H n9 _ hO))
def s9r5Op0 : Oper := ⟨some 26, .slice 22 (.tmp 8) none none none, 23, "ref.go:44", #[], none⟩
def s9r5Op1 : Oper := ⟨some 27, .slice 22 (.tmp 9) none none none, 23, "ref.go:44", #[], none⟩
def s9r5Op2 : Oper := ⟨some 28, .move (.tmp 1), 23, "ref.go:44", #[], none⟩
def s9r5Op3 : Oper := ⟨some 29, .call { callee := .value (.func 19), args := #[.tmp 26, .tmp 27, .tmp 28], argTypes := #[23, 23, 23] }, 22, "ref.go:44", #[⟨0, .data⟩, ⟨1, .data⟩, ⟨2, .data⟩], none⟩
def s9r5Op4 : Oper := ⟨some 10, .alloc 22, 0, "ref.go:44", #[], none⟩
def s9r5Op5 : Oper := ⟨none, .store 22 (.tmp 10) (.tmp 29), 0, "ref.go:44", #[⟨4, .data⟩, ⟨3, .data⟩, ⟨3, .chain⟩, ⟨0, .phase⟩, ⟨1, .phase⟩, ⟨2, .phase⟩, ⟨3, .phase⟩, ⟨4, .phase⟩], none⟩
def s9r5Ops : Array Oper := #[s9r5Op0, s9r5Op1, s9r5Op2, s9r5Op3, s9r5Op4, s9r5Op5]
set_option maxHeartbeats 2000000 in
theorem s9r5_r {Q : Exit → Act → World → Prop} {u w : World} {L : List Row} {z0 z2 z3 z4 z5 z6 z7 z10 z11 z12 z13 z14 z15 z16 z17 z18 z19 z20 z21 z22 z23 z24 z25 z26 z27 z28 z29 : Value} {x1 : Value} {zz : List Value} {b8 b9 : Nat} {c8 c9 : Array Value} {e29 : Array Value} (hQ : ∀ c a w n v, Q (.panic c) (a.put (some n) v) w → Q (.panic c) a w) (hO : Own u w L) (i8 : Nat) (h8 : L[i8]? = some (b8, c8, 22)) (i9 : Nat) (h9 : L[i9]? = some (b9, c9, 22)) (r29 : ∀ (w : World), Below u.heap.size u w → Blk w b8 c8 22 → Blk w b9 c9 22 → Ret 19 #[.slice (some ⟨b8, 0, none⟩) 32 32, .slice (some ⟨b9, 0, none⟩) 32 32, x1] w (.agg e29)) (fe29_22 : Fit 22 e29) (H : ∀ (n10 : Nat) (w' : World), Own u w' ((n10, e29, 22) :: L) → Q .normal { tmps := List.toArray (z0 :: x1 :: z2 :: z3 :: z4 :: z5 :: z6 :: z7 :: (.pointer (some ⟨b8, 0, none⟩)) :: (.pointer (some ⟨b9, 0, none⟩)) :: (.pointer (some ⟨n10, 0, none⟩)) :: z11 :: z12 :: z13 :: z14 :: z15 :: z16 :: z17 :: z18 :: z19 :: z20 :: z21 :: z22 :: z23 :: z24 :: z25 :: (.slice (some ⟨b8, 0, none⟩) 32 32) :: (.slice (some ⟨b9, 0, none⟩) 32 32) :: x1 :: (.agg e29) :: zz), defers := [] } w') :
    (Code.region 5 s9r5Ops true).wp Tryz.prog Q { tmps := List.toArray (z0 :: x1 :: z2 :: z3 :: z4 :: z5 :: z6 :: z7 :: (.pointer (some ⟨b8, 0, none⟩)) :: (.pointer (some ⟨b9, 0, none⟩)) :: z10 :: z11 :: z12 :: z13 :: z14 :: z15 :: z16 :: z17 :: z18 :: z19 :: z20 :: z21 :: z22 :: z23 :: z24 :: z25 :: z26 :: z27 :: z28 :: z29 :: zz), defers := [] } w := by
  have s0 : ∀ (n10 : Nat) (w : World), Own u w ((n10, vals .u8 32 (fun _ => 0), 22) :: L) → wpAnyH Tryz.prog .any s9r5Ops Q (Has [(b8, c8, 22), (b9, c9, 22)]) 1 (ls 6 31) (Fr [z0, x1, z2, z3, z4, z5, z6, z7, D b8, D b9, D n10, z11, z12, z13, z14, z15, z16, z17, z18, z19, z20, z21, z22, z23, z24, z25, .slice (some ⟨b8, 0, none⟩) 32 32, .slice (some ⟨b9, 0, none⟩) 32 32, x1, A e29] zz) w := by
    intro n10 w hO
    refine d_one 5 s9r5Op5 (ls 6 63) (fun K hK => ?_)
    refine k_st hK hO 22 0 rfl e29 fe29_22 (fun _ hO => ⟨hO.row _ (gs h8), hO.row _ (gs h9), trivial⟩) ?_
    intro w1 hO
    exact wpAnyH_done (by kernel_rfl) (H n10 _ hO) _
  refine wp_region_held_drew (S := Has [(b8, c8, 22), (b9, c9, 22)]) (by kernel_rfl) ⟨hO.drew.row _ h8, hO.drew.row _ h9, trivial⟩ (fun hS => ?_)
  replace hO := hO.drew
  refine d_tk 0 s9r5Op0 (.slice (some ⟨b8, 0, none⟩) 32 32) hQ (y_val (fun _ => by kernel_rfl)) hS ?_
  refine d_tk 1 s9r5Op1 (.slice (some ⟨b9, 0, none⟩) 32 32) hQ (y_val (fun _ => by kernel_rfl)) hS ?_
  refine d_tk 2 s9r5Op2 (x1) hQ (y_val (fun _ => by kernel_rfl)) hS ?_
  refine d_fr (ls 6 7) (Fr [z0, x1, z2, z3, z4, z5, z6, z7, D b8, D b9, z10, z11, z12, z13, z14, z15, z16, z17, z18, z19, z20, z21, z22, z23, z24, z25, .slice (some ⟨b8, 0, none⟩) 32 32, .slice (some ⟨b9, 0, none⟩) 32 32, x1, z29] zz) ?_
  refine wpAnyH_ready (rs := [3, 4]) (by kernel_rfl) (by simp) ?_
  refine d_cons 3 s9r5Op3 (ls 6 15) (fun K hK => ?_) ?_
  · skip
    refine kb_cw hK hO (fun _ hO => ⟨hO.row _ h8, hO.row _ h9, trivial⟩) 19 #[.slice (some ⟨b8, 0, none⟩) 32 32, .slice (some ⟨b9, 0, none⟩) 32 32, x1] (.agg e29) (r29 _ hO.low (hO.row (i8) h8) (hO.row (i9) h9)) ?_
    intro w2 hb hO
    clear hb
    refine d_one 4 s9r5Op4 (ls 6 31) (fun K hK => ?_)
    refine k_new hK hO (vals .u8 32 (fun _ => 0)) 22 (al22 rfl) (fit_by _) (fun _ _ hO => ⟨hO.row _ (gs h8), hO.row _ (gs h9), trivial⟩) ?_
    intro n10 w3 hO
    exact d_fr _ _ (s0 n10 _ hO)
  refine d_cons 4 s9r5Op4 (ls 6 23) (fun K hK => ?_) ?_
  · skip
    refine k_new hK hO (vals .u8 32 (fun _ => 0)) 22 (al22 rfl) (fit_by _) (fun _ _ hO => ⟨hO.row _ (gs h8), hO.row _ (gs h9), trivial⟩) ?_
    intro n10 w4 hO
    refine d_one 3 s9r5Op3 (ls 6 31) (fun K hK => ?_)
    refine kb_cw hK hO (fun _ hO => ⟨hO.row _ (gs h8), hO.row _ (gs h9), trivial⟩) 19 #[.slice (some ⟨b8, 0, none⟩) 32 32, .slice (some ⟨b9, 0, none⟩) 32 32, x1] (.agg e29) (r29 _ hO.low (hO.row ((i8 + 1)) (gs h8)) (hO.row ((i9 + 1)) (gs h9))) ?_
    intro w5 hb hO
    clear hb
    exact d_fr _ _ (s0 n10 _ hO)
  exact AllReadyH.nil
def s9r6Op0 : Oper := ⟨some 30, .load 22 (.tmp 10), 22, "ref.go:45", #[], none⟩
def s9r6Op1 : Oper := ⟨some 31, .load 22 (.tmp 5), 22, "ref.go:45", #[], none⟩
def s9r6Op2 : Oper := ⟨some 32, .load 22 (.tmp 7), 22, "ref.go:45", #[], none⟩
def s9r6Op3 : Oper := ⟨some 33, .call { callee := .value (.func 20), args := #[.tmp 30, .tmp 31, .tmp 32], argTypes := #[22, 22, 22] }, 22, "ref.go:45", #[⟨0, .data⟩, ⟨1, .data⟩, ⟨2, .data⟩], none⟩
def s9r6Op4 : Oper := ⟨some 11, .alloc 22, 0, "ref.go:45", #[], none⟩
def s9r6Op5 : Oper := ⟨none, .store 22 (.tmp 11) (.tmp 33), 0, "ref.go:45", #[⟨4, .data⟩, ⟨3, .data⟩, ⟨3, .chain⟩, ⟨0, .phase⟩, ⟨1, .phase⟩, ⟨2, .phase⟩, ⟨3, .phase⟩, ⟨4, .phase⟩], none⟩
def s9r6Ops : Array Oper := #[s9r6Op0, s9r6Op1, s9r6Op2, s9r6Op3, s9r6Op4, s9r6Op5]
set_option maxHeartbeats 2000000 in
theorem s9r6_r {Q : Exit → Act → World → Prop} {u w : World} {L : List Row} {z0 z1 z2 z3 z4 z6 z8 z9 z11 z12 z13 z14 z15 z16 z17 z18 z19 z20 z21 z22 z23 z24 z25 z26 z27 z28 z29 z30 z31 z32 z33 : Value} {zz : List Value} {b5 b7 b10 : Nat} {c5 c7 c10 : Array Value} {e33 : Array Value} (hO : Own u w L) (i5 : Nat) (h5 : L[i5]? = some (b5, c5, 22)) (i7 : Nat) (h7 : L[i7]? = some (b7, c7, 22)) (i10 : Nat) (h10 : L[i10]? = some (b10, c10, 22)) (r33 : ∀ w, Ret 20 #[.agg c10, .agg c5, .agg c7] w (.agg e33)) (fe33_22 : Fit 22 e33) (H : ∀ (n11 : Nat) (w' : World), Own u w' ((n11, e33, 22) :: L) → Q .normal { tmps := List.toArray (z0 :: z1 :: z2 :: z3 :: z4 :: (.pointer (some ⟨b5, 0, none⟩)) :: z6 :: (.pointer (some ⟨b7, 0, none⟩)) :: z8 :: z9 :: (.pointer (some ⟨b10, 0, none⟩)) :: (.pointer (some ⟨n11, 0, none⟩)) :: z12 :: z13 :: z14 :: z15 :: z16 :: z17 :: z18 :: z19 :: z20 :: z21 :: z22 :: z23 :: z24 :: z25 :: z26 :: z27 :: z28 :: z29 :: (.agg c10) :: (.agg c5) :: (.agg c7) :: (.agg e33) :: zz), defers := [] } w') :
    (Code.region 6 s9r6Ops false).wp Tryz.prog Q { tmps := List.toArray (z0 :: z1 :: z2 :: z3 :: z4 :: (.pointer (some ⟨b5, 0, none⟩)) :: z6 :: (.pointer (some ⟨b7, 0, none⟩)) :: z8 :: z9 :: (.pointer (some ⟨b10, 0, none⟩)) :: z11 :: z12 :: z13 :: z14 :: z15 :: z16 :: z17 :: z18 :: z19 :: z20 :: z21 :: z22 :: z23 :: z24 :: z25 :: z26 :: z27 :: z28 :: z29 :: z30 :: z31 :: z32 :: z33 :: zz), defers := [] } w := by
  refine wp_region_list (show wpList _ s9r6Ops _ [s9r6Op0, s9r6Op1, s9r6Op2, s9r6Op3, s9r6Op4, s9r6Op5] _ _ from ?_)
  refine l_ld hO 22 i10 h10 Tryz.underlying22 ?_
  refine l_ld hO 22 i5 h5 Tryz.underlying22 ?_
  refine l_ld hO 22 i7 h7 Tryz.underlying22 ?_
  refine l_fr (Fr [z0, z1, z2, z3, z4, D b5, z6, D b7, z8, z9, D b10, z11, z12, z13, z14, z15, z16, z17, z18, z19, z20, z21, z22, z23, z24, z25, z26, z27, z28, z29, A c10, A c5, A c7, z33] zz) ?_
  refine l_call hO 20 #[.agg c10, .agg c5, .agg c7] (.agg e33) r33 ?_
  intro w1 hO
  refine l_new hO (vals .u8 32 (fun _ => 0)) 22 (al22 rfl) (fit_by _) ?_
  intro n11 w2 hO
  refine l_st hO 22 0 rfl e33 fe33_22 ?_
  intro w3 hO
  exact l_fr _ (wpList_nil (H n11 _ hO))
def s9r7Op0 : Oper := ⟨some 34, .build 24 #[], 24, "ref.go:46", #[], none⟩
def s9r7Op1 : Oper := ⟨some 12, .alloc 24, 0, "ref.go:46", #[], none⟩
def s9r7Op2 : Oper := ⟨none, .store 24 (.tmp 12) (.tmp 34), 0, "ref.go:46", #[⟨1, .data⟩, ⟨0, .data⟩, ⟨0, .phase⟩, ⟨1, .phase⟩], none⟩
def s9r7Ops : Array Oper := #[s9r7Op0, s9r7Op1, s9r7Op2]
set_option maxHeartbeats 2000000 in
theorem s9r7_r {Q : Exit → Act → World → Prop} {u w : World} {L : List Row} {z0 z1 z2 z3 z4 z5 z6 z7 z8 z9 z10 z11 z12 z13 z14 z15 z16 z17 z18 z19 z20 z21 z22 z23 z24 z25 z26 z27 z28 z29 z30 z31 z32 z33 z34 : Value} {zz : List Value} {e34 : Array Value} (hO : Own u w L) (q34 : Tryz.prog.built 24 [] = some e34) (fe34_24 : Fit 24 e34) (H : ∀ (n12 : Nat) (w' : World), Own u w' ((n12, e34, 24) :: L) → Q .normal { tmps := List.toArray (z0 :: z1 :: z2 :: z3 :: z4 :: z5 :: z6 :: z7 :: z8 :: z9 :: z10 :: z11 :: (.pointer (some ⟨n12, 0, none⟩)) :: z13 :: z14 :: z15 :: z16 :: z17 :: z18 :: z19 :: z20 :: z21 :: z22 :: z23 :: z24 :: z25 :: z26 :: z27 :: z28 :: z29 :: z30 :: z31 :: z32 :: z33 :: (.agg e34) :: zz), defers := [] } w') :
    (Code.region 7 s9r7Ops false).wp Tryz.prog Q { tmps := List.toArray (z0 :: z1 :: z2 :: z3 :: z4 :: z5 :: z6 :: z7 :: z8 :: z9 :: z10 :: z11 :: z12 :: z13 :: z14 :: z15 :: z16 :: z17 :: z18 :: z19 :: z20 :: z21 :: z22 :: z23 :: z24 :: z25 :: z26 :: z27 :: z28 :: z29 :: z30 :: z31 :: z32 :: z33 :: z34 :: zz), defers := [] } w := by
  refine wp_region_list (show wpList _ s9r7Ops _ [s9r7Op0, s9r7Op1, s9r7Op2] _ _ from ?_)
  refine l_val (.agg e34) (run_bd 24 _ rfl [] (by kernel_rfl) e34 q34 _) ?_
  refine l_new hO (vals .u8 64 (fun _ => 0)) 24 (alb6 rfl) (fit_b6 _) ?_
  intro n12 w1 hO
  refine l_st hO 24 0 rfl e34 fe34_24 ?_
  intro w2 hO
  exact l_fr _ (wpList_nil (H n12 _ hO))
def s9r11Op0 : Oper := ⟨some 39, .move (.tmp 13), 3, "ref.go:48", #[], none⟩
def s9r11Op1 : Oper := ⟨some 40, .move (.tmp 13), 3, "ref.go:48", #[], none⟩
def s9r11Op2 : Oper := ⟨some 41, .indexAddr 22 (.tmp 8) (.tmp 40), 0, "ref.go:48", #[⟨1, .data⟩], none⟩
def s9r11Op3 : Oper := ⟨some 42, .load 5 (.tmp 41), 5, "ref.go:48", #[⟨2, .data⟩], none⟩
def s9r11Op4 : Oper := ⟨some 43, .indexAddr 24 (.tmp 12) (.tmp 39), 0, "ref.go:48", #[⟨0, .data⟩, ⟨0, .phase⟩, ⟨1, .phase⟩, ⟨2, .phase⟩, ⟨3, .phase⟩], none⟩
def s9r11Op5 : Oper := ⟨none, .store 5 (.tmp 43) (.tmp 42), 0, "ref.go:48", #[⟨4, .data⟩, ⟨3, .data⟩, ⟨0, .phase⟩, ⟨1, .phase⟩, ⟨2, .phase⟩, ⟨3, .phase⟩], none⟩
def s9r11Ops : Array Oper := #[s9r11Op0, s9r11Op1, s9r11Op2, s9r11Op3, s9r11Op4, s9r11Op5]
set_option maxHeartbeats 2000000 in
theorem s9r11_r {Q : Exit → Act → World → Prop} {u w : World} {L : List Row} {z0 z1 z2 z3 z4 z5 z6 z7 z9 z10 z11 z14 z15 z16 z17 z18 z19 z20 z21 z22 z23 z24 z25 z26 z27 z28 z29 z30 z31 z32 z33 z34 z35 z36 z37 z38 z39 z40 z41 z42 z43 : Value} {zz : List Value} {b8 b12 : Nat} {c8 c12 : Array Value} {e905 : Array Value} {k j41 g42 j43 g905 : Nat} (hO : Own u w L) (i8 : Nat) (h8 : L[i8]? = some (b8, c8, 22)) (i12 : Nat) (h12 : L[i12]? = some (b12, c12, 24)) (k41 : ∀ (a : Act) (w : World), a.eval (.tmp 40) = .int .i64 ((k : Nat) : Int) → a.eval (.tmp 8) = .pointer (some ⟨b8, 0, none⟩) → (execOp a.eval s9r11Op2).run Tryz.prog w = .ok (.value (.pointer (some ⟨b8, j41, none⟩))) w) (v42 : c8[j41]? = some (.int .u8 ((g42 : Nat) : Int))) (k43 : ∀ (a : Act) (w : World), a.eval (.tmp 39) = .int .i64 ((k : Nat) : Int) → a.eval (.tmp 12) = .pointer (some ⟨b12, 0, none⟩) → (execOp a.eval s9r11Op4).run Tryz.prog w = .ok (.value (.pointer (some ⟨b12, j43, none⟩))) w) (v905 : c12[j43]? = some (.int .u8 ((g905 : Nat) : Int))) (s5 : c12.setIfInBounds j43 (.int .u8 ((g42 : Nat) : Int)) = e905) (fe905_24 : Fit 24 e905) (H : ∀ (w' : World), Own u w' ((L.set i12 (b12, e905, 24))) → Q .normal { tmps := List.toArray (z0 :: z1 :: z2 :: z3 :: z4 :: z5 :: z6 :: z7 :: (.pointer (some ⟨b8, 0, none⟩)) :: z9 :: z10 :: z11 :: (.pointer (some ⟨b12, 0, none⟩)) :: (.int .i64 ((k : Nat) : Int)) :: z14 :: z15 :: z16 :: z17 :: z18 :: z19 :: z20 :: z21 :: z22 :: z23 :: z24 :: z25 :: z26 :: z27 :: z28 :: z29 :: z30 :: z31 :: z32 :: z33 :: z34 :: z35 :: z36 :: z37 :: z38 :: (.int .i64 ((k : Nat) : Int)) :: (.int .i64 ((k : Nat) : Int)) :: (.pointer (some ⟨b8, j41, none⟩)) :: (.int .u8 ((g42 : Nat) : Int)) :: (.pointer (some ⟨b12, j43, none⟩)) :: zz), defers := [] } w') :
    (Code.region 11 s9r11Ops false).wp Tryz.prog Q { tmps := List.toArray (z0 :: z1 :: z2 :: z3 :: z4 :: z5 :: z6 :: z7 :: (.pointer (some ⟨b8, 0, none⟩)) :: z9 :: z10 :: z11 :: (.pointer (some ⟨b12, 0, none⟩)) :: (.int .i64 ((k : Nat) : Int)) :: z14 :: z15 :: z16 :: z17 :: z18 :: z19 :: z20 :: z21 :: z22 :: z23 :: z24 :: z25 :: z26 :: z27 :: z28 :: z29 :: z30 :: z31 :: z32 :: z33 :: z34 :: z35 :: z36 :: z37 :: z38 :: z39 :: z40 :: z41 :: z42 :: z43 :: zz), defers := [] } w := by
  refine wp_region_list (show wpList _ s9r11Ops _ [s9r11Op0, s9r11Op1, s9r11Op2, s9r11Op3, s9r11Op4, s9r11Op5] _ _ from ?_)
  refine l_val (.int .i64 ((k : Nat) : Int)) (by kernel_rfl) ?_
  refine l_val (.int .i64 ((k : Nat) : Int)) (by kernel_rfl) ?_
  refine l_val (.pointer (some ⟨b8, j41, none⟩)) (k41 _ _ (by kernel_rfl) (by kernel_rfl)) ?_
  refine l_fr (Fr [z0, z1, z2, z3, z4, z5, z6, z7, D b8, z9, z10, z11, D b12, .int .i64 ((k : Nat) : Int), z14, z15, z16, z17, z18, z19, z20, z21, z22, z23, z24, z25, z26, z27, z28, z29, z30, z31, z32, z33, z34, z35, z36, z37, z38, .int .i64 ((k : Nat) : Int), .int .i64 ((k : Nat) : Int), .pointer (some ⟨b8, j41, none⟩), z42, z43] zz) ?_
  refine l_c8 hO i8 h8 v42 ?_
  refine l_val (.pointer (some ⟨b12, j43, none⟩)) (k43 _ _ (by kernel_rfl) (by kernel_rfl)) ?_
  refine l_stc hO i12 h12 g42 v905 s5 fe905_24 ?_
  intro w1 hO
  exact l_fr _ (wpList_nil (H  _ hO))
def s9r12Op0 : Oper := ⟨some 44, .move (.tmp 13), 3, "ref.go:49", #[], none⟩
def s9r12Op1 : Oper := ⟨some 45, .binOp .add 3 (.const (.int .i64 32)) (.tmp 44) 3, 3, "ref.go:49", #[⟨0, .data⟩], none⟩
def s9r12Op2 : Oper := ⟨some 46, .move (.tmp 13), 3, "ref.go:49", #[], none⟩
def s9r12Op3 : Oper := ⟨some 47, .indexAddr 22 (.tmp 11) (.tmp 46), 0, "ref.go:49", #[⟨2, .data⟩], none⟩
def s9r12Op4 : Oper := ⟨some 48, .load 5 (.tmp 47), 5, "ref.go:49", #[⟨3, .data⟩], none⟩
def s9r12Op5 : Oper := ⟨some 49, .indexAddr 24 (.tmp 12) (.tmp 45), 0, "ref.go:49", #[⟨1, .data⟩, ⟨0, .phase⟩, ⟨1, .phase⟩, ⟨2, .phase⟩, ⟨3, .phase⟩, ⟨4, .phase⟩], none⟩
def s9r12Op6 : Oper := ⟨none, .store 5 (.tmp 49) (.tmp 48), 0, "ref.go:49", #[⟨5, .data⟩, ⟨4, .data⟩, ⟨0, .phase⟩, ⟨1, .phase⟩, ⟨2, .phase⟩, ⟨3, .phase⟩, ⟨4, .phase⟩], none⟩
def s9r12Ops : Array Oper := #[s9r12Op0, s9r12Op1, s9r12Op2, s9r12Op3, s9r12Op4, s9r12Op5, s9r12Op6]
set_option maxHeartbeats 2000000 in
theorem s9r12_r {Q : Exit → Act → World → Prop} {u w : World} {L : List Row} {z0 z1 z2 z3 z4 z5 z6 z7 z8 z9 z10 z14 z15 z16 z17 z18 z19 z20 z21 z22 z23 z24 z25 z26 z27 z28 z29 z30 z31 z32 z33 z34 z35 z36 z37 z38 z39 z40 z41 z42 z43 z44 z45 z46 z47 z48 z49 : Value} {zz : List Value} {b11 b12 : Nat} {c11 c12 : Array Value} {e906 : Array Value} {k g45 j47 g48 j49 g906 : Nat} (hO : Own u w L) (i11 : Nat) (h11 : L[i11]? = some (b11, c11, 22)) (i12 : Nat) (h12 : L[i12]? = some (b12, c12, 24)) (k45 : ∀ (a : Act) (w : World), a.eval (.tmp 44) = .int .i64 ((k : Nat) : Int) → (execOp a.eval s9r12Op1).run Tryz.prog w = .ok (.value (.int .i64 ((g45 : Nat) : Int))) w) (k47 : ∀ (a : Act) (w : World), a.eval (.tmp 46) = .int .i64 ((k : Nat) : Int) → a.eval (.tmp 11) = .pointer (some ⟨b11, 0, none⟩) → (execOp a.eval s9r12Op3).run Tryz.prog w = .ok (.value (.pointer (some ⟨b11, j47, none⟩))) w) (v48 : c11[j47]? = some (.int .u8 ((g48 : Nat) : Int))) (k49 : ∀ (a : Act) (w : World), a.eval (.tmp 45) = .int .i64 ((g45 : Nat) : Int) → a.eval (.tmp 12) = .pointer (some ⟨b12, 0, none⟩) → (execOp a.eval s9r12Op5).run Tryz.prog w = .ok (.value (.pointer (some ⟨b12, j49, none⟩))) w) (v906 : c12[j49]? = some (.int .u8 ((g906 : Nat) : Int))) (s6 : c12.setIfInBounds j49 (.int .u8 ((g48 : Nat) : Int)) = e906) (fe906_24 : Fit 24 e906) (H : ∀ (w' : World), Own u w' ((L.set i12 (b12, e906, 24))) → Q .normal { tmps := List.toArray (z0 :: z1 :: z2 :: z3 :: z4 :: z5 :: z6 :: z7 :: z8 :: z9 :: z10 :: (.pointer (some ⟨b11, 0, none⟩)) :: (.pointer (some ⟨b12, 0, none⟩)) :: (.int .i64 ((k : Nat) : Int)) :: z14 :: z15 :: z16 :: z17 :: z18 :: z19 :: z20 :: z21 :: z22 :: z23 :: z24 :: z25 :: z26 :: z27 :: z28 :: z29 :: z30 :: z31 :: z32 :: z33 :: z34 :: z35 :: z36 :: z37 :: z38 :: z39 :: z40 :: z41 :: z42 :: z43 :: (.int .i64 ((k : Nat) : Int)) :: (.int .i64 ((g45 : Nat) : Int)) :: (.int .i64 ((k : Nat) : Int)) :: (.pointer (some ⟨b11, j47, none⟩)) :: (.int .u8 ((g48 : Nat) : Int)) :: (.pointer (some ⟨b12, j49, none⟩)) :: zz), defers := [] } w') :
    (Code.region 12 s9r12Ops false).wp Tryz.prog Q { tmps := List.toArray (z0 :: z1 :: z2 :: z3 :: z4 :: z5 :: z6 :: z7 :: z8 :: z9 :: z10 :: (.pointer (some ⟨b11, 0, none⟩)) :: (.pointer (some ⟨b12, 0, none⟩)) :: (.int .i64 ((k : Nat) : Int)) :: z14 :: z15 :: z16 :: z17 :: z18 :: z19 :: z20 :: z21 :: z22 :: z23 :: z24 :: z25 :: z26 :: z27 :: z28 :: z29 :: z30 :: z31 :: z32 :: z33 :: z34 :: z35 :: z36 :: z37 :: z38 :: z39 :: z40 :: z41 :: z42 :: z43 :: z44 :: z45 :: z46 :: z47 :: z48 :: z49 :: zz), defers := [] } w := by
  refine wp_region_list (show wpList _ s9r12Ops _ [s9r12Op0, s9r12Op1, s9r12Op2, s9r12Op3, s9r12Op4, s9r12Op5, s9r12Op6] _ _ from ?_)
  refine l_val (.int .i64 ((k : Nat) : Int)) (by kernel_rfl) ?_
  refine l_val (.int .i64 ((g45 : Nat) : Int)) (k45 _ _ (by kernel_rfl)) ?_
  refine l_val (.int .i64 ((k : Nat) : Int)) (by kernel_rfl) ?_
  refine l_fr (Fr [z0, z1, z2, z3, z4, z5, z6, z7, z8, z9, z10, D b11, D b12, .int .i64 ((k : Nat) : Int), z14, z15, z16, z17, z18, z19, z20, z21, z22, z23, z24, z25, z26, z27, z28, z29, z30, z31, z32, z33, z34, z35, z36, z37, z38, z39, z40, z41, z42, z43, .int .i64 ((k : Nat) : Int), .int .i64 ((g45 : Nat) : Int), .int .i64 ((k : Nat) : Int), z47, z48, z49] zz) ?_
  refine l_val (.pointer (some ⟨b11, j47, none⟩)) (k47 _ _ (by kernel_rfl) (by kernel_rfl)) ?_
  refine l_c8 hO i11 h11 v48 ?_
  refine l_val (.pointer (some ⟨b12, j49, none⟩)) (k49 _ _ (by kernel_rfl) (by kernel_rfl)) ?_
  refine l_fr (Fr [z0, z1, z2, z3, z4, z5, z6, z7, z8, z9, z10, D b11, D b12, .int .i64 ((k : Nat) : Int), z14, z15, z16, z17, z18, z19, z20, z21, z22, z23, z24, z25, z26, z27, z28, z29, z30, z31, z32, z33, z34, z35, z36, z37, z38, z39, z40, z41, z42, z43, .int .i64 ((k : Nat) : Int), .int .i64 ((g45 : Nat) : Int), .int .i64 ((k : Nat) : Int), .pointer (some ⟨b11, j47, none⟩), .int .u8 ((g48 : Nat) : Int), .pointer (some ⟨b12, j49, none⟩)] zz) ?_
  refine l_stc hO i12 h12 g48 v906 s6 fe906_24 ?_
  intro w1 hO
  exact l_fr _ (wpList_nil (H  _ hO))
def s9r13Op0 : Oper := ⟨some 50, .load 24 (.tmp 12), 24, "ref.go:51", #[], none⟩
def s9r13Op1 : Oper := ⟨none, .store 24 (.tmp 4) (.tmp 50), 0, "ref.go:51", #[⟨0, .data⟩, ⟨0, .phase⟩], none⟩
def s9r13Ops : Array Oper := #[s9r13Op0, s9r13Op1]
set_option maxHeartbeats 2000000 in
theorem s9r13_r {Q : Exit → Act → World → Prop} {u w : World} {L : List Row} {z0 z1 z2 z3 z5 z6 z7 z8 z9 z10 z11 z13 z14 z15 z16 z17 z18 z19 z20 z21 z22 z23 z24 z25 z26 z27 z28 z29 z30 z31 z32 z33 z34 z35 z36 z37 z38 z39 z40 z41 z42 z43 z44 z45 z46 z47 z48 z49 z50 : Value} {b4 b12 : Nat} {c4 c12 : Array Value} (hO : Own u w L) (i4 : Nat) (h4 : L[i4]? = some (b4, c4, 24)) (i12 : Nat) (h12 : L[i12]? = some (b12, c12, 24)) (H : ∀ (w' : World), Own u w' ((L.set i4 (b4, c12, 24))) → Q .normal { tmps := List.toArray (z0 :: z1 :: z2 :: z3 :: (.pointer (some ⟨b4, 0, none⟩)) :: z5 :: z6 :: z7 :: z8 :: z9 :: z10 :: z11 :: (.pointer (some ⟨b12, 0, none⟩)) :: z13 :: z14 :: z15 :: z16 :: z17 :: z18 :: z19 :: z20 :: z21 :: z22 :: z23 :: z24 :: z25 :: z26 :: z27 :: z28 :: z29 :: z30 :: z31 :: z32 :: z33 :: z34 :: z35 :: z36 :: z37 :: z38 :: z39 :: z40 :: z41 :: z42 :: z43 :: z44 :: z45 :: z46 :: z47 :: z48 :: z49 :: (.agg c12) :: []), defers := [] } w') :
    (Code.region 13 s9r13Ops false).wp Tryz.prog Q { tmps := List.toArray (z0 :: z1 :: z2 :: z3 :: (.pointer (some ⟨b4, 0, none⟩)) :: z5 :: z6 :: z7 :: z8 :: z9 :: z10 :: z11 :: (.pointer (some ⟨b12, 0, none⟩)) :: z13 :: z14 :: z15 :: z16 :: z17 :: z18 :: z19 :: z20 :: z21 :: z22 :: z23 :: z24 :: z25 :: z26 :: z27 :: z28 :: z29 :: z30 :: z31 :: z32 :: z33 :: z34 :: z35 :: z36 :: z37 :: z38 :: z39 :: z40 :: z41 :: z42 :: z43 :: z44 :: z45 :: z46 :: z47 :: z48 :: z49 :: z50 :: []), defers := [] } w := by
  refine wp_region_list (show wpList _ s9r13Ops _ [s9r13Op0, s9r13Op1] _ _ from ?_)
  have fc12_24 := hO.fits i12 h12
  refine l_ld hO 24 i12 h12 Tryz.underlying24 ?_
  refine l_st hO 24 i4 h4 c12 fc12_24 ?_
  intro w1 hO
  exact l_fr _ (wpList_nil (H  _ hO))
set_option maxHeartbeats 4000000 in
theorem rsign_g (f s p x a z : Nat → Nat) (r k : Nat) (P : Option Addr) (m : List Nat) (pc : Nat) (hs : ∀ w, Calls Tryz.prog 17 #[.agg (vals .u8 32 f)] w fun e w' => ∃ A c, e = .returned (.tuple #[.agg (vals .u8 32 s), .slice A 32 c]) ∧ 32 ≤ c ∧ T.Rds w' A (bl p) ∧ Below w.heap.size w w') (hsl : ∀ i, s i < 256) (hpl : ∀ i, p i < 256) (hal : ∀ i, a i < 256) (hxl : ∀ i, x i < 256) (ht : ∀ w, Ret 18 #[.agg (vals .u8 32 s)] w (.agg (vals .u8 32 a))) (hx : ∀ w, Ret 18 #[.agg (vals .u8 32 (byt r))] w (.agg (vals .u8 32 x)))
    (hma : ∀ w, Ret 20 #[.agg (vals .u8 32 (byt k)), .agg (vals .u8 32 s), .agg (vals .u8 32 (byt r))] w (.agg (vals .u8 32 z))) (Hr : Hid (dgn (bl p ++ m) = r)) (Hk : Hid (dgn (bl x ++ bl a ++ m) = k)) (w : World) (hP : T.Rds w P m) (hm : ∀ x ∈ m, x < 256) (hml : m.length < 2 ^ 28) : Ret 9 #[.agg (vals .u8 32 f), .slice P m.length pc] w (.agg (vals .u8 64 (jn x z))) := by
  go_enter Tryz.func9, Tryz.ntmps9
  have _ := hsl
  have HP := hide hP
  have Hm := hide hm
  have Hl := hide hml
  clear hP hm hml
  have hO := Own.start w
  go_upto_region 0 with (fail)
  refine s9r0_r hO (fit_by _) ?_
  intro n2 n4 w1 hO
  replace hO : Own w w1 [(n4, vals .u8 64 (fun _ => 0), 24), (n2, vals .u8 32 f, 22)] := hO
  go_upto_region 1 with (fail)
  refine s9r1_r hs hO 1 rfl ?_
  intro A0 c n5 v1 w2 hc hR hOo hO
  have HO := hide hOo
  have HR := hide hR
  have HP1 := hide (HP.out.low hOo.low)
  clear hc hR hOo HP
  replace hO : Own v1 w2 [(n5, vals .u8 32 s, 22)] := hO
  go_upto_region 2 with (fail)
  refine s9r2_r hO (fun w hL => dig_a (HR.out.low hL) (HP1.out.low hL) hpl Hm.out Hl.out Hr.out) (fit_by _) ?_
  intro n7 w3 hO
  replace hO : Own v1 w3 [(n7, vals .u8 32 (byt r), 22), (n5, vals .u8 32 s, 22)] := hO
  go_upto_region 3 with (fail)
  refine s9r3_r hO 0 rfl hx (fit_by _) ?_
  intro n8 w4 hO
  replace hO : Own v1 w4 [(n8, vals .u8 32 x, 22), (n7, vals .u8 32 (byt r), 22), (n5, vals .u8 32 s, 22)] := hO
  go_upto_region 4 with (fail)
  refine s9r4_r hO 2 rfl ht (fit_by _) ?_
  intro n9 w5 hO
  replace hO : Own v1 w5 [(n9, vals .u8 32 a, 22), (n8, vals .u8 32 x, 22), (n7, vals .u8 32 (byt r), 22), (n5, vals .u8 32 s, 22)] := hO
  go_upto_region 5 with (fail)
  refine s9r5_r (fun _ _ _ _ _ h => h) hO 1 rfl 0 rfl (fun w hL h8 h9 => dig_b h8 h9 (HP1.out.low hL) hxl hal Hm.out Hl.out Hk.out) (fit_by _) ?_
  intro n10 w6 hO
  replace hO : Own v1 w6 [(n10, vals .u8 32 (byt k), 22), (n9, vals .u8 32 a, 22), (n8, vals .u8 32 x, 22), (n7, vals .u8 32 (byt r), 22), (n5, vals .u8 32 s, 22)] := hO
  go_upto_region 6 with (fail)
  refine s9r6_r hO 4 rfl 3 rfl 0 rfl hma (fit_by _) ?_
  intro n11 w7 hO
  replace hO : Own v1 w7 [(n11, vals .u8 32 z, 22), (n10, vals .u8 32 (byt k), 22), (n9, vals .u8 32 a, 22), (n8, vals .u8 32 x, 22), (n7, vals .u8 32 (byt r), 22), (n5, vals .u8 32 s, 22)] := hO
  go_upto_region 7 with (fail)
  refine s9r7_r hO bd_b60 (fit_b6 _) ?_
  intro n12 w8 hO
  replace hO : Own v1 w8 [(n12, vals .u8 64 (fun _ => 0), 24), (n11, vals .u8 32 z, 22), (n10, vals .u8 32 (byt k), 22), (n9, vals .u8 32 a, 22), (n8, vals .u8 32 x, 22), (n7, vals .u8 32 (byt r), 22), (n5, vals .u8 32 s, 22)] := hO
  have hO2 : Own v1 w8 [(n12, vals .u8 64 (cut2 x z 0), 24), (n11, vals .u8 32 z, 22), (n10, vals .u8 32 (byt k), 22), (n9, vals .u8 32 a, 22), (n8, vals .u8 32 x, 22), (n7, vals .u8 32 (byt r), 22), (n5, vals .u8 32 s, 22)] := by rw [← cut2_zero x z]; exact hO
  clear hO
  go_wp2_with fail
  go_loopw [13] (fun i wr => ∃ q : Nat, q ≤ 32 ∧ i = .int .i64 q ∧ Own v1 wr [(n12, vals .u8 64 (cut2 x z q), 24), (n11, vals .u8 32 z, 22), (n10, vals .u8 32 (byt k), 22), (n9, vals .u8 32 a, 22), (n8, vals .u8 32 x, 22), (n7, vals .u8 32 (byt r), 22), (n5, vals .u8 32 s, 22)]) (fun i _ => (32 - intOf i).toNat)
  case atStart => exact ⟨0, by omega, rfl, hO2⟩
  case round =>
    clear hO2
    obtain ⟨q, hq, rfl, hO⟩ := hrel
    by_cases hlt : q < 32
    · have hlt' : (q : Int) < 32 := by omega
      have hkm : IntKind.i64.wrap ((q : Int) + 1) = (q : Int) + 1 := T.wrap_big _ (by omega) (by omega)
      go_upto_region 11 with (fail)
      refine s9r11_r hO 4 rfl 0 rfl (fun a w h1 h2 => idx22 rfl hlt h1 h2 w) (get_by _ q (by omega)) (fun a w h1 h2 => idx28 rfl (by omega) h1 h2 w) (get_b6 _ q (by omega)) (set_b6 _ _ _) (fit_b6 _) ?_
      intro w9 hO
      replace hO : Own v1 w9 [(n12, vals .u8 64 (fun j => if j = q then x q else (cut2 x z q) j), 24), (n11, vals .u8 32 z, 22), (n10, vals .u8 32 (byt k), 22), (n9, vals .u8 32 a, 22), (n8, vals .u8 32 x, 22), (n7, vals .u8 32 (byt r), 22), (n5, vals .u8 32 s, 22)] := hO
      go_upto_region 12 with (fail)
      refine s9r12_r hO 1 rfl 0 rfl (fun a w h => add32 rfl hlt rfl h w) (fun a w h1 h2 => idx22 rfl hlt h1 h2 w) (get_by _ q (by omega)) (fun a w h1 h2 => idx28 rfl (by omega) h1 h2 w) (get_b6 _ (32 + q) (by omega)) (set_b6 _ _ _) (fit_b6 _) ?_
      intro w10 hO
      replace hO : Own v1 w10 [(n12, vals .u8 64 (fun j => if j = (32 + q) then z q else (fun j => if j = q then x q else (cut2 x z q) j) j), 24), (n11, vals .u8 32 z, 22), (n10, vals .u8 32 (byt k), 22), (n9, vals .u8 32 a, 22), (n8, vals .u8 32 x, 22), (n7, vals .u8 32 (byt r), 22), (n5, vals .u8 32 s, 22)] := hO
      rw [cut2_next x z q hlt] at hO
      have HO9 := hide hO
      clear hO
      go_wp2_with fail
      go_roundw
      case rel => exact ⟨q + 1, by omega, by go_num, HO9.out⟩
      case measure => simp [intOf]; omega
    · have hk6 : q = 32 := by omega
      subst hk6
      rw [cut2_all] at hO
      replace hO := HO.out.trans hO
      replace hO : Own w wr [(n12, vals .u8 64 (jn x z), 24), (n11, vals .u8 32 z, 22), (n10, vals .u8 32 (byt k), 22), (n9, vals .u8 32 a, 22), (n8, vals .u8 32 x, 22), (n7, vals .u8 32 (byt r), 22), (n5, vals .u8 32 s, 22), (n4, vals .u8 64 (fun _ => 0), 24), (n2, vals .u8 32 f, 22)] := hO
      go_upto_region 13 with (fail)
      refine s9r13_r hO 7 rfl 0 rfl ?_
      intro w11 hO
      replace hO : Own w w11 [(n12, vals .u8 64 (jn x z), 24), (n11, vals .u8 32 z, 22), (n10, vals .u8 32 (byt k), 22), (n9, vals .u8 32 a, 22), (n8, vals .u8 32 x, 22), (n7, vals .u8 32 (byt r), 22), (n5, vals .u8 32 s, 22), (n4, vals .u8 64 (jn x z), 24), (n2, vals .u8 32 f, 22)] := hO
      go_wp2_with fail
      refine bodyPost_ret (v := .agg (vals .u8 64 (jn x z))) (results_cell_row Tryz.results9 _ _ n4 24 _ (0, 0) _ rfl (hO.row 7 rfl) Tryz.underlying24 rfl (fit_b6 _).size) rfl ⟨rfl, hO.low⟩
theorem rsign_c (f : Nat → Nat) (hf : ∀ i, f i < 256) (P : Option Addr) (m : List Nat) (pc : Nat) (w : World) (hP : T.Rds w P m) (hm : ∀ x ∈ m, x < 256) (hml : m.length < 2 ^ 28) : Ret 9 #[.agg (vals .u8 32 f), .slice P m.length pc] w (.agg (vals .u8 64 (sgn f m))) :=
  rsign_g f (sec f) (pre f) (ptb (rN f m)) (pub f) (byt (sN f m)) (rN f m) (kN f m) P m pc (fun w => rsecret_c f hf _ w rfl) (sec_lt f) (pre_lt f) (pub_lt f) (ptb_lt _) (rtimes_c _ (sec_lt f)) (rtimes_n _ (dgn_lt _)) (rma_v (kN f m) (rN f m) (sN f m) (sec f) (byt (sN f m)) (dgn_lt _) (dgn_lt _) (sec_lt f) (by unfold sN; rfl) rfl) (hide (by unfold rN; rfl)) (hide (by unfold kN; rfl)) w hP hm hml
end Go.Proofs.YtbpmakegimgbpaaGreatDoor

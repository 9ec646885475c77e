/- Texts in one: Rv Rx. -/
import Derived.Test.YtbpmakegimgbpaaGreatDoorJz
import Derived.Test.YtbpmakegimgbpaaGreatDoorJk
import Derived.Test.YtbpmakegimgbpaaGreatDoorSr
import Derived.Test.YtbpmakegimgbpaaGreatDoorTr
namespace Go.Proofs.YtbpmakegimgbpaaGreatDoor
set_option maxRecDepth 100000
open F Go.RowKit

theorem run_part {c e : Array Value} {off : Nat} {ty : TypeId} {d : TypeDesc} (hp : Part c off ty e) (hu : Tryz.prog.underlying ty = some d) (hd : d.isRow = true) (w : World) : (part ty c off).run Tryz.prog w = .ok (.agg e) w := by
  have hagg : ∀ w, (isAgg ty).run Tryz.prog w = .ok true w := by
    intro w
    unfold isAgg
    rw [Sem.run_bind, run_underlying hu w]
    cases d <;> simp_all
  cases hq : Tryz.prog.info? ty with
  | none => have := hp.size; simp [hq] at this
  | some i =>
    have hs : i.size = e.size := by have := hp.size; simpa [hq] using this
    simp [part, hagg, sizeOf, typeInfo, hq, hs, hp.eq]
theorem eqN9 (x y : Nat) (hx : x < pP) (hy : y < pP) (w : World) : (Op.equalIn 9999 58 (.agg (vals .u64 16 (F.dg x))) (.agg (vals .u64 16 (F.dg y)))).run Tryz.prog w = .ok (decide (x = y)) w := by
  rw [← all16 x y (lt256 hx) (lt256 hy)]
  exact run_equal_vals (P := Tryz.prog) w 9997 58 44 16 .u64 Tryz.underlying58 Tryz.underlying44 size24 _ _
theorem eqR {P Q : Nat × Nat} (hP : Ok7 P) (hQ : Ok7 Q) (w : World) : (Op.equalIn 10000 60 (.agg (rp P)) (.agg (rp Q))).run Tryz.prog w = .ok (decide (P = Q)) w := by
  rw [run_equalIn_struct w 9999 60 _ _ (by kernel_rfl) (by kernel_rfl)]
  obtain ⟨F1, F2, hF, n1, t1, o1, n2, t2, o2⟩ : ∃ F1 F2 : Field, (Tryz.prog.fieldsOf 60).toList = [F1, F2] ∧ F1.name ≠ "_" ∧ F1.type = 58 ∧ F1.offset = 0 ∧ F2.name ≠ "_" ∧ F2.type = 58 ∧ F2.offset = 16 := ⟨{ name := "X", type := 58, offset := 0, embedded := false, tag := "", pkgPath := "", byteOffset := 0 }, { name := "Y", type := 58, offset := 16, embedded := false, tag := "", pkgPath := "", byteOffset := 128 }, (by kernel_rfl), (by decide), rfl, rfl, (by decide), rfl, rfl⟩
  rw [hF]
  have e1 : ∀ w, (part 58 (rp P) 0).run Tryz.prog w = .ok (.agg (vals .u64 16 (F.dg P.1))) w := run_part (part_rp0 P.1 P.2) Tryz.underlying58 rfl
  have e2 : ∀ w, (part 58 (rp Q) 0).run Tryz.prog w = .ok (.agg (vals .u64 16 (F.dg Q.1))) w := run_part (part_rp0 Q.1 Q.2) Tryz.underlying58 rfl
  have e3 : ∀ w, (part 58 (rp P) 16).run Tryz.prog w = .ok (.agg (vals .u64 16 (F.dg P.2))) w := run_part (part_rp1 P.1 P.2) Tryz.underlying58 rfl
  have e4 : ∀ w, (part 58 (rp Q) 16).run Tryz.prog w = .ok (.agg (vals .u64 16 (F.dg Q.2))) w := run_part (part_rp1 Q.1 Q.2) Tryz.underlying58 rfl
  have q1 := eqN9 P.1 Q.1 hP.x hQ.x
  have q2 := eqN9 P.2 Q.2 hP.y hQ.y
  simp only [Op.eqFields, n1, n2, t1, t2, o1, o2, ne_eq, not_false_eq_true, if_true, Sem.run_bind, e1, e2, q1, Result.andThen_ok]
  have hd : decide (P = Q) = (decide (P.1 = Q.1) && decide (P.2 = Q.2)) := by
    rw [Bool.eq_iff_iff]
    simp only [Bool.and_eq_true, decide_eq_true_eq]
    exact ⟨fun h => ⟨h ▸ rfl, h ▸ rfl⟩, fun h => Prod.ext h.1 h.2⟩
  rw [hd]
  clear hd q1
  generalize decide (P.1 = Q.1) = b1
  generalize decide (P.2 = Q.2) = b2 at q2 ⊢
  cases b1
  · simp
  · cases b2 <;> simp [e3, e4, q2]
theorem eqR_c {ρ : Operand → Value} {o : Oper} {P Q : Nat × Nat} (x y : Operand) (hP : Ok7 P) (hQ : Ok7 Q) (w : World) (ho : o.op = .binOp .eql 60 x y 60) (hx : ρ x = .agg (rp P)) (hy : ρ y = .agg (rp Q)) : (execOp ρ o).run Tryz.prog w = .ok (.value (.bool (decide (P = Q)))) w := by
  have h := eqR hP hQ
  unfold execOp
  simp only [ho, hx, hy]
  go_simp
theorem dgn_def (l : List Nat) : nb (T.dg l) 64 % S.qL = dgn l := by unfold dgn; rfl
theorem rred_at (l : List Nat) (args : Array Value) (w : World) (h : args = #[.agg (vals .u8 64 (T.dg l))]) : Calls Tryz.prog 45 args w fun e w' => e = .returned (.agg (vals .u8 32 (byt (dgn l)))) ∧ Below w.heap.size w w' := S.rReduce_n (T.dg l) (dgn l) args w h (T.dg_lt l) (dgn_def l)
theorem empty_own {w : World} {B : Nat} (hB : B ≤ w.heap.size) : T.Own (w.alloc (.cells #[] 5)) B 5 (.slice (some ⟨w.heap.size, 0, none⟩) 0 0) (T.bv8 []) := T.own_lit (Blk.new w #[] 5) hB
theorem app_b {B : Nat} {w : World} {v : Value} {vs : List Nat} (h : T.Own w B 5 v (T.bv8 vs)) (hBw : B ≤ w.heap.size) (A2 : Option Addr) (l : List Nat) (c2 : Nat) (hs : T.Rds w A2 l) (hl : vs.length + l.length ≤ 2 ^ 40) :
    ∃ A' c' w', (∀ ty, (Builtin.append_ #[23, 23] ty #[v, .slice A2 l.length c2]).run Tryz.prog w = .ok (.slice A' (vs ++ l).length c') w') ∧ T.Own w' B 5 (.slice A' (vs ++ l).length c') (T.bv8 (vs ++ l)) ∧ (∀ a, Below B a w → Below B a w') ∧ w.heap.size ≤ w'.heap.size := by
  obtain ⟨v', w', hr, ho, hsz, hlo⟩ := T.own_app T.elt5 h hBw (.slice A2 l.length c2) (T.bv8 l) (T.src_rds c2 hs) (by rw [T.bv8_len, T.bv8_len]; exact hl)
  rw [← T.bv8_app] at ho
  obtain ⟨A', c', rfl, _⟩ := T.own_rds ho
  exact ⟨A', c', w', hr, ho, hlo, hsz⟩
set_option maxHeartbeats 4000000 in
theorem digest_c (A1 A2 A3 : Option Addr) (l1 l2 l3 : List Nat) (c1 c2 c3 : Nat) (w : World) (h1 : T.Rds w A1 l1) (h2 : T.Rds w A2 l2) (h3 : T.Rds w A3 l3) (x1 : ∀ x ∈ l1, x < 256) (x2 : ∀ x ∈ l2, x < 256) (x3 : ∀ x ∈ l3, x < 256) (hl : l1.length + l2.length + l3.length < 2 ^ 29) :
    Ret 19 #[.slice A1 l1.length c1, .slice A2 l2.length c2, .slice A3 l3.length c3] w (.agg (vals .u8 32 (byt (dgn (l1 ++ l2 ++ l3))))) := by
  have H1 := hide h1
  have H2 := hide h2
  have H3 := hide h3
  have hz : ∀ w, (zeroValue 22).run Tryz.prog w = .ok (.agg (vals .u8 32 (fun _ => 0))) w := fun w => by kernel_rfl
  have R0 := hide (Blk.new w (vals .u8 32 (fun _ => 0)) 22)
  have L0 := hide ((Below.refl w.heap.size w).alloc (Nat.le_refl _) (.cells (vals .u8 32 (fun _ => 0)) 22))
  have Hx : Hid (∀ x ∈ l1 ++ l2 ++ l3, x < 256) := hide (fun x hx => by
    rcases List.mem_append.1 hx with hx | hx
    · rcases List.mem_append.1 hx with hx | hx
      · exact x1 x hx
      · exact x2 x hx
    · exact x3 x hx)
  have Hl := hide hl
  clear h1 h2 h3 x1 x2 x3 hl
  go_enter Tryz.func19, Tryz.ntmps19
  go_upto_region 1 with (fail)
  clear hz
  generalize w.alloc (.cells (vals .u8 32 (fun _ => 0)) 22) = w1 at *
  have E0 := hide ((Below.refl w1.heap.size w1).alloc (Nat.le_refl _) (.cells #[] 5))
  obtain ⟨B1, d1, w2, r1, o1, b1, s1⟩ := app_b (empty_own (Nat.le_refl w1.heap.size)) E0.out.size A1 l1 c1 ((H1.out.low L0.out).low E0.out) (by have := Hl.out; simp; omega)
  have L1 := hide (b1 w1 E0.out)
  obtain ⟨B2, d2, w3, r2, o2, b2, s2⟩ := app_b o1 L1.out.size A2 l2 c2 ((H2.out.low L0.out).low L1.out) (by have := Hl.out; simp; omega)
  have L2 := hide (b2 w1 L1.out)
  obtain ⟨B3, d3, w4, r3, o3, b3, s3⟩ := app_b o2 L2.out.size A3 l3 c3 ((H3.out.low L0.out).low L2.out) (by have := Hl.out; simp; omega)
  have L3 := hide (b3 w1 L2.out)
  simp only [List.nil_append] at r1 r2 r3 o3
  obtain ⟨ls, hls⟩ : ∃ ls, ls = l1 ++ l2 ++ l3 := ⟨_, rfl⟩
  obtain ⟨n2, hn2⟩ : ∃ n2, n2 = (l1 ++ l2).length := ⟨_, rfl⟩
  rw [← hls] at r3 o3 Hx
  rw [← hn2] at r2 r3
  have Hls : Hid (ls.length < 2 ^ 30) := hide (by have := Hl.out; rw [hls, List.length_append, List.length_append]; omega)
  obtain ⟨A4, c4, e4, hc4, hr4, _⟩ := T.own_rds o3
  injection e4 with e5 _ e6
  subst e5 e6
  have HR := hide hr4
  have HC := hide hc4
  have Q1 := hide r1
  have Q2 := hide r2
  have Q3 := hide r3
  have K0 := hide (R0.out.below L3.out R0.out.lt)
  have K1 := hide (L0.out.trans (L3.out.mono L0.out.size))
  have Hq := hide hls
  clear r1 r2 r3 o1 o2 o3 b1 b2 b3 s1 s2 s3 hr4 hc4 hn2 hls H1 H2 H3 E0 L1 L2 Hl
  go_wp2_with (first
    | (at_builtin; refine T.wpList_app rfl _ _ 23 23 rfl rfl rfl Q1.out ?_; clear Q1)
    | (at_builtin; refine T.wpList_app rfl _ _ 23 23 rfl rfl rfl Q2.out ?_; clear Q2)
    | (at_builtin; refine T.wpList_app rfl _ _ 23 23 rfl rfl rfl Q3.out ?_; clear Q3)
    | (go_at_call 43; refine (T.rSum_at _ ls _ _ _ rfl HR.out HC.out Hx.out Hls.out).mono ?_; rintro e w5 ⟨rfl, hb⟩; have K2 := hide (K0.out.call hb); have K3 := hide (T.keepLow2 K1.out hb); clear hb; dsimp only)
    | (go_at_call 45; refine (rred_at ls _ _ rfl).mono ?_; rintro e w6 ⟨rfl, hb⟩; have K4 := hide (K2.out.call hb); have K5 := hide (T.keepLow2 K3.out hb); clear hb; dsimp only)
    | (refine wpList_store_row rfl 22 _ _ rfl w.heap.size (vals .u8 32 (byt (dgn ls))) rfl rfl 22 _ K4.out (fit_by _).size (by rw [vals_size, vals_size]) (vals_one _ _ _) ?_))
  refine bodyPost_ret (v := .agg (vals .u8 32 (byt (dgn ls)))) (results_cell_row Tryz.results19 _ _ w.heap.size 22 _ (0, 0) _ rfl (K4.out.row _) Tryz.underlying22 rfl (fit_by _).size) rfl ⟨by rw [Hq.out, List.append_assoc], Below.row K5.out (Nat.le_refl _) _⟩
end Go.Proofs.YtbpmakegimgbpaaGreatDoor
namespace Go.Proofs.YtbpmakegimgbpaaGreatDoor
set_option maxRecDepth 100000
open F Go.RowKit
section
variable {ops : Array Oper} {Q : Exit → Act → World → Prop} {rest : List Oper} {o : Oper} {a : Act} {u w : World} {L : List Row}
end
theorem dig_b {a b : Nat} {A2 : Option Addr} {c2 : Nat} {f g : Nat → Nat} {m : List Nat} {r : Nat} {w : World} {s t : TypeId} (hA : Blk w a (vals .u8 32 f) s) (hB : Blk w b (vals .u8 32 g) t) (h2 : T.Rds w A2 m) (hf : ∀ i, f i < 256) (hg : ∀ i, g i < 256) (hm : ∀ x ∈ m, x < 256) (hl : m.length < 2 ^ 28) (hr : dgn (bl f ++ bl g ++ m) = r) : Ret 19 #[.slice (some ⟨a, 0, none⟩) 32 32, .slice (some ⟨b, 0, none⟩) 32 32, .slice A2 m.length c2] w (.agg (vals .u8 32 (byt r))) := by
  have h := digest_c (some ⟨a, 0, none⟩) (some ⟨b, 0, none⟩) A2 (bl f) (bl g) m 32 32 c2 w (rds_bl hA) (rds_bl hB) h2 (bl_lt f hf) (bl_lt g hg) hm (by rw [bl_len, bl_len]; omega)
  rw [hr, bl_len, bl_len] at h
  exact h
end Go.Proofs.YtbpmakegimgbpaaGreatDoor

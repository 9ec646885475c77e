/- Texts in one: Hz Q0 Rn. -/
import Derived.Test.YtbpmakegimgbpaaGreatDoorJh
import Derived.Test.YtbpmakegimgbpaaGreatDoorJq
import Derived.Test.YtbpmakegimgbpaaGreatDoorRows
import Derived.ProofKit
import Derived.OpenShut
import Derived.ChangeOld
import Derived.LaidMore
import Derived.Stop.Joined
import Derived.Deep.Slices
namespace Go.Proofs.YtbpmakegimgbpaaGreatDoor
set_option maxRecDepth 100000
open F Go.RowKit Rg

theorem prt_nil (w : World) : T.Prt w none [] := Or.inl rfl
theorem ptok_nil (w : World) : T.PtOk w [] := fun _ h => nomatch h
theorem eq8_run {o : Oper} (c : Nat) (k : Nat) (ho : o.op = .binOp .eql 5 (.tmp k) (.const (.int .u8 (c : Nat))) 5) (a : Act) (w : World) (g : Nat) (hg : g = c) (h0 : a.eval (.tmp k) = .int .u8 ((g : Nat) : Int)) : (execOp a.eval o).run Tryz.prog w = .ok (.value (.bool true)) w := by
  subst hg
  unfold execOp
  simp only [ho, h0]
  have e0 : a.eval (.const (.int .u8 (g : Nat))) = .int .u8 (g : Nat) := rfl
  have e : (((g : Nat) : Int) == ((g : Nat) : Int)) = true := by simp
  go_simp
theorem one_row {q1 q2 : Nat} {w : World} (h1 : Blk w q1 #[.int .u8 1] 5) (h2 : Blk w q2 #[.slice (some ⟨q1, 0, none⟩) 1 1] 23) : T.Prt w (some ⟨q2, 0, none⟩) [(some ⟨q1, 0, none⟩, [1], 1)] ∧ T.PtOk w [(some ⟨q1, 0, none⟩, [1], 1)] :=
  by
  have h3 : T.Rds w (some ⟨q1, 0, none⟩) [1] := T.rds_blk h1 _ fun i x hx => by
    rcases i with _ | i
    · obtain rfl := Option.some.inj hx; rfl
    · cases hx
  refine ⟨pt_one1 h2 rfl, fun p hp => ?_⟩
  obtain rfl : p = (some ⟨q1, 0, none⟩, [1], 1) := by simpa using hp
  exact ⟨h3, Nat.le_refl _, fun x hx => by
    obtain rfl : x = 1 := by simpa using hx
    omega⟩
theorem verify_b (g s : Nat → Nat) (P : Option Addr) (ps : List T.Pt) (pc : Nat) (m : List Nat) (b : Bool) (hb : Hid (verB g s m = b)) (hg : ∀ i, g i < 256) (hs : ∀ i, s i < 256) (w : World) (hG : Glb w) (hP : T.Prt w P ps) (hO : T.PtOk w ps) (hm : T.cat ps = m) (hms : m.length < 2 ^ 30) (hp : ps.length < 2 ^ 30) : Ret 10 #[.agg (vals .u8 32 g), .agg (vals .u8 64 s), .slice P ps.length pc] w (.bool b) := by
  have h := verify_c g s P ps pc m hg hs w hG hP hO hm hms hp
  rw [hb.out] at h
  exact h
theorem built_sd : Tryz.prog.built 22 [(0, .int .u8 157), (1, .int .u8 97), (2, .int .u8 177), (3, .int .u8 157), (4, .int .u8 239), (5, .int .u8 253), (6, .int .u8 90), (7, .int .u8 96), (8, .int .u8 186), (9, .int .u8 132), (10, .int .u8 74), (11, .int .u8 244), (12, .int .u8 146), (13, .int .u8 236), (14, .int .u8 44), (15, .int .u8 196), (16, .int .u8 68), (17, .int .u8 73), (18, .int .u8 197), (19, .int .u8 105), (20, .int .u8 123), (21, .int .u8 50), (22, .int .u8 105), (23, .int .u8 25), (24, .int .u8 112), (25, .int .u8 59), (26, .int .u8 172), (27, .int .u8 3), (28, .int .u8 28), (29, .int .u8 174), (30, .int .u8 127), (31, .int .u8 96)] = some (vals .u8 32 sd) := by kernel_rfl
set_option maxHeartbeats 4000000 in
theorem awake_g (a : Nat → Nat) (b : Nat → Nat) (hal : ∀ i, a i < 256) (hbl : ∀ i, b i < 256) (x0 : Nat → Nat) (hx0 : Hid (sd = x0)) (hP : ∀ w, Glb w → Ret 6 #[.agg (vals .u8 32 x0)] w (.agg (vals .u8 32 a))) (hS : ∀ w, Glb w → Ret 7 #[.agg (vals .u8 32 x0), .slice none 0 0] w (.agg (vals .u8 64 b))) (ha : a 0 = 215 ∧ a 1 = 90 ∧ a 2 = 152 ∧ a 3 = 1) (hb : b 0 = 229 ∧ b 1 = 86 ∧ b 2 = 67 ∧ b 3 = 0) (hy : Hid (verB a b [] = true)) (hn : Hid (verB a b [1] = false)) (w : World) (hG : Glb w) : Ret 5 #[] w (.bool true) := by
  go_enter Tryz.func5, Tryz.ntmps5
  have hO := Wn.start w
  have HG := hide hG
  clear hG
  go_upto_region 0 with (fail)
  refine Rg.ps [] (fun _ => [(0, .bool false)]) (OI w (Sq _ (fun _ => []))) (fun _ => 0) hO (Rg.ac nV Rg.an) ?_
  intro ν w1 hO
  simp only [OI, Sq, Sg, qD, qE, Rg.putL, Act.put] at hO ⊢
  clear ν
  go_upto_region 1 with (fail)
  refine Rg.ps [1, 2] (fun ν => [(4, .agg (vals .u8 32 x0)), (1, D (ν 1))]) (OI w (Sq _ (fun ν => [ap ((ν 1), vals .u8 32 (fun _ => 0), 22), se 0 ((ν 1), vals .u8 32 x0, 22)]))) (fun _ => 0) hO (Rg.ac (nx (fun _ => .agg (vals .u8 32 x0)) (fun _ w => run_bd 22 _ rfl [(0, .int IntKind.u8 157), (1, .int IntKind.u8 97), (2, .int IntKind.u8 177), (3, .int IntKind.u8 157), (4, .int IntKind.u8 239), (5, .int IntKind.u8 253), (6, .int IntKind.u8 90), (7, .int IntKind.u8 96), (8, .int IntKind.u8 186), (9, .int IntKind.u8 132), (10, .int IntKind.u8 74), (11, .int IntKind.u8 244), (12, .int IntKind.u8 146), (13, .int IntKind.u8 236), (14, .int IntKind.u8 44), (15, .int IntKind.u8 196), (16, .int IntKind.u8 68), (17, .int IntKind.u8 73), (18, .int IntKind.u8 197), (19, .int IntKind.u8 105), (20, .int IntKind.u8 123), (21, .int IntKind.u8 50), (22, .int IntKind.u8 105), (23, .int IntKind.u8 25), (24, .int IntKind.u8 112), (25, .int IntKind.u8 59), (26, .int IntKind.u8 172), (27, .int IntKind.u8 3), (28, .int IntKind.u8 28), (29, .int IntKind.u8 174), (30, .int IntKind.u8 127), (31, .int IntKind.u8 96)] (by kernel_rfl) _ (hx0.out ▸ built_sd) w)) (Rg.ac (sn 0 (fun _ => vals .u8 32 (fun _ => 0)) 22 (fun _ w => al22 rfl w) (fun _ => ft (fit_by _))) (Rg.ac (sr 1 0 (fun _ => vals .u8 32 x0) (fun _ => ft (fit_by _))) Rg.an))) ?_
  intro ν w2 hO
  simp only [OI, Sq, Sg, ap, se, qB, qC, qD, qE, qF, qG, Rg.putL, Act.put] at hO ⊢
  generalize ν 1 = n1 at hO ⊢
  clear ν
  go_upto_region 2 with (fail)
  refine Rg.ps [1, 2, 3] (fun ν => [(5, .agg (vals .u8 32 x0)), (6, .agg (vals .u8 32 a)), (2, D (ν 2))]) (OI w (Sq _ (fun ν => [id, ap ((ν 2), vals .u8 32 (fun _ => 0), 22), se 1 ((ν 2), vals .u8 32 a, 22)]))) (fun _ => 0) hO (Rg.ac (nld 0 0 0 (fun _ => n1) (fun _ => vals .u8 32 x0) (t1 0) Tryz.underlying22) (Rg.ac (sq 0 6 (fun _ => #[.agg (vals .u8 32 x0)]) (fun _ => .agg (vals .u8 32 a)) (fun ν w hO => hP w (HG.out.low hO.low))) (Rg.ac (sn 1 (fun _ => vals .u8 32 (fun _ => 0)) 22 (fun _ w => al22 rfl w) (fun _ => ft (fit_by _))) (Rg.ac (sr 2 1 (fun _ => vals .u8 32 a) (fun _ => ft (fit_by _))) Rg.an)))) ?_
  intro ν w3 hO
  simp only [OI, Sq, Sg, ap, se, id, qA, qB, qC, qD, qE, qF, qG, Rg.putL, Act.put] at hO ⊢
  generalize ν 2 = n2 at hO ⊢
  clear ν
  go_upto_region 3 with (fail)
  refine Rg.ps [1, 2, 3] (fun ν => [(7, .agg (vals .u8 32 x0)), (8, .agg (vals .u8 64 b)), (3, D (ν 2))]) (OI w (Sq _ (fun ν => [id, ap ((ν 2), vals .u8 64 (fun _ => 0), 24), se 2 ((ν 2), vals .u8 64 b, 24)]))) (fun _ => 0) hO (Rg.ac (nld 0 0 0 (fun _ => n1) (fun _ => vals .u8 32 x0) (t1 0) Tryz.underlying22) (Rg.ac (sq 0 7 (fun _ => #[.agg (vals .u8 32 x0), .slice none 0 0]) (fun _ => .agg (vals .u8 64 b)) (fun ν w hO => hS w (HG.out.low hO.low))) (Rg.ac (sn 1 (fun _ => vals .u8 64 (fun _ => 0)) 24 (fun _ w => alb6 rfl w) (fun _ => ft (fit_b6 _))) (Rg.ac (sr 2 2 (fun _ => vals .u8 64 b) (fun _ => ft (fit_b6 _))) Rg.an)))) ?_
  intro ν w4 hO
  simp only [OI, Sq, Sg, ap, se, id, qA, qB, qC, qD, qE, qF, qG, Rg.putL, Act.put] at hO ⊢
  generalize ν 2 = n3 at hO ⊢
  clear ν
  go_upto_region 4 with (fail)
  refine Rg.ps [41, 46, 47, 48] (fun ν => [(9, E n2 0), (10, Nv .u8 (a 0)), (11, .bool true), (12, .bool true), (13, E n2 1), (14, Nv .u8 (a 1)), (15, .bool true), (16, .bool true), (17, .bool true), (18, E n2 2), (19, Nv .u8 (a 2)), (20, .bool true), (21, .bool true), (22, .bool true), (23, E n2 3), (24, Nv .u8 (a 3)), (25, .bool true), (26, .bool true), (27, .bool true), (28, E n3 0), (29, Nv .u8 (b 0)), (30, .bool true), (31, .bool true), (32, .bool true), (33, E n3 1), (34, Nv .u8 (b 1)), (35, .bool true), (36, .bool true), (37, .bool true), (38, E n3 2), (39, Nv .u8 (b 2)), (40, .bool true), (41, .bool true), (42, .bool true), (43, E n3 3), (44, Nv .u8 (b 3)), (45, .bool true), (46, .bool true), (47, .bool true), (48, .agg (vals .u8 32 a)), (49, .agg (vals .u8 64 b)), (50, .bool true), (51, .bool true), (52, .bool true), (53, .agg (vals .u8 32 a)), (54, .agg (vals .u8 64 b)), (55, .slice (some ⟨(ν 46), 0, none⟩) 1 1), (56, .slice (some ⟨(ν 47), 0, none⟩) 1 1), (57, .bool false), (58, .bool true), (59, .bool true), (0, .bool true)]) (OI w (Sq _ (fun ν => [id, ap ((ν 46), #[.int IntKind.u8 1], 5), ap ((ν 47), #[.slice (some ⟨(ν 46), 0, none⟩) 1 1], 23), id]))) (fun _ => 0) hO (Rg.ac nV (Rg.ac (nc 0 0 1 (fun _ => n2) 22 (fun _ => vals .u8 32 a) (fun _ => 0) (fun _ => Nv .u8 (a 0)) agg_u8 (fun _ => (get_by a 0 (by omega))) (t1 0)) (Rg.ac (nx (fun _ => .bool true) (fun _ w => (fun a' w h => eq8_run 215 10 rfl a' w _ ha.1 h) _ w (by kernel_rfl))) (Rg.ac nV (Rg.ac nV (Rg.ac (nc 0 0 1 (fun _ => n2) 22 (fun _ => vals .u8 32 a) (fun _ => 1) (fun _ => Nv .u8 (a 1)) agg_u8 (fun _ => (get_by a 1 (by omega))) (t1 0)) (Rg.ac (nx (fun _ => .bool true) (fun _ w => (fun a' w h => eq8_run 90 14 rfl a' w _ ha.2.1 h) _ w (by kernel_rfl))) (Rg.ac nV (Rg.ac nV (Rg.ac nV (Rg.ac (nc 0 0 1 (fun _ => n2) 22 (fun _ => vals .u8 32 a) (fun _ => 2) (fun _ => Nv .u8 (a 2)) agg_u8 (fun _ => (get_by a 2 (by omega))) (t1 0)) (Rg.ac (nx (fun _ => .bool true) (fun _ w => (fun a' w h => eq8_run 152 19 rfl a' w _ ha.2.2.1 h) _ w (by kernel_rfl))) (Rg.ac nV (Rg.ac nV (Rg.ac nV (Rg.ac (nc 0 0 1 (fun _ => n2) 22 (fun _ => vals .u8 32 a) (fun _ => 3) (fun _ => Nv .u8 (a 3)) agg_u8 (fun _ => (get_by a 3 (by omega))) (t1 0)) (Rg.ac (nx (fun _ => .bool true) (fun _ w => (fun a' w h => eq8_run 1 24 rfl a' w _ ha.2.2.2 h) _ w (by kernel_rfl))) (Rg.ac nV (Rg.ac nV (Rg.ac nV (Rg.ac (nc 0 0 2 (fun _ => n3) 24 (fun _ => vals .u8 64 b) (fun _ => 0) (fun _ => Nv .u8 (b 0)) agg_u8 (fun _ => (get_b6 b 0 (by omega))) (t1 0)) (Rg.ac (nx (fun _ => .bool true) (fun _ w => (fun a' w h => eq8_run 229 29 rfl a' w _ hb.1 h) _ w (by kernel_rfl))) (Rg.ac nV (Rg.ac nV (Rg.ac nV (Rg.ac (nc 0 0 2 (fun _ => n3) 24 (fun _ => vals .u8 64 b) (fun _ => 1) (fun _ => Nv .u8 (b 1)) agg_u8 (fun _ => (get_b6 b 1 (by omega))) (t1 0)) (Rg.ac (nx (fun _ => .bool true) (fun _ w => (fun a' w h => eq8_run 86 34 rfl a' w _ hb.2.1 h) _ w (by kernel_rfl))) (Rg.ac nV (Rg.ac nV (Rg.ac nV (Rg.ac (nc 0 0 2 (fun _ => n3) 24 (fun _ => vals .u8 64 b) (fun _ => 2) (fun _ => Nv .u8 (b 2)) agg_u8 (fun _ => (get_b6 b 2 (by omega))) (t1 0)) (Rg.ac (nx (fun _ => .bool true) (fun _ w => (fun a' w h => eq8_run 67 39 rfl a' w _ hb.2.2.1 h) _ w (by kernel_rfl))) (Rg.ac nV (Rg.ac nV (Rg.ac nV (Rg.ac (nc 0 0 2 (fun _ => n3) 24 (fun _ => vals .u8 64 b) (fun _ => 3) (fun _ => Nv .u8 (b 3)) agg_u8 (fun _ => (get_b6 b 3 (by omega))) (t1 0)) (Rg.ac (nx (fun _ => .bool true) (fun _ w => (fun a' w h => eq8_run 0 44 rfl a' w _ hb.2.2.2 h) _ w (by kernel_rfl))) (Rg.ac nV (Rg.ac nV (Rg.ac (nld 0 0 1 (fun _ => n2) (fun _ => vals .u8 32 a) (t1 0) Tryz.underlying22) (Rg.ac (nld 0 0 2 (fun _ => n3) (fun _ => vals .u8 64 b) (t1 0) Tryz.underlying24) (Rg.ac (sq 0 10 (fun _ => #[.agg (vals .u8 32 a), .agg (vals .u8 64 b), .slice none 0 0]) (fun _ => .bool true) (fun ν w hO => verify_b a b none [] 0 [] true hy hal hbl w (HG.out.low hO.low) (prt_nil w) (ptok_nil w) rfl (by simp) (by simp))) (Rg.ac nV (Rg.ac nV (Rg.ac (nld 1 1 1 (fun _ => n2) (fun _ => vals .u8 32 a) (t1 1) Tryz.underlying22) (Rg.ac (nld 1 1 2 (fun _ => n3) (fun _ => vals .u8 64 b) (t1 1) Tryz.underlying24) (Rg.ac (sv 1 (fun ν q => .slice (some ⟨q, 0, none⟩) 1 1) (fun _ => #[.int IntKind.u8 1]) 5 (fun _ _ => run_bsl 23 5 1 _ rfl #[(0, .int IntKind.u8 1)] (by kernel_rfl) (by kernel_rfl)) (fun _ => fit_any (by kernel_rfl))) (Rg.ac (sv 2 (fun ν q => .slice (some ⟨q, 0, none⟩) 1 1) (fun ν => #[.slice (some ⟨(ν 46), 0, none⟩) 1 1]) 23 (fun ν _ => run_bsl 35 23 1 _ rfl #[(0, .slice (some ⟨(ν 46), 0, none⟩) 1 1)] (by kernel_rfl) (by kernel_rfl)) (fun _ => fit_any (by kernel_rfl))) (Rg.ac (sq 3 10 (fun ν => #[.agg (vals .u8 32 a), .agg (vals .u8 64 b), .slice (some ⟨(ν 47), 0, none⟩) 1 1]) (fun _ => .bool false) (fun ν w hO => verify_b a b (some ⟨(ν 47), 0, none⟩) [(some ⟨(ν 46), 0, none⟩, [1], 1)] 1 [1] false hn hal hbl w (HG.out.low hO.low) (one_row (Wn.row hO 3 rfl) (Wn.row hO 4 rfl)).1 (one_row (Wn.row hO 3 rfl) (Wn.row hO 4 rfl)).2 rfl (by simp) (by simp))) (Rg.ac nV (Rg.ac nV (Rg.ac nV Rg.an)))))))))))))))))))))))))))))))))))))))))))))))))))) ?_
  intro ν w5 hO
  simp only [OI, Sq, Sg, ap, id, qA, qB, qC, qD, qE, qF, qG, Rg.putL, Act.put] at hO ⊢
  generalize ν 46 = n55 at hO ⊢
  generalize ν 47 = n56 at hO ⊢
  clear ν
  go_wp2_with fail
  exact bodyPost_ret (v := .bool true) (results_tmp Tryz.results5 _ _ _) rfl ⟨rfl, hO.low⟩
theorem awake_s (w : World) (hG : Glb w) : Ret 5 #[] w (.bool true) :=
  awake_g (pub sd) (sgn sd []) (pub_lt sd) (sgn_lt sd []) sd (hide rfl) (public_c sd sd_lt) (fun w hG => sign_c sd none [] 0 [] sd_lt w hG (prt_nil w) (ptok_nil w) rfl (by simp) (by simp)) pub_0 sgn_0 (hide (verB_own sd [])) (hide other_no) w hG
end Go.Proofs.YtbpmakegimgbpaaGreatDoor
namespace Go.Proofs.YtbpmakegimgbpaaGreatDoor
set_option maxRecDepth 100000
open F Go.RowKit

theorem ptok_one {w : World} {A : Option Addr} {l : List Nat} {c : Nat} (hA : T.Rds w A l) (hc : l.length ≤ c) (hl : ∀ x ∈ l, x < 256) : T.PtOk w [(A, l, c)] := fun p hp => by
  obtain rfl : p = (A, l, c) := by simpa using hp
  exact ⟨hA, hc, hl⟩
/-- What Sign tells of one text; what Verify tells. -/
def SgnAt (f : Nat → Nat) (A : Option Addr) (n c : Nat) (s : Nat → Nat) (w : World) : Prop := ∀ (q : Nat) (w' : World), Below w.heap.size w w' → Blk w' q #[.slice A n c] 23 → Ret 7 #[.agg (vals .u8 32 f), .slice (some ⟨q, 0, none⟩) 1 1] w' (.agg (vals .u8 64 s))
def VerAt (g s : Nat → Nat) (A : Option Addr) (n c : Nat) (b : Bool) (w : World) : Prop := ∀ (q : Nat) (w' : World), Below w.heap.size w w' → Blk w' q #[.slice A n c] 23 → Ret 10 #[.agg (vals .u8 32 g), .agg (vals .u8 64 s), .slice (some ⟨q, 0, none⟩) 1 1] w' (.bool b)
theorem sgnAt (f : Nat → Nat) (hf : ∀ i, f i < 256) {w : World} {A : Option Addr} {l : List Nat} {c : Nat} (hG : Glb w) (hA : T.Rds w A l) (hc : l.length ≤ c) (hl : ∀ x ∈ l, x < 256) (hn : l.length ≤ 500) : SgnAt f A l.length c (sgn f l) w := fun q w' hb hq =>
  sign_c f (some ⟨q, 0, none⟩) [(A, l, c)] 1 l hf w' (hG.low hb) (pt_one1 hq rfl) (ptok_one (hA.low hb) hc hl) (cat_one _) (by omega) (by simp)
theorem verAt (g s : Nat → Nat) (hg : ∀ i, g i < 256) (hs : ∀ i, s i < 256) {w : World} {A : Option Addr} {l : List Nat} {c : Nat} (hG : Glb w) (hA : T.Rds w A l) (hc : l.length ≤ c) (hl : ∀ x ∈ l, x < 256) (hn : l.length ≤ 500) (b : Bool) (hb : Hid (verB g s l = b)) : VerAt g s A l.length c b w := fun q w' hb' hq =>
  verify_b g s (some ⟨q, 0, none⟩) [(A, l, c)] 1 l b hb hg hs w' (hG.low hb') (pt_one1 hq rfl) (ptok_one (hA.low hb') hc hl) (cat_one _) (by omega) (by simp)
theorem idx22 {o : Oper} {ρ : Operand → Value} {x y : Operand} (ho : o.op = .indexAddr 22 x y) {b k : Nat} (hk : k < 32) (hy : ρ y = .int .i64 ((k : Nat) : Int)) (hx : ρ x = .pointer (some ⟨b, 0, none⟩)) (w : World) : (execOp ρ o).run Tryz.prog w = .ok (.value (.pointer (some ⟨b, k, none⟩))) w := by
  have h0 : (0 : Int) ≤ (k : Int) := by omega
  have h1 : (k : Int) < 32 := by omega
  unfold execOp
  simp only [ho, hx, hy]
  go_simp
theorem idx28 {o : Oper} {ρ : Operand → Value} {x y : Operand} (ho : o.op = .indexAddr 24 x y) {b k : Nat} (hk : k < 64) (hy : ρ y = .int .i64 ((k : Nat) : Int)) (hx : ρ x = .pointer (some ⟨b, 0, none⟩)) (w : World) : (execOp ρ o).run Tryz.prog w = .ok (.value (.pointer (some ⟨b, k, none⟩))) w := by
  have h0 : (0 : Int) ≤ (k : Int) := by omega
  have h1 : (k : Int) < 64 := by omega
  unfold execOp
  simp only [ho, hx, hy]
  go_simp
theorem add32 {o : Oper} {ρ : Operand → Value} {y : Operand} (ho : o.op = .binOp .add 3 (.const (.int .i64 32)) y 3) {k : Nat} (hk : k < 32) (hc : ρ (.const (.int .i64 32)) = .int .i64 32) (hy : ρ y = .int .i64 ((k : Nat) : Int)) (w : World) : (execOp ρ o).run Tryz.prog w = .ok (.value (.int .i64 ((32 + k : Nat) : Int))) w := by
  have h1 : IntKind.i64.wrap (32 + (k : Int)) = ((32 + k : Nat) : Int) := by rw [T.wrap_big _ (by omega) (by omega)]; omega
  unfold execOp
  simp only [ho, hc, hy]
  go_simp
/-- The first k of a row. -/
def cutb (g : Nat → Nat) (k j : Nat) : Nat := if j < k then g j else 0
theorem cutb_zero (n : Nat) (g : Nat → Nat) : vals .u8 n (fun _ => 0) = vals .u8 n (cutb g 0) := vals_congr _ _ _ _ fun j _ => by unfold cutb; rw [if_neg (by omega)]
theorem cutb_next (n : Nat) (g : Nat → Nat) (k : Nat) : vals .u8 n (fun j => if j = k then g k else cutb g k j) = vals .u8 n (cutb g (k + 1)) := vals_congr _ _ _ _ fun j _ => by
  unfold cutb
  by_cases h : j = k
  · subst h; rw [if_pos rfl, if_pos (by omega)]
  · by_cases h2 : j < k
    · rw [if_neg h, if_pos h2, if_pos (by omega)]
    · rw [if_neg h, if_neg h2, if_neg (by omega)]
theorem cutb_all (n : Nat) (g : Nat → Nat) : vals .u8 n (cutb g n) = vals .u8 n g := vals_congr _ _ _ _ fun j hj => by unfold cutb; rw [if_pos hj]
theorem hl500 {l : List Nat} (h : ¬ 500 < l.length) : l.length ≤ 500 := by omega
end Go.Proofs.YtbpmakegimgbpaaGreatDoor
namespace Go.Proofs.YtbpmakegimgbpaaGreatDoor
set_option maxRecDepth 100000
open Go.ChangeShapes Go.WideShapes Go.ChangeAt Go.RowKit

theorem own : ownKnob Tryz.prog.godebug = none := by kernel_rfl
theorem laidOut : laidOutB Tryz.prog = true := by kernel_rfl
theorem cellsOf5 : Tryz.prog.cellsOf 5 = 1 := by kernel_rfl
theorem cellsOfB : Tryz.prog.cellsOf 22 = 32 := by kernel_rfl
theorem cellsOfC : Tryz.prog.cellsOf 24 = 64 := by kernel_rfl
theorem cellsOfU : Tryz.prog.cellsOf 44 = 1 := by kernel_rfl
theorem cellsOf8 : Tryz.prog.cellsOf 72 = 8 := by kernel_rfl
theorem cellsOf80 : Tryz.prog.cellsOf 132 = 80 := by kernel_rfl
theorem cellsOf4 : Tryz.prog.cellsOf 45 = 4 := by kernel_rfl
theorem gOrder : Tryz.prog.globalNamed "fardel/scalar.order" = some 0 := by kernel_rfl
theorem tOrder : (Tryz.prog.globals[0]?).map (·.type) = some 45 := by kernel_rfl
theorem gFirst : Tryz.prog.globalNamed "fardel/sha.first" = some 1 := by kernel_rfl
theorem tFirst : (Tryz.prog.globals[1]?).map (·.type) = some 72 := by kernel_rfl
theorem gCons : Tryz.prog.globalNamed "fardel/sha.constants" = some 2 := by kernel_rfl
theorem tCons : (Tryz.prog.globals[2]?).map (·.type) = some 132 := by kernel_rfl

/-- What a cell's byte is. -/
def byteOf (v : Value) : Nat := match v with | .int .u8 n => n.toNat | _ => 0

set_option maxRecDepth 100000 in
theorem open_arr {H : Type} {enc : TypeId × Value → H} {W : World} {base b2 N : Nat} {t : TypeId} {spare : Nat → Bool} {held : Bool} {v : Value} {d : DataW H} {p : List MemPlace} (hu : Tryz.prog.underlying t = some (.array N 5)) (hc : Tryz.prog.cellsOf t = N) (hv : Value.okWide Tryz.prog W .any b2 t v)
    (h : DataW.Trod enc Tryz.prog W base spare held t v d p) : ∃ f : Nat → Nat, (∀ i, f i < 256) ∧ v = .agg (vals .u8 N f) := by
  have hv' : ∃ cs, v = .agg cs ∧ cs.size = N := by
    unfold Value.okWide at hv
    rw [hu] at hv
    obtain ⟨cs, rfl, hs, _⟩ := hv
    exact ⟨cs, rfl, by rw [hs, hc]⟩
  obtain ⟨cs, rfl, hs⟩ := hv'
  obtain ⟨fuel, hf⟩ := h
  obtain ⟨xs, m, _, _, _, hl, hx⟩ := DataW.trod_array hu hf
  have hcell : ∀ i, i < N → ∃ n : Nat, n < 256 ∧ cs[i]? = some (.int .u8 (n : Int)) := by
    intro i hi
    have h1 := hx i hi
    rw [List.getElem?_eq_getElem (by omega), cellsOf5, Nat.mul_one] at h1
    obtain ⟨n, e0, _, wf⟩ := DataW.trod_int Tryz.underlying5 h1
    have hb := bounds_u8 wf
    refine ⟨n.toNat, by omega, ?_⟩
    rw [show ((n.toNat : Nat) : Int) = n by omega]
    have h2 : (cs.toList.drop i).take 1 = [.int .u8 n] := e0
    rw [Array.getElem?_eq_getElem (by omega)]
    rw [List.drop_eq_getElem_cons (by simpa using (by omega : i < cs.size))] at h2
    simpa using h2
  refine ⟨fun i => if i < N then byteOf ((cs[i]?).getD undef) else 0, ?_, ?_⟩
  · intro i
    show (if i < N then byteOf ((cs[i]?).getD undef) else 0) < 256
    split
    · rename_i hi
      obtain ⟨n, hn, he⟩ := hcell i hi
      rw [he]
      show n < 256
      exact hn
    · omega
  · congr 1
    apply Array.ext_getElem?
    intro i
    by_cases hi : i < N
    · rw [vals_get _ _ _ i hi, if_pos hi]
      obtain ⟨n, hn, he⟩ := hcell i hi
      rw [he]
      rfl
    · rw [Array.getElem?_eq_none (by omega), Array.getElem?_eq_none (by rw [vals_size]; omega)]
theorem open_b32 {H : Type} {enc : TypeId × Value → H} {W : World} {base b2 : Nat} {spare : Nat → Bool} {held : Bool} {v : Value} {d : DataW H} {p : List MemPlace} (hv : Value.okWide Tryz.prog W .any b2 22 v)
    (h : DataW.Trod enc Tryz.prog W base spare held 22 v d p) : ∃ f : Nat → Nat, (∀ i, f i < 256) ∧ v = .agg (vals .u8 32 f) := open_arr Tryz.underlying22 cellsOfB hv h
theorem open_b64 {H : Type} {enc : TypeId × Value → H} {W : World} {base b2 : Nat} {spare : Nat → Bool} {held : Bool} {v : Value} {d : DataW H} {p : List MemPlace} (hv : Value.okWide Tryz.prog W .any b2 24 v)
    (h : DataW.Trod enc Tryz.prog W base spare held 24 v d p) : ∃ f : Nat → Nat, (∀ i, f i < 256) ∧ v = .agg (vals .u8 64 f) := open_arr Tryz.underlying24 cellsOfC hv h
theorem open_nats {H : Type} {enc : TypeId × Value → H} {W : World} {base b2 B : Nat} {t e : TypeId} {k : IntKind} {spare : Nat → Bool} {held : Bool} {v : Value} {d : DataW H} {p : List MemPlace} (hu : Tryz.prog.underlying t = some (.slice e)) (he : Tryz.prog.underlying e = some (.int k)) (hc : Tryz.prog.cellsOf e = 1) (hB : ∀ n, (Lit.int k n).wf = true → 0 ≤ n ∧ n < (B : Int)) (hv : Value.okWide Tryz.prog W .any b2 t v)
    (h : DataW.Trod enc Tryz.prog W base spare held t v d p) : ∃ (A : Option Addr) (l : List Nat) (cap : Nat), v = .slice A l.length cap ∧ l.length ≤ cap ∧ cap ≤ maxLen ∧ (∀ x ∈ l, x < B) ∧
      (l = [] ∨ ∃ a, A = some a ∧ a.block < W.heap.size ∧ ∀ (i : Nat) (x : Nat), l[i]? = some x → W.cell? (a.add i) = some (.int k (x : Nat))) := by
  obtain ⟨A, len, cap, rfl⟩ := okWide_slice hu hv
  obtain ⟨fuel, hf⟩ := h
  rcases open_ints hu he hc hf with ⟨h0, _⟩ | ⟨a, len', cap', zs, hcs, hb, hl, hm, hz, _, hcell, hwf⟩
  · have : Value.slice A len cap = .slice none 0 0 := by simpa [Value.cells] using h0
    injection this with e1 e2 e3
    subst e1 e2 e3
    exact ⟨none, [], 0, rfl, Nat.le_refl _, Nat.zero_le _, (fun x hx => nomatch hx), Or.inl rfl⟩
  · have : Value.slice A len cap = .slice (some a) len' cap' := by simpa [Value.cells] using hcs
    injection this with e1 e2 e3
    subst e1 e2 e3
    have hle : len ≤ zs.length := by rw [hz]; split <;> omega
    have hlen : ((zs.take len).map Int.toNat).length = len := by simp; omega
    have hget : ∀ (i : Nat) (x : Nat), ((zs.take len).map Int.toNat)[i]? = some x → i < len ∧ W.cell? (a.add i) = some (.int k (x : Nat)) ∧ x < B := by
      intro i x hx
      have hi : i < len := by
        have := (List.getElem?_eq_some_iff.1 hx).1
        rw [hlen] at this; exact this
      rw [List.getElem?_map, List.getElem?_take, if_pos hi, List.getElem?_eq_getElem (by omega)] at hx
      obtain rfl := Option.some.inj hx
      have hb := hB _ (hwf _ (List.getElem_mem (by omega : i < zs.length)))
      refine ⟨hi, ?_, by omega⟩
      rw [hcell i (by omega), List.getD_eq_getElem?_getD, List.getElem?_eq_getElem (by omega), Option.getD_some]
      congr 2; omega
    refine ⟨some a, (zs.take len).map Int.toNat, cap, by rw [hlen], by rw [hlen]; exact hl, hm, fun x hx => ?_, ?_⟩
    · obtain ⟨i, hi⟩ := List.getElem?_of_mem hx
      exact (hget i x hi).2.2
    · by_cases h0 : len = 0
      · left; exact List.eq_nil_of_length_eq_zero (by rw [hlen]; exact h0)
      · right
        refine ⟨a, rfl, ?_, fun i x hx => (hget i x hx).2.1⟩
        have := World.block_lt_of_cell? W _ (hcell 0 (by omega))
        simpa [Addr.add] using this
theorem open_bytes {H : Type} {enc : TypeId × Value → H} {W : World} {base b2 : Nat} {spare : Nat → Bool} {held : Bool} {v : Value} {d : DataW H} {p : List MemPlace} (hv : Value.okWide Tryz.prog W .any b2 23 v)
    (h : DataW.Trod enc Tryz.prog W base spare held 23 v d p) : ∃ (A : Option Addr) (l : List Nat) (cap : Nat), v = .slice A l.length cap ∧ l.length ≤ cap ∧ (∀ x ∈ l, x < 256) ∧ T.Rds W A l := by
  obtain ⟨A, l, cap, hv, hl, _, hx, hr⟩ := open_nats (B := 256) Tryz.underlying23 Tryz.underlying5 cellsOf5 (fun n h => by have := bounds_u8 h; omega) hv h
  exact ⟨A, l, cap, hv, hl, hx, hr⟩

theorem arr_of_trod {W : World} {t : TypeId} {N fuel : Nat} {cs : Array Value} {p : List MemPlace} {enc : TypeId × Value → Unit} {base : Nat} {spare : Nat → Bool} {held : Bool} (ks : List Nat) (hu : Tryz.prog.underlying t = some (.array N 44)) (hc : Tryz.prog.cellsOf t = N)
    (hd : DataW.trod enc Tryz.prog W base spare held fuel t cs.toList = some (.agg (ks.map fun k => .lit (.int .u64 (k : Nat))), p)) : cs = arr N (fun i => ks.getD i 0) := by
  obtain ⟨xs, m1, hm1, hx1, hlen, hn, hel⟩ := DataW.trod_array hu hd
  rw [hc] at hlen
  have hmap : xs.map (·.1) = ks.map fun k => (DataW.lit (.int .u64 (k : Nat)) : DataW Unit) := by
    have := congrArg Prod.fst hx1
    simp only [DataW.agg.injEq] at this
    exact this.symm
  apply Array.ext_getElem?
  intro i
  by_cases hi : i < N
  · rw [arr_get _ _ _ hi]
    have hxi : i < xs.length := by omega
    have h1 := hel i hi
    rw [List.getElem?_eq_getElem hxi, cellsOfU, Nat.mul_one] at h1
    obtain ⟨n, e0, e1, wf⟩ := DataW.trod_int Tryz.underlying44 h1
    have hk : i < ks.length := by have := congrArg List.length hmap; simp at this; omega
    have h3 : (xs.map (·.1))[i]? = (ks.map fun k => (DataW.lit (.int .u64 (k : Nat)) : DataW Unit))[i]? := by rw [hmap]
    rw [List.getElem?_map, List.getElem?_map, List.getElem?_eq_getElem hxi, List.getElem?_eq_getElem hk] at h3
    have h4 := Option.some.inj h3
    rw [e1] at h4
    simp only [DataW.lit.injEq, Lit.int.injEq, true_and] at h4
    have h2 : (cs.toList.drop i).take 1 = [.int .u64 n] := e0
    have hlt : i < cs.toList.length := by omega
    rw [List.drop_eq_getElem_cons hlt] at h2
    rw [Array.getElem?_eq_getElem (by simpa using hlt), List.getD_eq_getElem?_getD, List.getElem?_eq_getElem hk, Option.getD_some, ← h4]
    simpa using h2
  · rw [Array.getElem?_eq_none (by rw [← Array.length_toList]; omega), Array.getElem?_eq_none (by rw [arr_size]; omega)]
theorem var_heap {W : World} {n : String} {g : Nat} {cs : Array Value} (hg : Tryz.prog.globalNamed n = some g) (h : W.var? Tryz.prog n = some cs) : ∃ t fz, W.heap[g]? = some (.cells cs t fz) := by
  unfold World.var? at h
  rw [hg, Option.bind_some] at h
  split at h
  · rename_i cs' t fz hh
    obtain rfl := Option.some.inj h
    exact ⟨t, fz, hh⟩
  · cases h
theorem of_laid {W : World} (h : laidMetH Tryz.prog [("fardel/scalar.order", Rows.laid_fardel_scalar_order), ("fardel/sha.first", Rows.laid_fardel_sha_first), ("fardel/sha.constants", Rows.laid_fardel_sha_constants)] W) : Glb W := by
  rw [MakeChecks.laidMetH_plain _ _ _ (by kernel_rfl)] at h
  obtain ⟨ps, ⟨g0, t0, cs0, f0, p0, q0, hg0, ht0, hv0, hd0, ⟨g1, t1, cs1, f1, p1, q1, hg1, ht1, hv1, hd1, ⟨g2, t2, cs2, f2, p2, q2, hg2, ht2, hv2, hd2, _, _⟩, _⟩, _⟩, _, _⟩ := h
  obtain rfl := Option.some.inj (gOrder.symm.trans hg0)
  obtain rfl := Option.some.inj (tOrder.symm.trans ht0)
  obtain rfl := Option.some.inj (gFirst.symm.trans hg1)
  obtain rfl := Option.some.inj (tFirst.symm.trans ht1)
  obtain rfl := Option.some.inj (gCons.symm.trans hg2)
  obtain rfl := Option.some.inj (tCons.symm.trans ht2)
  obtain rfl := arr_of_trod [6346243789798364141, 1503914060200516822, 0, 1152921504606846976] Tryz.underlying45 cellsOf4 hd0
  obtain rfl := arr_of_trod T.hL Tryz.underlying72 cellsOf8 hd1
  obtain rfl := arr_of_trod T.kL Tryz.underlying132 cellsOf80 hd2
  refine ⟨?_, var_heap gFirst hv1, var_heap gCons hv2⟩
  have e := var_heap gOrder hv0
  rw [show arr 4 (fun i => [6346243789798364141, 1503914060200516822, 0, 1152921504606846976].getD i 0) = arr 4 (limb S.qL) by rw [S.qL_arr]; rfl] at e
  exact e
end Go.Proofs.YtbpmakegimgbpaaGreatDoor

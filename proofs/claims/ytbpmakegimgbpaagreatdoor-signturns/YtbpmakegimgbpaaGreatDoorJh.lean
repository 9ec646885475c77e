/- Texts in one: Hu Hv Pw. -/
import Derived.Test.YtbpmakegimgbpaaGreatDoorJt
import Derived.Test.YtbpmakegimgbpaaGreatDoorJq
namespace Go.Proofs.YtbpmakegimgbpaaGreatDoor
set_option maxRecDepth 100000
open F Go.RowKit Rg

def pub (f : Nat → Nat) : Nat → Nat := ptb (nb (sec f) 32)
theorem byt_n {n : Nat} (h : n < 2 ^ 256) : nb (byt n) 32 = n := nbts h
theorem times_n (n : Nat) (hn : n < 2 ^ 256) (w : World) : Ret 13 #[.agg (vals .u8 32 (byt n))] w (.agg (vals .u8 32 (ptb n))) := by
  have h := times_c (byt n) (byt_lt n) w
  rw [byt_n hn] at h
  exact h
theorem muladd_c (k r : Nat) (s : Nat → Nat) (hk : k < 2 ^ 256) (hr : r < 2 ^ 256) (hs : ∀ i, s i < 256) {w : World} (hG : Glb w) : Ret 16 #[.agg (vals .u8 32 (byt k)), .agg (vals .u8 32 s), .agg (vals .u8 32 (byt r))] w (.agg (vals .u8 32 (byt ((k * nb s 32 + r) % S.qL)))) := by
  have h := S.muladd_at (byt k) s (byt r) _ w rfl hG.1 (byt_lt k) hs (byt_lt r)
  rw [byt_n hk, byt_n hr] at h
  exact h
/-- What the closure tells, of one slice ahead, and of two. -/
theorem clos1 {b q : Nat} {f : Nat → Nat} {w : World} {t : TypeId} {P : Option Addr} {ts : List T.Pt} {pc tb : Nat} {m : List Nat} {r : Nat} (hf : ∀ i, f i < 256) (hG : Glb w) (hB : Blk w b (vals .u8 32 f) t) (ht : Blk w tb #[.slice P ts.length pc] 35) (hq : Blk w q #[.slice (some ⟨b, 0, none⟩) 32 32] 23) (hP : T.Prt w P ts) (hPo : T.PtOk w ts) (hm : T.cat ts = m) (hs : m.length < 2 ^ 30) (hp : ts.length < 2 ^ 30)
    (hr : dgn (bl f ++ m) = r) : Ret 36 #[.slice (some ⟨q, 0, none⟩) 1 1, .pointer (some ⟨tb, 0, none⟩)] w (.agg (vals .u8 32 (byt r))) := by
  have h := clos_c (some ⟨q, 0, none⟩) [pt32 b f] 1 P ts pc tb w hG (pt_one1 hq (bl_len f)) (fun p hp => by
    obtain rfl : p = pt32 b f := by simpa using hp
    exact ok32 hB hf) ht hP hPo (by rw [cat_one, hm]; show (bl f).length + _ < _; rw [bl_len]; omega) (by simp; omega)
  rw [cat_one, hm] at h
  have e : dgn ((pt32 b f).2.1 ++ m) = r := hr
  rw [e] at h
  exact h
theorem clos2 {a b q : Nat} {f g : Nat → Nat} {w : World} {s t : TypeId} {P : Option Addr} {ts : List T.Pt} {pc tb : Nat} {m : List Nat} {r : Nat} (hf : ∀ i, f i < 256) (hg : ∀ i, g i < 256) (hG : Glb w) (hA : Blk w a (vals .u8 32 f) s) (hB : Blk w b (vals .u8 32 g) t) (ht : Blk w tb #[.slice P ts.length pc] 35) (hq : Blk w q #[.slice (some ⟨a, 0, none⟩) 32 32, .slice (some ⟨b, 0, none⟩) 32 32] 23) (hP : T.Prt w P ts) (hPo : T.PtOk w ts) (hm : T.cat ts = m) (hs : m.length < 2 ^ 30) (hp : ts.length < 2 ^ 30)
    (hr : dgn (bl f ++ bl g ++ m) = r) : Ret 36 #[.slice (some ⟨q, 0, none⟩) 2 2, .pointer (some ⟨tb, 0, none⟩)] w (.agg (vals .u8 32 (byt r))) := by
  have h := clos_c (some ⟨q, 0, none⟩) [pt32 a f, pt32 b g] 2 P ts pc tb w hG (pt_two1 hq (bl_len f) (bl_len g)) (fun p hp => by
    rcases List.mem_cons.1 hp with rfl | hp
    · exact ok32 hA hf
    · obtain rfl : p = pt32 b g := by simpa using hp
      exact ok32 hB hg) ht hP hPo (by rw [cat_two, hm]; show (bl f ++ bl g).length + _ < _; rw [List.length_append, bl_len, bl_len]; omega) (by simp; omega)
  rw [cat_two, hm] at h
  have e : dgn ((pt32 a f).2.1 ++ (pt32 b g).2.1 ++ m) = r := hr
  rw [e] at h
  exact h
set_option maxHeartbeats 4000000 in
theorem public_g (f s p : Nat → Nat) (t : Nat → Nat) (hf : ∀ i, f i < 256) (hs : ∀ w, Glb w → Ret 12 #[.agg (vals .u8 32 f)] w (.tuple #[.agg (vals .u8 32 s), .agg (vals .u8 32 p)])) (ht : ∀ w, Ret 13 #[.agg (vals .u8 32 s)] w (.agg (vals .u8 32 t))) (w : World) (hG : Glb w) : Ret 6 #[.agg (vals .u8 32 f)] w (.agg (vals .u8 32 t)) := by
  go_enter Tryz.func6, Tryz.ntmps6
  have _ := hf
  have hO := Wn.start w
  have HG := hide hG
  clear hG
  go_upto_region 0 with (fail)
  refine Rg.ps [0, 1] (fun ν => [(1, D (ν 0)), (2, D (ν 1))]) (OI w (Sq _ (fun ν => [ap ((ν 0), vals .u8 32 f, 22), ap ((ν 1), vals .u8 32 (fun _ => 0), 22)]))) (fun _ => 0) hO (Rg.ac (sn 0 (fun _ => vals .u8 32 f) 22 (fun _ w => run_box 22 _ rfl _ (by kernel_rfl) w) (fun _ => ft (fit_by _))) (Rg.ac (sn 1 (fun _ => vals .u8 32 (fun _ => 0)) 22 (fun _ w => al22 rfl w) (fun _ => ft (fit_by _))) Rg.an)) ?_
  intro ν w1 hO
  simp only [OI, Sq, Sg, ap, qA, qB, qC, qD, qE, qF, qG, Rg.putL, Act.put] at hO ⊢
  generalize ν 0 = n1 at hO ⊢
  generalize ν 1 = n2 at hO ⊢
  clear ν
  go_upto_region 1 with (fail)
  refine Rg.ps [1, 5, 6, 7, 8] (fun ν => [(6, .agg (vals .u8 32 f)), (7, .tuple #[.agg (vals .u8 32 s), .agg (vals .u8 32 p)]), (5, .tuple #[.agg (vals .u8 32 s), .agg (vals .u8 32 p)]), (8, .agg (vals .u8 32 s)), (9, .agg (vals .u8 32 p)), (3, D (ν 5)), (4, D (ν 6))]) (OI w (Sq _ (fun ν => [id, ap ((ν 5), vals .u8 32 (fun _ => 0), 22), ap ((ν 6), vals .u8 32 (fun _ => 0), 22), se 2 ((ν 5), vals .u8 32 s, 22), se 3 ((ν 6), vals .u8 32 p, 22)]))) (fun _ => 0) hO (Rg.ac (nld 0 0 0 (fun _ => n1) (fun _ => vals .u8 32 f) (t1 0) Tryz.underlying22) (Rg.ac (sq 0 12 (fun _ => #[.agg (vals .u8 32 f)]) (fun _ => .tuple #[.agg (vals .u8 32 s), .agg (vals .u8 32 p)]) (fun ν w hO => hs w (HG.out.low hO.low))) (Rg.ac nV (Rg.ac nV (Rg.ac nV (Rg.ac (sn 1 (fun _ => vals .u8 32 (fun _ => 0)) 22 (fun _ w => al22 rfl w) (fun _ => ft (fit_by _))) (Rg.ac (sn 2 (fun _ => vals .u8 32 (fun _ => 0)) 22 (fun _ w => al22 rfl w) (fun _ => ft (fit_by _))) (Rg.ac (sr 3 2 (fun _ => vals .u8 32 s) (fun _ => ft (fit_by _))) (Rg.ac (sr 4 3 (fun _ => vals .u8 32 p) (fun _ => ft (fit_by _))) Rg.an))))))))) ?_
  intro ν w2 hO
  simp only [OI, Sq, Sg, ap, se, id, qA, qB, qC, qD, qE, qF, qG, Rg.putL, Act.put] at hO ⊢
  generalize ν 5 = n3 at hO ⊢
  generalize ν 6 = n4 at hO ⊢
  clear ν
  go_upto_region 2 with (fail)
  refine Rg.ps [1, 2] (fun _ => [(10, .agg (vals .u8 32 s)), (11, .agg (vals .u8 32 t))]) (OI w (Sq _ (fun _ => [id, se 1 (n2, vals .u8 32 t, 22)]))) (fun _ => 0) hO (Rg.ac (nld 0 0 2 (fun _ => n3) (fun _ => vals .u8 32 s) (t1 0) Tryz.underlying22) (Rg.ac (sC 0 13 _ _ (fun _ => ht)) (Rg.ac (sr 1 1 (fun _ => vals .u8 32 t) (fun _ => ft (fit_by _))) Rg.an))) ?_
  intro ν w3 hO
  simp only [OI, Sq, Sg, se, id, qC, qD, qE, qF, qG, Rg.putL, Act.put] at hO ⊢
  clear ν
  go_wp2_with fail
  refine bodyPost_ret (v := .agg (vals .u8 32 t)) (results_cell_row Tryz.results6 _ _ n2 22 _ (0, 0) _ rfl (hO.row 1 rfl) Tryz.underlying22 rfl (fit_by _).size) rfl ⟨rfl, hO.low⟩
theorem public_c (f : Nat → Nat) (hf : ∀ i, f i < 256) (w : World) (hG : Glb w) : Ret 6 #[.agg (vals .u8 32 f)] w (.agg (vals .u8 32 (pub f))) := public_g f (sec f) (pre f) (pub f) hf (secret_c f hf) (times_c _ (sec_lt f)) w hG
def sigv (t : Nat → Nat → Nat) (r k : Nat) (s : Nat → Nat) : Nat → Nat := jn (t r) (byt ((k * nb s 32 + r) % S.qL))
set_option maxHeartbeats 4000000 in
theorem sign_g (f s p : Nat → Nat) (t : Nat → Nat → Nat) (r k : Nat) (P : Option Addr) (ps : List T.Pt) (pc : Nat) (m : List Nat) (hf : ∀ i, f i < 256) (hs : ∀ w, Glb w → Ret 12 #[.agg (vals .u8 32 f)] w (.tuple #[.agg (vals .u8 32 s), .agg (vals .u8 32 p)])) (hsl : ∀ i, s i < 256) (hpl : ∀ i, p i < 256) (htl : ∀ n i, t n i < 256) (ht : ∀ w, Ret 13 #[.agg (vals .u8 32 s)] w (.agg (vals .u8 32 (t (nb s 32))))) (htn : ∀ n, n < 2 ^ 256 → ∀ w, Ret 13 #[.agg (vals .u8 32 (byt n))] w (.agg (vals .u8 32 (t n))))
    (w : World) (hG : Glb w) (hP : T.Prt w P ps) (hO : T.PtOk w ps) (hm : T.cat ps = m) (hms : m.length < 2 ^ 30) (hp : ps.length < 2 ^ 30) (hr : dgn (bl p ++ m) = r) (hk : dgn (bl (t r) ++ bl (t (nb s 32)) ++ m) = k) : Ret 7 #[.agg (vals .u8 32 f), .slice P ps.length pc] w (.agg (vals .u8 64 (sigv t r k s))) := by
  go_enter Tryz.func7, Tryz.ntmps7
  have _ := hf
  have HhG := hide hG
  have HhP := hide hP
  have HhO := hide hO
  have Hhm := hide hm
  have Hhms := hide hms
  have Hhp := hide hp
  have Hhr := hide hr
  have Hhk := hide hk
  have Hrl : r < 2 ^ 256 := hr ▸ dgn_lt _
  have Hkl : k < 2 ^ 256 := hk ▸ dgn_lt _
  obtain ⟨a, ha⟩ : ∃ a, a = t (nb s 32) := ⟨_, rfl⟩
  rw [← ha] at ht hk
  have Hk2 := hide hk
  have hal : ∀ i, a i < 256 := ha ▸ htl _
  obtain ⟨x, hx⟩ : ∃ x, x = t r := ⟨_, rfl⟩
  have Hx := hide hx
  have hxl : ∀ i, x i < 256 := hx ▸ htl _
  have Htr := htn r Hrl
  rw [← hx] at Htr
  obtain ⟨y, hy⟩ : ∃ y, y = (k * nb s 32 + r) % S.qL := ⟨_, rfl⟩
  have Hy := hide hy
  clear hG hP hO hm hms hp hr hk ha hx hy Hhk htl htn
  have hO := Wn.start w
  go_upto_region 0 with (fail)
  refine Rg.ps [0, 1] (fun ν => [(2, D (ν 0)), (4, D (ν 1))]) (OI w (Sq _ (fun ν => [ap ((ν 0), vals .u8 32 f, 22), ap ((ν 1), vals .u8 64 (fun _ => 0), 24)]))) (fun _ => 0) hO (Rg.ac (sn 0 (fun _ => vals .u8 32 f) 22 (fun _ w => run_box 22 _ rfl _ (by kernel_rfl) w) (fun _ => ft (fit_by _))) (Rg.ac (sn 1 (fun _ => vals .u8 64 (fun _ => 0)) 24 (fun _ w => alb6 rfl w) (fun _ => ft (fit_b6 _))) Rg.an)) ?_
  intro ν w1 hO
  simp only [OI, Sq, Sg, ap, qA, qB, qC, qD, qE, qF, qG, Rg.putL, Act.put] at hO ⊢
  generalize ν 0 = n2 at hO ⊢
  generalize ν 1 = n4 at hO ⊢
  clear ν
  go_upto_region 1 with (fail)
  refine Rg.ps [1, 5, 6, 7, 8] (fun ν => [(13, .agg (vals .u8 32 f)), (14, .tuple #[.agg (vals .u8 32 s), .agg (vals .u8 32 p)]), (12, .tuple #[.agg (vals .u8 32 s), .agg (vals .u8 32 p)]), (15, .agg (vals .u8 32 s)), (16, .agg (vals .u8 32 p)), (5, D (ν 5)), (6, D (ν 6))]) (OI w (Sq _ (fun ν => [id, ap ((ν 5), vals .u8 32 (fun _ => 0), 22), ap ((ν 6), vals .u8 32 (fun _ => 0), 22), se 2 ((ν 5), vals .u8 32 s, 22), se 3 ((ν 6), vals .u8 32 p, 22)]))) (fun _ => 0) hO (Rg.ac (nld 0 0 0 (fun _ => n2) (fun _ => vals .u8 32 f) (t1 0) Tryz.underlying22) (Rg.ac (sq 0 12 (fun _ => #[.agg (vals .u8 32 f)]) (fun _ => .tuple #[.agg (vals .u8 32 s), .agg (vals .u8 32 p)]) (fun ν w hO => hs w (HhG.out.low hO.low))) (Rg.ac nV (Rg.ac nV (Rg.ac nV (Rg.ac (sn 1 (fun _ => vals .u8 32 (fun _ => 0)) 22 (fun _ w => al22 rfl w) (fun _ => ft (fit_by _))) (Rg.ac (sn 2 (fun _ => vals .u8 32 (fun _ => 0)) 22 (fun _ w => al22 rfl w) (fun _ => ft (fit_by _))) (Rg.ac (sr 3 2 (fun _ => vals .u8 32 s) (fun _ => ft (fit_by _))) (Rg.ac (sr 4 3 (fun _ => vals .u8 32 p) (fun _ => ft (fit_by _))) Rg.an))))))))) ?_
  intro ν w2 hO
  simp only [OI, Sq, Sg, ap, se, id, qA, qB, qC, qD, qE, qF, qG, Rg.putL, Act.put] at hO ⊢
  generalize ν 5 = n5 at hO ⊢
  generalize ν 6 = n6 at hO ⊢
  clear ν
  go_upto_region 2 with (fail)
  refine Rg.ps [1, 2, 3] (fun ν => [(17, .agg (vals .u8 32 s)), (18, .agg (vals .u8 32 a)), (7, D (ν 2))]) (OI w (Sq _ (fun ν => [id, ap ((ν 2), vals .u8 32 (fun _ => 0), 22), se 4 ((ν 2), vals .u8 32 a, 22)]))) (fun _ => 0) hO (Rg.ac (nld 0 0 2 (fun _ => n5) (fun _ => vals .u8 32 s) (t1 0) Tryz.underlying22) (Rg.ac (sC 0 13 _ _ (fun _ => ht)) (Rg.ac (sn 1 (fun _ => vals .u8 32 (fun _ => 0)) 22 (fun _ w => al22 rfl w) (fun _ => ft (fit_by _))) (Rg.ac (sr 2 4 (fun _ => vals .u8 32 a) (fun _ => ft (fit_by _))) Rg.an)))) ?_
  intro ν w3 hO
  simp only [OI, Sq, Sg, ap, se, id, qA, qB, qC, qD, qE, qF, qG, Rg.putL, Act.put] at hO ⊢
  generalize ν 2 = n7 at hO ⊢
  clear ν
  go_upto_region 3 with (fail)
  refine Rg.ps [1] (fun ν => [(19, .slice P ps.length pc), (20, .func (.func 36) #[] #[.pointer (some ⟨(ν 1), 0, none⟩)]), (8, .func (.func 36) #[] #[.pointer (some ⟨(ν 1), 0, none⟩)])]) (OI w (Sq _ (fun ν => [ap ((ν 1), #[(.slice P ps.length pc)], 35)]))) (fun _ => 0) hO (Rg.ac nV (Rg.ac (sf 0 14 (fun _ => #[.slice P ps.length pc]) (fun ν q => .func (.func 36) #[] #[.pointer (some ⟨q, 0, none⟩)]) (fun _ => #[(.slice P ps.length pc)]) 35 (fun ν w hO => cn_ret ((behind_c P ps.length pc) w)) (fun _ => ft (fit_sl _ _ _))) (Rg.ac nV Rg.an))) ?_
  intro ν w4 hO
  simp only [OI, Sq, Sg, ap, qA, qB, qC, qD, qE, qF, qG, Rg.putL, Act.put] at hO ⊢
  generalize ν 1 = n20 at hO ⊢
  clear ν
  go_upto_region 4 with (fail)
  refine Rg.ps [2, 3, 4, 5] (fun ν => [(21, .func (.func 36) #[] #[.pointer (some ⟨n20, 0, none⟩)]), (22, .slice (some ⟨n6, 0, none⟩) 32 32), (23, .slice (some ⟨(ν 2), 0, none⟩) 1 1), (24, .agg (vals .u8 32 (byt r))), (9, D (ν 4))]) (OI w (Sq _ (fun ν => [ap ((ν 2), #[.slice (some ⟨n6, 0, none⟩) 32 32], 23), id, ap ((ν 4), vals .u8 32 (fun _ => 0), 22), se 7 ((ν 4), vals .u8 32 (byt r), 22)]))) (fun _ => 0) hO (Rg.ac nV (Rg.ac nV (Rg.ac (sv 0 (fun ν q => .slice (some ⟨q, 0, none⟩) 1 1) (fun _ => #[.slice (some ⟨n6, 0, none⟩) 32 32]) 23 (fun _ _ => run_bsl 35 23 1 _ rfl #[(0, .slice (some ⟨n6, 0, none⟩) 32 32)] (by kernel_rfl) (by kernel_rfl)) (fun _ => fit_any (by kernel_rfl))) (Rg.ac (sq 1 36 (fun ν => #[.slice (some ⟨(ν 2), 0, none⟩) 1 1, .pointer (some ⟨n20, 0, none⟩)]) (fun _ => .agg (vals .u8 32 (byt r))) (fun ν w hO => clos1 hpl (HhG.out.low hO.low) (Wn.row hO 3 rfl) (Wn.row hO 5 rfl) (Wn.row hO 6 rfl) (HhP.out.low hO.low) (HhO.out.low hO.low) Hhm.out Hhms.out Hhp.out Hhr.out)) (Rg.ac (sn 2 (fun _ => vals .u8 32 (fun _ => 0)) 22 (fun _ w => al22 rfl w) (fun _ => ft (fit_by _))) (Rg.ac (sr 3 7 (fun _ => vals .u8 32 (byt r)) (fun _ => ft (fit_by _))) Rg.an)))))) ?_
  intro ν w5 hO
  simp only [OI, Sq, Sg, ap, se, id, qA, qB, qC, qD, qE, qF, qG, Rg.putL, Act.put] at hO ⊢
  generalize ν 2 = n23 at hO ⊢
  generalize ν 4 = n9 at hO ⊢
  clear ν
  go_upto_region 5 with (fail)
  refine Rg.ps [1, 2, 3] (fun ν => [(25, .agg (vals .u8 32 (byt r))), (26, .agg (vals .u8 32 x)), (10, D (ν 2))]) (OI w (Sq _ (fun ν => [id, ap ((ν 2), vals .u8 32 (fun _ => 0), 22), se 8 ((ν 2), vals .u8 32 x, 22)]))) (fun _ => 0) hO (Rg.ac (nld 0 0 7 (fun _ => n9) (fun _ => vals .u8 32 (byt r)) (t1 0) Tryz.underlying22) (Rg.ac (sC 0 13 _ _ (fun _ => Htr)) (Rg.ac (sn 1 (fun _ => vals .u8 32 (fun _ => 0)) 22 (fun _ w => al22 rfl w) (fun _ => ft (fit_by _))) (Rg.ac (sr 2 8 (fun _ => vals .u8 32 x) (fun _ => ft (fit_by _))) Rg.an)))) ?_
  intro ν w6 hO
  simp only [OI, Sq, Sg, ap, se, id, qA, qB, qC, qD, qE, qF, qG, Rg.putL, Act.put] at hO ⊢
  generalize ν 2 = n10 at hO ⊢
  clear ν
  go_upto_region 6 with (fail)
  refine Rf.pg (fun ν => [(27, .func (.func 36) #[] #[.pointer (some ⟨n20, 0, none⟩)]), (28, .slice (some ⟨n10, 0, none⟩) 32 32), (29, .slice (some ⟨n7, 0, none⟩) 32 32), (30, .slice (some ⟨(ν 3), 0, none⟩) 2 2), (31, .agg (vals .u8 32 (byt k))), (11, D (ν 5))]) [(n2, vals .u8 32 f, 22, none), (n4, vals .u8 64 (fun _ => 0), 24, none), (n5, vals .u8 32 s, 22, none), (n6, vals .u8 32 p, 22, none), (n7, vals .u8 32 a, 22, none), (n20, #[(.slice P ps.length pc)], 35, none), (n23, #[.slice (some ⟨n6, 0, none⟩) 32 32], 23, none), (n9, vals .u8 32 (byt r), 22, none), (n10, vals .u8 32 x, 22, none)] (fun _ => [(3, #[.slice (some ⟨n10, 0, none⟩) 32 32, .slice (some ⟨n7, 0, none⟩) 32 32], 23, none), (5, vals .u8 32 (fun _ => 0), 22, some (6, vals .u8 32 (byt k)))]) (fun _ => 0) hO.drew (Rg.ac Rf.fv (Rg.ac Rf.fv (Rg.ac Rf.fv (Rg.ac (Rf.gn 0 (fun ν q => .slice (some ⟨q, 0, none⟩) 2 2) (fun _ _ => rfl) (fun _ _ => rfl) (fun _ _ => run_bsl 35 23 2 _ rfl #[(0, .slice (some ⟨n10, 0, none⟩) 32 32), (1, .slice (some ⟨n7, 0, none⟩) 32 32)] (by kernel_rfl) (by kernel_rfl)) (fun _ => fit_any (by kernel_rfl))) (Rg.ac (Rf.fq 36 (fun ν => #[.slice (some ⟨(ν 3), 0, none⟩) 2 2, .pointer (some ⟨n20, 0, none⟩)]) (fun _ => .agg (vals .u8 32 (byt k))) (fun D ν w my hO => clos2 hxl hal (HhG.out.low hO.low) (Rf.rl_ hO 8 rfl) (Rf.rl_ hO 4 rfl) (Rf.rl_ hO 5 rfl) (Rf.rm_ hO 0 rfl (my.pre 3 (by kernel_rfl))) (HhP.out.low hO.low) (HhO.out.low hO.low) Hhm.out Hhms.out Hhp.out (Hx.out ▸ Hk2.out))) (Rg.ac (Rf.ga 1 (fun _ _ => rfl) (fun _ _ => rfl) (fun _ w => al22 rfl w) (fun _ => ft (fit_by _))) (Rg.ac (Rf.gm 1 5 (fun _ => rfl) (ft (fit_by _))) Rg.an))))))) ?_
  intro ν w7 hO
  replace hO : Wn w w7 [(n2, vals .u8 32 f, 22), (n4, vals .u8 64 (fun _ => 0), 24), (n5, vals .u8 32 s, 22), (n6, vals .u8 32 p, 22), (n7, vals .u8 32 a, 22), (n20, #[(.slice P ps.length pc)], 35), (n23, #[.slice (some ⟨n6, 0, none⟩) 32 32], 23), (n9, vals .u8 32 (byt r), 22), (n10, vals .u8 32 x, 22), ((ν 3), #[.slice (some ⟨n10, 0, none⟩) 32 32, .slice (some ⟨n7, 0, none⟩) 32 32], 23), ((ν 5), vals .u8 32 (byt k), 22)] := hO
  simp only [qC, qD, qE, Rg.putL, Act.put]
  generalize ν 3 = n30 at hO ⊢
  generalize ν 5 = n11 at hO ⊢
  clear ν
  go_upto_region 7 with (fail)
  refine Rg.pd [4, 5, 6] (fun _ => [(32, .agg (vals .u8 32 x)), (33, .agg (vals .u8 32 (byt k))), (34, .agg (vals .u8 32 s)), (35, .agg (vals .u8 32 (byt r))), (36, .agg (vals .u8 32 (byt y))), (37, .agg (vals .u8 64 (jn x (byt y))))]) (OI w (Sq _ (fun _ => [id, id, se 1 (n4, vals .u8 64 (jn x (byt y)), 24)]))) (fun _ => 0) hO.drew (Rg.ac (nld 0 1 8 (fun _ => n10) (fun _ => vals .u8 32 x) (t2 0 1 (t1 1)) Tryz.underlying22) (Rg.ac (nld 0 0 10 (fun _ => n11) (fun _ => vals .u8 32 (byt k)) (t1 0) Tryz.underlying22) (Rg.ac (nld 0 0 2 (fun _ => n5) (fun _ => vals .u8 32 s) (t1 0) Tryz.underlying22) (Rg.ac (nld 0 0 7 (fun _ => n9) (fun _ => vals .u8 32 (byt r)) (t1 0) Tryz.underlying22) (Rg.ac (sq 0 16 (fun _ => #[.agg (vals .u8 32 (byt k)), .agg (vals .u8 32 s), .agg (vals .u8 32 (byt r))]) (fun _ => .agg (vals .u8 32 (byt y))) (fun ν w hO => Hy.out ▸ muladd_c k r s Hkl Hrl hsl (HhG.out.low hO.low))) (Rg.ac (sC 1 15 (fun _ => #[.agg (vals .u8 32 x), .agg (vals .u8 32 (byt y))]) (fun _ => .agg (vals .u8 64 (jn x (byt y)))) (fun _ => (join_c _ _ hxl (byt_lt _)))) (Rg.ac (sr 2 1 (fun _ => vals .u8 64 (jn x (byt y))) (fun _ => ft (fit_b6 _))) Rg.an))))))) ?_
  intro ν w8 hO
  simp only [OI, Sq, Sg, se, id, qC, qD, qE, qF, qG, Rg.putL, Act.put] at hO ⊢
  clear ν
  go_wp2_with fail
  refine bodyPost_ret (v := .agg (vals .u8 64 (jn x (byt y)))) (results_cell_row Tryz.results7 _ _ n4 24 _ (0, 0) _ rfl (hO.row 1 rfl) Tryz.underlying24 rfl (fit_b6 _).size) rfl ⟨by unfold sigv; rw [Hx.out, Hy.out], hO.low⟩
end Go.Proofs.YtbpmakegimgbpaaGreatDoor
namespace Go.Proofs.YtbpmakegimgbpaaGreatDoor
set_option maxRecDepth 100000
open F Go.RowKit Rg

theorem fine_c (f : Nat → Nat) (hf : ∀ i, f i < 256) {w : World} (hG : Glb w) : Ret 23 #[.agg (vals .u8 32 f)] w (.bool (decide (nb f 32 < S.qL))) := S.fine_at f _ w rfl hG.1 hf
set_option maxHeartbeats 4000000 in
theorem verify_g (g s s2 : Nat → Nat) (R A : Nat × Nat) (br ba bf : Bool) (k : Nat) (P : Option Addr) (pp : List T.Pt) (pc : Nat) (m : List Nat) (hg : ∀ i, g i < 256) (hs : ∀ i, s i < 256) (hs2 : Hid (s2 = fun j => s (32 + j))) (hs2l : ∀ i, s2 i < 256) (hR : ∀ w, Ret 22 #[.agg (vals .u8 32 s)] w (.tuple #[.agg (pt R), .bool br])) (hA : ∀ w, Ret 22 #[.agg (vals .u8 32 g)] w (.tuple #[.agg (pt A), .bool ba])) (hF : ∀ w, Glb w → Ret 23 #[.agg (vals .u8 32 s2)] w (.bool bf)) (hok : Ok7 R) (hoa : Ok7 A)
    (w : World) (hG : Glb w) (hP : T.Prt w P pp) (hO : T.PtOk w pp) (hm : T.cat pp = m) (hms : m.length < 2 ^ 30) (hp : pp.length < 2 ^ 30) (hk : dgn (bl s ++ bl g ++ m) = k) : Ret 10 #[.agg (vals .u8 32 g), .agg (vals .u8 64 s), .slice P pp.length pc] w (.bool (br && ba && bf && decide (R = add7 (mul7 base7 (nb s2 32)) (mul7 (neg7 A) k)))) := by
  go_enter Tryz.func10, Tryz.ntmps10
  have HhG := hide hG
  have HhP := hide hP
  have HhO := hide hO
  have Hhm := hide hm
  have Hhms := hide hms
  have Hhp := hide hp
  have Hhk := hide hk
  have Hkl : k < 2 ^ 256 := hk ▸ dgn_lt _
  have Hh := halves_c s
  rw [← hs2.out] at Hh
  clear hG hP hO hm hms hp hk
  have hO := Wn.start w
  go_upto_region 0 with (fail)
  refine Rg.ps [0, 1] (fun ν => [(3, D (ν 0)), (4, D (ν 1)), (6, .bool false)]) (OI w (Sq _ (fun ν => [ap ((ν 0), vals .u8 32 g, 22), ap ((ν 1), vals .u8 64 s, 24)]))) (fun _ => 0) hO (Rg.ac (sn 0 (fun _ => vals .u8 32 g) 22 (fun _ w => run_box 22 _ rfl _ (by kernel_rfl) w) (fun _ => ft (fit_by _))) (Rg.ac (sn 1 (fun _ => vals .u8 64 s) 24 (fun _ w => run_box 24 _ rfl _ (by kernel_rfl) w) (fun _ => ft (fit_b6 _))) (Rg.ac nV Rg.an))) ?_
  intro ν w1 hO
  simp only [OI, Sq, Sg, ap, qA, qB, qC, qD, qE, qF, qG, Rg.putL, Act.put] at hO ⊢
  generalize ν 0 = n3 at hO ⊢
  generalize ν 1 = n4 at hO ⊢
  clear ν
  go_upto_region 1 with (fail)
  refine Rg.ps [1, 5, 6, 7, 8] (fun ν => [(15, .agg (vals .u8 64 s)), (16, .tuple #[.agg (vals .u8 32 s), .agg (vals .u8 32 s2)]), (14, .tuple #[.agg (vals .u8 32 s), .agg (vals .u8 32 s2)]), (17, .agg (vals .u8 32 s)), (18, .agg (vals .u8 32 s2)), (7, D (ν 5)), (8, D (ν 6))]) (OI w (Sq _ (fun ν => [id, ap ((ν 5), vals .u8 32 (fun _ => 0), 22), ap ((ν 6), vals .u8 32 (fun _ => 0), 22), se 2 ((ν 5), vals .u8 32 s, 22), se 3 ((ν 6), vals .u8 32 s2, 22)]))) (fun _ => 0) hO (Rg.ac (nld 0 0 1 (fun _ => n4) (fun _ => vals .u8 64 s) (t1 0) Tryz.underlying24) (Rg.ac (sC 0 21 _ _ (fun _ => Hh)) (Rg.ac nV (Rg.ac nV (Rg.ac nV (Rg.ac (sn 1 (fun _ => vals .u8 32 (fun _ => 0)) 22 (fun _ w => al22 rfl w) (fun _ => ft (fit_by _))) (Rg.ac (sn 2 (fun _ => vals .u8 32 (fun _ => 0)) 22 (fun _ w => al22 rfl w) (fun _ => ft (fit_by _))) (Rg.ac (sr 3 2 (fun _ => vals .u8 32 s) (fun _ => ft (fit_by _))) (Rg.ac (sr 4 3 (fun _ => vals .u8 32 s2) (fun _ => ft (fit_by _))) Rg.an))))))))) ?_
  intro ν w2 hO
  simp only [OI, Sq, Sg, ap, se, id, qA, qB, qC, qD, qE, qF, qG, Rg.putL, Act.put] at hO ⊢
  generalize ν 5 = n7 at hO ⊢
  generalize ν 6 = n8 at hO ⊢
  clear ν
  go_upto_region 2 with (fail)
  refine Rg.ps [1, 5, 6] (fun ν => [(20, .agg (vals .u8 32 s)), (21, .tuple #[.agg (pt R), .bool br]), (19, .tuple #[.agg (pt R), .bool br]), (22, .agg (pt R)), (23, .bool br), (9, D (ν 5)), (10, .bool br)]) (OI w (Sq _ (fun ν => [id, ap ((ν 5), ps [0, 0], 49), se 4 ((ν 5), pt R, 49)]))) (fun _ => 0) hO (Rg.ac (nld 0 0 2 (fun _ => n7) (fun _ => vals .u8 32 s) (t1 0) Tryz.underlying22) (Rg.ac (sC 0 22 _ _ (fun _ => hR)) (Rg.ac nV (Rg.ac nV (Rg.ac nV (Rg.ac (sn 1 (fun _ => ps [0, 0]) 49 (fun _ w => al29 rfl w) (fun _ => ft (fit_pt _ _))) (Rg.ac (sr 2 4 (fun _ => pt R) (fun _ => ft (fit_pt _ _))) (Rg.ac nV Rg.an)))))))) ?_
  intro ν w3 hO
  simp only [OI, Sq, Sg, ap, se, id, qA, qB, qC, qD, qE, qF, qG, Rg.putL, Act.put] at hO ⊢
  generalize ν 5 = n9 at hO ⊢
  clear ν
  go_upto_region 3 with (fail)
  refine Rg.ps [1, 5, 6] (fun ν => [(25, .agg (vals .u8 32 g)), (26, .tuple #[.agg (pt A), .bool ba]), (24, .tuple #[.agg (pt A), .bool ba]), (27, .agg (pt A)), (28, .bool ba), (11, D (ν 5)), (12, .bool ba)]) (OI w (Sq _ (fun ν => [id, ap ((ν 5), ps [0, 0], 49), se 5 ((ν 5), pt A, 49)]))) (fun _ => 0) hO (Rg.ac (nld 0 0 0 (fun _ => n3) (fun _ => vals .u8 32 g) (t1 0) Tryz.underlying22) (Rg.ac (sC 0 22 _ _ (fun _ => hA)) (Rg.ac nV (Rg.ac nV (Rg.ac nV (Rg.ac (sn 1 (fun _ => ps [0, 0]) 49 (fun _ w => al29 rfl w) (fun _ => ft (fit_pt _ _))) (Rg.ac (sr 2 5 (fun _ => pt A) (fun _ => ft (fit_pt _ _))) (Rg.ac nV Rg.an)))))))) ?_
  intro ν w4 hO
  simp only [OI, Sq, Sg, ap, se, id, qA, qB, qC, qD, qE, qF, qG, Rg.putL, Act.put] at hO ⊢
  generalize ν 5 = n11 at hO ⊢
  clear ν
  cases br
  · cases ba
    · skip
      go_upto_region 4 with (fail)
      refine Rg.ps [] (fun _ => [(29, .bool false), (30, .bool true), (31, .bool true), (32, U), (33, U), (34, .bool true), (35, .bool true), (36, U), (37, U), (38, U), (39, .bool true)]) (OI w (Sq _ (fun _ => []))) (fun _ => 0) hO (Rg.ac nV (Rg.ac nV (Rg.ac nV (Rg.ac nk (Rg.ac nk (Rg.ac nV (Rg.ac nV (Rg.ac nk (Rg.ac nk (Rg.ac nk (Rg.ac nV Rg.an))))))))))) ?_
      intro ν w5 hO
      simp only [OI, Sq, Sg, qC, qD, qE, Rg.putL, Act.put] at hO ⊢
      clear ν
      go_upto_region 5 with (fail)
      refine Rg.ps [] (fun _ => [(6, .bool false)]) (OI w (Sq _ (fun _ => []))) (fun _ => 0) hO (Rg.ac nV Rg.an) ?_
      intro ν w6 hO
      simp only [OI, Sq, Sg, qC, qD, qE, Rg.putL, Act.put] at hO ⊢
      clear ν
      go_wp2_with fail
      exact bodyPost_ret (v := .bool false) (results_tmp Tryz.results10 _ _ _) rfl ⟨rfl, hO.low⟩
    · skip
      go_upto_region 4 with (fail)
      refine Rg.ps [] (fun _ => [(29, .bool false), (30, .bool true), (31, .bool true), (32, U), (33, U), (34, .bool true), (35, .bool true), (36, U), (37, U), (38, U), (39, .bool true)]) (OI w (Sq _ (fun _ => []))) (fun _ => 0) hO (Rg.ac nV (Rg.ac nV (Rg.ac nV (Rg.ac nk (Rg.ac nk (Rg.ac nV (Rg.ac nV (Rg.ac nk (Rg.ac nk (Rg.ac nk (Rg.ac nV Rg.an))))))))))) ?_
      intro ν w5 hO
      simp only [OI, Sq, Sg, qC, qD, qE, Rg.putL, Act.put] at hO ⊢
      clear ν
      go_upto_region 5 with (fail)
      refine Rg.ps [] (fun _ => [(6, .bool false)]) (OI w (Sq _ (fun _ => []))) (fun _ => 0) hO (Rg.ac nV Rg.an) ?_
      intro ν w6 hO
      simp only [OI, Sq, Sg, qC, qD, qE, Rg.putL, Act.put] at hO ⊢
      clear ν
      go_wp2_with fail
      exact bodyPost_ret (v := .bool false) (results_tmp Tryz.results10 _ _ _) rfl ⟨rfl, hO.low⟩
  · cases ba
    · skip
      go_upto_region 4 with (fail)
      refine Rg.ps [] (fun _ => [(29, .bool true), (30, .bool false), (31, .bool false), (32, .bool false), (33, .bool true), (34, .bool true), (35, .bool true), (36, U), (37, U), (38, U), (39, .bool true)]) (OI w (Sq _ (fun _ => []))) (fun _ => 0) hO (Rg.ac nV (Rg.ac nV (Rg.ac nV (Rg.ac nV (Rg.ac nV (Rg.ac nV (Rg.ac nV (Rg.ac nk (Rg.ac nk (Rg.ac nk (Rg.ac nV Rg.an))))))))))) ?_
      intro ν w5 hO
      simp only [OI, Sq, Sg, qC, qD, qE, Rg.putL, Act.put] at hO ⊢
      clear ν
      go_upto_region 5 with (fail)
      refine Rg.ps [] (fun _ => [(6, .bool false)]) (OI w (Sq _ (fun _ => []))) (fun _ => 0) hO (Rg.ac nV Rg.an) ?_
      intro ν w6 hO
      simp only [OI, Sq, Sg, qC, qD, qE, Rg.putL, Act.put] at hO ⊢
      clear ν
      go_wp2_with fail
      exact bodyPost_ret (v := .bool false) (results_tmp Tryz.results10 _ _ _) rfl ⟨rfl, hO.low⟩
    · cases bf
      · skip
        go_upto_region 4 with (fail)
        refine Rg.ps [8] (fun _ => [(29, .bool true), (30, .bool false), (31, .bool false), (32, .bool true), (33, .bool false), (34, .bool false), (35, .bool false), (36, .agg (vals .u8 32 s2)), (37, .bool false), (38, .bool true), (39, .bool true)]) (OI w (Sq _ (fun _ => [id]))) (fun _ => 0) hO (Rg.ac nV (Rg.ac nV (Rg.ac nV (Rg.ac nV (Rg.ac nV (Rg.ac nV (Rg.ac nV (Rg.ac (nld 0 0 3 (fun _ => n8) (fun _ => vals .u8 32 s2) (t1 0) Tryz.underlying22) (Rg.ac (sq 0 23 (fun _ => #[.agg (vals .u8 32 s2)]) (fun _ => .bool false) (fun ν w hO => hF w (HhG.out.low hO.low))) (Rg.ac nV (Rg.ac nV Rg.an))))))))))) ?_
        intro ν w5 hO
        simp only [OI, Sq, Sg, id, qC, qD, qE, qF, qG, Rg.putL, Act.put] at hO ⊢
        clear ν
        go_upto_region 5 with (fail)
        refine Rg.ps [] (fun _ => [(6, .bool false)]) (OI w (Sq _ (fun _ => []))) (fun _ => 0) hO (Rg.ac nV Rg.an) ?_
        intro ν w6 hO
        simp only [OI, Sq, Sg, qC, qD, qE, Rg.putL, Act.put] at hO ⊢
        clear ν
        go_wp2_with fail
        exact bodyPost_ret (v := .bool false) (results_tmp Tryz.results10 _ _ _) rfl ⟨rfl, hO.low⟩
      · skip
        go_upto_region 4 with (fail)
        refine Rg.ps [8] (fun _ => [(29, .bool true), (30, .bool false), (31, .bool false), (32, .bool true), (33, .bool false), (34, .bool false), (35, .bool false), (36, .agg (vals .u8 32 s2)), (37, .bool true), (38, .bool false), (39, .bool false)]) (OI w (Sq _ (fun _ => [id]))) (fun _ => 0) hO (Rg.ac nV (Rg.ac nV (Rg.ac nV (Rg.ac nV (Rg.ac nV (Rg.ac nV (Rg.ac nV (Rg.ac (nld 0 0 3 (fun _ => n8) (fun _ => vals .u8 32 s2) (t1 0) Tryz.underlying22) (Rg.ac (sq 0 23 (fun _ => #[.agg (vals .u8 32 s2)]) (fun _ => .bool true) (fun ν w hO => hF w (HhG.out.low hO.low))) (Rg.ac nV (Rg.ac nV Rg.an))))))))))) ?_
        intro ν w5 hO
        simp only [OI, Sq, Sg, id, qC, qD, qE, qF, qG, Rg.putL, Act.put] at hO ⊢
        clear ν
        go_upto_region 6 with (fail)
        refine Rf.pg (fun ν => [(40, .slice P pp.length pc), (41, .func (.func 36) #[] #[.pointer (some ⟨(ν 1), 0, none⟩)]), (42, .slice (some ⟨n7, 0, none⟩) 32 32), (43, .slice (some ⟨n3, 0, none⟩) 32 32), (44, .slice (some ⟨(ν 4), 0, none⟩) 2 2), (45, .agg (vals .u8 32 (byt k))), (13, D (ν 6))]) [(n3, vals .u8 32 g, 22, none), (n4, vals .u8 64 s, 24, none), (n7, vals .u8 32 s, 22, none), (n8, vals .u8 32 s2, 22, none), (n9, pt R, 49, none), (n11, pt A, 49, none)] (fun _ => [(1, #[(.slice P pp.length pc)], 35, none), (4, #[.slice (some ⟨n7, 0, none⟩) 32 32, .slice (some ⟨n3, 0, none⟩) 32 32], 23, none), (6, vals .u8 32 (fun _ => 0), 22, some (7, vals .u8 32 (byt k)))]) (fun _ => 0) hO.drew (Rg.ac Rf.fv (Rg.ac (Rf.gcn 0 14 (fun _ => #[.slice P pp.length pc]) (fun ν q => .func (.func 36) #[] #[.pointer (some ⟨q, 0, none⟩)]) (fun _ _ => rfl) (fun _ _ => rfl) (fun _ w => cn_ret ((behind_c P pp.length pc) w)) (fun _ => ft (fit_sl _ _ _))) (Rg.ac Rf.fv (Rg.ac Rf.fv (Rg.ac (Rf.gn 1 (fun ν q => .slice (some ⟨q, 0, none⟩) 2 2) (fun _ _ => rfl) (fun _ _ => rfl) (fun _ _ => run_bsl 35 23 2 _ rfl #[(0, .slice (some ⟨n7, 0, none⟩) 32 32), (1, .slice (some ⟨n3, 0, none⟩) 32 32)] (by kernel_rfl) (by kernel_rfl)) (fun _ => fit_any (by kernel_rfl))) (Rg.ac (Rf.fq 36 (fun ν => #[.slice (some ⟨(ν 4), 0, none⟩) 2 2, .pointer (some ⟨(ν 1), 0, none⟩)]) (fun _ => .agg (vals .u8 32 (byt k))) (fun D ν w my hO => clos2 hs hg (HhG.out.low hO.low) (Rf.rl_ hO 2 rfl) (Rf.rl_ hO 0 rfl) (Rf.rm_ hO 0 rfl (my.pre 1 (by kernel_rfl))) (Rf.rm_ hO 1 rfl (my.pre 4 (by kernel_rfl))) (HhP.out.low hO.low) (HhO.out.low hO.low) Hhm.out Hhms.out Hhp.out Hhk.out)) (Rg.ac (Rf.ga 2 (fun _ _ => rfl) (fun _ _ => rfl) (fun _ w => al22 rfl w) (fun _ => ft (fit_by _))) (Rg.ac (Rf.gm 2 6 (fun _ => rfl) (ft (fit_by _))) Rg.an)))))))) ?_
        intro ν w6 hO
        replace hO : Wn w w6 [(n3, vals .u8 32 g, 22), (n4, vals .u8 64 s, 24), (n7, vals .u8 32 s, 22), (n8, vals .u8 32 s2, 22), (n9, pt R, 49), (n11, pt A, 49), ((ν 1), #[(.slice P pp.length pc)], 35), ((ν 4), #[.slice (some ⟨n7, 0, none⟩) 32 32, .slice (some ⟨n3, 0, none⟩) 32 32], 23), ((ν 6), vals .u8 32 (byt k), 22)] := hO
        simp only [qC, qD, qE, Rg.putL, Act.put]
        generalize ν 1 = n41 at hO ⊢
        generalize ν 4 = n44 at hO ⊢
        generalize ν 6 = n13 at hO ⊢
        clear ν
        go_upto_region 7 with (fail)
        refine Rg.pd [2, 5, 6, 7] (fun _ => [(46, .agg (pt R)), (47, .agg (vals .u8 32 s2)), (48, .agg (pt base7)), (49, .agg (vals .u8 32 (byt k))), (50, .agg (pt A)), (51, .agg (pt (neg7 A))), (52, .agg (pt (add7 (mul7 base7 (nb s2 32)) (mul7 (neg7 A) k)))), (53, .bool (decide (R = add7 (mul7 base7 (nb s2 32)) (mul7 (neg7 A) k)))), (6, .bool (decide (R = add7 (mul7 base7 (nb s2 32)) (mul7 (neg7 A) k))))]) (OI w (Sq _ (fun _ => [id, id, id, id]))) (fun _ => 0) hO.drew (Rg.ac (nld 0 3 4 (fun _ => n9) (fun _ => pt R) (t2 0 3 (t2 1 3 (t2 2 3 (t1 3)))) Tryz.underlying49) (Rg.ac (nld 0 2 3 (fun _ => n8) (fun _ => vals .u8 32 s2) (t2 0 2 (t2 1 2 (t1 2))) Tryz.underlying22) (Rg.ac (sC 0 26 _ _ (fun _ => base_p)) (Rg.ac (nld 0 2 8 (fun _ => n13) (fun _ => vals .u8 32 (byt k)) (t2 0 2 (t2 1 2 (t1 2))) Tryz.underlying22) (Rg.ac (nld 0 1 5 (fun _ => n11) (fun _ => pt A) (t2 0 1 (t1 1)) Tryz.underlying49) (Rg.ac (sC 1 27 _ _ (fun _ => neg_p hoa)) (Rg.ac (sC 2 25 _ _ (fun _ => fun w => byt_n Hkl ▸ both7_c s2 (byt k) hs2l ok_base (byt_lt k) (ok_neg hoa) w)) (Rg.ac (sC 3 24 (fun _ => #[.agg (pt R), .agg (pt (add7 (mul7 base7 (nb s2 32)) (mul7 (neg7 A) k)))]) (fun _ => .bool (decide (R = add7 (mul7 base7 (nb s2 32)) (mul7 (neg7 A) k)))) (fun _ => (same_p hok (ok_add (ok_mul ok_base _) (ok_mul (ok_neg hoa) _))))) (Rg.ac nV Rg.an))))))))) ?_
        intro ν w7 hO
        simp only [OI, Sq, Sg, id, qC, qD, qE, qF, qG, Rg.putL, Act.put] at hO ⊢
        clear ν
        go_wp2_with fail
        exact bodyPost_ret (v := .bool (decide (R = add7 (mul7 base7 (nb s2 32)) (mul7 (neg7 A) k)))) (results_tmp Tryz.results10 _ _ _) rfl ⟨rfl, hO.low⟩
/-- A text's numbers. -/
def rN (f : Nat → Nat) (m : List Nat) : Nat := dgn (bl (pre f) ++ m)
def kN (f : Nat → Nat) (m : List Nat) : Nat := dgn (bl (ptb (rN f m)) ++ bl (pub f) ++ m)
/-- A text's signature. -/
def sgn (f : Nat → Nat) (m : List Nat) : Nat → Nat := sigv ptb (rN f m) (kN f m) (sec f)
def sN (f : Nat → Nat) (m : List Nat) : Nat := (kN f m * nb (sec f) 32 + rN f m) % S.qL
theorem ptb_lt (n i : Nat) : ptb n i < 256 := byt_lt _ _
theorem sgn_lt (f : Nat → Nat) (m : List Nat) (i : Nat) : sgn f m i < 256 := jn_lt (ptb_lt _) (byt_lt _) i
theorem pub_lt (f : Nat → Nat) (i : Nat) : pub f i < 256 := byt_lt _ _
theorem sign_c (f : Nat → Nat) (P : Option Addr) (ps : List T.Pt) (pc : Nat) (m : List Nat) (hf : ∀ i, f i < 256) (w : World) (hG : Glb w) (hP : T.Prt w P ps) (hO : T.PtOk w ps) (hm : T.cat ps = m) (hms : m.length < 2 ^ 30) (hp : ps.length < 2 ^ 30) : Ret 7 #[.agg (vals .u8 32 f), .slice P ps.length pc] w (.agg (vals .u8 64 (sgn f m))) :=
  sign_g f (sec f) (pre f) ptb (rN f m) (kN f m) P ps pc m hf (secret_c f hf) (sec_lt f) (pre_lt f) ptb_lt (times_c _ (sec_lt f)) times_n w hG hP hO hm hms hp rfl rfl
/-- Whether a signature is verified. -/
def verB (g s : Nat → Nat) (m : List Nat) : Bool := (decR (nb s 32)).2 && (decR (nb g 32)).2 && decide (nb (fun j => s (32 + j)) 32 < S.qL) && decide ((decR (nb s 32)).1 = add7 (mul7 base7 (nb (fun j => s (32 + j)) 32)) (mul7 (neg7 (decR (nb g 32)).1) (dgn (bl s ++ bl g ++ m))))
theorem verify_c (g s : Nat → Nat) (P : Option Addr) (ps : List T.Pt) (pc : Nat) (m : List Nat) (hg : ∀ i, g i < 256) (hs : ∀ i, s i < 256) (w : World) (hG : Glb w) (hP : T.Prt w P ps) (hO : T.PtOk w ps) (hm : T.cat ps = m) (hms : m.length < 2 ^ 30) (hp : ps.length < 2 ^ 30) : Ret 10 #[.agg (vals .u8 32 g), .agg (vals .u8 64 s), .slice P ps.length pc] w (.bool (verB g s m)) :=
  verify_g g s (fun j => s (32 + j)) _ _ _ _ _ _ P ps pc m hg hs (hide rfl) (fun _ => hs _) (decode_p s hs) (decode_p g hg) (fun _ hG => fine_c _ (fun _ => hs _) hG) (decR_ok _ (nb_lt32 s hs)) (decR_ok _ (nb_lt32 g hg)) w hG hP hO hm hms hp rfl
end Go.Proofs.YtbpmakegimgbpaaGreatDoor
namespace Go.Proofs.YtbpmakegimgbpaaGreatDoor
set_option maxRecDepth 100000
open F Go.RowKit

theorem qL_lP : S.qL = lP := by decide +kernel
theorem decR_some {n : Nat} {P : Nat × Nat} (h : dec7 n = some P) : decR n = (P, true) := by unfold decR; rw [h]
theorem decR_ptb (n : Nat) : decR (nb (ptb n) 32) = (mul7 base7 n, true) := by
  unfold ptb
  rw [nbts (num7_lt (ok_mul ok_base n))]
  exact decR_some (dec_mul n)
theorem nb_low {f g : Nat → Nat} (h : ∀ i, i < 32 → f i = g i) : nb f 32 = nb g 32 := nb_cong f g 32 h
theorem sgn_low (f : Nat → Nat) (m : List Nat) (i : Nat) (h : i < 32) : sgn f m i = ptb (rN f m) i := by unfold sgn sigv jn; rw [if_pos h]
theorem sgn_high (f : Nat → Nat) (m : List Nat) (j : Nat) : sgn f m (32 + j) = byt (sN f m) j := by
  unfold sgn sigv jn sN
  rw [if_neg (by omega), show 32 + j - 32 = j by omega]
theorem sN_lt (f : Nat → Nat) (m : List Nat) : sN f m < S.qL := Nat.mod_lt _ S.qL_pos
theorem nb_sN (f : Nat → Nat) (m : List Nat) : nb (fun j => sgn f m (32 + j)) 32 = sN f m := by
  rw [nb_low (g := byt (sN f m)) (fun i _ => sgn_high f m i), nbts (Nat.lt_trans (sN_lt f m) S.qL_lt256)]
/-- A signature that is right, of another text. -/
theorem verB_sgn (f : Nat → Nat) (m m' : List Nat) : verB (pub f) (sgn f m) m' = decide (mul7 base7 (rN f m) = add7 (mul7 base7 (sN f m)) (mul7 (neg7 (mul7 base7 (nb (sec f) 32))) (dgn (bl (ptb (rN f m)) ++ bl (pub f) ++ m')))) := by
  have e1 : nb (sgn f m) 32 = nb (ptb (rN f m)) 32 := nb_low (sgn_low f m)
  have e2 : bl (sgn f m) = bl (ptb (rN f m)) := bl_congr (sgn_low f m)
  have e3 : decR (nb (pub f) 32) = (mul7 base7 (nb (sec f) 32), true) := decR_ptb _
  unfold verB
  rw [e1, e2, e3, decR_ptb, nb_sN]
  simp [sN_lt]
theorem verB_own (f : Nat → Nat) (m : List Nat) : verB (pub f) (sgn f m) m = true := by
  rw [verB_sgn]
  have h := signed7 (kN f m) (nb (sec f) 32) (rN f m)
  rw [← qL_lP] at h
  exact decide_eq_true h.symm
/- awake's seed. -/
def sdL : List Nat := [157, 97, 177, 157, 239, 253, 90, 96, 186, 132, 74, 244, 146, 236, 44, 196, 68, 73, 197, 105, 123, 50, 105, 25, 112, 59, 172, 3, 28, 174, 127, 96]
def preL : List Nat := [155, 79, 10, 254, 40, 11, 116, 106, 119, 134, 132, 231, 84, 66, 80, 32, 87, 183, 71, 58, 3, 240, 143, 150, 245, 163, 142, 146, 135, 224, 31, 143]
def abL : List Nat := [215, 90, 152, 1, 130, 177, 10, 183, 213, 75, 254, 211, 201, 100, 7, 58, 14, 225, 114, 243, 218, 166, 35, 37, 175, 2, 26, 104, 247, 7, 81, 26]
def rbL : List Nat := [229, 86, 67, 0, 195, 96, 172, 114, 144, 134, 226, 204, 128, 110, 130, 138, 132, 135, 127, 30, 184, 229, 217, 116, 216, 115, 224, 101, 34, 73, 1, 85]
def sd : Nat → Nat := cb sdL
def aS : Nat := 36144925721603087658594284515452164870581325872720374094707712194495455132720
def aR : Nat := 2015312323900227545039973048451112962192803170366412514267238242679089760755
def aA : Nat × Nat := (38815646466658113194383306759739515082307681141926459231621296960732224964046, 11903303657706407974989296177215005343713679411332034699907763981919547054807)
def aP : Nat × Nat := (44370630452101398467924320556439323233869374150616132215183787387252341590058, 38448863731492799660668882834560725606410712239157980760146247592118262650597)
def aT : Nat × Nat := (55836919626705939050223673677676937652315303921015868654532477003577713816576, 19550695539563398274221655657565148279821633958587248489001529432411895781736)
def at0 : Nat := 4189425255243104265380274593999275942286358786625561434025412373999949950602
theorem sd_lt (i : Nat) : sd i < 256 := cb_lt _ (by decide +kernel) i
theorem sd_bl : bl sd = sdL := by decide +kernel
theorem sd_sec : nb (sec sd) 32 = aS := by
  unfold sec
  rw [sd_bl]
  decide +kernel
theorem sd_pre : bl (pre sd) = preL := by
  unfold pre
  rw [sd_bl]
  decide +kernel
theorem sd_r : rN sd [] = aR := by
  unfold rN
  rw [sd_pre]
  decide +kernel
theorem ok_of {x y : Nat} (hx : x < pP) (hy : y < pP) (h : mm (v7 y) (mm x x) = u7 y) : Ok7 (x, y) := ⟨hx, hy, (on_iff x y).2 (by rw [← h, ph_mm, ph_mm])⟩
theorem ok_A : Ok7 aA := ok_of (by decide +kernel) (by decide +kernel) (by decide +kernel)
theorem ok_P : Ok7 aP := ok_of (by decide +kernel) (by decide +kernel) (by decide +kernel)
theorem ok_T : Ok7 aT := ok_of (by decide +kernel) (by decide +kernel) (by decide +kernel)
theorem mul_A : mul7 base7 aS = aA := mul_is ok_base ok_A aS (by decide +kernel) (by decide +kernel)
theorem mul_P : mul7 base7 aR = aP := mul_is ok_base ok_P aR (by decide +kernel) (by decide +kernel)
theorem mul_T : mul7 base7 at0 = aT := mul_is ok_base ok_T at0 (by decide +kernel) (by decide +kernel)
theorem sd_pub : pub sd = byt (num7 aA) := by unfold pub ptb; rw [sd_sec, mul_A]
theorem sd_ptb : ptb (rN sd []) = byt (num7 aP) := by unfold ptb; rw [sd_r, mul_P]
theorem pub_0 : pub sd 0 = 215 ∧ pub sd 1 = 90 ∧ pub sd 2 = 152 ∧ pub sd 3 = 1 := by rw [sd_pub]; decide +kernel
theorem sgn_0 : sgn sd [] 0 = 229 ∧ sgn sd [] 1 = 86 ∧ sgn sd [] 2 = 67 ∧ sgn sd [] 3 = 0 := by
  rw [sgn_low _ _ 0 (by omega), sgn_low _ _ 1 (by omega), sgn_low _ _ 2 (by omega), sgn_low _ _ 3 (by omega), sd_ptb]
  decide +kernel
theorem bl_A : bl (pub sd) = abL := by rw [sd_pub]; decide +kernel
theorem bl_P : bl (ptb (rN sd [])) = rbL := by rw [sd_ptb]; decide +kernel
theorem sd_k0 : kN sd [] = 1958233733501237659471134851339390337284068724042047466985993338226439154310 := by
  unfold kN
  rw [bl_P, bl_A]
  decide +kernel
theorem sd_num : (1958233733501237659471134851339390337284068724042047466985993338226439154310 * aS + aR) % S.qL = 5004556735901913393272427758925840403246877222315506387332009764265656498271 := by decide +kernel
theorem sN_of (f : Nat → Nat) (m : List Nat) (k s r : Nat) (hk : kN f m = k) (hs : nb (sec f) 32 = s) (hr : rN f m = r) : sN f m = (k * s + r) % S.qL := by
  unfold sN
  rw [hk, hs, hr]
theorem sd_S : sN sd [] = 5004556735901913393272427758925840403246877222315506387332009764265656498271 := (sN_of sd [] _ _ _ sd_k0 sd_sec sd_r).trans sd_num
theorem sd_k : dgn (bl (ptb (rN sd [])) ++ bl (pub sd) ++ [1]) = 3522795203402148482764146148954277926717685080406457998596202582178711798453 := by
  rw [bl_P, bl_A]
  decide +kernel
theorem other_no : verB (pub sd) (sgn sd []) [1] = false := by
  rw [verB_sgn, sd_k, sd_S, sd_sec]
  have e : (5004556735901913393272427758925840403246877222315506387332009764265656498271 : Nat) = (3522795203402148482764146148954277926717685080406457998596202582178711798453 * aS + at0) % lP := by decide +kernel
  rw [e, signed7, sd_r, mul_P, mul_T]
  decide +kernel
end Go.Proofs.YtbpmakegimgbpaaGreatDoor

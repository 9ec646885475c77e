/- Walks: further. A block of at most 16 bytes below 256, a key's half below 2^124, a sum below 2^131. -/
import Derived.Test.YtanahjoiilfcbaaDoorKc
namespace Go.Proofs.YtanahjoiilfcbaaDoor
set_option maxRecDepth 100000
open Go.RowKit Rg

theorem nb_end (b : Nat → Nat) (n : Nat) : nb (fun i => if i = n then 1 else b i) (n + 1) = nb b n + 2 ^ (8 * n) ∧ nb (fun i => if i = n then 1 else b i) n = nb b n := by
  have e : nb (fun i => if i = n then 1 else b i) n = nb b n := nb_congr _ _ n fun j hj => if_neg (by omega)
  refine ⟨?_, e⟩
  rw [nb, e, if_pos rfl, Nat.one_mul]
theorem end_or (b : Nat → Nat) (hb : ∀ i, b i < 256) (n : Nat) : limb (nb b n) (n / 8) ||| 1 * 2 ^ (n % 8 * 8) = limb (nb b n + 2 ^ (8 * n)) (n / 8) := by
  obtain ⟨e1, e2⟩ := nb_end b n
  have := rd_or (fun i => if i = n then 1 else b i) (fun i => by show (if i = n then 1 else b i) < 256; split <;> first | omega | exact hb i) n
  rw [e1, e2, if_pos rfl] at this
  exact this
theorem end_set (b : Nat → Nat) (hb : ∀ i, b i < 256) (n e v : Nat) (he : e = nb b n + 2 ^ (8 * n)) (hv : v = limb e (n / 8)) : (vals .u64 3 (limb (nb b n))).setIfInBounds (n / 8) (.int .u64 ((v : Nat) : Int)) = vals .u64 3 (limb e) := by
  obtain ⟨e1, e2⟩ := nb_end b n
  have := rd_set (fun i => if i = n then 1 else b i) (fun i => by show (if i = n then 1 else b i) < 256; split <;> first | omega | exact hb i) n v (by rw [e1, hv, he])
  rw [e1, e2] at this
  rw [he]
  exact this
theorem end_lt (b : Nat → Nat) (hb : ∀ i, b i < 256) (n : Nat) (hn : n ≤ 16) : nb b n + 2 ^ (8 * n) ≤ 2 ^ 129 := by
  have h1 := nb_lt b hb n
  have h2 : 2 ^ (8 * n) ≤ 2 ^ 128 := Nat.pow_le_pow_right (by omega) (by omega)
  omega
set_option maxHeartbeats 2000000 in
theorem further_c (x : Nat) (hx : x < 2 ^ 131) (S : Option Addr) (n c : Nat) (b : Nat → Nat) (hb : ∀ i, b i < 256) (hn : n ≤ 16) (r : Nat) (hr : r < 2 ^ 124) (y : Nat) (hy : y = tm (x + (nb b n + 2 ^ (8 * n))) r) (w : World) (hS : Rd w S n b) : Ret 44 #[A (vals .u64 3 (limb x)), .slice S n c, A (vals .u64 3 (limb r))] w (A (vals .u64 3 (limb y))) := by
  obtain ⟨e, he⟩ : ∃ e, Hid (nb b n + 2 ^ (8 * n) = e) := ⟨_, hide rfl⟩
  obtain ⟨v, hv⟩ : ∃ v, Hid (limb e (n / 8) = v) := ⟨_, hide rfl⟩
  obtain ⟨z, hz⟩ : ∃ z, Hid (1 * 2 ^ (n % 8 * 8) = z) := ⟨_, hide rfl⟩
  have hel : e ≤ 2 ^ 129 := he.out ▸ end_lt b hb n hn
  have Hm : Hid (∀ w, Ret 46 #[A (vals .u64 3 (limb (x + e))), A (vals .u64 3 (limb r))] w (A (vals .u64 3 (limb y)))) := hide fun w => by
    rw [hy, he.out]
    refine times_c (x + e) r (by omega) (by omega) ?_ w
    have : (x + e) * r < 2 ^ 132 * 2 ^ 124 := Nat.mul_lt_mul'' (by omega) hr
    exact this
  have Ho : Hid (limb (nb b n) (n / 8) ||| z = v) := hide (by rw [← hz.out, ← hv.out, ← he.out]; exact end_or b hb n)
  have Hs : Hid ((vals .u64 3 (limb (nb b n))).setIfInBounds (n / 8) (.int .u64 ((v : Nat) : Int)) = vals .u64 3 (limb e)) := hide (end_set b hb n e v he.out.symm hv.out.symm)
  have h56 : n % 8 * 8 ≤ 56 := by omega
  have Hz : Hid (z < 2 ^ 64) := hide (by
    rw [← hz.out, Nat.one_mul]
    exact Nat.lt_of_le_of_lt (Nat.pow_le_pow_right (by omega) h56) (by decide))
  have hn8 : n / 8 < 3 := by omega
  have hn40 : n < 2 ^ 40 := by omega
  have hnm : n % 8 < 2 ^ 40 := by omega
  have hn24 : n ≤ 24 := by omega
  have HS := hide hS
  clear hx hr hy hS hel hn he
  go_enter Tryd.func44, Tryd.ntmps44
  have hO := Own.start w
  go_upto_region 0 with (fail)
  refine Rg.ps [0, 1, 2] (fun ν => [(3, D (ν 0)), (5, D (ν 1)), (6, D (ν 2))]) (OI w (fun s ν => [[], [((ν 0), vals .u64 3 (limb x), 55)], [((ν 0), vals .u64 3 (limb x), 55), ((ν 1), vals .u64 3 (limb r), 55)], [((ν 0), vals .u64 3 (limb x), 55), ((ν 1), vals .u64 3 (limb r), 55), ((ν 2), vals .u64 3 (fun _ => 0), 55)]].getD s [])) (fun _ => 0) hO (Rg.ac (sn 0 (fun _ => vals .u64 3 (limb x)) 55 (fun _ w => run_box 55 _ rfl _ (by kernel_rfl) w) (fun _ => fit_l3 _)) (Rg.ac (sn 1 (fun _ => vals .u64 3 (limb r)) 55 (fun _ w => run_box 55 _ rfl _ (by kernel_rfl) w) (fun _ => fit_l3 _)) (Rg.ac (sn 2 (fun _ => vals .u64 3 (fun _ => 0)) 55 (fun _ w => al_l3 rfl w) (fun _ => fit_l3 _)) Rg.an))) ?_
  intro ν w1 hO
  replace hO : Own w w1 [((ν 0), vals .u64 3 (limb x), 55), ((ν 1), vals .u64 3 (limb r), 55), ((ν 2), vals .u64 3 (fun _ => 0), 55)] := hO
  simp only [Rg.putL, Act.put, List.setIfInBounds_toArray, List.set_cons_succ, List.set_cons_zero]
  generalize ν 0 = n3 at hO ⊢
  generalize ν 1 = n5 at hO ⊢
  generalize ν 2 = n6 at hO ⊢
  clear ν
  go_upto_region 1 with (fail)
  refine Rg.ps [1, 2, 3] (fun ν => [(8, .slice S n c), (9, A (vals .u64 3 (limb (nb b n)))), (7, D (ν 2))]) (OI w (fun s ν => [[(n3, vals .u64 3 (limb x), 55), (n5, vals .u64 3 (limb r), 55), (n6, vals .u64 3 (fun _ => 0), 55)], [(n3, vals .u64 3 (limb x), 55), (n5, vals .u64 3 (limb r), 55), (n6, vals .u64 3 (fun _ => 0), 55)], [(n3, vals .u64 3 (limb x), 55), (n5, vals .u64 3 (limb r), 55), (n6, vals .u64 3 (fun _ => 0), 55), ((ν 2), vals .u64 3 (fun _ => 0), 55)], [(n3, vals .u64 3 (limb x), 55), (n5, vals .u64 3 (limb r), 55), (n6, vals .u64 3 (fun _ => 0), 55), ((ν 2), vals .u64 3 (limb (nb b n)), 55)]].getD s [])) (fun _ => 0) hO (Rg.ac nv (Rg.ac (sq 0 30 (fun _ => #[.slice S n c]) (fun _ => A (vals .u64 3 (limb (nb b n)))) (fun ν w hO => read_c S n c b hb hn24 w (HS.out.low hO.low))) (Rg.ac (sn 1 (fun _ => vals .u64 3 (fun _ => 0)) 55 (fun _ w => al_l3 rfl w) (fun _ => fit_l3 _)) (Rg.ac (sr 2 3 (fun _ => vals .u64 3 (limb (nb b n))) (fun _ => fit_l3 _)) Rg.an)))) ?_
  intro ν w2 hO
  replace hO : Own w w2 [(n3, vals .u64 3 (limb x), 55), (n5, vals .u64 3 (limb r), 55), (n6, vals .u64 3 (fun _ => 0), 55), ((ν 2), vals .u64 3 (limb (nb b n)), 55)] := hO
  simp only [Rg.putL, Act.put, List.setIfInBounds_toArray, List.set_cons_succ, List.set_cons_zero]
  generalize ν 2 = n7 at hO ⊢
  clear ν
  go_upto_region 2 with (fail)
  refine Rg.pd [12] (fun _ => [(10, .slice S n c), (11, Nv .i64 n), (12, Nv .i64 (n / 8)), (13, E n7 (n / 8)), (14, Nv .u64 ((limb (nb b n)) (n / 8))), (15, .slice S n c), (16, Nv .i64 n), (17, Nv .i64 (n % 8)), (18, Nv .i64 (n % 8 * 8)), (19, Nv .u64 z), (20, Nv .u64 v), (21, E n7 (n / 8))]) (OI w (fun s ν => [[(n3, vals .u64 3 (limb x), 55), (n5, vals .u64 3 (limb r), 55), (n6, vals .u64 3 (fun _ => 0), 55), (n7, vals .u64 3 (limb (nb b n)), 55)], [(n3, vals .u64 3 (limb x), 55), (n5, vals .u64 3 (limb r), 55), (n6, vals .u64 3 (fun _ => 0), 55), (n7, vals .u64 3 (limb e), 55)]].getD s [])) (fun _ => 0) hO.drew (Rg.ac nv (Rg.ac nv (Rg.ac (nx (fun _ => Nv .i64 (n / 8)) (fun _ w => b_quo8 hn40 w)) (Rg.ac (nx (fun _ => E n7 (n / 8)) (fun _ w => b_ia_l3 hn8 w)) (Rg.ac (nc 0 0 3 (fun _ => (n / 8)) (fun _ => Nv .u64 ((limb (nb b n)) (n / 8))) agg_u64 (fun _ => vals_get _ _ _ _ hn8) (at1 0 fun _ => by kernel_rfl)) (Rg.ac nv (Rg.ac nv (Rg.ac (nx (fun _ => Nv .i64 (n % 8)) (fun _ w => b_rem8 w)) (Rg.ac (nx (fun _ => Nv .i64 (n % 8 * 8)) (fun _ w => b_mulr8 hnm w)) (Rg.ac (nx (fun _ => Nv .u64 z) (fun _ w => b_shlE (a := 1) (by decide) h56 hz.out w)) (Rg.ac (nx (fun _ => Nv .u64 v) (fun _ w => b_or64 Ho.out (limb_lt _ _) Hz.out w)) (Rg.ac (nx (fun _ => E n7 (n / 8)) (fun _ w => b_ia_l3 hn8 w)) (Rg.ac (sl 0 3 (fun _ => (n / 8)) (fun _ => Nv .u64 (limb (nb b n) (n / 8))) (fun _ => ((v : Nat) : Int)) sz_u64 (fun _ => vals_get _ _ _ _ hn8) (fun _ => Hs.out) (fun _ => fit_l3 _)) Rg.an))))))))))))) ?_
  intro ν w3 hO
  replace hO : Own w w3 [(n3, vals .u64 3 (limb x), 55), (n5, vals .u64 3 (limb r), 55), (n6, vals .u64 3 (fun _ => 0), 55), (n7, vals .u64 3 (limb e), 55)] := hO
  simp only [Rg.putL, Act.put, List.setIfInBounds_toArray, List.set_cons_succ, List.set_cons_zero]
  clear ν
  go_upto_region 3 with (fail)
  refine Rg.pd [2, 4, 5] (fun _ => [(22, A (vals .u64 3 (limb x))), (23, A (vals .u64 3 (limb e))), (24, A (vals .u64 3 (limb (x + e)))), (25, A (vals .u64 3 (limb r))), (26, A (vals .u64 3 (limb y)))]) (OI w (fun s ν => [[(n3, vals .u64 3 (limb x), 55), (n5, vals .u64 3 (limb r), 55), (n6, vals .u64 3 (fun _ => 0), 55), (n7, vals .u64 3 (limb e), 55)], [(n3, vals .u64 3 (limb x), 55), (n5, vals .u64 3 (limb r), 55), (n6, vals .u64 3 (fun _ => 0), 55), (n7, vals .u64 3 (limb e), 55)], [(n3, vals .u64 3 (limb x), 55), (n5, vals .u64 3 (limb r), 55), (n6, vals .u64 3 (fun _ => 0), 55), (n7, vals .u64 3 (limb e), 55)], [(n3, vals .u64 3 (limb x), 55), (n5, vals .u64 3 (limb r), 55), (n6, vals .u64 3 (limb y), 55), (n7, vals .u64 3 (limb e), 55)]].getD s [])) (fun _ => 0) hO.drew (Rg.ac (nld 0 0 0 (at1 0 fun _ => by kernel_rfl) Tryd.underlying55) (Rg.ac (nld 0 0 3 (at1 0 fun _ => by kernel_rfl) Tryd.underlying55) (Rg.ac (sc 0 31 (fun _ => #[A (vals .u64 3 (limb x)), A (vals .u64 3 (limb e))]) (fun _ => A (vals .u64 3 (limb (x + e)))) (fun _ => plus_c x e)) (Rg.ac (nld 0 1 1 (at2 0 1 (fun _ => by kernel_rfl) (at1 1 fun _ => by kernel_rfl)) Tryd.underlying55) (Rg.ac (sc 1 46 (fun _ => #[A (vals .u64 3 (limb (x + e))), A (vals .u64 3 (limb r))]) (fun _ => A (vals .u64 3 (limb y))) (fun _ => Hm.out)) (Rg.ac (sr 2 2 (fun _ => vals .u64 3 (limb y)) (fun _ => fit_l3 _)) Rg.an)))))) ?_
  intro ν w4 hO
  replace hO : Own w w4 [(n3, vals .u64 3 (limb x), 55), (n5, vals .u64 3 (limb r), 55), (n6, vals .u64 3 (limb y), 55), (n7, vals .u64 3 (limb e), 55)] := hO
  simp only [Rg.putL, Act.put, List.setIfInBounds_toArray, List.set_cons_succ, List.set_cons_zero]
  clear ν
  go_wp2_with (fail)
  refine bodyPost_ret (v := A (vals .u64 3 (limb y))) (results_cell_row Tryd.results44 _ _ n6 55 _ (0, 0) _ rfl (hO.row 2 rfl) Tryd.underlying55 rfl ((fit_l3 _).size rfl)) rfl ⟨rfl, hO.low⟩
end Go.Proofs.YtanahjoiilfcbaaDoor

/- Walks: reckoned. A text in at most 1000 parts; bytes below 256; a key's half below 2^124. -/
import Derived.Test.YtanahjoiilfcbaaDoorKp
namespace Go.Proofs.YtanahjoiilfcbaaDoor
set_option maxRecDepth 100000
open Go.RowKit Rg

/-- What holds at each jump: Q whole blocks and d bytes are reckoned, m bytes of the part are left. -/
def RkJ (u : World) (S : Option Addr) (mm pc r : Nat) (g : Nat → Nat) (n2 n4 n5 n6 k e : Nat) (a' : Act) (w' : World) : Prop :=
  ∃ (Q d m cc : Nat) (P : Option Addr) (h : Nat → Nat) (z10 z14 z15 z16 z17 z18 z19 z20 z21 z22 z23 z24 z25 z26 z27 z28 z29 z30 z31 z32 z33 : Value), a' = Fr [A (vals .u64 3 (limb r)), .slice S mm pc, D n2, undef, D n4, D n5, D n6, Nv .i64 d, undef, .slice P m cc, z10, .slice S mm pc, .int .i64 ((mm : Nat) : Int), Nv .i64 k, z14, z15, z16, z17, z18, z19, z20, z21, z22, z23, z24, z25, z26, z27, z28, z29, z30, z31, z32, z33, undef, undef, undef, undef, undef, undef, undef, undef] ∧ d < 16 ∧ 16 * Q + d + m = e ∧ m ≤ cc ∧ Rd u P m (fun j => g (16 * Q + d + j)) ∧ (∀ i, h i < 256) ∧ (∀ j, j < d → h j = g (16 * Q + j)) ∧ Own u w' [(n2, vals .u64 3 (limb r), 55), (n4, vals .u64 3 (fun _ => 0), 55), (n5, vals .u64 3 (limb (fb r g Q)), 55), (n6, vals .u8 16 h, 35)]
def slen (v : Value) : Nat := match v with | .slice _ n _ => n | _ => 0
def rkMu (a' : Act) (_ : World) : Nat := slen (a'.tmps.getD 9 undef)
theorem laid_here (g h : Nat → Nat) (Q d q : Nat) (hp : ∀ j, j < d → h j = g (16 * Q + j)) (j : Nat) (hj : j < d + q) : laid h (fun j => g (16 * Q + d + j)) d q j = g (16 * Q + j) := by
  unfold laid
  by_cases h1 : d ≤ j
  · rw [if_pos ⟨h1, hj⟩]
    show g (16 * Q + d + (j - d)) = _
    congr 1; omega
  · rw [if_neg (by omega)]
    exact hp j (by omega)
theorem wrn (d q : Nat) (h : d + q < 4294967296) : IntKind.i64.wrap ((d : Int) + (q : Int)) = ((d + q : Nat) : Int) := by unfold IntKind.wrap; simp [IntKind.bits, IntKind.signed]; omega
theorem pv_at (r : Nat) (g : Nat → Nat) (n Q d : Nat) (hn : n = 16 * Q + d) (hd : d < 16) : pv r g n = if d = 0 then fb r g Q else tm (fb r g Q + (nb (fun j => g (16 * Q + j)) d + 2 ^ (8 * d))) r := by
  have e1 : n % 16 = d := by omega
  have e2 : n / 16 = Q := by omega
  unfold pv en
  rw [e1, e2]
set_option maxHeartbeats 4000000 in
theorem reckoned_c (S : Option Addr) (mm pc : Nat) (g o : Nat → Nat) (hg : ∀ i, g i < 256) (hmm : mm ≤ 1000) (r : Nat) (hr : r < 2 ^ 124) (y : Nat) (hy : y = pv r g (o mm)) (w : World) (hP : Pts w S mm g o) : Ret 33 #[A (vals .u64 3 (limb r)), .slice S mm pc] w (A (vals .u64 3 (limb y))) := by
  have HP := hide hP
  have Hy := hide hy
  have Hm := hide hmm
  have HF : Hid (∀ Q, fb r g Q < 2 ^ 131) := hide fun Q => Nat.lt_trans (fb_lt r g hg hr Q) (by decide)
  clear hP hy hmm
  go_enter Tryd.func33, Tryd.ntmps33
  have hO := Own.start w
  go_upto_region 0 with (fail)
  refine Rg.ps [0, 1] (fun ν => [(2, D (ν 0)), (4, D (ν 1))]) (OI w (fun s ν => [[], [((ν 0), vals .u64 3 (limb r), 55)], [((ν 0), vals .u64 3 (limb r), 55), ((ν 1), vals .u64 3 (fun _ => 0), 55)]].getD s [])) (fun _ => 0) hO (Rg.ac (sn 0 (fun _ => vals .u64 3 (limb r)) 55 (fun _ w => run_box 55 _ rfl _ (by kernel_rfl) w) (fun _ => fit_l3 _)) (Rg.ac (sn 1 (fun _ => vals .u64 3 (fun _ => 0)) 55 (fun _ w => al_l3 rfl w) (fun _ => fit_l3 _)) Rg.an)) ?_
  intro ν w1 hO
  replace hO : Own w w1 [((ν 0), vals .u64 3 (limb r), 55), ((ν 1), vals .u64 3 (fun _ => 0), 55)] := hO
  simp only [Rg.putL, Act.put, List.setIfInBounds_toArray, List.set_cons_succ, List.set_cons_zero]
  generalize ν 0 = n2 at hO ⊢
  generalize ν 1 = n4 at hO ⊢
  clear ν
  go_upto_region 1 with (fail)
  refine Rg.ps [0] (fun ν => [(5, D (ν 0))]) (OI w (fun s ν => [[(n2, vals .u64 3 (limb r), 55), (n4, vals .u64 3 (fun _ => 0), 55)], [(n2, vals .u64 3 (limb r), 55), (n4, vals .u64 3 (fun _ => 0), 55), ((ν 0), vals .u64 3 (fun _ => 0), 55)]].getD s [])) (fun _ => 0) hO (Rg.ac (sn 0 (fun _ => vals .u64 3 (fun _ => 0)) 55 (fun _ w => al_l3 rfl w) (fun _ => fit_l3 _)) Rg.an) ?_
  intro ν w2 hO
  replace hO : Own w w2 [(n2, vals .u64 3 (limb r), 55), (n4, vals .u64 3 (fun _ => 0), 55), ((ν 0), vals .u64 3 (fun _ => 0), 55)] := hO
  simp only [Rg.putL, Act.put, List.setIfInBounds_toArray, List.set_cons_succ, List.set_cons_zero]
  generalize ν 0 = n5 at hO ⊢
  clear ν
  go_upto_region 2 with (fail)
  refine Rg.ps [0] (fun ν => [(6, D (ν 0))]) (OI w (fun s ν => [[(n2, vals .u64 3 (limb r), 55), (n4, vals .u64 3 (fun _ => 0), 55), (n5, vals .u64 3 (fun _ => 0), 55)], [(n2, vals .u64 3 (limb r), 55), (n4, vals .u64 3 (fun _ => 0), 55), (n5, vals .u64 3 (fun _ => 0), 55), ((ν 0), vals .u8 16 (fun _ => 0), 35)]].getD s [])) (fun _ => 0) hO (Rg.ac (sn 0 (fun _ => vals .u8 16 (fun _ => 0)) 35 (fun _ w => al_b16 rfl w) (fun _ => fit_b16 _)) Rg.an) ?_
  intro ν w3 hO
  replace hO : Own w w3 [(n2, vals .u64 3 (limb r), 55), (n4, vals .u64 3 (fun _ => 0), 55), (n5, vals .u64 3 (fun _ => 0), 55), ((ν 0), vals .u8 16 (fun _ => 0), 35)] := hO
  simp only [Rg.putL, Act.put, List.setIfInBounds_toArray, List.set_cons_succ, List.set_cons_zero]
  generalize ν 0 = n6 at hO ⊢
  clear ν
  have HO : Hid (Own w w3 [(n2, vals .u64 3 (limb r), 55), (n4, vals .u64 3 (fun _ => 0), 55), (n5, vals .u64 3 (limb (fb r g 0)), 55), (n6, vals .u8 16 (fun _ => 0), 35)]) := hide (by rw [show fb r g 0 = 0 from rfl, lz]; exact hO)
  clear hO
  go_wp2_with (fail)
  go_loopw [7, 13] (fun x7 x13 wr => ∃ (k Q d : Nat) (h : Nat → Nat), k ≤ mm ∧ x13 = .int .i64 k ∧ x7 = Nv .i64 d ∧ o k = 16 * Q + d ∧ d < 16 ∧ (∀ i, h i < 256) ∧ (∀ j, j < d → h j = g (16 * Q + j)) ∧ Own w wr [(n2, vals .u64 3 (limb r), 55), (n4, vals .u64 3 (fun _ => 0), 55), (n5, vals .u64 3 (limb (fb r g Q)), 55), (n6, vals .u8 16 h, 35)]) (fun _ x13 _ => mm - (intOf x13).toNat)
  case atStart => exact ⟨0, 0, 0, fun _ => 0, Nat.zero_le _, rfl, rfl, HP.out.zero, by omega, fun _ => Nat.zero_lt_succ _, fun j hj => absurd hj (Nat.not_lt_zero j), HO.out⟩
  case round =>
    clear HO
    obtain ⟨k, Q, d, h, hk9, rfl, rfl, hok, hd16, hh, hpre, hO⟩ := hrel
    have hmm := Hm.out
    by_cases hlt : k < mm
    · have hq0 : (0 : Int) ≤ (k : Int) := Int.natCast_nonneg k
      have hq1 : (k : Int) < (mm : Int) := by omega
      have hw1 := wr1 k (by omega)
      have hw0 := wr0 k (by omega)
      have hmo := HP.out.mono k hlt
      obtain ⟨a, rfl, hab, hac⟩ : ∃ a, S = some a ∧ a.block < w.heap.size ∧ ∀ i, i < mm → ∃ (A : Option Addr) (c : Nat), w.cell? (a.add i) = some (.slice A (o (i + 1) - o i) c) ∧ o (i + 1) - o i ≤ c ∧ Rd w A (o (i + 1) - o i) (fun j => g (o i + j)) := by
        rcases HP.out.cell with h | h
        · omega
        · exact h
      obtain ⟨P, cc, hc1, hc2, hc3⟩ := hac k hlt
      have hcell : wr.cell? (a.add k) = some (.slice P (o (k + 1) - o k) cc) := by
        rw [hO.low.cell (p := a.add k) (by rw [add_block]; exact hab)]; exact hc1
      obtain ⟨m, hm⟩ : ∃ m, Hid (o (k + 1) - o k = m) := ⟨_, hide rfl⟩
      rw [hm.out] at hcell hc2 hc3
      rw [hok] at hc3
      obtain ⟨pa, hpa⟩ : ∃ pa, Hid (a.add k = pa) := ⟨_, hide rfl⟩
      have Hsum : Hid (16 * Q + d + m = o (k + 1)) := hide (by have := hm.out; omega)
      have HH := hide hh
      have HPr := hide hpre
      have HO := hide hO
      have HR := hide hc3
      have Hcc := hide hc2
      have H16 := hide hd16
      have Hk := hide hlt
      clear hh hpre hO hc3 hc2 hc1 hac hab hmm hmo hok hlt hd16 hk9
      go_wp2_with (fail)
      refine scope_jumps 0 (RkJ w (some a) mm pc r g n2 n4 n5 n6 k (o (k + 1))) rkMu rfl ?_ ?_
      · clear Hsum HH HPr HO HR Hcc H16 hcell hm hpa
        rintro a' w' ⟨Q, d, m, cc, P, h, z10, z14, z15, z16, z17, z18, z19, z20, z21, z22, z23, z24, z25, z26, z27, z28, z29, z30, z31, z32, z33, rfl, hd16, hsum, hmc, hR, hh, hpre, hO⟩
        obtain ⟨q, hq⟩ : ∃ q, q = min m (16 - d) := ⟨_, rfl⟩
        have hqm : q ≤ m := by omega
        have hqd : d + q ≤ 16 := by omega
        have hd16' : d ≤ 16 := by omega
        obtain ⟨f, hf⟩ : ∃ f, Hid ((fun j => g (16 * Q + d + j)) = f) := ⟨_, hide rfl⟩
        have hfl : ∀ i, f i < 256 := fun i => by rw [← hf.out]; exact hg _
        rw [hf.out] at hR
        have HR := hide hR
        have Hsum := hide hsum
        have HPr := hide hpre
        have Hh := hide hh
        have Hmc := hide hmc
        have Hqd := hide hqd
        have Hqm := hide hqm
        have Hd := hide hd16
        obtain ⟨x, hx⟩ : ∃ x, Hid (fb r g Q = x) := ⟨_, hide rfl⟩
        rw [hx.out] at hO
        have hcut := run_cut P m cc q hqm
        have hadd := wrn d q (by omega)
        have Hq := hide hq
        clear hR hsum hpre hh hmc hqm hqd hq
        go_upto_region 7 with (fail)
        refine Rg.ps [3] (fun _ => [(17, Nv .i64 d), (18, .slice (some ⟨n6, d, none⟩) (16 - d) (16 - d)), (19, .slice P m cc), (20, Nv .i64 q), (10, Nv .i64 q)]) (OI w (fun s ν => [[(n2, vals .u64 3 (limb r), 55), (n4, vals .u64 3 (fun _ => 0), 55), (n5, vals .u64 3 (limb x), 55), (n6, vals .u8 16 h, 35)], [(n2, vals .u64 3 (limb r), 55), (n4, vals .u64 3 (fun _ => 0), 55), (n5, vals .u64 3 (limb x), 55), (n6, vals .u8 16 (laid h f d q), 35)]].getD s [])) (fun _ => 0) hO (Rg.ac nv (Rg.ac (nx (fun _ => .slice (some ⟨n6, d, none⟩) (16 - d) (16 - d)) (fun _ w => b_sl16 Hd.out w)) (Rg.ac nv (Rg.ac (scp 0 3 n6 d m cc q h f P hd16' Hq.out (fun ν w hO => HR.out.low hO.low)) (Rg.ac nv Rg.an))))) ?_
        intro ν w4 hO
        replace hO : Own w w4 [(n2, vals .u64 3 (limb r), 55), (n4, vals .u64 3 (fun _ => 0), 55), (n5, vals .u64 3 (limb x), 55), (n6, vals .u8 16 (laid h f d q), 35)] := hO
        simp only [Rg.putL, Act.put, List.setIfInBounds_toArray, List.set_cons_succ, List.set_cons_zero]
        clear ν
        have HO := hide hO
        clear hO
        have Hla : Hid (∀ i, laid h f d q i < 256) := hide (laid_lt Hh.out hfl d q)
        have Hlp : Hid (∀ j, j < d + q → laid h f d q j = g (16 * Q + j)) := hide (fun j hj => by rw [← hf.out]; exact laid_here g h Q d q HPr.out j hj)
        obtain ⟨h', hh'⟩ : ∃ h', Hid (laid h f d q = h') := ⟨_, hide rfl⟩
        rw [hh'.out] at HO Hla Hlp
        clear hh' Hh hfl HPr hd16'
        by_cases hfull : d + q = 16
        · have h16 : ((d + q : Nat) : Int) = 16 := by omega
          have HFu := hide hfull
          clear hfull
          obtain ⟨y', hy'⟩ : ∃ y', Hid (y' = fb r g (Q + 1)) := ⟨_, hide rfl⟩
          have hyt : y' = tm (x + (nb h' 16 + 2 ^ (8 * 16))) r := by
            rw [hy'.out, ← hx.out, fb, bl, nb_congr h' (fun j => g (16 * Q + j)) 16 fun j hj => Hlp.out j (by have := HFu.out; omega)]
          have hxl : x < 2 ^ 131 := by rw [← hx.out]; exact HF.out Q
          have HC : Hid (∀ w1 : World, Rd w1 (some ⟨n6, 0, none⟩) 16 h' → Ret 44 #[A (vals .u64 3 (limb x)), .slice (some ⟨n6, 0, none⟩) 16 16, A (vals .u64 3 (limb r))] w1 (A (vals .u64 3 (limb y')))) := hide fun w1 hR => further_c x hxl _ 16 16 h' Hla.out (Nat.le_refl _) r hr y' hyt w1 hR
          clear hyt hxl
          go_upto_region 11 with (fail)
          have hO := HO.out
          clear HO hcut hadd h16
          refine Rg.pd [3, 4] (fun _ => [(29, A (vals .u64 3 (limb x))), (30, .slice (some ⟨n6, 0, none⟩) 16 16), (31, A (vals .u64 3 (limb r))), (32, A (vals .u64 3 (limb y')))]) (OI w (fun s ν => [[(n2, vals .u64 3 (limb r), 55), (n4, vals .u64 3 (fun _ => 0), 55), (n5, vals .u64 3 (limb x), 55), (n6, vals .u8 16 h', 35)], [(n2, vals .u64 3 (limb r), 55), (n4, vals .u64 3 (fun _ => 0), 55), (n5, vals .u64 3 (limb x), 55), (n6, vals .u8 16 h', 35)], [(n2, vals .u64 3 (limb r), 55), (n4, vals .u64 3 (fun _ => 0), 55), (n5, vals .u64 3 (limb y'), 55), (n6, vals .u8 16 h', 35)]].getD s [])) (fun _ => 0) hO.drew (Rg.ac (nld 0 0 2 (at1 0 fun _ => by kernel_rfl) Tryd.underlying55) (Rg.ac nv (Rg.ac (nld 0 0 0 (at1 0 fun _ => by kernel_rfl) Tryd.underlying55) (Rg.ac (sq 0 44 (fun _ => #[A (vals .u64 3 (limb x)), .slice (some ⟨n6, 0, none⟩) 16 16, A (vals .u64 3 (limb r))]) (fun _ => A (vals .u64 3 (limb y'))) (fun ν w hO => HC.out w ((rd_row (hO.row 3 rfl) (Nat.le_refl _)).congr fun i _ => by rw [Nat.zero_add]))) (Rg.ac (sr 1 2 (fun _ => vals .u64 3 (limb y')) (fun _ => fit_l3 _)) Rg.an))))) ?_
          intro ν w5 hO
          replace hO : Own w w5 [(n2, vals .u64 3 (limb r), 55), (n4, vals .u64 3 (fun _ => 0), 55), (n5, vals .u64 3 (limb y'), 55), (n6, vals .u8 16 h', 35)] := hO
          simp only [Rg.putL, Act.put, List.setIfInBounds_toArray, List.set_cons_succ, List.set_cons_zero]
          clear ν
          have HO := hide hO
          clear hO
          go_wp2_with (fail)
          go_step3
          refine ⟨rfl, ⟨Q + 1, 0, m - q, cc - q, cutA P q cc, h', _, _, _, _, _, _, _, _, _, _, _, _, _, _, _, _, _, _, _, _, _, rfl, by omega, by have := Hsum.out; have := HFu.out; have := Hqm.out; omega, by have := Hmc.out; omega, ?_, Hla.out, fun j hj => by omega, by rw [← hy'.out]; exact HO.out⟩, ?_⟩
          · refine (HR.out.cut q cc Hmc.out).congr fun i _ => ?_
            rw [← hf.out]
            show g (16 * Q + d + (q + i)) = g (16 * (Q + 1) + 0 + i)
            congr 1; have := HFu.out; omega
          · have h1 := HFu.out
            have h2 := Hd.out
            have h3 := Hqm.out
            show m - q < m
            omega
        · have h16 : ¬ ((d + q : Nat) : Int) = 16 := by omega
          have Hle : Hid (d + q < 16) := hide (by have := Hqd.out; omega)
          have Hok : Hid (o (k + 1) = 16 * Q + (d + q)) := hide (by have := Hsum.out; have := Hq.out; have := Hle.out; omega)
          clear hfull
          go_wp2_with (fail)
          all_goals simp only [Exit.jump]
          clear h16 hcut hadd
          go_wp2_with (fail)
          go_roundw
          case rel => exact ⟨k + 1, Q, d + q, h', Hk.out, in_succ k, rfl, Hok.out, Hle.out, Hla.out, Hlp.out, by rw [hx.out]; exact HO.out⟩
          case measure => exact ms_lt Hk.out
      · intro H
        go_wp2_with (fail)
        go_step3
        rename_i hK
        refine hK _ _ (H _ _ ?_)
        exact ⟨Q, d, m, cc, P, h, _, _, _, _, _, _, _, _, _, _, _, _, _, _, _, _, _, _, _, _, _, rfl, H16.out, Hsum.out, Hcc.out, HR.out, HH.out, HPr.out, HO.out⟩
    · have ek : k = mm := by omega
      obtain rfl := ek
      have hyv := Hy.out.trans (pv_at r g (o k) Q d hok hd16)
      have Hhh := hide hh
      have Hpre := hide hpre
      have Hd := hide hd16
      clear hh hpre hok hmm hlt hk9 hd16
      by_cases hd0 : d = 0
      · rw [if_pos hd0] at hyv
        have h0 : ¬ (0 : Int) < (d : Int) := by omega
        rw [← hyv] at hO
        clear hyv hd0
        go_upto_region 16 with (fail)
        clear h0
        refine Rg.ps [1] (fun _ => [(41, A (vals .u64 3 (limb y)))]) (OI w (fun s ν => [[(n2, vals .u64 3 (limb r), 55), (n4, vals .u64 3 (fun _ => 0), 55), (n5, vals .u64 3 (limb y), 55), (n6, vals .u8 16 h, 35)], [(n2, vals .u64 3 (limb r), 55), (n4, vals .u64 3 (limb y), 55), (n5, vals .u64 3 (limb y), 55), (n6, vals .u8 16 h, 35)]].getD s [])) (fun _ => 0) hO (Rg.ac (nld 0 0 2 (at1 0 fun _ => by kernel_rfl) Tryd.underlying55) (Rg.ac (sr 0 1 (fun _ => vals .u64 3 (limb y)) (fun _ => fit_l3 _)) Rg.an)) ?_
        intro ν w6 hO
        replace hO : Own w w6 [(n2, vals .u64 3 (limb r), 55), (n4, vals .u64 3 (limb y), 55), (n5, vals .u64 3 (limb y), 55), (n6, vals .u8 16 h, 35)] := hO
        simp only [Rg.putL, Act.put, List.setIfInBounds_toArray, List.set_cons_succ, List.set_cons_zero]
        clear ν
        go_wp2_with (fail)
        refine bodyPost_ret (v := A (vals .u64 3 (limb y))) (results_cell_row Tryd.results33 _ _ n4 55 _ (0, 0) _ rfl (hO.row 1 rfl) Tryd.underlying55 rfl ((fit_l3 _).size rfl)) rfl ⟨rfl, hO.low⟩
      · rw [if_neg hd0] at hyv
        have h0 : (0 : Int) < (d : Int) := by omega
        obtain ⟨x, hx⟩ : ∃ x, Hid (fb r g Q = x) := ⟨_, hide rfl⟩
        have hxl : x < 2 ^ 131 := by rw [← hx.out]; exact HF.out Q
        rw [hx.out] at hO hyv
        rw [← nb_congr h _ d Hpre.out] at hyv
        have HC : Hid (∀ w1 : World, Rd w1 (some ⟨n6, 0, none⟩) d h → Ret 44 #[A (vals .u64 3 (limb x)), .slice (some ⟨n6, 0, none⟩) d 16, A (vals .u64 3 (limb r))] w1 (A (vals .u64 3 (limb y)))) := hide fun w1 hR => further_c x hxl _ d 16 h Hhh.out (Nat.le_of_lt Hd.out) r hr y hyv w1 hR
        have hd16 := Hd.out
        clear hyv hd0 hxl hx Hd
        go_upto_region 15 with (fail)
        clear h0
        refine Rg.pd [4, 5] (fun _ => [(36, A (vals .u64 3 (limb x))), (37, Nv .i64 d), (38, .slice (some ⟨n6, 0, none⟩) d 16), (39, A (vals .u64 3 (limb r))), (40, A (vals .u64 3 (limb y)))]) (OI w (fun s ν => [[(n2, vals .u64 3 (limb r), 55), (n4, vals .u64 3 (fun _ => 0), 55), (n5, vals .u64 3 (limb x), 55), (n6, vals .u8 16 h, 35)], [(n2, vals .u64 3 (limb r), 55), (n4, vals .u64 3 (fun _ => 0), 55), (n5, vals .u64 3 (limb x), 55), (n6, vals .u8 16 h, 35)], [(n2, vals .u64 3 (limb r), 55), (n4, vals .u64 3 (fun _ => 0), 55), (n5, vals .u64 3 (limb y), 55), (n6, vals .u8 16 h, 35)]].getD s [])) (fun _ => 0) hO.drew (Rg.ac (nld 0 0 2 (at1 0 fun _ => by kernel_rfl) Tryd.underlying55) (Rg.ac nv (Rg.ac (nx (fun _ => .slice (some ⟨n6, 0, none⟩) d 16) (fun _ w => b_sh16 hd16 w)) (Rg.ac (nld 0 0 0 (at1 0 fun _ => by kernel_rfl) Tryd.underlying55) (Rg.ac (sq 0 44 (fun _ => #[A (vals .u64 3 (limb x)), .slice (some ⟨n6, 0, none⟩) d 16, A (vals .u64 3 (limb r))]) (fun _ => A (vals .u64 3 (limb y))) (fun ν w hO => HC.out w ((rd_row (hO.row 3 rfl) (by omega)).congr fun i _ => by rw [Nat.zero_add]))) (Rg.ac (sr 1 2 (fun _ => vals .u64 3 (limb y)) (fun _ => fit_l3 _)) Rg.an)))))) ?_
        intro ν w7 hO
        replace hO : Own w w7 [(n2, vals .u64 3 (limb r), 55), (n4, vals .u64 3 (fun _ => 0), 55), (n5, vals .u64 3 (limb y), 55), (n6, vals .u8 16 h, 35)] := hO
        simp only [Rg.putL, Act.put, List.setIfInBounds_toArray, List.set_cons_succ, List.set_cons_zero]
        clear ν
        go_upto_region 16 with (fail)
        refine Rg.ps [1] (fun _ => [(41, A (vals .u64 3 (limb y)))]) (OI w (fun s ν => [[(n2, vals .u64 3 (limb r), 55), (n4, vals .u64 3 (fun _ => 0), 55), (n5, vals .u64 3 (limb y), 55), (n6, vals .u8 16 h, 35)], [(n2, vals .u64 3 (limb r), 55), (n4, vals .u64 3 (limb y), 55), (n5, vals .u64 3 (limb y), 55), (n6, vals .u8 16 h, 35)]].getD s [])) (fun _ => 0) hO (Rg.ac (nld 0 0 2 (at1 0 fun _ => by kernel_rfl) Tryd.underlying55) (Rg.ac (sr 0 1 (fun _ => vals .u64 3 (limb y)) (fun _ => fit_l3 _)) Rg.an)) ?_
        intro ν w8 hO
        replace hO : Own w w8 [(n2, vals .u64 3 (limb r), 55), (n4, vals .u64 3 (limb y), 55), (n5, vals .u64 3 (limb y), 55), (n6, vals .u8 16 h, 35)] := hO
        simp only [Rg.putL, Act.put, List.setIfInBounds_toArray, List.set_cons_succ, List.set_cons_zero]
        clear ν
        go_wp2_with (fail)
        refine bodyPost_ret (v := A (vals .u64 3 (limb y))) (results_cell_row Tryd.results33 _ _ n4 55 _ (0, 0) _ rfl (hO.row 1 rfl) Tryd.underlying55 rfl ((fit_l3 _).size rfl)) rfl ⟨rfl, hO.low⟩
end Go.Proofs.YtanahjoiilfcbaaDoor

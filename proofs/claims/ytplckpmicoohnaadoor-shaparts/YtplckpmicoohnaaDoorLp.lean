/- ShaParts' walk: for all bytes and cuts the law returns true. -/
import Derived.Test.YtplckpmicoohnaaDoorLb
namespace Go.Proofs.YtplckpmicoohnaaDoor
open Go.RowKit

set_option maxRecDepth 100000 in
set_option maxHeartbeats 8000000 in
theorem parts_walk (A A2 : Option Addr) (l cs : List Nat) (cap cap2 : Nat) (w : World) (hG : Glob w) (hA : Rds w A l) (hcap : l.length ≤ cap) (hl : ∀ x ∈ l, x < 256) (hA2 : RdU w A2 cs) (_ : cs.length ≤ cap2) (hx2 : ∀ x ∈ cs, x < 65536) :
    Calls Tryd.prog 5 #[.slice A l.length cap, .slice A2 cs.length cap2] w fun e w' => e = .returned (.bool true) ∧ Below w.heap.size w w' := by
  have HG := hide hG
  have HA := hide hA
  have Hcap := hide hcap
  have Hl := hide hl
  have HA2 := hide hA2
  have Hx2 := hide hx2
  clear hG hA hcap hl hA2 hx2
  go_enter Tryd.func5, Tryd.ntmps5
  go_upto_region 2 with (go_at_call 8; refine (awake_at _ _ rfl HG.out).mono ?_; rintro e w1 ⟨rfl, hb⟩; have L1 := hide hb; clear hb; dsimp only)
  by_cases hlen : 2000 < l.length
  · have hi : (2000 : Int) < (l.length : Int) := by omega
    go_wp2
    go_ret
    exact ⟨rfl, L1.out⟩
  have hi : ¬ (2000 : Int) < (l.length : Int) := by omega
  have Hlen := hide hlen
  clear hlen
  have hz1 := zero24
  have hz2 := zero31
  go_upto_region 9 with (first
    | (go_at_call 9; refine (all_one A l cap w1.heap.size 22 _ _ rfl (Blk.new w1 _ _) (HG.out.low (L1.out.alloc L1.out.size _)) (HA.out.low (L1.out.alloc L1.out.size _)) Hcap.out Hl.out (by have := Hlen.out; omega)).mono ?_; rintro e k11 ⟨rfl, hb⟩; have L_11 := hide (keepLow2 (L1.out.alloc L1.out.size _) hb); clear hb L1; dsimp only)
    | (refine wpList_store_abs rfl 24 _ _ rfl k11.heap.size (vals .u8 64 (dg l)) rfl rfl 24 _ (Blk.new k11 _ _) (by rw [vals_size]; exact cells24) (by simp only [vals_size]) (vals_one _ _ _) ?_; intro k12 Bn Sn; have L_12 := hide (Sn.low _ _ (L_11.out.alloc L_11.out.size _) L_11.out.size); have leW := hide L_11.out.size; have W_12 := hide Bn; clear Bn Sn L_11)
    | (go_at_call 11; refine (new_any _).mono ?_; rintro e k13 ⟨rfl, hb⟩; have W_13 := hide (W_12.out.call hb); have L_13 := hide (keepLow2 L_12.out hb); clear hb W_12 L_12; dsimp only)
    | (refine wpList_store_abs rfl 31 _ _ rfl k13.heap.size (stc (fun _ => 0) (fun _ => 0) 0) rfl rfl 31 _ (Blk.new k13 _ _) (by rw [stc_size]; exact cells31) (by simp only [stc_size]) (stc_one _ _ _) ?_; intro k14 Bn Sn; have W_14 := hide (Sn.other _ _ _ (Nat.ne_of_gt W_13.out.lt) (W_13.out.alloc _)); have L_14 := hide (Sn.low _ _ (L_13.out.alloc L_13.out.size _) L_13.out.size); have neSW := hide (Nat.ne_of_gt W_13.out.lt); have leS := hide L_13.out.size; have S_14 := hide Bn; clear Bn Sn W_13 L_13))
  clear hz1 hz2
  have HB : Hid (k11.heap.size < k14.heap.size ∧ k13.heap.size < k14.heap.size ∧ k13.heap.size ≠ k11.heap.size ∧ w.heap.size ≤ k14.heap.size) := hide ⟨W_14.out.lt, S_14.out.lt, neSW.out, L_14.out.size⟩
  clear neSW leW
  generalize k11.heap.size = bw at *
  generalize k13.heap.size = bs at *
  obtain ⟨B, hB⟩ : ∃ B, B = k14.heap.size := ⟨_, rfl⟩
  rw [← hB] at HB
  have HBe := hide hB
  clear hB
  go_wp2
  go_loopw [8, 9, 10] (fun rest parts i wr => ∃ (k : Nat) (ps : List Pt) (A' P : Option Addr) (t : List Nat) (c' pc : Nat) (r f : Nat → Nat) (n : Nat), k ≤ 50 ∧ k ≤ cs.length ∧ ps.length = k ∧ i = .int .i64 k ∧ rest = .slice A' t.length c' ∧ parts = .slice P ps.length pc ∧ t.length ≤ c' ∧ Rds w A' t ∧ cat ps ++ t = l ∧ Rep r f n (cat ps) ∧ PtOk w ps ∧ Own wr B 22 (.slice P ps.length pc) (ptv ps) ∧ Blk wr bs (stc r f n) 31 ∧ Blk wr bw (vals .u8 64 (dg l)) 24 ∧ Below w.heap.size w wr ∧ B ≤ wr.heap.size) (fun _ _ i _ => 50 - (intOf i).toNat)
  case atStart => exact ⟨0, [], A, none, l, cap, 0, _, _, 0, by omega, Nat.zero_le _, rfl, rfl, rfl, rfl, Hcap.out, HA.out, rfl, rep_none, (fun q hq => nomatch hq), own_nil _ _ _, S_14.out, W_14.out, L_14.out, by rw [HBe.out]; exact Nat.le_refl _⟩
  case round =>
    clear S_14 W_14 L_14
    obtain ⟨k, ps, A', P, t, c', pc, r, f, n, hk, hkc, hpk, rfl, rfl, rfl, hc', hA', hct, hR, hO, hOwn, Bs, Bw, L, hBw⟩ := hrel
    have HA' := hide hA'
    have Hc' := hide hc'
    have Hct := hide hct
    have HR := hide hR
    have HO := hide hO
    have HOwn := hide hOwn
    have HBs := hide Bs
    have HBw := hide Bw
    have HL := hide L
    have Hsz := hide hBw
    have Hpk := hide hpk
    have Htl : Hid ((cat ps).length + t.length = l.length) := hide (by rw [← hct, List.length_append])
    have Htx : Hid (∀ x ∈ t, x < 256) := hide (fun x hx => Hl.out x (by rw [← Hct.out]; exact List.mem_append_right _ hx))
    clear hA' hc' hct hR hO hOwn Bs Bw L hBw hpk
    by_cases hlt : k < cs.length ∧ k < 50
    · obtain ⟨hl1, hl2⟩ := hlt
      obtain ⟨x, hx⟩ : ∃ x, cs[k]? = some x := ⟨_, List.getElem?_eq_getElem hl1⟩
      obtain ⟨a, rfl, hab, hac⟩ : ∃ a, A2 = some a ∧ a.block < w.heap.size ∧ ∀ (i : Nat) (x : Nat), cs[i]? = some x → w.cell? (a.add i) = some (.int .u16 (x : Nat)) := by
        rcases HA2.out with h | h
        · rw [h] at hl1; simp at hl1
        · exact h
      have hcell : wr.cell? (a.add k) = some (.int .u16 (x : Nat)) := by
        rw [HL.out.cell (p := a.add k) (by rw [add_block]; exact hab)]; exact hac k x hx
      have hx6 : x < 65536 := Hx2.out x (List.mem_of_getElem? hx)
      clear hac hab hx
      have hk0 : (0 : Int) ≤ (k : Int) := by omega
      have hkl : (k : Int) < (cs.length : Int) := by omega
      have hk5 : (k : Int) < 50 := by omega
      have hw6 : wrap64 (x : Int) = (x : Int) := by unfold wrap64; omega
      obtain ⟨y, hy⟩ : ∃ y, y = x % 300 := ⟨_, rfl⟩
      have hr1 : (x : Int).tmod 300 = (y : Int) := by rw [hy]; exact rem300 x
      have hr2 : (x : Int) % 300 = (y : Int) := by omega
      clear hy
      go_upto_region 12 with (fail)
      obtain ⟨c, hc⟩ : ∃ c, c = min y t.length := ⟨_, rfl⟩
      have hmin : (if t.length < y then (t.length : Int) else (y : Int)) = (c : Int) := by rw [hc]; split <;> omega
      rw [hmin]
      have Hc : Hid (c ≤ t.length) := hide (by omega)
      have Htk : Hid ((t.take c).length = c) := hide (by rw [List.length_take]; omega)
      clear hmin hc hr1 hr2 hw6 hcell hx6
      have hz1 := zero24
      have Hcl : Hid ((cat ps).length < 2 ^ 59) := hide (by have := Htl.out; have := Hlen.out; omega)
      go_upto_region 13 with (first
        | (refine wpList_load_row rfl 31 _ rfl bs rfl 31 _ (0, 0) _ HBs.out Tryd.underlying31 rfl (by rw [stc_size]; exact cells31) ?_)
        | (go_at_call 13; refine (sum_n r f n (cat ps) (cat ps) _ _ rfl (HG.out.low HL.out) HR.out (by have := Hcl.out; omega) rfl).mono ?_; rintro e k1 ⟨rfl, hb⟩; have Bs1 := hide (HBs.out.call hb); have Bw1 := hide (HBw.out.call hb); have O1 := hide (HOwn.out.low hb); have L1 := hide (keepLow2 HL.out hb); have Z1 := hide (Nat.le_trans Hsz.out hb.size); clear hb HBs HBw HOwn HL; dsimp only)
        | (refine wpList_store_abs rfl 24 _ _ rfl k1.heap.size (vals .u8 64 (dg (cat ps))) rfl rfl 24 _ (Blk.new k1 _ _) (by rw [vals_size]; exact cells24) (by simp only [vals_size]) (vals_one _ _ _) ?_; intro k2 Bn Sn; have Bs2 := hide (Sn.other _ _ _ (Nat.ne_of_gt Bs1.out.lt) (Bs1.out.alloc _)); have Bw2 := hide (Sn.other _ _ _ (Nat.ne_of_gt Bw1.out.lt) (Bw1.out.alloc _)); have O2 := hide (O1.out.made Sn); have L2 := hide (Sn.low _ _ (L1.out.alloc L1.out.size _) L1.out.size); have Z2 := hide (Nat.le_trans Z1.out (Nat.le_trans (by simp) Sn.size)); have D2 := hide Bn; clear Bn Sn Bs1 Bw1 O1 L1 Z1))
      clear hz1
      refine pa_region _ (fun _ _ _ _ _ h => h) k2 _ _ _ _ _ _ _ _ _ _ _ _ _ _ _ _ _ _ _ _ _ _ _ _ _ _ _ _ _ _ _ _ _ _ _ _ _ _ _ _ _ _ _ _ _ _ _ _ _ _ _ _ _ _ _ _ _ _ _ _ _ _ _ _ _ _ _ _ _ _ _ _ _ _ _ _ _ _ _ _ _ _ _ _ _ _ _ _ bs r f n (cat ps) t c c' A' (HG.out.low L2.out) Bs2.out HR.out (HA'.out.low L2.out) Hc'.out Htx.out Hc.out (by have := Htl.out; have := Hlen.out; omega) ?_
      intro r2 f2 n2 b13 w3 hb3 hR2 g13 cN
      have Bs3 := hide (Bs2.out.call hb3)
      have Bw3 := hide (Bw2.out.call hb3)
      have D3 := hide (D2.out.call hb3)
      have O3 := hide (O2.out.low hb3)
      have L3 := hide (keepLow2 L2.out hb3)
      have Z3 := hide (Nat.le_trans Z2.out hb3.size)
      have N3 := hide cN
      have HR2 := hide hR2
      have Hne : Hid (bs ≠ b13) := hide (by have := Bs2.out.lt; omega)
      clear hb3 hR2 g13 cN Bs2 Bw2 D2 O2 L2 Z2
      go_wp2
      refine pb_region _ (fun _ _ _ _ _ h => h) w3 _ _ _ _ _ _ _ _ _ _ _ _ _ _ _ _ _ _ _ _ _ _ _ _ _ _ _ _ _ _ _ _ _ _ _ _ _ _ _ _ _ _ _ _ _ _ _ _ _ _ _ _ _ _ _ _ _ _ _ _ _ _ _ _ _ _ _ _ _ _ _ _ _ _ _ _ _ _ _ _ _ _ _ _ _ _ _ _ _ bs k1.heap.size r f n (cat ps) (HG.out.low L3.out) Bs3.out D3.out HR.out Hcl.out ?_
      intro w4 hb4
      have Bs4 := hide (Bs3.out.call hb4)
      have Bw4 := hide (Bw3.out.call hb4)
      have N4 := hide (N3.out.call hb4)
      have O4 := hide (O3.out.low hb4)
      have L4 := hide (keepLow2 L3.out hb4)
      have Z4 := hide (Nat.le_trans Z3.out hb4.size)
      clear hb4 Bs3 Bw3 D3 O3 L3 Z3 N3
      go_upto_region 17 with (first
        | (refine wpList_load_row rfl 31 _ rfl b13 rfl 31 _ (0, 0) _ N4.out Tryd.underlying31 rfl (by rw [stc_size]; exact cells31) ?_)
        | (refine wpList_store_row rfl 31 _ _ rfl bs (stc r2 f2 n2) rfl rfl 31 _ Bs4.out (by rw [stc_size]; exact cells31) (by rw [stc_size, stc_size]) (stc_one _ _ _) ?_))
      have Bs5 := hide (Bs4.out.row (stc r2 f2 n2))
      have Bw5 := hide (Bw4.out.rowOther (b' := bs) (stc r2 f2 n2) HB.out.2.2.1)
      have O5 := hide (O4.out.below (g := bs) (cs := stc r2 f2 n2) HB.out.2.1 rfl)
      have L5 := hide (Below.row (b := bs) L4.out leS.out (stc r2 f2 n2))
      have Z5 : Hid (B ≤ (w4.setRow bs (stc r2 f2 n2)).heap.size) := hide (by rw [setRow_size]; exact Z4.out)
      clear Bs4 Bw4 O4 L4 Z4 N4
      generalize w4.setRow bs (stc r2 f2 n2) = w5 at *
      obtain ⟨P6, pc6, w6, r6, o6, lo6, s6⟩ := app_part O5.out Z5.out (A', t.take c, c') (by have := Hpk.out; omega)
      dsimp only at r6
      rw [Htk.out] at r6
      have R6 := hide r6
      have Bs6 := hide (Bs5.out.below lo6 HB.out.2.1)
      have Bw6 := hide (Bw5.out.below lo6 HB.out.1)
      have O6 := hide o6
      have L6 := hide (L5.out.trans (lo6.mono HB.out.2.2.2))
      have Z6 := hide (Nat.le_trans Z5.out s6)
      clear r6 o6 lo6 s6 Bs5 Bw5 O5 L5 Z5
      have hhd := run_headc A' t.length c' c (by have := Hc.out; have := Hc'.out; omega)
      have hct := run_cut A' t.length c' c Hc.out
      simp only [Act.put]
      have Hdt : Hid (cat (ps ++ [(A', t.take c, c')]) ++ t.drop c = l) := hide (by rw [cat_app, List.append_assoc, List.take_append_drop]; exact Hct.out)
      have Hdl : Hid ((t.drop c).length = t.length - c) := hide (by rw [List.length_drop])
      have Hrp : Hid (Rep r2 f2 n2 (cat (ps ++ [(A', t.take c, c')]))) := hide (by rw [cat_app]; exact HR2.out)
      have Hok : Hid (PtOk w (ps ++ [(A', t.take c, c')])) := hide (ptok_app HO.out ⟨rds_take HA'.out c, by show (t.take c).length ≤ c'; rw [Htk.out]; have := Hc.out; have := Hc'.out; omega, fun x hx => Htx.out x (List.mem_of_mem_take hx)⟩)
      have hkm : IntKind.i64.wrap ((k : Int) + 1) = (k : Int) + 1 := wrap_i64_small' _ (by omega) (by omega)
      go_wp2_with (at_builtin; refine wpList_app rfl _ _ 44 rfl rfl rfl R6.out ?_)
      refine ⟨⟨k + 1, ps ++ [(A', t.take c, c')], cutA A' c c', P6, t.drop c, c' - c, pc6, r2, f2, n2, by omega, by omega, by rw [List.length_append, Hpk.out]; rfl, by go_num, by rw [Hdl.out], by rw [List.length_append]; rfl, ?_, HA'.out.cut c c' Hc'.out, Hdt.out, Hrp.out, Hok.out, O6.out, Bs6.out, Bw6.out, L6.out, Z6.out⟩, ?_⟩
      · rw [Hdl.out]; have := Hc'.out; omega
      · simp [intOf]; omega
    · obtain ⟨P6, pc6, w6, r6, o6, lo6, s6⟩ := app_part HOwn.out Hsz.out (A', t, c') (by have := Hpk.out; omega)
      dsimp only at r6
      have R6 := hide r6
      have Bs6 := hide (HBs.out.below lo6 HB.out.2.1)
      have Bw6 := hide (HBw.out.below lo6 HB.out.1)
      have O6 := hide o6
      have L6 := hide (HL.out.trans (lo6.mono HB.out.2.2.2))
      clear r6 o6 lo6 s6 HBs HBw HOwn HL
      have hcat : cat (ps ++ [(A', t, c')]) = l := by rw [cat_app]; exact Hct.out
      have hprt : Prt w6 P6 (ps ++ [(A', t, c')]) := by
        obtain ⟨P7, pc7, e7, h7⟩ := own_prt O6.out
        injection e7 with e8
        subst e8; exact h7
      have Hcat := hide hcat
      have Hprt := hide hprt
      clear hcat hprt
      have Hok : Hid (PtOk w (ps ++ [(A', t, c')])) := hide (ptok_app HO.out ⟨HA'.out, Hc'.out, Htx.out⟩)
      have Hpl : Hid ((ps ++ [(A', t, c')]).length = ps.length + 1) := hide (by simp)
      have Hall : Hid ((cat ps).length + t.length < 2 ^ 59 ∧ l.length < 2 ^ 58 ∧ (ps ++ [(A', t, c')]).length < 2 ^ 60) := hide (by rw [Hpl.out, Hpk.out]; have := Htl.out; have := Hlen.out; omega)
      have Hend : Hid (∀ (P : Prop), (cs.length ≤ k → P) → (k = 50 → k < cs.length → P) → P) := hide (fun P h1 h2 => by
        by_cases h : k < cs.length
        · exact h2 (by omega) h
        · exact h1 (by omega))
      refine Hend.out _ (fun hge => ?_) (fun h50 hcl => ?_)
      · have hkl : ¬ (k : Int) < (cs.length : Int) := by omega
        clear Hend hlt
        go_upto_region 20 with (at_builtin; refine wpList_app rfl _ _ 44 rfl rfl rfl R6.out ?_)
        rw [← Hpl.out]
        refine pc_region _ (fun _ _ _ _ _ h => h) w6 _ _ _ _ _ _ _ _ _ _ _ _ _ _ _ _ _ _ _ _ _ _ _ _ _ _ _ _ _ _ _ _ _ _ _ _ _ _ _ _ _ _ _ _ _ _ _ _ _ _ _ _ _ _ _ _ _ _ _ _ _ _ _ _ _ _ _ _ _ _ _ _ _ _ _ _ _ _ _ _ _ _ _ _ _ bs bw r f n (cat ps) t l c' cap pc6 A' A P6 (ps ++ [(A', t, c')]) (HG.out.low L6.out) Bs6.out Bw6.out HR.out (HA'.out.low L6.out) Hc'.out Htx.out Hct.out (HA.out.low L6.out) Hcap.out Hl.out Hprt.out (Hok.out.low L6.out) Hcat.out Hall.out.2.2 Hall.out.2.1 Hall.out.1 ?_
        intro r2 f2 n2 r3 f3 n3 w7 hb7 _ _
        have L7 := hide (keepLow2 L6.out hb7)
        clear hb7
        go_wp2
        go_ret
        exact ⟨rfl, L7.out⟩
      · have hkl : (k : Int) < (cs.length : Int) := by omega
        have hk5 : ¬ (k : Int) < 50 := by omega
        clear Hend hlt
        go_upto_region 20 with (at_builtin; refine wpList_app rfl _ _ 44 rfl rfl rfl R6.out ?_)
        rw [← Hpl.out]
        refine pc_region _ (fun _ _ _ _ _ h => h) w6 _ _ _ _ _ _ _ _ _ _ _ _ _ _ _ _ _ _ _ _ _ _ _ _ _ _ _ _ _ _ _ _ _ _ _ _ _ _ _ _ _ _ _ _ _ _ _ _ _ _ _ _ _ _ _ _ _ _ _ _ _ _ _ _ _ _ _ _ _ _ _ _ _ _ _ _ _ _ _ _ _ _ _ _ _ bs bw r f n (cat ps) t l c' cap pc6 A' A P6 (ps ++ [(A', t, c')]) (HG.out.low L6.out) Bs6.out Bw6.out HR.out (HA'.out.low L6.out) Hc'.out Htx.out Hct.out (HA.out.low L6.out) Hcap.out Hl.out Hprt.out (Hok.out.low L6.out) Hcat.out Hall.out.2.2 Hall.out.2.1 Hall.out.1 ?_
        intro r2 f2 n2 r3 f3 n3 w7 hb7 _ _
        have L7 := hide (keepLow2 L6.out hb7)
        clear hb7
        go_wp2
        go_ret
        exact ⟨rfl, L7.out⟩
end Go.Proofs.YtplckpmicoohnaaDoor

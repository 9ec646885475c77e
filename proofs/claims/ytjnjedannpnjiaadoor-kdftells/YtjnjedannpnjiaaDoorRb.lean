/- Walks of the reference: block. -/
import Derived.Test.YtjnjedannpnjiaaDoorRa
namespace Go.Proofs.YtjnjedannpnjiaaDoor
open Go.RowKit

/-- What h holds behind k additions. -/
theorem arr8_at (v : V) : arr 8 v.at = #[.int .u64 (v.a : Nat), .int .u64 (v.b : Nat), .int .u64 (v.c : Nat), .int .u64 (v.d : Nat), .int .u64 (v.e : Nat), .int .u64 (v.f : Nat), .int .u64 (v.g : Nat), .int .u64 (v.h : Nat)] := rfl
theorem vof_at (H : Nat → Nat) (j : Nat) (h : j < 8) : (vof H).at j = H j := by
  have : j = 0 ∨ j = 1 ∨ j = 2 ∨ j = 3 ∨ j = 4 ∨ j = 5 ∨ j = 6 ∨ j = 7 := by omega
  rcases this with rfl | rfl | rfl | rfl | rfl | rfl | rfl | rfl <;> rfl
set_option maxRecDepth 100000 in
set_option maxHeartbeats 8000000 in
theorem block_any (H : Nat → Nat) (A : Option Addr) (l : List Nat) (cap : Nat) (w : World) (hH : ∀ i, H i < 2 ^ 64) (hA : Rds w A l) (hl : l.length = 128) (hx : ∀ x ∈ l, x < 256) :
    Calls Tryd.prog 30 #[.agg (arr 8 H), .slice A 128 cap, .agg (arr 80 kc)] w fun e w' => e = .returned (.agg (arr 8 (fun i => (H i + out H (fun j => l.getD j 0) i) % 2 ^ 64))) ∧ Below w.heap.size w w' := by
  have HH := hide hH
  have HA := hide hA
  have Hl := hide hl
  have Hx := hide hx
  clear hH hA hl hx
  obtain ⟨f, hf⟩ : ∃ f : Nat → Nat, f = fun j => l.getD j 0 := ⟨_, rfl⟩
  rw [← hf]
  have Hfe := hide hf
  clear hf
  have hz := zero36
  have B1 := hide ((((Blk.new w (arr 8 H) 45).alloc (.cells (arr 80 kc) 52)).alloc (.cells (arr 8 (fun _ => 0)) 45)))
  have B2 := hide ((Blk.new' (w.alloc (.cells (arr 8 H) 45)) (w.heap.size + 1) (by simp) (arr 80 kc) 52).alloc (.cells (arr 8 (fun _ => 0)) 45))
  have B3 := hide (Blk.new' ((w.alloc (.cells (arr 8 H) 45)).alloc (.cells (arr 80 kc) 52)) (w.heap.size + 1 + 1) (by simp) (arr 8 (fun _ => 0)) 45)
  have L1 : Hid (Below w.heap.size w (((w.alloc (.cells (arr 8 H) 45)).alloc (.cells (arr 80 kc) 52)).alloc (.cells (arr 8 (fun _ => 0)) 45))) := hide ((((Below.refl _ w).alloc (Nat.le_refl _) _).alloc (by simp) _).alloc (by simp; omega) _)
  go_enter Tryd.func30, Tryd.ntmps30
  go_upto_region 1 with (fail)
  rw [arr8_zero]
  generalize (((w.alloc (.cells (arr 8 H) 45)).alloc (.cells (arr 80 kc) 52)).alloc (.cells (arr 8 (fun _ => 0)) 45)) = w1 at *
  go_upto_region 3 with (first
    | (go_at_call 33; refine (words_at A l cap _ _ rfl (HA.out.low L1.out) Hl.out Hx.out).mono ?_; rw [← Hfe.out]; rintro e k1 ⟨rfl, hb⟩; have B4 := hide (B1.out.call hb); have B5 := hide (B2.out.call hb); have B6 := hide (B3.out.call hb); have L2 := hide (keepLow2 L1.out hb); clear hb B1 B2 B3 L1; dsimp only)
    | (refine wpList_store_abs rfl 52 _ _ rfl k1.heap.size (arr 80 (wt f)) rfl rfl 52 _ (Blk.new k1 _ _) (by rw [arr_size]; exact cells36) (by simp only [arr_size]) (arr_one _ _) ?_; intro k2 Bn Sn; have B7 := hide (Sn.other _ _ _ (Nat.ne_of_gt B4.out.lt) (B4.out.alloc _)); have B8 := hide (Sn.other _ _ _ (Nat.ne_of_gt B5.out.lt) (B5.out.alloc _)); have B9 := hide (Sn.other _ _ _ (Nat.ne_of_gt B6.out.lt) (B6.out.alloc _)); have L3 := hide (Sn.low _ _ (L2.out.alloc L2.out.size _) L2.out.size); have D0 := hide Bn; clear Bn Sn B4 B5 B6 L2)
    | (refine wpList_load_row rfl 45 _ rfl w.heap.size rfl 45 _ (0, 0) _ B7.out Tryd.underlying45 rfl (by rw [arr_size]; exact cells28) ?_)
    | (refine wpList_store_abs rfl 45 _ _ rfl k2.heap.size (arr 8 H) rfl rfl 45 _ (Blk.new k2 _ _) (by rw [arr_size]; exact cells28) (by rw [arr_size]; rfl) (arr_one _ _) ?_; intro k3 Bn Sn; have E1 := hide (Sn.other _ _ _ (Nat.ne_of_gt B7.out.lt) (B7.out.alloc _)); have E2 := hide (Sn.other _ _ _ (Nat.ne_of_gt B8.out.lt) (B8.out.alloc _)); have E3 := hide (Sn.other _ _ _ (Nat.ne_of_gt B9.out.lt) (B9.out.alloc _)); have E4 := hide (Sn.other _ _ _ (Nat.ne_of_gt D0.out.lt) (D0.out.alloc _)); have L4 := hide (Sn.low _ _ (L3.out.alloc L3.out.size _) L3.out.size); have E5 := hide Bn; have Hd : Hid (w.heap.size < k2.heap.size ∧ w.heap.size + 1 < k2.heap.size ∧ w.heap.size + 1 + 1 < k2.heap.size ∧ k1.heap.size < k2.heap.size) := hide ⟨B7.out.lt, B8.out.lt, B9.out.lt, D0.out.lt⟩; clear Bn Sn B7 B8 B9 D0 L3))
  clear hz
  generalize k1.heap.size = bw at *
  generalize k2.heap.size = bv at *
  simp only [Act.put]
  go_wp2
  go_loopw [9] (fun i wr => ∃ (k : Nat) (v : V), k ≤ 80 ∧ i = .int .i64 k ∧ v = rnd (wt f) (vof H) k ∧ Blk wr bv (arr 8 v.at) 45 ∧ Blk wr w.heap.size (arr 8 H) 45 ∧ Blk wr (w.heap.size + 1) (arr 80 kc) 52 ∧ Blk wr (w.heap.size + 1 + 1) (arr 8 (fun _ => 0)) 45 ∧ Blk wr bw (arr 80 (wt f)) 52 ∧ Below w.heap.size w wr) (fun i _ => 80 - (intOf i).toNat)
  case atStart => exact ⟨0, _, by omega, rfl, rfl, E5.out.cast (arr_congr _ _ _ fun j hj => (vof_at H j hj).symm), E1.out, E2.out, E3.out, E4.out, L4.out⟩
  case round =>
    clear E1 E2 E3 E4 E5 L4
    obtain ⟨k, v, hk, rfl, hv, Bv, Bh, Bk, Bz, Bw, L⟩ := hrel
    have Hok := hide (hv ▸ rnd_ok (wt f) _ (vof_ok _ HH.out) k : v.ok)
    have Hv := hide hv
    clear hv
    by_cases hlt : k < 80
    · obtain ⟨va, vb, vc, vd, ve, vf, vg, vh⟩ := v
      have ck := Bk.cell k
      rw [arr_get _ _ _ hlt] at ck
      have cw := Bw.cell k
      rw [arr_get _ _ _ hlt] at cw
      have c0 : wr.cell? ⟨bv, 0, none⟩ = some (.int .u64 (va : Nat)) := Bv.cell 0
      have c1 : wr.cell? ⟨bv, 1, none⟩ = some (.int .u64 (vb : Nat)) := Bv.cell 1
      have c2 : wr.cell? ⟨bv, 2, none⟩ = some (.int .u64 (vc : Nat)) := Bv.cell 2
      have c3 : wr.cell? ⟨bv, 3, none⟩ = some (.int .u64 (vd : Nat)) := Bv.cell 3
      have c4 : wr.cell? ⟨bv, 4, none⟩ = some (.int .u64 (ve : Nat)) := Bv.cell 4
      have c5 : wr.cell? ⟨bv, 5, none⟩ = some (.int .u64 (vf : Nat)) := Bv.cell 5
      have c6 : wr.cell? ⟨bv, 6, none⟩ = some (.int .u64 (vg : Nat)) := Bv.cell 6
      have c7 : wr.cell? ⟨bv, 7, none⟩ = some (.int .u64 (vh : Nat)) := Bv.cell 7
      have HBv := hide Bv
      have HBh := hide Bh
      have HBk := hide Bk
      have HBz := hide Bz
      have HBw := hide Bw
      have HL := hide L
      clear Bv Bh Bk Bz Bw L
      have hk0 : (0 : Int) ≤ (k : Int) := by omega
      have hk8 : (k : Int) < 80 := by omega
      have hxx := vx_int ⟨va, vb, vc, vd, ve, vf, vg, vh⟩ Hok.out (kc k) (wt f k)
      have hyy := vy_int ⟨va, vb, vc, vd, ve, vf, vg, vh⟩ Hok.out
      obtain ⟨x, ex⟩ : ∃ x, x = vx (kc k) (wt f k) ⟨va, vb, vc, vd, ve, vf, vg, vh⟩ := ⟨_, rfl⟩
      obtain ⟨y, ey⟩ : ∃ y, y = vy ⟨va, vb, vc, vd, ve, vf, vg, vh⟩ := ⟨_, rfl⟩
      rw [← ex] at hxx
      rw [← ey] at hyy
      dsimp only at hxx hyy
      rw [if_neg (show ¬ IntKind.u64.signed = true by decide)] at hxx
      have Hxx := hide hxx
      have Hyy := hide hyy
      have Hx := hide ex
      have Hy := hide ey
      clear ex ey hxx hyy
      go_wp2
      go_quiet (first
        | (go_at_call_of 34 (Value.int IntKind.i64 14); exact Calls.quiet_of_same (turn_at ve 14 _ _ (by rfl) Hok.out.e (by omega) (by omega)))
        | (go_at_call_of 34 (Value.int IntKind.i64 18); exact Calls.quiet_of_same (turn_at ve 18 _ _ (by rfl) Hok.out.e (by omega) (by omega)))
        | (go_at_call_of 34 (Value.int IntKind.i64 41); exact Calls.quiet_of_same (turn_at ve 41 _ _ (by rfl) Hok.out.e (by omega) (by omega))))
      go_wp2
      rw [Hxx.out]
      clear Hxx ck cw
      have HBva := hide (HBv.out.drewN nq)
      have HBha := hide (HBh.out.drewN nq)
      have HBka := hide (HBk.out.drewN nq)
      have HBza := hide (HBz.out.drewN nq)
      have HBwa := hide (HBw.out.drewN nq)
      have HLa := hide (Below.drewN HL.out nq)
      have c0a : (wr.drewN nq).cell? ⟨bv, 0, none⟩ = some (.int .u64 (va : Nat)) := c0
      have c1a : (wr.drewN nq).cell? ⟨bv, 1, none⟩ = some (.int .u64 (vb : Nat)) := c1
      have c2a : (wr.drewN nq).cell? ⟨bv, 2, none⟩ = some (.int .u64 (vc : Nat)) := c2
      have c3a : (wr.drewN nq).cell? ⟨bv, 3, none⟩ = some (.int .u64 (vd : Nat)) := c3
      have c4a : (wr.drewN nq).cell? ⟨bv, 4, none⟩ = some (.int .u64 (ve : Nat)) := c4
      have c5a : (wr.drewN nq).cell? ⟨bv, 5, none⟩ = some (.int .u64 (vf : Nat)) := c5
      have c6a : (wr.drewN nq).cell? ⟨bv, 6, none⟩ = some (.int .u64 (vg : Nat)) := c6
      have c7a : (wr.drewN nq).cell? ⟨bv, 7, none⟩ = some (.int .u64 (vh : Nat)) := c7
      clear HBv HBh HBk HBz HBw HL c0 c1 c2 c3 c4 c5 c6 c7
      generalize wr.drewN nq = wq at *
      go_quiet (first
        | (go_at_call_of 34 (Value.int IntKind.i64 28); exact Calls.quiet_of_same (turn_at va 28 _ _ (by rfl) Hok.out.a (by omega) (by omega)))
        | (go_at_call_of 34 (Value.int IntKind.i64 34); exact Calls.quiet_of_same (turn_at va 34 _ _ (by rfl) Hok.out.a (by omega) (by omega)))
        | (go_at_call_of 34 (Value.int IntKind.i64 39); exact Calls.quiet_of_same (turn_at va 39 _ _ (by rfl) Hok.out.a (by omega) (by omega))))
      go_upto_region 8 with (fail)
      rw [Hyy.out]
      clear Hyy
      have HBvb := hide (HBva.out.drewN nq)
      have HBhb := hide (HBha.out.drewN nq)
      have HBkb := hide (HBka.out.drewN nq)
      have HBzb := hide (HBza.out.drewN nq)
      have HBwb := hide (HBwa.out.drewN nq)
      have HLb := hide (Below.drewN HLa.out nq)
      have c0b : (wq.drewN nq).cell? ⟨bv, 0, none⟩ = some (.int .u64 (va : Nat)) := c0a
      have c1b : (wq.drewN nq).cell? ⟨bv, 1, none⟩ = some (.int .u64 (vb : Nat)) := c1a
      have c2b : (wq.drewN nq).cell? ⟨bv, 2, none⟩ = some (.int .u64 (vc : Nat)) := c2a
      have c3b : (wq.drewN nq).cell? ⟨bv, 3, none⟩ = some (.int .u64 (vd : Nat)) := c3a
      have c4b : (wq.drewN nq).cell? ⟨bv, 4, none⟩ = some (.int .u64 (ve : Nat)) := c4a
      have c5b : (wq.drewN nq).cell? ⟨bv, 5, none⟩ = some (.int .u64 (vf : Nat)) := c5a
      have c6b : (wq.drewN nq).cell? ⟨bv, 6, none⟩ = some (.int .u64 (vg : Nat)) := c6a
      have c7b : (wq.drewN nq).cell? ⟨bv, 7, none⟩ = some (.int .u64 (vh : Nat)) := c7a
      clear HBva HBha HBka HBza HBwa HLa c0a c1a c2a c3a c4a c5a c6a c7a
      generalize wq.drewN nq = wz at *
      obtain ⟨p, ep⟩ : ∃ p, p = (x + y) % 2 ^ 64 := ⟨_, rfl⟩
      obtain ⟨q, eq⟩ : ∃ q, q = (vd + x) % 2 ^ 64 := ⟨_, rfl⟩
      have hs1 : IntKind.u64.wrap ((x : Int) + (y : Int)) = (p : Int) := by rw [sum_int, ep]
      have hs2 : IntKind.u64.wrap ((vd : Int) + (x : Int)) = (q : Int) := by rw [sum_int, eq]
      have h8 := eight ⟨p, va, vb, vc, q, ve, vf, vg⟩
      dsimp only at h8
      have Hst : Hid ((⟨p, va, vb, vc, q, ve, vf, vg⟩ : V) = rnd (wt f) (vof H) (k + 1)) := hide (by rw [ep, eq, Hx.out, Hy.out, rnd, ← Hv.out]; rfl)
      clear ep eq
      obtain ⟨vn, hvn⟩ : ∃ vn : V, vn = ⟨p, va, vb, vc, q, ve, vf, vg⟩ := ⟨_, rfl⟩
      rw [← hvn] at h8 Hst
      clear hvn
      go_wp2_with (refine wpList_store_row rfl 45 _ _ rfl bv (arr 8 vn.at) rfl rfl 45 _ HBvb.out (by rw [arr_size]; exact cells28) (by rw [arr_size, arr_size]) (arr_one _ _) ?_)
      go_roundw
      case rel =>
        exact ⟨k + 1, vn, by omega, by go_num, Hst.out, HBvb.out.row _, HBhb.out.rowOther _ (by have := Hd.out; omega), HBkb.out.rowOther _ (by have := Hd.out; omega), HBzb.out.rowOther _ (by have := Hd.out; omega), HBwb.out.rowOther _ (by have := Hd.out; omega), Below.row HLb.out (by have := Hd.out; omega) _⟩
      case measure => simp [intOf]; omega
    · have e4 : k = 80 := by omega
      subst e4
      rw [show ((80 : Nat) : Int) = (80 : Int) from rfl]
      have HBv := hide Bv
      have HBh := hide Bh
      have HBz := hide Bz
      have HL := hide L
      clear Bv Bh Bk Bz Bw L
      go_wp2
      go_loopw [12] (fun i wr => ∃ k : Nat, k ≤ 8 ∧ i = .int .i64 k ∧ Blk wr w.heap.size (arr 8 (fin H v k)) 45 ∧ Blk wr bv (arr 8 v.at) 45 ∧ Blk wr (w.heap.size + 1 + 1) (arr 8 (fun _ => 0)) 45 ∧ Below w.heap.size w wr) (fun i _ => 8 - (intOf i).toNat)
      case atStart => exact ⟨0, by omega, rfl, HBh.out.cast (arr_congr _ _ _ fun j _ => by simp [fin]), HBv.out, HBz.out, HL.out⟩
      case round =>
        clear HBh HBv HBz HL
        obtain ⟨k, hk, rfl, Br, Bv, Bz, L⟩ := hrel
        by_cases hl8 : k < 8
        · have cr := Br.cell k
          rw [arr_get _ _ _ hl8, fin, if_neg (by omega)] at cr
          have fr := Br.frozen k
          have cv := Bv.cell k
          rw [arr_get _ _ _ hl8] at cv
          have hk0 : (0 : Int) ≤ (k : Int) := by omega
          have hk8 : (k : Int) < 8 := by omega
          have HBr := hide Br
          have HBv := hide Bv
          have HBz := hide Bz
          have HL := hide L
          clear Br Bz Bv L
          have Hs := hide (sum_int (H k) (v.at k))
          go_wp2
          go_region_with (fail)
          all_goals
            go_wp2
            rw [Hs.out]
            go_roundw
            case rel =>
              refine ⟨k + 1, by omega, by go_num, ((HBr.out.set k _).drew).cast ?_, (HBv.out.setOther _ _ (by have := Hd.out; omega)).drew, (HBz.out.setOther _ _ (by omega)).drew, (HL.out.setCell (Nat.le_refl _) _).drew⟩
              rw [arr_set]
              exact arr_congr _ _ _ fun j _ => fin_next H v k j
            case measure => simp [intOf]; omega
        · have e8 : k = 8 := by omega
          subst e8
          have HBr := hide (Br.cast (arr_congr 8 _ (fun i => (H i + out H f i) % 2 ^ 64) fun j hj => by rw [fin, if_pos hj, Hv.out]; rfl))
          have HBz := hide Bz
          have HL := hide L
          clear Br Bz Bv L
          go_wp2_with (first
            | (refine wpList_load_row rfl 45 _ rfl w.heap.size rfl 45 _ (0, 0) _ HBr.out Tryd.underlying45 rfl (by rw [arr_size]; exact cells28) ?_)
            | (refine wpList_store_row rfl 45 _ _ rfl (w.heap.size + 1 + 1) (arr 8 (fun i => (H i + out H f i) % 2 ^ 64)) rfl rfl 45 _ HBz.out (by rw [arr_size]; exact cells28) (by rw [arr_size, arr_size]) (arr_one _ _) ?_))
          refine bodyPost_ret (v := .agg (arr 8 (fun i => (H i + out H f i) % 2 ^ 64))) (results_cell_row Tryd.results30 _ _ (w.heap.size + 1 + 1) 45 _ (0, 0) _ rfl (HBz.out.row _) Tryd.underlying45 rfl (by rw [arr_size]; exact cells28)) rfl ⟨rfl, ?_⟩
          exact Below.row HL.out (by omega) _
theorem block_at (H : Nat → Nat) (A : Option Addr) (l : List Nat) (cap : Nat) (args : Array Value) (w : World) (h : args = #[.agg (arr 8 H), .slice A 128 cap, .agg (arr 80 kc)]) (hH : ∀ i, H i < 2 ^ 64) (hA : Rds w A l) (hl : l.length = 128) (hx : ∀ x ∈ l, x < 256) :
    Calls Tryd.prog 30 args w fun e w' => e = .returned (.agg (arr 8 (fun i => (H i + out H (fun j => l.getD j 0) i) % 2 ^ 64))) ∧ Below w.heap.size w w' := by
  subst h; exact block_any H A l cap w hH hA hl hx
end Go.Proofs.YtjnjedannpnjiaaDoor

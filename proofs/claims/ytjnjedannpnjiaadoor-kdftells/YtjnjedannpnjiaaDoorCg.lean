/- Walks: New, Write. -/
import Derived.Test.YtjnjedannpnjiaaDoorCf
namespace Go.Proofs.YtjnjedannpnjiaaDoor
open Go.RowKit

theorem zero31 (w : World) : (zeroValue 47).run Tryd.prog w = .ok (.agg (stc (fun _ => 0) (fun _ => 0) 0)) w := by kernel_rfl
theorem built31 : Tryd.prog.built 47 [] = some (stc (fun _ => 0) (fun _ => 0) 0) := by kernel_rfl
theorem rep_none : Rep (fun _ => 0) (fun _ => 0) 0 [] := ⟨rfl, by omega, fun _ => by omega, fun _ => by omega, fun i _ => by
  show (hc i + 0) % 2 ^ 64 = hc i
  exact Nat.mod_eq_of_lt (hc_lt i), fun j hj => by omega⟩
set_option maxHeartbeats 400000 in
theorem new_any (w : World) :
    Calls Tryd.prog 23 #[] w fun e w' => e = .returned (.agg (stc (fun _ => 0) (fun _ => 0) 0)) ∧ Below w.heap.size w w' := by
  have hz := zero31
  have B0 := hide (Blk.new w (stc (fun _ => 0) (fun _ => 0) 0) 47)
  go_enter Tryd.func23, Tryd.ntmps23
  go_wp2_with (first
    | (refine wpList_build rfl 47 #[] rfl (by simp [built31]) ?_; simp only [List.map_toArray, List.map_nil, built31, Option.getD_some])
    | (refine wpList_store_row rfl 47 _ _ rfl w.heap.size (stc (fun _ => 0) (fun _ => 0) 0) rfl rfl 47 _ B0.out (by rw [stc_size]; exact cells31) (by rw [stc_size]) (stc_one _ _ _) ?_))
  refine bodyPost_ret (v := .agg (stc (fun _ => 0) (fun _ => 0) 0)) (results_cell_row Tryd.results23 _ _ w.heap.size 47 _ (0, 0) _ rfl (B0.out.row _) Tryd.underlying47 rfl (by rw [stc_size]; exact cells31)) rfl ⟨rfl, ?_⟩
  exact Below.row ((Below.refl _ w).alloc (Nat.le_refl _) _) (Nat.le_refl _) _

theorem rem128 (n : Nat) : (n : Int).tmod 128 = ((n % 128 : Nat) : Int) := by rw [Int.tmod_eq_emod_of_nonneg (by omega)]; omega
set_option maxRecDepth 100000 in
set_option maxHeartbeats 2000000 in
theorem write_any (r f : Nat → Nat) (n : Nat) (m l : List Nat) (A : Option Addr) (cap : Nat) (w : World) (hG : Glob w) (hR : Rep r f n m) (hl : ∀ x ∈ l, x < 256) (hA : Rds w A l) (hcap : l.length ≤ cap) (hs : n + l.length < 2 ^ 61) :
    Calls Tryd.prog 24 #[.agg (stc r f n), .slice A l.length cap] w fun e w' => ∃ r' f' n', e = .returned (.agg (stc r' f' n')) ∧ Rep r' f' n' (m ++ l) ∧ Below w.heap.size w w' := by
  have HG := hide hG
  have HR := hide hR
  have Hl := hide hl
  have HA := hide hA
  have Hcap := hide hcap
  have Hs := hide hs
  have hz := zero31
  clear hG hR hl hA hcap hs
  go_enter Tryd.func24, Tryd.ntmps24
  go_wp2
  clear hz
  go_loopw [1] (fun b wr => ∃ (d t : List Nat) (r' f' : Nat → Nat) (n' : Nat) (A' : Option Addr) (cap' : Nat), l = d ++ t ∧ b = .slice A' t.length cap' ∧ t.length ≤ cap' ∧ cap' ≤ cap ∧ Rds w A' t ∧ Rep r' f' n' (m ++ d) ∧ n' + t.length < 2 ^ 61 ∧ Blk wr w.heap.size (stc r' f' n') 47 ∧ Blk wr (w.heap.size + 1) (stc (fun _ => 0) (fun _ => 0) 0) 47 ∧ Below w.heap.size w wr) (fun b _ => match b with | .slice _ len _ => len | _ => 0)
  case atStart =>
    refine ⟨[], l, r, f, n, A, cap, rfl, rfl, Hcap.out, Nat.le_refl _, HA.out, by rw [List.append_nil]; exact HR.out, Hs.out, ?_, ?_, ?_⟩
    · exact (Blk.new w _ _).alloc _
    · exact Blk.new' (w.alloc _) (w.heap.size + 1) (by simp) _ _
    · exact ((Below.refl _ w).alloc (Nat.le_refl _) _).alloc (by simp) _
  case round =>
    obtain ⟨d, t, r', f', n', A', cap', hlt, rfl, hc1, hc2, hA', hR', hn', B1, B2, L⟩ := hrel
    clear HR HA Hs
    have Hlt := hide hlt
    have HA' := hide hA'
    have HR' := hide hR'
    have Hn' := hide hn'
    have Hc1 := hide hc1
    have Hc2 := hide hc2
    have HB1 := hide B1
    have HB2 := hide B2
    have HL := hide L
    clear hlt hA' hR' hn' hc1 hc2 B1 B2 L
    by_cases h0 : 0 < t.length
    · obtain ⟨a, rfl, hab, hac⟩ : ∃ a, A' = some a ∧ a.block < w.heap.size ∧ ∀ (i : Nat) (x : Nat), t[i]? = some x → w.cell? (a.add i) = some (.int .u8 (x : Nat)) := by
        rcases HA'.out with h | h
        · rw [h] at h0; simp at h0
        · exact h
      obtain ⟨p, hp⟩ : ∃ p, p = n' % 128 := ⟨_, rfl⟩
      obtain ⟨c, hc⟩ : ∃ c, c = min t.length (128 - p) := ⟨_, rfl⟩
      have hp1 : p < 128 := by omega
      have hcopy := copy_st wr w.heap.size p c r' f' n' a t cap' HB1.out hp1 hc (fun i x hx => by
        rw [HL.out.cell (p := a.add i) (by unfold Addr.add; split <;> exact hab)]; exact hac i x hx)
      have hcl := HB1.out.cell 136
      rw [stc_long] at hcl
      have Hp := hide hp
      have Hc := hide hc
      have h0i : (0 : Int) < (t.length : Int) := by omega
      have hrem : (n' : Int).tmod 128 = (p : Int) := by rw [hp]; exact rem128 n'
      have hrem2 : (n' : Int) % 128 = (p : Int) := by omega
      have hp0 : (0 : Int) ≤ (p : Int) := by omega
      have hp2 : (p : Int) ≤ 128 := by omega
      have hp3 : ¬ 128 = p := by omega
      clear hp hc hab hac hp1
      go_upto_region 3 with (fail)
      have Hct : Hid (c ≤ t.length ∧ (List.take c t).length = c ∧ 0 < c ∧ p < 128) := by
        refine hide ⟨by have := Hc.out; omega, by rw [List.length_take]; have := Hc.out; omega, ?_, by have := Hp.out; omega⟩
        have := Hc.out; have := Hp.out; omega
      have BB1 := hide (HB1.out.row (stc r' (over f' p (List.take c t)) n'))
      have BB2 := hide (HB2.out.rowOther (b' := w.heap.size) (stc r' (over f' p (List.take c t)) n') (by omega))
      have LL := hide (Below.row HL.out (Nat.le_refl _) (stc r' (over f' p (List.take c t)) n'))
      clear hcopy hcl HB1 HB2 HL
      generalize wr.setRow w.heap.size (stc r' (over f' p (List.take c t)) n') = w1 at *
      obtain ⟨f2, hf2⟩ : ∃ f2, f2 = over f' p (List.take c t) := ⟨_, rfl⟩
      rw [← hf2] at BB1
      have Hf2 := hide hf2
      clear hf2
      have hcut := run_cut (some a) t.length cap' c Hct.out.1
      have hcl := BB1.out.cell 136
      rw [stc_long] at hcl
      have hfr := BB1.out.frozen 136
      have hcv : IntKind.u64.wrap (c : Int) = (c : Int) := by
        have := Hct.out.1; have := Hn'.out
        rw [wrap_u64']; omega
      obtain ⟨q, hq⟩ : ∃ q, q = n' + c := ⟨_, rfl⟩
      have hadd : IntKind.u64.wrap ((n' : Int) + (c : Int)) = (q : Int) := by
        have := Hct.out.1; have := Hn'.out
        rw [wrap_u64']; omega
      have Hq := hide hq
      clear hq
      go_upto_region 5 with (fail)
      have B3 := hide ((BB1.out.set 136 (.int .u64 (q : Int))).cast (stc_set r' f2 n' q))
      have B4 := hide (BB2.out.setOther (b' := w.heap.size) 136 (.int .u64 (q : Int)) (by omega))
      have L3 := hide (LL.out.setCell (p := ⟨w.heap.size, 136, none⟩) (Nat.le_refl _) (.int .u64 (q : Int)))
      clear BB1 BB2 LL hcl hfr hcut hcv hadd hrem hrem2 hp0 hp2 hp3 h0i
      generalize w1.setCell ⟨w.heap.size, 136, none⟩ (.int .u64 (q : Int)) = w3 at *
      have hcl := B3.out.cell 136
      rw [stc_long] at hcl
      have Htk : Hid (∀ x ∈ List.take c t, x < 256) := hide (fun x hx => Hl.out x (by rw [Hlt.out]; exact List.mem_append_right _ (List.mem_of_mem_take hx)))
      have Hdt : Hid (l = (d ++ List.take c t) ++ List.drop c t) := hide (by rw [List.append_assoc, List.take_append_drop]; exact Hlt.out)
      have Hdl : Hid ((List.drop c t).length = t.length - c) := hide (by rw [List.length_drop])
      by_cases hfull : p + c = 128
      · have hq0 : (q : Int).tmod 128 = 0 := by rw [rem128]; have := Hq.out; have := Hp.out; omega
        have hq1 : (q : Int) % 128 = 0 := by have := Hq.out; have := Hp.out; omega
        have Hrep : Hid (Rep (fun i => (r' i + out (hd r') f2 i) % 2 ^ 64) f2 q (m ++ (d ++ List.take c t))) := by
          refine hide ?_
          have h1 := Hct.out
          have := HR'.out.full Htk.out (by rw [← Hp.out, h1.2.1]; exact hfull) (by have := Hn'.out; omega)
          rw [h1.2.1, ← Hp.out, ← Hf2.out, ← Hq.out, List.append_assoc] at this
          exact this
        have Hrl := hide HR'.out.rlt
        have Hfl : Hid (∀ i, f2 i < 256) := hide (by rw [Hf2.out]; exact over_lt _ _ _ HR'.out.flt Htk.out)
        clear hfull
        obtain ⟨r2, hr2⟩ : ∃ r2, r2 = fun i => (r' i + out (hd r') f2 i) % 2 ^ 64 := ⟨_, rfl⟩
        rw [← hr2] at Hrep
        have Hr2 := hide hr2
        clear hr2
        go_wp2_with (first
          | (refine wpList_load_mid rfl 45 _ rfl w.heap.size 0 rfl (arr 8 r').toList _ B3.out.rangeR Tryd.underlying45 rfl (by rw [Array.length_toList, arr_size]; exact cells28) ?_; rw [Array.toArray_toList])
          | (refine wpList_load_mid rfl 37 _ rfl w.heap.size 8 rfl (vals .u8 128 f2).toList _ B3.out.rangeF Tryd.underlying37 rfl (by rw [Array.length_toList, vals_size]; exact cells29) ?_; rw [Array.toArray_toList])
          | (go_at_call 28; refine (raise_at r' f2 _ _ rfl (HG.out.low L3.out) Hrl.out Hfl.out).mono ?_; rw [← Hr2.out]; rintro e w4 ⟨rfl, hb⟩; have B5 := hide (B3.out.call hb); have B6 := hide (B4.out.call hb); have L5 := hide (L3.out.trans (hb.mono L3.out.size)); clear hb; dsimp only)
          | (refine wpList_store_mid rfl 45 _ _ rfl w.heap.size 0 (arr 8 r2) rfl rfl (B5.out.there 0 _ (by rw [arr_size, stc_size]; omega)) (by rw [arr_size]; exact cells28) (arr_one _ _) ?_))
        refine ⟨⟨d ++ List.take c t, List.drop c t, Hdt.out, r2, f2, q, cutA (some a) c cap', cap' - c, ⟨rfl, Hdl.out.symm, rfl⟩, ?_, ?_, HA'.out.cut c cap' Hc1.out, Hrep.out, ?_, ?_, ?_, ?_⟩, ?_⟩
        · rw [Hdl.out]; have := Hc1.out; omega
        · have := Hc2.out; omega
        · rw [Hdl.out]; have := Hn'.out; have := Hq.out; have := Hct.out; omega
        · exact (B5.out.setCells _ 0).cast (stc_raise r' f2 r2 q)
        · exact (sto_cells _ _ _ _).other _ _ _ (by omega) B6.out
        · exact (sto_cells _ _ _ _).low _ _ L5.out (Nat.le_refl _)
        · have := Hct.out; omega
      · have hpc : p + c < 128 ∧ c = t.length := by have := Hc.out; have := Hct.out; omega
        have hq0 : (q : Int).tmod 128 = ((p + c : Nat) : Int) := by rw [rem128]; have := Hq.out; have := Hp.out; omega
        have hq1 : (q : Int) % 128 = ((p + c : Nat) : Int) := by have := Hq.out; have := Hp.out; omega
        have hq2 : ((((p + c : Nat) : Int)) == 0) = false := by rw [beq_eq_false_iff_ne]; have := Hct.out; omega
        have hq3 : ¬ ((p + c : Nat) : Int) = 0 := by have := Hct.out; omega
        obtain ⟨s, hs⟩ : ∃ s, s = p + c := ⟨_, rfl⟩
        rw [← hs] at hq0 hq1 hq2 hq3
        have Hrep : Hid (Rep r' f2 q (m ++ (d ++ List.take c t))) := by
          refine hide ?_
          have h1 := Hct.out
          have := HR'.out.copied Htk.out (by rw [← Hp.out, h1.2.1]; exact hpc.1) (by have := Hn'.out; omega)
          rw [h1.2.1, ← Hp.out, ← Hf2.out, ← Hq.out, List.append_assoc] at this
          exact this
        clear hfull hpc hs
        go_wp2
        refine ⟨⟨d ++ List.take c t, List.drop c t, r', f2, q, cutA (some a) c cap', cap' - c, Hdt.out, by rw [Hdl.out], ?_, ?_, HA'.out.cut c cap' Hc1.out, Hrep.out, ?_, B3.out, B4.out, L3.out⟩, ?_⟩
        · rw [Hdl.out]; have := Hc1.out; omega
        · have := Hc2.out; omega
        · rw [Hdl.out]; have := Hn'.out; have := Hq.out; have := Hct.out; omega
        · show t.length - c < t.length
          have := Hct.out; omega
    · obtain rfl : t = [] := List.eq_nil_of_length_eq_zero (by omega)
      have hld : l = d := by rw [Hlt.out, List.append_nil]
      subst hld
      simp only [List.length_nil]
      go_wp2_with (first
        | (refine wpList_load_row rfl 47 _ rfl w.heap.size rfl 47 _ (0, 0) _ HB1.out Tryd.underlying47 rfl (by rw [stc_size]; exact cells31) ?_)
        | (refine wpList_store_row rfl 47 _ _ rfl (w.heap.size + 1) (stc r' f' n') rfl rfl 47 _ HB2.out (by rw [stc_size]; exact cells31) (by rw [stc_size, stc_size]) (stc_one _ _ _) ?_))
      refine bodyPost_ret (v := .agg (stc r' f' n')) (results_cell_row Tryd.results24 _ _ (w.heap.size + 1) 47 _ (0, 0) _ rfl (HB2.out.row _) Tryd.underlying47 rfl (by rw [stc_size]; exact cells31)) rfl ⟨r', f', n', rfl, HR'.out, ?_⟩
      exact Below.row HL.out (by omega) _
theorem write_at (r f : Nat → Nat) (n : Nat) (m l : List Nat) (A : Option Addr) (cap : Nat) (args : Array Value) (w : World) (h : args = #[.agg (stc r f n), .slice A l.length cap]) (hG : Glob w) (hR : Rep r f n m) (hl : ∀ x ∈ l, x < 256) (hA : Rds w A l) (hcap : l.length ≤ cap) (hs : n + l.length < 2 ^ 61) :
    Calls Tryd.prog 24 args w fun e w' => ∃ r' f' n', e = .returned (.agg (stc r' f' n')) ∧ Rep r' f' n' (m ++ l) ∧ Below w.heap.size w w' := by
  subst h; exact write_any r f n m l A cap w hG hR hl hA hcap hs
end Go.Proofs.YtjnjedannpnjiaaDoor

/- MacParts' walk: for all keys, bytes and cuts the law returns true. -/
import Derived.Test.YtaegklfomecmfaaDoorMy
import Derived.Test.YtaegklfomecmfaaDoorDa
namespace Go.Proofs.YtaegklfomecmfaaDoor
open Go.RowKit

def RdU (w : World) (A : Option Addr) (l : List Nat) : Prop := l = [] ∨ ∃ a, A = some a ∧ a.block < w.heap.size ∧ ∀ (i : Nat) (x : Nat), l[i]? = some x → w.cell? (a.add i) = some (.int .u16 (x : Nat))
theorem run_headc (A : Option Addr) (len cap c : Nat) (hc : c ≤ cap) (w : World) : (Instr.slice 22 (.slice A len cap) none (some (.int .i64 c)) none).run Tryd.prog w = .ok (.slice A c cap) w := by
  rw [run_slice_h w 22 A len cap (by kernel_rfl) .i64 c (by omega) (by omega), show (sizeOf (Tryd.prog.elem 22)).run Tryd.prog w = .ok 1 w by rfl]
  have e : A.map (fun a => a.add 0) = A := by cases A <;> simp [Addr.add]
  simp [Result.andThen, sliced, e]
def ptv (ps : List Pt) : List Value := ps.map fun q => Value.slice q.1 q.2.1.length q.2.2
theorem ptv_len (ps : List Pt) : (ptv ps).length = ps.length := by simp [ptv]
theorem own_prt {w : World} {B : Nat} {v : Value} {ps : List Pt} (h : Own w B 22 v (ptv ps)) : ∃ P pc, v = .slice P ps.length pc ∧ Prt w P ps := by
  obtain ⟨A, cap, cells, rfl, h2, h3, h4, h5⟩ := h
  rw [ptv_len] at h2 ⊢
  refine ⟨A, cap, rfl, ?_⟩
  rcases h5 with ⟨g, rfl, hg, hB⟩ | ⟨rfl, rfl⟩
  · exact prt_blk hB ps (fun i q hq => h4 i _ (by unfold ptv; rw [List.getElem?_map, hq]; rfl))
  · left; exact List.eq_nil_of_length_eq_zero (by omega)
theorem app_part {B : Nat} {w : World} {P : Option Addr} {pc : Nat} {ps : List Pt} (h : Own w B 22 (.slice P ps.length pc) (ptv ps)) (hBw : B ≤ w.heap.size) (q : Pt) (hl : ps.length < 2 ^ 30) :
    ∃ P' pc' w', (∀ ty, (Builtin.append_ #[29, 29] ty #[.slice P ps.length pc, .slice (some ⟨w.heap.size, 0, none⟩) 1 1]).run Tryd.prog (w.alloc (.cells #[.slice q.1 q.2.1.length q.2.2] 22)) = .ok (.slice P' (ps.length + 1) pc') w') ∧ Own w' B 22 (.slice P' (ps ++ [q]).length pc') (ptv (ps ++ [q])) ∧ Below B w w' ∧ w.heap.size ≤ w'.heap.size := by
  have hs : Src Tryd.prog 1 29 (.slice (some ⟨w.heap.size, 0, none⟩) 1 1) [Value.slice q.1 q.2.1.length q.2.2].length [Value.slice q.1 q.2.1.length q.2.2] (w.alloc (.cells #[.slice q.1 q.2.1.length q.2.2] 22)) :=
    Src.ofSlice _ Tryd.underlying29 _ 1 1 _ (by simp) (fun j u hu => by
      rcases j with _ | j
      · obtain rfl := Option.some.inj hu
        rw [Addr.add_mid, Nat.zero_add, (Blk.new w _ _).cell]; rfl
      · cases hu) (fun u hu => by
      obtain rfl : u = _ := by simpa using hu
      rfl)
  obtain ⟨v', w', hr, ho, hsz, hlo⟩ := own_append Tryd.underlying29 (by kernel_rfl) (by kernel_rfl) (by kernel_rfl) (h.alloc (.cells #[.slice q.1 q.2.1.length q.2.2] 22)) (by simp; omega) _ _ hs (Or.inl (by simp)) (by rw [ptv_len]; simp; omega)
  have e : ptv ps ++ [Value.slice q.1 q.2.1.length q.2.2] = ptv (ps ++ [q]) := by simp [ptv]
  rw [e] at ho
  obtain ⟨P', pc', rfl, _⟩ := own_prt ho
  refine ⟨P', pc', w', ?_, ho, hlo w ((Below.refl B w).alloc hBw _), by have := hsz; simp at this; omega⟩
  intro ty
  have := hr ty
  rw [List.length_append] at this
  exact this
theorem cat_app (ps : List Pt) (q : Pt) : cat (ps ++ [q]) = cat ps ++ q.2.1 := by simp [cat]
theorem ptok_app {w : World} {ps : List Pt} {q : Pt} (h : PtOk w ps) (hq : Rds w q.1 q.2.1 ∧ q.2.1.length ≤ q.2.2 ∧ ∀ x ∈ q.2.1, x < 256) : PtOk w (ps ++ [q]) := fun p hp => by
  rcases List.mem_append.1 hp with h1 | h1
  · exact h p h1
  · obtain rfl : p = q := by simpa using h1
    exact hq
theorem rem200 (t : Nat) : (t : Int).tmod 200 = ((t % 200 : Nat) : Int) := by rw [Int.tmod_eq_emod_of_nonneg (by omega)]; omega
theorem mac_parts (f : Nat → Nat) (h0 : SumOk) (A : Option Addr) (k : List Nat) (ca : Nat) (P : Option Addr) (ps : List Pt) (n pc : Nat) (args : Array Value) (w : World) (hf : f = mc k (cat ps)) (h : args = #[.slice A k.length ca, .slice P n pc]) (hn : ps.length = n) (hG : Glob w) (hA : Rds w A k) (hc : k.length ≤ ca) (hk : ∀ x ∈ k, x < 256) (hP : Prt w P ps) (hO : PtOk w ps) (hs : k.length < 2 ^ 29) (hs2 : (cat ps).length < 2 ^ 29) (hp : ps.length < 2 ^ 29) :
    Calls Tryd.prog 9 args w fun e w' => e = .returned (.agg (vals .u8 64 f)) ∧ Below w.heap.size w w' := by
  subst hn; rw [hf]; exact h0 A k ca P ps pc args w h hG hA hc hk hP hO hs hs2 hp
set_option maxRecDepth 100000 in
set_option maxHeartbeats 4000000 in
theorem mparts_walk (h0 : SumOk) (h1 : AwakeOk) (A B A2 : Option Addr) (k l cs : List Nat) (ca cb cap2 : Nat) (w : World) (hG : Glob w) (hA : Rds w A k) (hcap : k.length ≤ ca) (hk : ∀ x ∈ k, x < 256) (hB : Rds w B l) (hcb : l.length ≤ cb) (hl : ∀ x ∈ l, x < 256) (hA2 : RdU w A2 cs) (_ : cs.length ≤ cap2) (hx2 : ∀ x ∈ cs, x < 65536) :
    Calls Tryd.prog 4 #[.slice A k.length ca, .slice B l.length cb, .slice A2 cs.length cap2] w fun e w' => e = .returned (.bool true) ∧ Below w.heap.size w w' := by
  have H0 := hide h0
  have H1 := hide h1
  have HG := hide hG
  have HA := hide hA
  have Hca := hide hcap
  have Hk := hide hk
  have HB := hide hB
  have Hcb := hide hcb
  have Hl := hide hl
  have HA2 := hide hA2
  have Hx2 := hide hx2
  clear h0 h1 hG hA hcap hk hB hcb hl hA2 hx2
  go_enter Tryd.func4, Tryd.ntmps4
  go_upto_region 2 with (go_at_call 8; refine (H1.out _ _ rfl HG.out).mono ?_; rintro e w1 ⟨rfl, hb⟩; have L1 := hide hb; clear hb; dsimp only)
  clear H1
  by_cases hlk : 1000 < k.length
  · have hi : (1000 : Int) < (k.length : Int) := by omega
    go_wp2
    go_ret
    exact ⟨rfl, L1.out⟩
  have hi : ¬ (1000 : Int) < (k.length : Int) := by omega
  have Hlk := hide hlk
  clear hlk
  by_cases hll : 1000 < l.length
  · have hj : (1000 : Int) < (l.length : Int) := by omega
    go_wp2
    go_ret
    exact ⟨rfl, L1.out⟩
  have hj : ¬ (1000 : Int) < (l.length : Int) := by omega
  have Hll := hide hll
  clear hll
  obtain ⟨N, hN⟩ : ∃ N, N = w1.heap.size := ⟨_, rfl⟩
  have HN := hide hN
  clear hN
  go_wp2
  clear hi hj
  go_loopw [8, 9, 10] (fun parts rest i wr => ∃ (j : Nat) (ps : List Pt) (A' P : Option Addr) (t : List Nat) (c' pc : Nat), j ≤ 20 ∧ j ≤ cs.length ∧ ps.length = j ∧ i = .int .i64 j ∧ rest = .slice A' t.length c' ∧ parts = .slice P ps.length pc ∧ t.length ≤ c' ∧ Rds w A' t ∧ cat ps ++ t = l ∧ PtOk w ps ∧ Own wr N 22 (.slice P ps.length pc) (ptv ps) ∧ Below w.heap.size w wr ∧ N ≤ wr.heap.size) (fun _ _ i _ => 20 - (intOf i).toNat)
  case atStart => exact ⟨0, [], B, none, l, cb, 0, by omega, Nat.zero_le _, rfl, rfl, rfl, rfl, Hcb.out, HB.out, rfl, (fun q hq => nomatch hq), own_nil _ _ _, L1.out, by rw [HN.out]; exact Nat.le_refl _⟩
  case round =>
    have HNw : Hid (w.heap.size ≤ N) := hide (by rw [HN.out]; exact L1.out.size)
    clear L1 HN
    obtain ⟨j, ps, A', P, t, c', pc, hj, hjc, hpj, rfl, rfl, rfl, hc', hA', hct, hO, hOwn, L, hBw⟩ := hrel
    have HA' := hide hA'
    have Hc' := hide hc'
    have Hct := hide hct
    have HO := hide hO
    have HOwn := hide hOwn
    have HL := hide L
    have Hsz := hide hBw
    have Hpj := hide hpj
    have Htl : Hid ((cat ps).length + t.length = l.length) := hide (by rw [← hct, List.length_append])
    have Htx : Hid (∀ x ∈ t, x < 256) := hide (fun x hx => Hl.out x (by rw [← Hct.out]; exact List.mem_append_right _ hx))
    clear hA' hc' hct hO hOwn L hBw hpj
    by_cases hlt : j < cs.length ∧ j < 20
    · obtain ⟨hl1, hl2⟩ := hlt
      obtain ⟨x, hx⟩ : ∃ x, cs[j]? = some x := ⟨_, List.getElem?_eq_getElem hl1⟩
      obtain ⟨a, rfl, hab, hac⟩ : ∃ a, A2 = some a ∧ a.block < w.heap.size ∧ ∀ (i : Nat) (x : Nat), cs[i]? = some x → w.cell? (a.add i) = some (.int .u16 (x : Nat)) := by
        rcases HA2.out with h | h
        · rw [h] at hl1; simp at hl1
        · exact h
      have hcell : wr.cell? (a.add j) = some (.int .u16 (x : Nat)) := by
        rw [HL.out.cell (p := a.add j) (by rw [add_block]; exact hab)]; exact hac j x hx
      have hx6 : x < 65536 := Hx2.out x (List.mem_of_getElem? hx)
      clear hac hab hx
      have hk0 : (0 : Int) ≤ (j : Int) := by omega
      have hkl : (j : Int) < (cs.length : Int) := by omega
      have hk5 : (j : Int) < 20 := by omega
      have hw6 : wrap64 (x : Int) = (x : Int) := by unfold wrap64; omega
      obtain ⟨y, hy⟩ : ∃ y, y = x % 200 := ⟨_, rfl⟩
      have hr1 : (x : Int).tmod 200 = (y : Int) := by rw [hy]; exact rem200 x
      have hr2 : (x : Int) % 200 = (y : Int) := by omega
      clear hy
      go_upto_region 10 with (fail)
      obtain ⟨c, hc⟩ : ∃ c, c = min y t.length := ⟨_, rfl⟩
      have hmin : (if t.length < y then (t.length : Int) else (y : Int)) = (c : Int) := by rw [hc]; split <;> omega
      rw [hmin]
      have Hc : Hid (c ≤ t.length) := hide (by omega)
      have Htk : Hid ((t.take c).length = c) := hide (by rw [List.length_take]; omega)
      clear hmin hc hr1 hr2 hw6 hcell hx6
      obtain ⟨P6, pc6, w6, r6, o6, lo6, s6⟩ := app_part HOwn.out Hsz.out (A', t.take c, c') (by have := Hpj.out; omega)
      dsimp only at r6
      rw [Htk.out] at r6
      have R6 := hide r6
      have O6 := hide o6
      have L6 := hide (HL.out.trans (lo6.mono HNw.out))
      have Z6 := hide (Nat.le_trans Hsz.out s6)
      clear r6 o6 lo6 s6 HOwn HL Hsz
      have hhd := run_headc A' t.length c' c (by have := Hc.out; have := Hc'.out; omega)
      have hct := run_cut A' t.length c' c Hc.out
      have Hdt : Hid (cat (ps ++ [(A', t.take c, c')]) ++ t.drop c = l) := hide (by rw [cat_app, List.append_assoc, List.take_append_drop]; exact Hct.out)
      have Hdl : Hid ((t.drop c).length = t.length - c) := hide (by rw [List.length_drop])
      have Hok : Hid (PtOk w (ps ++ [(A', t.take c, c')])) := hide (ptok_app HO.out ⟨rds_take HA'.out c, by show (t.take c).length ≤ c'; rw [Htk.out]; have := Hc.out; have := Hc'.out; omega, fun x hx => Htx.out x (List.mem_of_mem_take hx)⟩)
      have hkm : IntKind.i64.wrap ((j : Int) + 1) = (j : Int) + 1 := wrap_i64_small' _ (by omega) (by omega)
      go_wp2_with (at_builtin; refine wpList_app rfl _ _ 29 rfl rfl rfl R6.out ?_)
      refine ⟨⟨j + 1, ps ++ [(A', t.take c, c')], cutA A' c c', P6, t.drop c, c' - c, pc6, by omega, by omega, by rw [List.length_append, Hpj.out]; rfl, by go_num, by rw [Hdl.out], by rw [List.length_append]; rfl, ?_, HA'.out.cut c c' Hc'.out, Hdt.out, Hok.out, O6.out, L6.out, Z6.out⟩, ?_⟩
      · rw [Hdl.out]; have := Hc'.out; omega
      · simp [intOf]; omega
    · obtain ⟨P6, pc6, w6, r6, o6, lo6, s6⟩ := app_part HOwn.out Hsz.out (A', t, c') (by have := Hpj.out; omega)
      dsimp only at r6
      have R6 := hide r6
      have L6 := hide (HL.out.trans (lo6.mono HNw.out))
      have hcat : cat (ps ++ [(A', t, c')]) = l := by rw [cat_app]; exact Hct.out
      have hprt : Prt w6 P6 (ps ++ [(A', t, c')]) := by
        obtain ⟨P7, pc7, e7, h7⟩ := own_prt o6
        injection e7 with e8
        subst e8; exact h7
      clear r6 o6 lo6 s6 HOwn HL
      obtain ⟨f, hf⟩ : ∃ f, f = mc k l := ⟨_, rfl⟩
      have Hf := hide hf
      have Hf2 : Hid (f = mc k (cat (ps ++ [(A', t, c')]))) := hide (by rw [hcat]; exact hf)
      have Hprt := hide hprt
      have Hok : Hid (PtOk w (ps ++ [(A', t, c')])) := hide (ptok_app HO.out ⟨HA'.out, Hc'.out, Htx.out⟩)
      have Hpl : Hid ((ps ++ [(A', t, c')]).length = ps.length + 1) := hide (by simp)
      have Hall : Hid ((cat (ps ++ [(A', t, c')])).length < 2 ^ 29 ∧ l.length < 2 ^ 29 ∧ k.length < 2 ^ 29 ∧ (ps ++ [(A', t, c')]).length < 2 ^ 29) := hide (by rw [hcat, Hpl.out, Hpj.out]; have := Hll.out; have := Hlk.out; omega)
      clear hcat hprt hf
      generalize ps ++ [(A', t, c')] = qs at *
      have heq := eq_self f
      have Hend : Hid (∀ (P : Prop), (cs.length ≤ j → P) → (j = 20 → j < cs.length → P) → P) := hide (fun P h1 h2 => by
        by_cases h : j < cs.length
        · exact h2 (by omega) h
        · exact h1 (by omega))
      refine Hend.out _ (fun hge => ?_) (fun h50 hcl => ?_)
      · have hkl : ¬ (j : Int) < (cs.length : Int) := by omega
        clear Hend hlt
        go_wp2_with (first
          | (at_builtin; refine wpList_app rfl _ _ 29 rfl rfl rfl R6.out ?_)
          | (go_at_call 9; refine (mac_onef f H0.out A B k l Hf.out ca cb k1.heap.size 22 _ _ rfl (Blk.new k1 _ _) (HG.out.low (L7.out.alloc L7.out.size _)) (HA.out.low (L7.out.alloc L7.out.size _)) Hca.out Hk.out (HB.out.low (L7.out.alloc L7.out.size _)) Hcb.out Hl.out Hall.out.2.2.1 Hall.out.2.1).mono ?_; rintro e k2 ⟨rfl, hb⟩; have L8 := hide (keepLow2 (L7.out.alloc L7.out.size _) hb); clear hb; dsimp only)
          | (go_at_call 9; refine (mac_parts f H0.out A k ca P6 qs _ pc6 _ _ Hf2.out rfl Hpl.out (HG.out.low L6.out) (HA.out.low L6.out) Hca.out Hk.out Hprt.out (Hok.out.low L6.out) Hall.out.2.2.1 Hall.out.1 Hall.out.2.2.2).mono ?_; rintro e k1 ⟨rfl, hb⟩; have L7 := hide (keepLow2 L6.out hb); clear hb; dsimp only))
        go_ret
        exact ⟨rfl, L8.out⟩
      · have hkl : (j : Int) < (cs.length : Int) := by omega
        have hk5 : ¬ (j : Int) < 20 := by omega
        clear Hend hlt
        go_wp2_with (first
          | (at_builtin; refine wpList_app rfl _ _ 29 rfl rfl rfl R6.out ?_)
          | (go_at_call 9; refine (mac_onef f H0.out A B k l Hf.out ca cb k1.heap.size 22 _ _ rfl (Blk.new k1 _ _) (HG.out.low (L7.out.alloc L7.out.size _)) (HA.out.low (L7.out.alloc L7.out.size _)) Hca.out Hk.out (HB.out.low (L7.out.alloc L7.out.size _)) Hcb.out Hl.out Hall.out.2.2.1 Hall.out.2.1).mono ?_; rintro e k2 ⟨rfl, hb⟩; have L8 := hide (keepLow2 (L7.out.alloc L7.out.size _) hb); clear hb; dsimp only)
          | (go_at_call 9; refine (mac_parts f H0.out A k ca P6 qs _ pc6 _ _ Hf2.out rfl Hpl.out (HG.out.low L6.out) (HA.out.low L6.out) Hca.out Hk.out Hprt.out (Hok.out.low L6.out) Hall.out.2.2.1 Hall.out.1 Hall.out.2.2.2).mono ?_; rintro e k1 ⟨rfl, hb⟩; have L7 := hide (keepLow2 L6.out hb); clear hb; dsimp only))
        go_ret
        exact ⟨rfl, L8.out⟩
end Go.Proofs.YtaegklfomecmfaaDoor

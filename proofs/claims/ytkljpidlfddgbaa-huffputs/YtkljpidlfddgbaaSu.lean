/- join of huff, on items. At most 2^20 items; no other condition. -/
import Derived.Test.YtkljpidlfddgbaaSt
import Derived.Test.YtkljpidlfddgbaaRz
import Derived.Test.YtkljpidlfddgbaaRe
namespace Go.Proofs.Ytkljpidlfddgbaa
set_option maxRecDepth 100000
open Go.RowKit Rg B

namespace B
theorem b_loT {ρ : Operand → Value} {o : Oper} {x y : Operand} {S : Option Addr} {len cap c : Nat} (hc : c ≤ len) (w : World) (ho : o.op = .slice 76 x (some y) none none := by rfl) (hx : ρ x = .slice S len cap := by kernel_rfl) (hy : ρ y = Nv .i64 c := by kernel_rfl) : (execOp ρ o).run Try.prog w = .ok (.value (.slice (cutS S c cap 2) (len - c) (cap - c))) w := by
  have e : (Instr.slice 76 (.slice S len cap) (some (.int .i64 (c : Int))) none none).run Try.prog w = .ok (.slice (cutS S c cap 2) (len - c) (cap - c)) w := by
    rw [run_slice_l w 76 S len cap (by kernel_rfl) .i64 c (by omega) (by omega), show (sizeOf (Try.prog.elem 76)).run Try.prog w = .ok 2 w by rfl]
    simp [Result.andThen, sliced, cutS]
  have e' : (Instr.sliceAt 76 (.slice S len cap) (some (Nv .i64 c)) none none).run Try.prog w = .ok (.slice (cutS S c cap 2) (len - c) (cap - c)) w := by
    unfold Instr.sliceAt
    go_simp
  unfold execOp
  rw [ho]
  dsimp only [Option.map]
  rw [hx, hy, Sem.run_bind, e']
  rfl
section
open Rg
variable {u : World} {b : Bool} {ops : Array Oper} {sts : List Nat} {F : Nu → Act} {L : Nat → Nu → List Row} {i : Nat} {o : Oper}
/-- Cells one behind the other, of the base world, as one value. -/
theorem nla {ty : TypeId} {x : Operand} {ad : Addr} {d : TypeDesc} (c : Array Value) (hc : ∀ w, Below u.heap.size u w → ∀ j v, c.toList[j]? = some v → w.cell? (ad.add j) = some v) (hu : Try.prog.underlying ty = some d) (hi : (Try.prog.info? ty).map (·.size) = some c.toList.length) (ho : o.op = .load ty x := by rfl) (hx : ∀ ν, (F ν).eval x = .pointer (some ad) := by intro ν; kernel_rfl) (hd : d.isRow = true := by rfl)
    (hv : ∀ ν, vof (F ν) o = .agg c := by intro ν; kernel_rfl) (hw : ∀ ν, Region.wanted o (yielded ops (F ν).tmps) = true := by intro ν; kernel_rfl) (hn : sts.contains i = false := by kernel_rfl) : Ob b Try.prog ops sts F (OI u L) i o :=
  nw 0 sts.length (fun _ => .agg c) (fun _ ν w _ _ hO => by
    have := run_lda (P := Try.prog) w ad ty c.toList d (hc w (Own.low hO)) hu hd hi
    have hx' := hx ν
    unfold execOp
    simp only [ho, hx', Instr.loadAt, Instr.sureAddr, Sem.run_bind, Sem.run_pure, Result.andThen_ok, this]) (by simp [win]) hv hw hn
end
end B
namespace Q
open H
theorem rc_cutT {w : World} {S : Option Addr} {n cap : Nat} {p : Pl} {l : List Pl} (h : Rc w S (n * 2) (ic (p :: l))) (h1 : 1 ≤ n) (hc : n ≤ cap) : Rc w (cutS S 1 cap 2) ((n - 1) * 2) (ic l) := by
  unfold cutS
  by_cases h2 : cap = 1
  · exact .inl (by omega)
  · rw [if_neg h2]
    have := (h.cut 2).congr (g := ic l) (fun j _ => ic_tail p l j)
    rwa [show n * 2 - 2 = (n - 1) * 2 by omega] at this
theorem ic_at {tot ld r : List Pl} {p : Pl} {nd : Nat} (h : tot = ld ++ p :: r) (hn : nd = ld.length) {i : Nat} (hi : i < 2) : (#[Value.int .u64 ((p.1 : Nat) : Int), .bool p.2.1] : Array Value)[i]? = some (ic tot (nd * 2 + i)) := by
  rw [ic_new p hi (l := ld), hn, h, show ld ++ p :: r = (ld ++ [p]) ++ r by simp]
  rw [ic_append (l := ld ++ [p])]
  rw [List.length_append]
  show ld.length * 2 + i < (ld.length + 1) * 2
  omega
theorem ic_mid {ld la r : List Pl} {nd : Nat} (hn : nd = ld.length) {i : Nat} (hi : i < la.length * 2) : ic la i = ic (ld ++ la ++ r) (nd * 2 + i) := by
  rw [ic_append (by rw [List.length_append, hn]; omega)]
  unfold ic
  rw [hn, show (ld.length * 2 + i) / 2 = ld.length + i / 2 by omega, List.getElem?_append_right (by omega), show ld.length + i / 2 - ld.length = i / 2 by omega, show (ld.length * 2 + i) % 2 = i % 2 by omega]
set_option maxHeartbeats 8000000 in
theorem Join_c {S T : Option Addr} {na ca nb cb : Nat} {la lb : List Pl} (hna : na = la.length) (hnb : nb = lb.length) (hca : na ≤ ca) (hcb : nb ≤ cb) (hn : na + nb ≤ 2 ^ 20) (w : World) (hS : Rc w S (na * 2) (ic la)) (hT : Rc w T (nb * 2) (ic lb)) :
    RetP 49 #[.slice S na ca, .slice T nb cb, .func (.func 48) #[] #[]] w fun x w' => ∃ q d, x = .slice (some ⟨q, 0, none⟩) (na + nb) (na + nb + d) ∧ Own w w' [(q, cl (zc 2 zvI) ((na + nb + d) * 2) ((na + nb) * 2) (ic (mg (·.1) la lb)), 79)] := by
  obtain ⟨tot, htot⟩ : ∃ tot, tot = mg (·.1) la lb := ⟨_, rfl⟩
  obtain ⟨N, hN⟩ : ∃ N, na + nb = N := ⟨_, rfl⟩
  rw [← htot, hN]
  have Htot := hide htot
  rw [hN] at hn
  clear htot
  go_enter Try.func49, Try.ntmps49
  have hO := Own.start w
  go_upto_region 0 with (fail)
  refine wp_region_list (WL.out ?_)
  refine g_val (.slice none 0 0) ?_
  refine g_nil ?_
  simp only [Act.put, List.setIfInBounds_toArray, List.set_cons_succ, List.set_cons_zero]
  go_upto_region 1 with (fail)
  refine wp_region_list (WL.out ?_)
  refine g_val (.slice S na ca) ?_
  refine g_val (Nv .i64 na) ?_
  refine g_val (.slice T nb cb) ?_
  refine g_val (Nv .i64 nb) ?_
  refine g_val (Nv .i64 N) ?_ (B.add_int (a := na) (c := nb) (d := N) hN (by omega) w)
  refine g_new hO (fun q => .slice (some ⟨q, 0, none⟩) 0 N) (cl (zc 2 zvI) (N * 2) (0 * 2) (ic tot)) 79 (fit_ic _ _ _) ((by rw [Nat.zero_mul]; exact b_mkN 76 79 2 16 zvI (ic tot) Try.underlying76 it_info rfl (by decide) (Nat.zero_le _) (by omega) (by omega) w)) ?_
  intro n13 w1 hb13 hO
  replace hO : Own w w1 [(n13, cl (zc 2 zvI) (N * 2) (0 * 2) (ic tot), 79)] := hO
  refine g_val (.slice (some ⟨n13, 0, none⟩) 0 N) ?_
  refine g_nil ?_
  simp only [Act.put, List.setIfInBounds_toArray, List.set_cons_succ, List.set_cons_zero]
  have HO := hide hO
  clear hO
  go_wp2_with (fail)
  go_loopw [0, 1, 7] (fun x0 x1 x7 wr => ∃ (S T : Option Addr) (na ca nb cb nd dd g : Nat) (la lb ld : List Pl), na = la.length ∧ nb = lb.length ∧ nd = ld.length ∧ na ≤ ca ∧ nb ≤ cb ∧ nd + (na + nb) = N ∧ x0 = .slice S na ca ∧ x1 = .slice T nb cb ∧ x7 = .slice (some ⟨g, 0, none⟩) nd (nd + dd) ∧ tot = ld ++ mg (·.1) la lb ∧ Rc w S (na * 2) (ic la) ∧ Rc w T (nb * 2) (ic lb) ∧ Own w wr [(g, cl (zc 2 zvI) ((nd + dd) * 2) (nd * 2) (ic tot), 79)]) (fun x0 x1 _ _ => H.sln x0 + H.sln x1)
  case atStart => exact ⟨S, T, na, ca, nb, cb, 0, N, n13, la, lb, [], hna, hnb, rfl, hca, hcb, by omega, rfl, rfl, by rw [Nat.zero_add], Htot.out, hS, hT, by rw [Nat.zero_add]; exact HO.out⟩
  case round =>
    clear HO Htot hna hnb hca hcb hS hT hN
    obtain ⟨S, T, na, ca, nb, cb, nd, dd, g, la, lb, ld, hna, hnb, hnd, hca, hcb, hN, rfl, rfl, rfl, htot, hS, hT, hO⟩ := hrel
    have Hca := hide hca
    have Hcb := hide hcb
    have Htot := hide htot
    have Hnd := hide hnd
    have HN := hide hN
    clear hca hcb htot hnd
    by_cases h1 : 0 < na
    · have h1' := h1
      by_cases h2 : 0 < nb
      · have h2' := h2
        go_upto_region 2 with (fail)
        refine wp_region_list (WL.out ?_)
        refine g_val (.slice S na ca) ?_
        refine g_val (Nv .i64 na) ?_
        refine g_val (.bool true) ?_ (B.gtr_int (a := na) (c := 0) (b := true) (decide_eq_true h1) wr)
        refine g_val (.bool true) ?_
        refine g_val (.slice T nb cb) ?_
        refine g_val (Nv .i64 nb) ?_
        refine g_val (.bool true) ?_ (B.gtr_int (a := nb) (c := 0) (b := true) (decide_eq_true h2) wr)
        refine g_val (.bool true) ?_
        refine g_nil ?_
        simp only [Act.put, List.setIfInBounds_toArray, List.set_cons_succ, List.set_cons_zero]
        obtain ⟨p, la, rfl⟩ : ∃ p l, la = p :: l := by cases la with | nil => exact absurd hna (by simp; omega) | cons p l => exact ⟨p, l, rfl⟩
        obtain ⟨q, lb, rfl⟩ : ∃ p l, lb = p :: l := by cases lb with | nil => exact absurd hnb (by simp; omega) | cons p l => exact ⟨p, l, rfl⟩
        rw [List.length_cons] at hna hnb
        obtain ⟨sa, rfl, hc0sa⟩ := hS.cell (i := 0) (by omega)
        obtain ⟨sa', esa, hc1sa⟩ := hS.cell (i := 1) (by omega)
        obtain rfl := Option.some.inj esa
        clear esa
        rw [ic_h0] at hc0sa
        rw [ic_h1] at hc1sa
        obtain ⟨adsa, hadsa⟩ : ∃ ad, Hid (sa.add (0 * 2) = ad) := ⟨_, hide rfl⟩
        have hitsa : ∀ w', Below w.heap.size w w' → ∀ j v, (#[Value.int .u64 ((p.1 : Nat) : Int), .bool p.2.1] : Array Value).toList[j]? = some v → w'.cell? (adsa.add j) = some v := fun w' h j v hj => by
          rw [← hadsa.out, add_add]
          match j, hj with
          | 0, hj => rw [← Option.some.inj hj]; exact hc0sa w' h
          | 1, hj => rw [← Option.some.inj hj]; exact hc1sa w' h
          | j + 2, hj => cases hj
        clear hc0sa hc1sa
        obtain ⟨sb, rfl, hc0sb⟩ := hT.cell (i := 0) (by omega)
        obtain ⟨sb', esb, hc1sb⟩ := hT.cell (i := 1) (by omega)
        obtain rfl := Option.some.inj esb
        clear esb
        rw [ic_h0] at hc0sb
        rw [ic_h1] at hc1sb
        obtain ⟨adsb, hadsb⟩ : ∃ ad, Hid (sb.add (0 * 2) = ad) := ⟨_, hide rfl⟩
        have hitsb : ∀ w', Below w.heap.size w w' → ∀ j v, (#[Value.int .u64 ((q.1 : Nat) : Int), .bool q.2.1] : Array Value).toList[j]? = some v → w'.cell? (adsb.add j) = some v := fun w' h j v hj => by
          rw [← hadsb.out, add_add]
          match j, hj with
          | 0, hj => rw [← Option.some.inj hj]; exact hc0sb w' h
          | 1, hj => rw [← Option.some.inj hj]; exact hc1sb w' h
          | j + 2, hj => cases hj
        clear hc0sb hc1sb
        cases hc : decide (q.1 < p.1) with
        | true =>
          go_upto_region 3 with (fail)
          refine Rg.pd [4, 9] (fun ν => [(22, .func (.func 48) #[] #[]), (23, .slice (some sb) nb cb), (24, .pointer (some adsb)), (25, A (#[.int .u64 ((q.1 : Nat) : Int), .bool q.2.1])), (26, Nv .u64 q.1), (27, .func (.func 48) #[] #[]), (28, .slice (some sa) na ca), (29, .pointer (some adsa)), (30, A (#[.int .u64 ((p.1 : Nat) : Int), .bool p.2.1])), (31, Nv .u64 p.1), (32, .bool true)]) (OI w (fun s ν => [[(g, cl (zc 2 zvI) ((nd + dd) * 2) (nd * 2) (ic tot), 79)], [(g, cl (zc 2 zvI) ((nd + dd) * 2) (nd * 2) (ic tot), 79)], [(g, cl (zc 2 zvI) ((nd + dd) * 2) (nd * 2) (ic tot), 79)]].getD s [])) (fun _ => 0) hO.drew (Rg.ac nv (Rg.ac nv (Rg.ac (nx (fun _ => .pointer (some adsb)) (fun _ w => hadsb.out ▸ b_ix (n := nb) (c := cb) (k := 0) (s := 2) (by omega) Try.underlying76 sz_it w)) (Rg.ac (nla (#[.int .u64 ((q.1 : Nat) : Int), .bool q.2.1]) hitsb Try.underlying79 (by kernel_rfl)) (Rg.ac (sq 0 48 (fun _ => #[A (#[.int .u64 ((q.1 : Nat) : Int), .bool q.2.1])]) (fun _ => Nv .u64 q.1) (fun ν w hO => Weight_c q.1 q.2.1 w)) (Rg.ac nv (Rg.ac nv (Rg.ac (nx (fun _ => .pointer (some adsa)) (fun _ w => hadsa.out ▸ b_ix (n := na) (c := ca) (k := 0) (s := 2) (by omega) Try.underlying76 sz_it w)) (Rg.ac (nla (#[.int .u64 ((p.1 : Nat) : Int), .bool p.2.1]) hitsa Try.underlying79 (by kernel_rfl)) (Rg.ac (sq 1 48 (fun _ => #[A (#[.int .u64 ((p.1 : Nat) : Int), .bool p.2.1])]) (fun _ => Nv .u64 p.1) (fun ν w hO => Weight_c p.1 p.2.1 w)) (Rg.ac (nx (fun _ => .bool true) (fun _ w => lss_u64 hc w)) Rg.an))))))))))) ?_
          intro ν w2 hO
          replace hO : Own w w2 [(g, cl (zc 2 zvI) ((nd + dd) * 2) (nd * 2) (ic tot), 79)] := hO
          simp only [Rg.putL, Act.put, List.setIfInBounds_toArray, List.set_cons_succ, List.set_cons_zero]
          clear ν
          have hndl := Hnd.out
          have hNN := HN.out
          have hrel : tot = ld ++ q :: mg (·.1) (p :: la) lb := by rw [Htot.out]; exact congrArg _ (mg_gt (key := fun x : Pl => x.1) (by have := of_decide_eq_true hc; omega))
          have Hic : Hid (∀ i, i < 2 → (#[Value.int .u64 ((q.1 : Nat) : Int), .bool q.2.1] : Array Value)[i]? = some (ic tot (nd * 2 + i))) := hide fun i hi => ic_at hrel hndl hi
          go_upto_region 4 with (fail)
          refine Rz.pz [(0, 7, .slice (some ⟨g, 0, none⟩) nd (nd + dd)), (1, 1, .slice (some sb) nb cb), (6, 1, .slice (some sb) nb cb)] (fun ν => [(33, .slice (some ⟨g, 0, none⟩) nd (nd + dd)), (34, .slice (some sb) nb cb), (35, .pointer (some adsb)), (36, .agg #[.int .u64 ((q.1 : Nat) : Int), .bool q.2.1]), (37, .slice (some ⟨ν 4, 0, none⟩) 1 1), (38, .slice (some ⟨ν 5, 0, none⟩) (nd + 1) (nd + 1 + ν 105)), (39, .slice (some sb) nb cb), (40, .slice (cutS (some sb) 1 cb 2) (nb - 1) (cb - 1)), (7, .slice (some ⟨ν 5, 0, none⟩) (nd + 1) (nd + 1 + ν 105)), (1, .slice (cutS (some sb) 1 cb 2) (nb - 1) (cb - 1))]) (Rf.OD w (fun D ν => (bif D 5 then [(ν 5, cl (zc 2 zvI) ((nd + 1 + ν 105) * 2) ((nd + 1) * 2) (ic tot), 79)] else bif D 4 then [(g, cl (zc 2 zvI) ((nd + dd) * 2) (nd * 2) (ic tot), 79), (ν 4, #[.int .u64 ((q.1 : Nat) : Int), .bool q.2.1], 79)] else [(g, cl (zc 2 zvI) ((nd + dd) * 2) (nd * 2) (ic tot), 79)] : List Row))) (fun _ => 0) hO.drew (Rg.ac Rf.fv (Rg.ac Rf.fv (Rg.ac (Rf.fx (fun _ => .pointer (some adsb)) (fun _ w => hadsb.out ▸ b_ix (n := nb) (c := cb) (k := 0) (s := 2) (by omega) Try.underlying76 sz_it w)) (Rg.ac (Rf.fla (#[.int .u64 ((q.1 : Nat) : Int), .bool q.2.1]) hitsb Try.underlying79 (by kernel_rfl)) (Rg.ac (Rf.fnw (fun ν q => .slice (some ⟨q, 0, none⟩) 1 1) (fun _ => #[.int .u64 ((q.1 : Nat) : Int), .bool q.2.1]) 79 (fun ν w => by kernel_rfl) (fun _ => fit_it (by simp [Value.oneCell'])) (fun D ν nq my => by have f4 : D 4 = false := my.not; have f5 : D 5 = false := my.nf (k := 5) f4 (by kernel_rfl); have e : ∀ b4 b5 : Bool, b4 = false → b5 = false → ((bif b5 then [(ν 5, cl (zc 2 zvI) ((nd + 1 + ν 105) * 2) ((nd + 1) * 2) (ic tot), 79)] else bif b4 then [(g, cl (zc 2 zvI) ((nd + dd) * 2) (nd * 2) (ic tot), 79), (ν 4, #[.int .u64 ((q.1 : Nat) : Int), .bool q.2.1], 79)] else [(g, cl (zc 2 zvI) ((nd + dd) * 2) (nd * 2) (ic tot), 79)] : List Row) ++ ([(nq, #[.int .u64 ((q.1 : Nat) : Int), .bool q.2.1], 79)] : List Row)).Perm (bif b5 then [(ν 5, cl (zc 2 zvI) ((nd + 1 + ν 105) * 2) ((nd + 1) * 2) (ic tot), 79)] else bif true then [(g, cl (zc 2 zvI) ((nd + dd) * 2) (nd * 2) (ic tot), 79), (nq, #[.int .u64 ((q.1 : Nat) : Int), .bool q.2.1], 79)] else [(g, cl (zc 2 zvI) ((nd + dd) * 2) (nd * 2) (ic tot), 79)] : List Row) := (by intro b4 b5; intros; subst_vars; exact List.Perm.refl _); exact e _ _ f4 f5)) (Rg.ac (Rf.fap (n := nd) (m := 1) (g := ic tot) (fun ν => .slice (some ⟨g, 0, none⟩) nd (nd + dd)) (fun ν => .slice (some ⟨ν 4, 0, none⟩) 1 1) (fun D ν => []) el_i (fun D ν w9 my hO => by have f4 : D 4 = true := my.pre 4 (by kernel_rfl); have f5 : D 5 = false := my.not; have e : ∀ b4 b5 : Bool, b4 = true → b5 = false → Own w w9 (bif b5 then [(ν 5, cl (zc 2 zvI) ((nd + 1 + ν 105) * 2) ((nd + 1) * 2) (ic tot), 79)] else bif b4 then [(g, cl (zc 2 zvI) ((nd + dd) * 2) (nd * 2) (ic tot), 79), (ν 4, #[.int .u64 ((q.1 : Nat) : Int), .bool q.2.1], 79)] else [(g, cl (zc 2 zvI) ((nd + dd) * 2) (nd * 2) (ic tot), 79)] : List Row) → Own w w9 [(g, cl (zc 2 zvI) ((nd + dd) * 2) (nd * 2) (ic tot), 79), (ν 4, #[.int .u64 ((q.1 : Nat) : Int), .bool q.2.1], 79)] := (by intro b4 b5; intros; subst_vars; assumption); exact .inr ⟨g, dd, rfl, (e _ _ f4 f5 hO).take 1⟩) (fun ν h => by injection h with h1 _ _; cases h1) (fun D ν w9 my hO => by have f4 : D 4 = true := my.pre 4 (by kernel_rfl); have f5 : D 5 = false := my.not; have e : ∀ b4 b5 : Bool, b4 = true → b5 = false → Own w w9 (bif b5 then [(ν 5, cl (zc 2 zvI) ((nd + 1 + ν 105) * 2) ((nd + 1) * 2) (ic tot), 79)] else bif b4 then [(g, cl (zc 2 zvI) ((nd + dd) * 2) (nd * 2) (ic tot), 79), (ν 4, #[.int .u64 ((q.1 : Nat) : Int), .bool q.2.1], 79)] else [(g, cl (zc 2 zvI) ((nd + dd) * 2) (nd * 2) (ic tot), 79)] : List Row) → Own w w9 [(g, cl (zc 2 zvI) ((nd + dd) * 2) (nd * 2) (ic tot), 79), (ν 4, #[.int .u64 ((q.1 : Nat) : Int), .bool q.2.1], 79)] := (by intro b4 b5; intros; subst_vars; assumption); exact src_rc el_i 1 (rc_row ((e _ _ f4 f5 hO).row 1 rfl) (fun i hi => by rw [Nat.zero_add]; exact Hic.out i (by omega))) (fun j _ => ic_one _ _)) (fun i _ => ic_one _ _) (by omega) (fun D ν q8 d my => by have f4 : D 4 = true := my.pre 4 (by kernel_rfl); have f5 : D 5 = false := my.not; have e : ∀ b4 b5 : Bool, b4 = true → b5 = false → (([] : List Row) ++ ([(q8, cl (zc 2 zvI) ((nd + 1 + d) * 2) ((nd + 1) * 2) (ic tot), 79)] : List Row)).Perm (bif true then [(q8, cl (zc 2 zvI) ((nd + 1 + d) * 2) ((nd + 1) * 2) (ic tot), 79)] else bif b4 then [(g, cl (zc 2 zvI) ((nd + dd) * 2) (nd * 2) (ic tot), 79), (ν 4, #[.int .u64 ((q.1 : Nat) : Int), .bool q.2.1], 79)] else [(g, cl (zc 2 zvI) ((nd + dd) * 2) (nd * 2) (ic tot), 79)] : List Row) := (by intro b4 b5; intros; subst_vars; exact List.Perm.refl _); exact e _ _ f4 f5)) (Rg.ac Rf.fv (Rg.ac (Rf.fx (fun _ => .slice (cutS (some sb) 1 cb 2) (nb - 1) (cb - 1)) (fun _ w => b_loT (by omega) w)) (Rg.ac Rf.fv (Rg.ac Rf.fv Rg.an)))))))))) ?_
          intro D ν wD hall hO
          have f5 : D 5 = true := hall 5 (by decide)
          replace hO : Own w wD [(ν 5, cl (zc 2 zvI) ((nd + 1 + ν 105) * 2) ((nd + 1) * 2) (ic tot), 79)] := by
            have e : ∀ b4 b5 : Bool, b5 = true → Own w wD (bif b5 then [(ν 5, cl (zc 2 zvI) ((nd + 1 + ν 105) * 2) ((nd + 1) * 2) (ic tot), 79)] else bif b4 then [(g, cl (zc 2 zvI) ((nd + dd) * 2) (nd * 2) (ic tot), 79), (ν 4, #[.int .u64 ((q.1 : Nat) : Int), .bool q.2.1], 79)] else [(g, cl (zc 2 zvI) ((nd + dd) * 2) (nd * 2) (ic tot), 79)] : List Row) → Own w wD [(ν 5, cl (zc 2 zvI) ((nd + 1 + ν 105) * 2) ((nd + 1) * 2) (ic tot), 79)] := by (intros; subst_vars; assumption)
            exact e _ _ f5 hO
          clear hall f5
          simp only [Rg.putL, Act.put, List.setIfInBounds_toArray, List.set_cons_succ, List.set_cons_zero]
          generalize ν 4 = v4 at hO ⊢
          generalize ν 5 = v5 at hO ⊢
          generalize ν 105 = v105 at hO ⊢
          clear ν D
          have HO := hide hO
          clear hO Hic
          go_wp2_with (fail)
          go_roundw
          case rel => exact ⟨_, _, na, ca, nb - 1, cb - 1, nd + 1, v105, v5, p :: la, lb, ld ++ [q], hna, by omega, by rw [List.length_append, ← hndl]; rfl, Hca.out, by have := Hcb.out; omega, by omega, rfl, rfl, rfl, by rw [hrel, List.append_assoc]; rfl, hS, rc_cutT hT h2' Hcb.out, HO.out⟩
          case measure => show na + (nb - 1) < na + nb; omega
        | false =>
          go_upto_region 3 with (fail)
          refine Rg.pd [4, 9] (fun ν => [(22, .func (.func 48) #[] #[]), (23, .slice (some sb) nb cb), (24, .pointer (some adsb)), (25, A (#[.int .u64 ((q.1 : Nat) : Int), .bool q.2.1])), (26, Nv .u64 q.1), (27, .func (.func 48) #[] #[]), (28, .slice (some sa) na ca), (29, .pointer (some adsa)), (30, A (#[.int .u64 ((p.1 : Nat) : Int), .bool p.2.1])), (31, Nv .u64 p.1), (32, .bool false)]) (OI w (fun s ν => [[(g, cl (zc 2 zvI) ((nd + dd) * 2) (nd * 2) (ic tot), 79)], [(g, cl (zc 2 zvI) ((nd + dd) * 2) (nd * 2) (ic tot), 79)], [(g, cl (zc 2 zvI) ((nd + dd) * 2) (nd * 2) (ic tot), 79)]].getD s [])) (fun _ => 0) hO.drew (Rg.ac nv (Rg.ac nv (Rg.ac (nx (fun _ => .pointer (some adsb)) (fun _ w => hadsb.out ▸ b_ix (n := nb) (c := cb) (k := 0) (s := 2) (by omega) Try.underlying76 sz_it w)) (Rg.ac (nla (#[.int .u64 ((q.1 : Nat) : Int), .bool q.2.1]) hitsb Try.underlying79 (by kernel_rfl)) (Rg.ac (sq 0 48 (fun _ => #[A (#[.int .u64 ((q.1 : Nat) : Int), .bool q.2.1])]) (fun _ => Nv .u64 q.1) (fun ν w hO => Weight_c q.1 q.2.1 w)) (Rg.ac nv (Rg.ac nv (Rg.ac (nx (fun _ => .pointer (some adsa)) (fun _ w => hadsa.out ▸ b_ix (n := na) (c := ca) (k := 0) (s := 2) (by omega) Try.underlying76 sz_it w)) (Rg.ac (nla (#[.int .u64 ((p.1 : Nat) : Int), .bool p.2.1]) hitsa Try.underlying79 (by kernel_rfl)) (Rg.ac (sq 1 48 (fun _ => #[A (#[.int .u64 ((p.1 : Nat) : Int), .bool p.2.1])]) (fun _ => Nv .u64 p.1) (fun ν w hO => Weight_c p.1 p.2.1 w)) (Rg.ac (nx (fun _ => .bool false) (fun _ w => lss_u64 hc w)) Rg.an))))))))))) ?_
          intro ν w2 hO
          replace hO : Own w w2 [(g, cl (zc 2 zvI) ((nd + dd) * 2) (nd * 2) (ic tot), 79)] := hO
          simp only [Rg.putL, Act.put, List.setIfInBounds_toArray, List.set_cons_succ, List.set_cons_zero]
          clear ν
          have hndl := Hnd.out
          have hNN := HN.out
          have hrel : tot = ld ++ p :: mg (·.1) la (q :: lb) := by rw [Htot.out]; exact congrArg _ (mg_le (key := fun x : Pl => x.1) (by have := of_decide_eq_false hc; omega))
          have Hic : Hid (∀ i, i < 2 → (#[Value.int .u64 ((p.1 : Nat) : Int), .bool p.2.1] : Array Value)[i]? = some (ic tot (nd * 2 + i))) := hide fun i hi => ic_at hrel hndl hi
          go_upto_region 5 with (fail)
          refine Rz.pz [(0, 7, .slice (some ⟨g, 0, none⟩) nd (nd + dd)), (1, 0, .slice (some sa) na ca), (6, 0, .slice (some sa) na ca)] (fun ν => [(41, .slice (some ⟨g, 0, none⟩) nd (nd + dd)), (42, .slice (some sa) na ca), (43, .pointer (some adsa)), (44, .agg #[.int .u64 ((p.1 : Nat) : Int), .bool p.2.1]), (45, .slice (some ⟨ν 4, 0, none⟩) 1 1), (46, .slice (some ⟨ν 5, 0, none⟩) (nd + 1) (nd + 1 + ν 105)), (47, .slice (some sa) na ca), (48, .slice (cutS (some sa) 1 ca 2) (na - 1) (ca - 1)), (7, .slice (some ⟨ν 5, 0, none⟩) (nd + 1) (nd + 1 + ν 105)), (0, .slice (cutS (some sa) 1 ca 2) (na - 1) (ca - 1))]) (Rf.OD w (fun D ν => (bif D 5 then [(ν 5, cl (zc 2 zvI) ((nd + 1 + ν 105) * 2) ((nd + 1) * 2) (ic tot), 79)] else bif D 4 then [(g, cl (zc 2 zvI) ((nd + dd) * 2) (nd * 2) (ic tot), 79), (ν 4, #[.int .u64 ((p.1 : Nat) : Int), .bool p.2.1], 79)] else [(g, cl (zc 2 zvI) ((nd + dd) * 2) (nd * 2) (ic tot), 79)] : List Row))) (fun _ => 0) hO.drew (Rg.ac Rf.fv (Rg.ac Rf.fv (Rg.ac (Rf.fx (fun _ => .pointer (some adsa)) (fun _ w => hadsa.out ▸ b_ix (n := na) (c := ca) (k := 0) (s := 2) (by omega) Try.underlying76 sz_it w)) (Rg.ac (Rf.fla (#[.int .u64 ((p.1 : Nat) : Int), .bool p.2.1]) hitsa Try.underlying79 (by kernel_rfl)) (Rg.ac (Rf.fnw (fun ν q => .slice (some ⟨q, 0, none⟩) 1 1) (fun _ => #[.int .u64 ((p.1 : Nat) : Int), .bool p.2.1]) 79 (fun ν w => by kernel_rfl) (fun _ => fit_it (by simp [Value.oneCell'])) (fun D ν nq my => by have f4 : D 4 = false := my.not; have f5 : D 5 = false := my.nf (k := 5) f4 (by kernel_rfl); have e : ∀ b4 b5 : Bool, b4 = false → b5 = false → ((bif b5 then [(ν 5, cl (zc 2 zvI) ((nd + 1 + ν 105) * 2) ((nd + 1) * 2) (ic tot), 79)] else bif b4 then [(g, cl (zc 2 zvI) ((nd + dd) * 2) (nd * 2) (ic tot), 79), (ν 4, #[.int .u64 ((p.1 : Nat) : Int), .bool p.2.1], 79)] else [(g, cl (zc 2 zvI) ((nd + dd) * 2) (nd * 2) (ic tot), 79)] : List Row) ++ ([(nq, #[.int .u64 ((p.1 : Nat) : Int), .bool p.2.1], 79)] : List Row)).Perm (bif b5 then [(ν 5, cl (zc 2 zvI) ((nd + 1 + ν 105) * 2) ((nd + 1) * 2) (ic tot), 79)] else bif true then [(g, cl (zc 2 zvI) ((nd + dd) * 2) (nd * 2) (ic tot), 79), (nq, #[.int .u64 ((p.1 : Nat) : Int), .bool p.2.1], 79)] else [(g, cl (zc 2 zvI) ((nd + dd) * 2) (nd * 2) (ic tot), 79)] : List Row) := (by intro b4 b5; intros; subst_vars; exact List.Perm.refl _); exact e _ _ f4 f5)) (Rg.ac (Rf.fap (n := nd) (m := 1) (g := ic tot) (fun ν => .slice (some ⟨g, 0, none⟩) nd (nd + dd)) (fun ν => .slice (some ⟨ν 4, 0, none⟩) 1 1) (fun D ν => []) el_i (fun D ν w9 my hO => by have f4 : D 4 = true := my.pre 4 (by kernel_rfl); have f5 : D 5 = false := my.not; have e : ∀ b4 b5 : Bool, b4 = true → b5 = false → Own w w9 (bif b5 then [(ν 5, cl (zc 2 zvI) ((nd + 1 + ν 105) * 2) ((nd + 1) * 2) (ic tot), 79)] else bif b4 then [(g, cl (zc 2 zvI) ((nd + dd) * 2) (nd * 2) (ic tot), 79), (ν 4, #[.int .u64 ((p.1 : Nat) : Int), .bool p.2.1], 79)] else [(g, cl (zc 2 zvI) ((nd + dd) * 2) (nd * 2) (ic tot), 79)] : List Row) → Own w w9 [(g, cl (zc 2 zvI) ((nd + dd) * 2) (nd * 2) (ic tot), 79), (ν 4, #[.int .u64 ((p.1 : Nat) : Int), .bool p.2.1], 79)] := (by intro b4 b5; intros; subst_vars; assumption); exact .inr ⟨g, dd, rfl, (e _ _ f4 f5 hO).take 1⟩) (fun ν h => by injection h with h1 _ _; cases h1) (fun D ν w9 my hO => by have f4 : D 4 = true := my.pre 4 (by kernel_rfl); have f5 : D 5 = false := my.not; have e : ∀ b4 b5 : Bool, b4 = true → b5 = false → Own w w9 (bif b5 then [(ν 5, cl (zc 2 zvI) ((nd + 1 + ν 105) * 2) ((nd + 1) * 2) (ic tot), 79)] else bif b4 then [(g, cl (zc 2 zvI) ((nd + dd) * 2) (nd * 2) (ic tot), 79), (ν 4, #[.int .u64 ((p.1 : Nat) : Int), .bool p.2.1], 79)] else [(g, cl (zc 2 zvI) ((nd + dd) * 2) (nd * 2) (ic tot), 79)] : List Row) → Own w w9 [(g, cl (zc 2 zvI) ((nd + dd) * 2) (nd * 2) (ic tot), 79), (ν 4, #[.int .u64 ((p.1 : Nat) : Int), .bool p.2.1], 79)] := (by intro b4 b5; intros; subst_vars; assumption); exact src_rc el_i 1 (rc_row ((e _ _ f4 f5 hO).row 1 rfl) (fun i hi => by rw [Nat.zero_add]; exact Hic.out i (by omega))) (fun j _ => ic_one _ _)) (fun i _ => ic_one _ _) (by omega) (fun D ν q8 d my => by have f4 : D 4 = true := my.pre 4 (by kernel_rfl); have f5 : D 5 = false := my.not; have e : ∀ b4 b5 : Bool, b4 = true → b5 = false → (([] : List Row) ++ ([(q8, cl (zc 2 zvI) ((nd + 1 + d) * 2) ((nd + 1) * 2) (ic tot), 79)] : List Row)).Perm (bif true then [(q8, cl (zc 2 zvI) ((nd + 1 + d) * 2) ((nd + 1) * 2) (ic tot), 79)] else bif b4 then [(g, cl (zc 2 zvI) ((nd + dd) * 2) (nd * 2) (ic tot), 79), (ν 4, #[.int .u64 ((p.1 : Nat) : Int), .bool p.2.1], 79)] else [(g, cl (zc 2 zvI) ((nd + dd) * 2) (nd * 2) (ic tot), 79)] : List Row) := (by intro b4 b5; intros; subst_vars; exact List.Perm.refl _); exact e _ _ f4 f5)) (Rg.ac Rf.fv (Rg.ac (Rf.fx (fun _ => .slice (cutS (some sa) 1 ca 2) (na - 1) (ca - 1)) (fun _ w => b_loT (by omega) w)) (Rg.ac Rf.fv (Rg.ac Rf.fv Rg.an)))))))))) ?_
          intro D ν wD hall hO
          have f5 : D 5 = true := hall 5 (by decide)
          replace hO : Own w wD [(ν 5, cl (zc 2 zvI) ((nd + 1 + ν 105) * 2) ((nd + 1) * 2) (ic tot), 79)] := by
            have e : ∀ b4 b5 : Bool, b5 = true → Own w wD (bif b5 then [(ν 5, cl (zc 2 zvI) ((nd + 1 + ν 105) * 2) ((nd + 1) * 2) (ic tot), 79)] else bif b4 then [(g, cl (zc 2 zvI) ((nd + dd) * 2) (nd * 2) (ic tot), 79), (ν 4, #[.int .u64 ((p.1 : Nat) : Int), .bool p.2.1], 79)] else [(g, cl (zc 2 zvI) ((nd + dd) * 2) (nd * 2) (ic tot), 79)] : List Row) → Own w wD [(ν 5, cl (zc 2 zvI) ((nd + 1 + ν 105) * 2) ((nd + 1) * 2) (ic tot), 79)] := by (intros; subst_vars; assumption)
            exact e _ _ f5 hO
          clear hall f5
          simp only [Rg.putL, Act.put, List.setIfInBounds_toArray, List.set_cons_succ, List.set_cons_zero]
          generalize ν 4 = v4 at hO ⊢
          generalize ν 5 = v5 at hO ⊢
          generalize ν 105 = v105 at hO ⊢
          clear ν D
          have HO := hide hO
          clear hO Hic
          go_wp2_with (fail)
          go_roundw
          case rel => exact ⟨_, _, na - 1, ca - 1, nb, cb, nd + 1, v105, v5, la, q :: lb, ld ++ [p], by omega, hnb, by rw [List.length_append, ← hndl]; rfl, by have := Hca.out; omega, Hcb.out, by omega, rfl, rfl, rfl, by rw [hrel, List.append_assoc]; rfl, rc_cutT hS h1' Hca.out, hT, HO.out⟩
          case measure => show na - 1 + nb < na + nb; omega
      · have h2' := h2
        have hl0 : lb = [] := List.eq_nil_of_length_eq_zero (by omega)
        have hT9 : tot = ld ++ la ++ lb := by rw [Htot.out, hl0, mg_nil', List.append_nil]
        clear hl0
        go_upto_region 2 with (fail)
        refine wp_region_list (WL.out ?_)
        refine g_val (.slice S na ca) ?_
        refine g_val (Nv .i64 na) ?_
        refine g_val (.bool true) ?_ (B.gtr_int (a := na) (c := 0) (b := true) (decide_eq_true h1) wr)
        refine g_val (.bool true) ?_
        refine g_val (.slice T nb cb) ?_
        refine g_val (Nv .i64 nb) ?_
        refine g_val (.bool false) ?_ (B.gtr_int (a := nb) (c := 0) (b := false) (decide_eq_false h2) wr)
        refine g_val (.bool false) ?_
        refine g_nil ?_
        simp only [Act.put, List.setIfInBounds_toArray, List.set_cons_succ, List.set_cons_zero]
        have hndl := Hnd.out
        have hNN := HN.out
        obtain ⟨M, hM⟩ : ∃ M, nd + na = M := ⟨_, rfl⟩
        go_upto_region 6 with (fail)
        refine wp_region_list (WL.out ?_)
        refine g_val (.slice (some ⟨g, 0, none⟩) nd (nd + dd)) ?_
        refine g_val (.slice S na ca) ?_
        refine g_app (u := w) (L := []) (m := na) (c := ca) (N := M) (h' := ic la) (g := ic tot) (.slice (some ⟨g, 0, none⟩) nd (nd + dd)) el_i (.inr ⟨_, _, rfl, hO⟩) (.inr (fun h => by injection h with h1 _ _; cases h1)) (by omega) (by omega) (hS.low hO.low) (fun i _ => ic_one _ _) (fun i _ => rfl) (fun i hi => by rw [hT9]; exact ic_mid hndl (by rw [← hna]; exact hi)) (fun q51 d51 wd51 hO => ?_)
        refine g_val (.slice T nb cb) ?_
        refine g_app (u := w) (L := []) (m := nb) (c := cb) (N := N) (h' := ic lb) (g := ic tot) (.slice (some ⟨q51, 0, none⟩) M (M + d51)) el_i (.inr ⟨_, _, rfl, hO⟩) (.inr (fun h => by injection h with h1 _ _; cases h1)) (by omega) (by omega) (hT.low hO.low) (fun i _ => ic_one _ _) (fun i _ => rfl) (fun i hi => by rw [hT9, ← List.append_nil (ld ++ la ++ lb)]; exact ic_mid (by rw [List.length_append, ← hndl, ← hna, hM]) (by rw [← hnb]; exact hi)) (fun q53 d53 wd53 hO => ?_)
        refine g_val (.slice (some ⟨q53, 0, none⟩) N (N + d53)) ?_
        refine g_nil ?_
        simp only [Act.put, List.setIfInBounds_toArray, List.set_cons_succ, List.set_cons_zero]
        have HO := hide hO
        clear hO
        go_wp2_with (fail)
        go_ret
        exact ⟨_, rfl, _, _, rfl, HO.out⟩
    · have h1' := h1
      have hl0 : la = [] := List.eq_nil_of_length_eq_zero (by omega)
      have hT9 : tot = ld ++ la ++ lb := by rw [Htot.out, hl0, mg_nil, List.append_nil]
      clear hl0
      go_upto_region 2 with (fail)
      refine wp_region_list (WL.out ?_)
      refine g_val (.slice S na ca) ?_
      refine g_val (Nv .i64 na) ?_
      refine g_val (.bool false) ?_ (B.gtr_int (a := na) (c := 0) (b := false) (decide_eq_false h1) wr)
      refine g_val (.bool false) ?_
      refine g_skip ?_
      refine g_skip ?_
      refine g_skip ?_
      refine g_val (.bool false) ?_
      refine g_nil ?_
      simp only [Act.put, List.setIfInBounds_toArray, List.set_cons_succ, List.set_cons_zero]
      have hndl := Hnd.out
      have hNN := HN.out
      obtain ⟨M, hM⟩ : ∃ M, nd + na = M := ⟨_, rfl⟩
      go_upto_region 6 with (fail)
      refine wp_region_list (WL.out ?_)
      refine g_val (.slice (some ⟨g, 0, none⟩) nd (nd + dd)) ?_
      refine g_val (.slice S na ca) ?_
      refine g_app (u := w) (L := []) (m := na) (c := ca) (N := M) (h' := ic la) (g := ic tot) (.slice (some ⟨g, 0, none⟩) nd (nd + dd)) el_i (.inr ⟨_, _, rfl, hO⟩) (.inr (fun h => by injection h with h1 _ _; cases h1)) (by omega) (by omega) (hS.low hO.low) (fun i _ => ic_one _ _) (fun i _ => rfl) (fun i hi => by rw [hT9]; exact ic_mid hndl (by rw [← hna]; exact hi)) (fun q51 d51 wd51 hO => ?_)
      refine g_val (.slice T nb cb) ?_
      refine g_app (u := w) (L := []) (m := nb) (c := cb) (N := N) (h' := ic lb) (g := ic tot) (.slice (some ⟨q51, 0, none⟩) M (M + d51)) el_i (.inr ⟨_, _, rfl, hO⟩) (.inr (fun h => by injection h with h1 _ _; cases h1)) (by omega) (by omega) (hT.low hO.low) (fun i _ => ic_one _ _) (fun i _ => rfl) (fun i hi => by rw [hT9, ← List.append_nil (ld ++ la ++ lb)]; exact ic_mid (by rw [List.length_append, ← hndl, ← hna, hM]) (by rw [← hnb]; exact hi)) (fun q53 d53 wd53 hO => ?_)
      refine g_val (.slice (some ⟨q53, 0, none⟩) N (N + d53)) ?_
      refine g_nil ?_
      simp only [Act.put, List.setIfInBounds_toArray, List.set_cons_succ, List.set_cons_zero]
      have HO := hide hO
      clear hO
      go_wp2_with (fail)
      go_ret
      exact ⟨_, rfl, _, _, rfl, HO.out⟩
end Q
end Go.Proofs.Ytkljpidlfddgbaa

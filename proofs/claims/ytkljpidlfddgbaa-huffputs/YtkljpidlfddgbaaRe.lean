/- The reference of stage 13: merged. At most 2^20 piles; no other condition. -/
import Derived.Test.YtkljpidlfddgbaaRb
import Derived.Test.YtkljpidlfddgbaaCf
namespace Go.Proofs.Ytkljpidlfddgbaa
set_option maxRecDepth 100000
open Go.RowKit Rg B


namespace B
/-- Where a slice begins that is cut at c, of elements of s cells. -/
def cutS (S : Option Addr) (c cap s : Nat) : Option Addr := if cap = c then S else S.map (·.add (c * s))
theorem b_loS {ρ : Operand → Value} {o : Oper} {x y : Operand} {S : Option Addr} {len cap c : Nat} (hc : c ≤ len) (w : World) (ho : o.op = .slice 80 x (some y) none none := by rfl) (hx : ρ x = .slice S len cap := by kernel_rfl) (hy : ρ y = Nv .i64 c := by kernel_rfl) : (execOp ρ o).run Try.prog w = .ok (.value (.slice (cutS S c cap 2) (len - c) (cap - c))) w := by
  have e : (Instr.slice 80 (.slice S len cap) (some (.int .i64 (c : Int))) none none).run Try.prog w = .ok (.slice (cutS S c cap 2) (len - c) (cap - c)) w := by
    rw [run_slice_l w 80 S len cap (by kernel_rfl) .i64 c (by omega) (by omega), show (sizeOf (Try.prog.elem 80)).run Try.prog w = .ok 2 w by rfl]
    simp [Result.andThen, sliced, cutS]
  have e' : (Instr.sliceAt 80 (.slice S len cap) (some (Nv .i64 c)) none none).run Try.prog w = .ok (.slice (cutS S c cap 2) (len - c) (cap - c)) w := by
    unfold Instr.sliceAt
    go_simp
  unfold execOp
  rw [ho]
  dsimp only [Option.map]
  rw [hx, hy, Sem.run_bind, e']
  rfl
end B
namespace H
/-- The cells of piles: their sums, their slices. -/
def pf (l : List (Nat × Value)) (j : Nat) : Value := match l[j / 2]? with
  | some p => if j % 2 = 0 then .int .u64 ((p.1 : Nat) : Int) else p.2
  | none => undef
abbrev zvP : Value := .agg #[.int .u64 0, .slice none 0 0]
theorem el_p : El 80 82 2 zvP := ⟨Try.underlying80, by kernel_rfl, by kernel_rfl, rfl, by decide, rfl, by simp [Value.cells]; exact ⟨rfl, rfl⟩⟩
theorem sz_pile (w : World) : (sizeOf 82).run Try.prog w = .ok 2 w := by kernel_rfl
/-- A pile: a sum of 64 bits, a slice. -/
def okP (p : Nat × Value) : Prop := p.1 < 18446744073709551616 ∧ ∃ S n c, p.2 = .slice S n c
theorem pf_one {l : List (Nat × Value)} (h : ∀ p ∈ l, okP p) {j : Nat} (hj : j < l.length * 2) : (pf l j).oneCell' = true := by
  unfold pf
  have h2 : j / 2 < l.length := by omega
  rw [List.getElem?_eq_getElem h2]
  obtain ⟨_, S, n, c, e⟩ := h _ (List.getElem_mem h2)
  show (if j % 2 = 0 then _ else (l[j / 2]).2 : Value).oneCell' = true
  split
  · rfl
  · rw [e]; rfl
theorem pf_append {l m : List (Nat × Value)} {j : Nat} (h : j < l.length * 2) : pf (l ++ m) j = pf l j := by
  unfold pf
  rw [List.getElem?_append_left (by omega)]
theorem pf_tail (p : Nat × Value) (l : List (Nat × Value)) (j : Nat) : pf (p :: l) (2 + j) = pf l j := by
  unfold pf
  rw [show (2 + j) / 2 = j / 2 + 1 by omega, List.getElem?_cons_succ, show (2 + j) % 2 = j % 2 by omega]
theorem pf_0 (p : Nat × Value) (l : List (Nat × Value)) : pf (p :: l) 0 = .int .u64 ((p.1 : Nat) : Int) := rfl
theorem pf_1 (p : Nat × Value) (l : List (Nat × Value)) : pf (p :: l) 1 = p.2 := rfl
theorem pf_new {l : List (Nat × Value)} {s i : Nat} {v : Value} (hi : i < 2) : #[Value.int .u64 ((s : Nat) : Int), v][i]? = some (pf (l ++ [(s, v)]) (l.length * 2 + i)) := by
  unfold pf
  rw [show (l.length * 2 + i) / 2 = l.length by omega, List.getElem?_append_right (Nat.le_refl _), Nat.sub_self]
  obtain rfl | rfl : i = 0 ∨ i = 1 := by omega
  · show _ = some (if (l.length * 2 + 0) % 2 = 0 then _ else _)
    rw [if_pos (by omega)]; rfl
  · show _ = some (if (l.length * 2 + 1) % 2 = 0 then _ else _)
    rw [if_neg (by omega)]; rfl
theorem rc_cutS {w : World} {S : Option Addr} {n cap : Nat} {p : Nat × Value} {l : List (Nat × Value)} (hn : n = l.length) (h : Rc w S ((n + 1) * 2) (pf (p :: l))) (hc : n + 1 ≤ cap) : Rc w (cutS S 1 cap 2) (n * 2) (pf l) := by
  unfold cutS
  by_cases h1 : cap = 1
  · exact .inl (by omega)
  · rw [if_neg h1]
    have := (h.cut 2).congr (g := pf l) (fun j _ => pf_tail p l j)
    rwa [show (n + 1) * 2 - 2 = n * 2 by omega] at this
/-- How long a slice is. -/
def sln (v : Value) : Nat := match v with | .slice _ n _ => n | _ => 0
set_option maxHeartbeats 8000000 in
theorem merged_c {S T : Option Addr} {na ca nb cb : Nat} {la lb : List (Nat × Value)} (hna : na = la.length) (hnb : nb = lb.length) (hca : na ≤ ca) (hcb : nb ≤ cb) (hn : na + nb ≤ 2 ^ 20) (hla : ∀ p ∈ la, okP p) (hlb : ∀ p ∈ lb, okP p) (w : World) (hS : Rc w S (na * 2) (pf la)) (hT : Rc w T (nb * 2) (pf lb)) :
    RetP 35 #[.slice S na ca, .slice T nb cb] w fun x w' => Gr w w' [] 82 2 zvP (mg (·.1) la lb).length (pf (mg (·.1) la lb)) x := by
  obtain ⟨tot, htot⟩ : ∃ tot, tot = mg (·.1) la lb := ⟨_, rfl⟩
  have htl : tot.length ≤ 2 ^ 20 := by rw [htot, mg_length]; omega
  have htP : ∀ p ∈ tot, okP p := fun p hp => by
    rw [htot] at hp
    rcases List.mem_append.1 ((mg_perm la lb).mem_iff.1 hp) with h | h
    · exact hla p h
    · exact hlb p h
  rw [← htot]
  have Htot := hide htot
  clear htot hla hlb hn
  go_enter Try.func35, Try.ntmps35
  have hO := Own.start w
  go_upto_region 0 with (fail)
  refine wp_region_list (WL.out ?_)
  refine g_val (.slice none 0 0) ?_
  refine g_nil ?_
  simp only [Act.put, List.setIfInBounds_toArray, List.set_cons_succ, List.set_cons_zero]
  go_upto_region 1 with (fail)
  refine wp_region_list (WL.out ?_)
  refine g_val (.slice none 0 0) ?_
  refine g_nil ?_
  simp only [Act.put, List.setIfInBounds_toArray, List.set_cons_succ, List.set_cons_zero]
  have HG : Hid (Gr w w [] 82 2 zvP 0 (pf []) (.slice none 0 0)) := hide (.inl ⟨rfl, rfl, hO⟩)
  clear hO
  go_wp2_with (fail)
  go_loopw [0, 1, 5] (fun x0 x1 x5 wr => ∃ (S T S0 : Option Addr) (na ca nb cb nd cd : Nat) (la lb ld : List (Nat × Value)), na = la.length ∧ nb = lb.length ∧ nd = ld.length ∧ na ≤ ca ∧ nb ≤ cb ∧ x0 = .slice S na ca ∧ x1 = .slice T nb cb ∧ x5 = .slice S0 nd cd ∧ tot = ld ++ mg (·.1) la lb ∧ Rc w S (na * 2) (pf la) ∧ Rc w T (nb * 2) (pf lb) ∧ Gr w wr [] 82 2 zvP nd (pf ld) (.slice S0 nd cd)) (fun x0 x1 _ _ => sln x0 + sln x1)
  case atStart => exact ⟨S, T, none, na, ca, nb, cb, 0, 0, la, lb, [], hna, hnb, rfl, hca, hcb, rfl, rfl, rfl, Htot.out, hS, hT, HG.out⟩
  case round =>
    clear HG Htot hna hnb hca hcb hS hT S T na ca nb cb la lb
    obtain ⟨S, T, S0, na, ca, nb, cb, nd, cd, la, lb, ld, hna, hnb, hnd, hca, hcb, rfl, rfl, rfl, htot, hS, hT, hG⟩ := hrel
    have Hca := hide hca
    have Hcb := hide hcb
    have Htot := hide htot
    have Hnd := hide hnd
    have HG := hide hG
    have hlow := hG.low
    clear hca hcb htot hnd hG
    cases la with
    | nil =>
      obtain rfl : na = 0 := hna
      cases lb with
      | nil =>
        obtain rfl : nb = 0 := hnb
        have ht : tot = ld := by rw [Htot.out, mg_nil, List.append_nil]
        have hnd := Hnd.out
        rw [← ht] at hnd
        rw [← ht, hnd] at HG
        have HG3 := hide HG.out
        go_upto_region 2 with (fail)
        refine wp_region_list (WL.out ?_)
        refine g_val (.slice S 0 ca) ?_
        refine g_val (Nv .i64 0) ?_
        refine g_val (.bool false) ?_ (B.gtr_int (a := 0) (c := 0) (b := false) (decide_eq_false (by omega)) wr)
        refine g_val (.bool false) ?_
        refine g_val (.slice T 0 cb) ?_
        refine g_val (Nv .i64 0) ?_
        refine g_val (.bool false) ?_ (B.gtr_int (a := 0) (c := 0) (b := false) (decide_eq_false (by omega)) wr)
        refine g_val (.bool false) ?_
        refine g_nil ?_
        simp only [Act.put, List.setIfInBounds_toArray, List.set_cons_succ, List.set_cons_zero]
        go_upto_region 8 with (fail)
        refine wp_region_list (WL.out ?_)
        refine g_val (.slice S0 nd cd) ?_
        refine g_val (.slice S0 nd cd) ?_
        refine g_nil ?_
        simp only [Act.put, List.setIfInBounds_toArray, List.set_cons_succ, List.set_cons_zero]
        go_wp2_with (fail)
        go_ret
        exact ⟨_, rfl, by rw [hnd]; exact HG3.out⟩
      | cons q lb =>
        have hnb1 : nb = lb.length + 1 := hnb
        clear hnb
        have hnb := hnb1
        clear hnb1
        have hq := mg_nil (key := fun x : Nat × Value => x.1) (q :: lb)
        obtain ⟨b, rfl, hcb0⟩ := hT.cell (i := 0) (by omega)
        obtain ⟨b', eb, hcb1⟩ := hT.cell (i := 1) (by omega)
        obtain rfl := Option.some.inj eb
        clear eb
        rw [pf_0] at hcb0
        rw [pf_1] at hcb1
        obtain ⟨adb, hadb⟩ : ∃ ad, Hid (b.add (0 * 2) = ad) := ⟨_, hide rfl⟩
        have hcxb : ∀ w', Below w.heap.size w w' → w'.cell? adb = some (.int .u64 ((q.1 : Nat) : Int)) := fun w' h => by rw [← hadb.out]; exact hcb0 w' h
        have hcyb : ∀ w', Below w.heap.size w w' → w'.cell? (adb.add 1) = some q.2 := fun w' h => by rw [← hadb.out, add_add]; exact hcb1 w' h
        clear hcb0 hcb1
        go_upto_region 2 with (fail)
        refine wp_region_list (WL.out ?_)
        refine g_val (.slice S 0 ca) ?_
        refine g_val (Nv .i64 0) ?_
        refine g_val (.bool false) ?_ (B.gtr_int (a := 0) (c := 0) (b := false) (decide_eq_false (by omega)) wr)
        refine g_val (.bool false) ?_
        refine g_val (.slice (some b) nb cb) ?_
        refine g_val (Nv .i64 nb) ?_
        refine g_val (.bool true) ?_ (B.gtr_int (a := nb) (c := 0) (b := true) (decide_eq_true (by omega)) wr)
        refine g_val (.bool true) ?_
        refine g_nil ?_
        simp only [Act.put, List.setIfInBounds_toArray, List.set_cons_succ, List.set_cons_zero]
        have hO := Own.start wr
        go_upto_region 3 with (fail)
        refine Rg.pd [] (fun ν => [(14, .slice (some b) nb cb), (15, Nv .i64 nb), (16, .bool false), (17, .bool false), (18, .slice S 0 ca), (19, Nv .i64 0), (20, .bool false), (21, .bool false), (22, U), (23, U), (24, U), (25, U), (26, U), (27, U), (28, U), (29, U), (30, U), (31, .bool false), (32, .bool false)]) (OI wr (fun _ _ => [])) (fun _ => 0) hO.drew (Rg.ac nv (Rg.ac nv (Rg.ac (nx (fun _ => .bool false) (fun _ w => B.eql_int (a := nb) (c := 0) (b := false) (decide_eq_false (by omega)) w)) (Rg.ac nv (Rg.ac nv (Rg.ac nv (Rg.ac (nx (fun _ => .bool false) (fun _ w => B.gtr_int (a := 0) (c := 0) (b := false) (rfl) w)) (Rg.ac nv (Rg.ac nk (Rg.ac nk (Rg.ac nk (Rg.ac nk (Rg.ac nk (Rg.ac nk (Rg.ac nk (Rg.ac nk (Rg.ac nk (Rg.ac nv (Rg.ac nv Rg.an))))))))))))))))))) ?_
        intro ν w1 hO
        replace hO : Own wr w1 [] := hO
        simp only [Rg.putL, Act.put, List.setIfInBounds_toArray, List.set_cons_succ, List.set_cons_zero]
        clear ν
        have HG9 := hide (HG.out.call hO.low)
        have hlow9 := hlow.trans (hO.low.mono hlow.size)
        clear HG hlow hO
        have HG := HG9
        have hlow := hlow9
        clear HG9 hlow9
        have hrl : mg (·.1) [] (q :: lb) = q :: mg (·.1) [] lb := by rw [mg_nil, mg_nil]
        obtain ⟨la, hla⟩ : ∃ la : List (Nat × Value), la = [] := ⟨_, rfl⟩
        rw [← hla] at hrl Htot hS
        have hna : 0 = la.length := by rw [hla]; rfl
        obtain ⟨h64q, S9, n9, c9, e9⟩ : okP q := htP _ (by rw [Htot.out]; exact List.mem_append_right _ (by rw [hrl]; exact List.mem_cons_self))
        rw [e9] at hcyb
        have hdn : ld.length + 1 ≤ tot.length := by rw [Htot.out, hrl, List.length_append, List.length_cons]; omega
        have hdP : ∀ x ∈ ld ++ [q], okP x := fun x hx => htP x (by
          rw [Htot.out, hrl]
          rcases List.mem_append.1 hx with h | h
          · exact List.mem_append_left _ h
          · rw [List.mem_singleton.1 h]; exact List.mem_append_right _ List.mem_cons_self)
        have hnd9 := Hnd.out
        go_upto_region 6 with (fail)
        refine wp_region_list (WL.out ?_)
        refine g_val (.slice S0 nd cd) ?_
        refine g_val (.slice (some b) nb cb) ?_
        refine g_val (.pointer (some adb)) ?_ (hadb.out ▸ b_ix (n := nb) (c := cb) (k := 0) (s := 2) (by omega) Try.underlying80 sz_pile w1)
        refine g_lr (ad := adb) (#[.int .u64 ((q.1 : Nat) : Int), .slice S9 n9 c9]) (fun j x hx => ?_) Try.underlying82 (by kernel_rfl) ?_
        · match j, hx with
          | 0, hx => rw [← Option.some.inj hx, ← hcxb _ hlow]; simp [Addr.add]
          | 1, hx => rw [← Option.some.inj hx]; exact hcyb _ hlow
          | j + 2, hx => cases hx
        refine g_ap1 (.slice S0 nd cd) el_p (#[.int .u64 ((q.1 : Nat) : Int), .slice S9 n9 c9]) HG.out (g := pf (ld ++ [q])) rfl (by omega) (fun i hi => pf_one hdP (by rw [List.length_append, ← Hnd.out]; exact hi)) (fun i hi => (pf_append (by rw [← Hnd.out]; exact hi)).symm) (fun i hi => by rw [Hnd.out, show q = (q.1, q.2) from rfl, e9]; exact pf_new hi) (by kernel_rfl) (fun g r dd w2 hO => ?_)
        refine g_val (.slice (some ⟨g, 0, none⟩) (nd + 1) (nd + 1 + dd)) ?_
        refine g_nil ?_
        simp only [Act.put, List.setIfInBounds_toArray, List.set_cons_succ, List.set_cons_zero]
        have HG2 : Hid (Gr w w2 [] 82 2 zvP (nd + 1) (pf (ld ++ [q])) (.slice (some ⟨g, 0, none⟩) (nd + 1) (nd + 1 + dd))) := hide (.inr ⟨g, dd, rfl, hO⟩)
        clear hO
        go_upto_region 7 with (fail)
        refine wp_region_list (WL.out ?_)
        refine g_val (.slice (some b) nb cb) ?_
        refine g_val (.slice (cutS (some b) 1 cb 2) (nb - 1) (cb - 1)) ?_ (b_loS (by omega) w2)
        refine g_val (.slice (cutS (some b) 1 cb 2) (nb - 1) (cb - 1)) ?_
        refine g_nil ?_
        simp only [Act.put, List.setIfInBounds_toArray, List.set_cons_succ, List.set_cons_zero]
        go_wp2_with (fail)
        go_roundw
        case rel => exact ⟨_, _, _, 0, ca, nb - 1, cb - 1, nd + 1, _, la, lb, ld ++ [q], hna, by omega, by rw [List.length_append, ← Hnd.out]; rfl, Hca.out, by have := Hcb.out; omega, rfl, rfl, rfl, by rw [Htot.out, hrl, List.append_assoc]; rfl, hS, rc_cutS (n := nb - 1) (by omega) (by rw [show nb - 1 + 1 = nb by omega]; exact hT) (by have := Hcb.out; omega), HG2.out⟩
        case measure => show 0 + (nb - 1) < 0 + nb; omega
    | cons p la =>
      have hna1 : na = la.length + 1 := hna
      clear hna
      have hna := hna1
      clear hna1
      obtain ⟨a, rfl, hca0⟩ := hS.cell (i := 0) (by omega)
      obtain ⟨a', ea, hca1⟩ := hS.cell (i := 1) (by omega)
      obtain rfl := Option.some.inj ea
      clear ea
      rw [pf_0] at hca0
      rw [pf_1] at hca1
      obtain ⟨ada, hada⟩ : ∃ ad, Hid (a.add (0 * 2) = ad) := ⟨_, hide rfl⟩
      have hcxa : ∀ w', Below w.heap.size w w' → w'.cell? ada = some (.int .u64 ((p.1 : Nat) : Int)) := fun w' h => by rw [← hada.out]; exact hca0 w' h
      have hcya : ∀ w', Below w.heap.size w w' → w'.cell? (ada.add 1) = some p.2 := fun w' h => by rw [← hada.out, add_add]; exact hca1 w' h
      clear hca0 hca1
      cases lb with
      | nil =>
        obtain rfl : nb = 0 := hnb
        go_upto_region 2 with (fail)
        refine wp_region_list (WL.out ?_)
        refine g_val (.slice (some a) na ca) ?_
        refine g_val (Nv .i64 na) ?_
        refine g_val (.bool true) ?_ (B.gtr_int (a := na) (c := 0) (b := true) (decide_eq_true (by omega)) wr)
        refine g_val (.bool true) ?_
        refine g_skip ?_
        refine g_skip ?_
        refine g_skip ?_
        refine g_val (.bool true) ?_
        refine g_nil ?_
        simp only [Act.put, List.setIfInBounds_toArray, List.set_cons_succ, List.set_cons_zero]
        have hO := Own.start wr
        go_upto_region 3 with (fail)
        refine Rg.pd [] (fun ν => [(14, .slice T 0 cb), (15, Nv .i64 0), (16, .bool true), (17, .bool true), (18, U), (19, U), (20, U), (21, U), (22, U), (23, U), (24, U), (25, U), (26, U), (27, U), (28, U), (29, U), (30, U), (31, U), (32, .bool true)]) (OI wr (fun _ _ => [])) (fun _ => 0) hO.drew (Rg.ac nv (Rg.ac nv (Rg.ac (nx (fun _ => .bool true) (fun _ w => B.eql_int (a := 0) (c := 0) (b := true) (rfl) w)) (Rg.ac nv (Rg.ac nk (Rg.ac nk (Rg.ac nk (Rg.ac nk (Rg.ac nk (Rg.ac nk (Rg.ac nk (Rg.ac nk (Rg.ac nk (Rg.ac nk (Rg.ac nk (Rg.ac nk (Rg.ac nk (Rg.ac nk (Rg.ac nv Rg.an))))))))))))))))))) ?_
        intro ν w1 hO
        replace hO : Own wr w1 [] := hO
        simp only [Rg.putL, Act.put, List.setIfInBounds_toArray, List.set_cons_succ, List.set_cons_zero]
        clear ν
        have HG9 := hide (HG.out.call hO.low)
        have hlow9 := hlow.trans (hO.low.mono hlow.size)
        clear HG hlow hO
        have HG := HG9
        have hlow := hlow9
        clear HG9 hlow9
        have hrl : mg (·.1) (p :: la) [] = p :: mg (·.1) la [] := by rw [mg_nil', mg_nil']
        obtain ⟨lb, hlb⟩ : ∃ lb : List (Nat × Value), lb = [] := ⟨_, rfl⟩
        rw [← hlb] at hrl Htot hT
        have hnb : 0 = lb.length := by rw [hlb]; rfl
        obtain ⟨h64p, S9, n9, c9, e9⟩ : okP p := htP _ (by rw [Htot.out]; exact List.mem_append_right _ (by rw [hrl]; exact List.mem_cons_self))
        rw [e9] at hcya
        have hdn : ld.length + 1 ≤ tot.length := by rw [Htot.out, hrl, List.length_append, List.length_cons]; omega
        have hdP : ∀ x ∈ ld ++ [p], okP x := fun x hx => htP x (by
          rw [Htot.out, hrl]
          rcases List.mem_append.1 hx with h | h
          · exact List.mem_append_left _ h
          · rw [List.mem_singleton.1 h]; exact List.mem_append_right _ List.mem_cons_self)
        have hnd9 := Hnd.out
        go_upto_region 4 with (fail)
        refine wp_region_list (WL.out ?_)
        refine g_val (.slice S0 nd cd) ?_
        refine g_val (.slice (some a) na ca) ?_
        refine g_val (.pointer (some ada)) ?_ (hada.out ▸ b_ix (n := na) (c := ca) (k := 0) (s := 2) (by omega) Try.underlying80 sz_pile w1)
        refine g_lr (ad := ada) (#[.int .u64 ((p.1 : Nat) : Int), .slice S9 n9 c9]) (fun j x hx => ?_) Try.underlying82 (by kernel_rfl) ?_
        · match j, hx with
          | 0, hx => rw [← Option.some.inj hx, ← hcxa _ hlow]; simp [Addr.add]
          | 1, hx => rw [← Option.some.inj hx]; exact hcya _ hlow
          | j + 2, hx => cases hx
        refine g_ap1 (.slice S0 nd cd) el_p (#[.int .u64 ((p.1 : Nat) : Int), .slice S9 n9 c9]) HG.out (g := pf (ld ++ [p])) rfl (by omega) (fun i hi => pf_one hdP (by rw [List.length_append, ← Hnd.out]; exact hi)) (fun i hi => (pf_append (by rw [← Hnd.out]; exact hi)).symm) (fun i hi => by rw [Hnd.out, show p = (p.1, p.2) from rfl, e9]; exact pf_new hi) (by kernel_rfl) (fun g r dd w2 hO => ?_)
        refine g_val (.slice (some ⟨g, 0, none⟩) (nd + 1) (nd + 1 + dd)) ?_
        refine g_nil ?_
        simp only [Act.put, List.setIfInBounds_toArray, List.set_cons_succ, List.set_cons_zero]
        have HG2 : Hid (Gr w w2 [] 82 2 zvP (nd + 1) (pf (ld ++ [p])) (.slice (some ⟨g, 0, none⟩) (nd + 1) (nd + 1 + dd))) := hide (.inr ⟨g, dd, rfl, hO⟩)
        clear hO
        go_upto_region 5 with (fail)
        refine wp_region_list (WL.out ?_)
        refine g_val (.slice (some a) na ca) ?_
        refine g_val (.slice (cutS (some a) 1 ca 2) (na - 1) (ca - 1)) ?_ (b_loS (by omega) w2)
        refine g_val (.slice (cutS (some a) 1 ca 2) (na - 1) (ca - 1)) ?_
        refine g_nil ?_
        simp only [Act.put, List.setIfInBounds_toArray, List.set_cons_succ, List.set_cons_zero]
        go_wp2_with (fail)
        go_roundw
        case rel => exact ⟨_, _, _, na - 1, ca - 1, 0, cb, nd + 1, _, la, lb, ld ++ [p], by omega, hnb, by rw [List.length_append, ← Hnd.out]; rfl, by have := Hca.out; omega, Hcb.out, rfl, rfl, rfl, by rw [Htot.out, hrl, List.append_assoc]; rfl, rc_cutS (n := na - 1) (by omega) (by rw [show na - 1 + 1 = na by omega]; exact hS) (by have := Hca.out; omega), hT, HG2.out⟩
        case measure => show na - 1 + 0 < na + 0; omega
      | cons q lb =>
        have hnb1 : nb = lb.length + 1 := hnb
        clear hnb
        have hnb := hnb1
        clear hnb1
        obtain ⟨b, rfl, hcb0⟩ := hT.cell (i := 0) (by omega)
        obtain ⟨b', eb, hcb1⟩ := hT.cell (i := 1) (by omega)
        obtain rfl := Option.some.inj eb
        clear eb
        rw [pf_0] at hcb0
        rw [pf_1] at hcb1
        obtain ⟨adb, hadb⟩ : ∃ ad, Hid (b.add (0 * 2) = ad) := ⟨_, hide rfl⟩
        have hcxb : ∀ w', Below w.heap.size w w' → w'.cell? adb = some (.int .u64 ((q.1 : Nat) : Int)) := fun w' h => by rw [← hadb.out]; exact hcb0 w' h
        have hcyb : ∀ w', Below w.heap.size w w' → w'.cell? (adb.add 1) = some q.2 := fun w' h => by rw [← hadb.out, add_add]; exact hcb1 w' h
        clear hcb0 hcb1
        go_upto_region 2 with (fail)
        refine wp_region_list (WL.out ?_)
        refine g_val (.slice (some a) na ca) ?_
        refine g_val (Nv .i64 na) ?_
        refine g_val (.bool true) ?_ (B.gtr_int (a := na) (c := 0) (b := true) (decide_eq_true (by omega)) wr)
        refine g_val (.bool true) ?_
        refine g_skip ?_
        refine g_skip ?_
        refine g_skip ?_
        refine g_val (.bool true) ?_
        refine g_nil ?_
        simp only [Act.put, List.setIfInBounds_toArray, List.set_cons_succ, List.set_cons_zero]
        have h64p : p.1 < 18446744073709551616 ∧ q.1 < 18446744073709551616 := ⟨(htP p (by rw [Htot.out]; exact List.mem_append_right _ ((mg_perm _ _).mem_iff.2 (List.mem_append_left _ List.mem_cons_self)))).1, (htP q (by rw [Htot.out]; exact List.mem_append_right _ ((mg_perm _ _).mem_iff.2 (List.mem_append_right _ List.mem_cons_self)))).1⟩
        by_cases hle : p.1 ≤ q.1
        · have hrl : mg (·.1) (p :: la) (q :: lb) = p :: mg (·.1) la (q :: lb) := mg_le (key := fun x : Nat × Value => x.1) hle
          have hO := Own.start wr
          go_upto_region 3 with (fail)
          refine Rg.pd [] (fun ν => [(14, .slice (some b) nb cb), (15, Nv .i64 nb), (16, .bool false), (17, .bool false), (18, .slice (some a) na ca), (19, Nv .i64 na), (20, .bool true), (21, .bool true), (22, .slice (some a) na ca), (23, .pointer (some ada)), (24, .pointer (some ada)), (25, Nv .u64 p.1), (26, .slice (some b) nb cb), (27, .pointer (some adb)), (28, .pointer (some adb)), (29, Nv .u64 q.1), (30, .bool true), (31, .bool true), (32, .bool true)]) (OI wr (fun _ _ => [])) (fun _ => 0) hO.drew (Rg.ac nv (Rg.ac nv (Rg.ac (nx (fun _ => .bool false) (fun _ w => B.eql_int (a := nb) (c := 0) (b := false) (decide_eq_false (by omega)) w)) (Rg.ac nv (Rg.ac nv (Rg.ac nv (Rg.ac (nx (fun _ => .bool true) (fun _ w => B.gtr_int (a := na) (c := 0) (b := true) (decide_eq_true (by omega)) w)) (Rg.ac nv (Rg.ac nv (Rg.ac (nx (fun _ => .pointer (some ada)) (fun _ w => hada.out ▸ b_ix (n := na) (c := ca) (k := 0) (s := 2) (by omega) Try.underlying80 sz_pile w)) (Rg.ac nv (Rg.ac (nca (Nv .u64 p.1) (fun w' h => hcxa w' (hlow.trans (h.mono hlow.size))) B.agg_u64) (Rg.ac nv (Rg.ac (nx (fun _ => .pointer (some adb)) (fun _ w => hadb.out ▸ b_ix (n := nb) (c := cb) (k := 0) (s := 2) (by omega) Try.underlying80 sz_pile w)) (Rg.ac nv (Rg.ac (nca (Nv .u64 q.1) (fun w' h => hcxb w' (hlow.trans (h.mono hlow.size))) B.agg_u64) (Rg.ac (nx (fun _ => .bool true) (fun _ w => B.leq_u64 (a := p.1) (c := q.1) (b := true) (decide_eq_true hle) w)) (Rg.ac nv (Rg.ac nv Rg.an))))))))))))))))))) ?_
          intro ν w1 hO
          replace hO : Own wr w1 [] := hO
          simp only [Rg.putL, Act.put, List.setIfInBounds_toArray, List.set_cons_succ, List.set_cons_zero]
          clear ν
          have HG9 := hide (HG.out.call hO.low)
          have hlow9 := hlow.trans (hO.low.mono hlow.size)
          clear HG hlow hO
          have HG := HG9
          have hlow := hlow9
          clear HG9 hlow9
          obtain ⟨lb', hlb⟩ : ∃ lb' : List (Nat × Value), lb' = q :: lb := ⟨_, rfl⟩
          rw [← hlb] at hrl Htot hT
          have hnb' : nb = lb'.length := by rw [hlb]; exact hnb
          obtain ⟨h64p, S9, n9, c9, e9⟩ : okP p := htP _ (by rw [Htot.out]; exact List.mem_append_right _ (by rw [hrl]; exact List.mem_cons_self))
          rw [e9] at hcya
          have hdn : ld.length + 1 ≤ tot.length := by rw [Htot.out, hrl, List.length_append, List.length_cons]; omega
          have hdP : ∀ x ∈ ld ++ [p], okP x := fun x hx => htP x (by
            rw [Htot.out, hrl]
            rcases List.mem_append.1 hx with h | h
            · exact List.mem_append_left _ h
            · rw [List.mem_singleton.1 h]; exact List.mem_append_right _ List.mem_cons_self)
          have hnd9 := Hnd.out
          go_upto_region 4 with (fail)
          refine wp_region_list (WL.out ?_)
          refine g_val (.slice S0 nd cd) ?_
          refine g_val (.slice (some a) na ca) ?_
          refine g_val (.pointer (some ada)) ?_ (hada.out ▸ b_ix (n := na) (c := ca) (k := 0) (s := 2) (by omega) Try.underlying80 sz_pile w1)
          refine g_lr (ad := ada) (#[.int .u64 ((p.1 : Nat) : Int), .slice S9 n9 c9]) (fun j x hx => ?_) Try.underlying82 (by kernel_rfl) ?_
          · match j, hx with
            | 0, hx => rw [← Option.some.inj hx, ← hcxa _ hlow]; simp [Addr.add]
            | 1, hx => rw [← Option.some.inj hx]; exact hcya _ hlow
            | j + 2, hx => cases hx
          refine g_ap1 (.slice S0 nd cd) el_p (#[.int .u64 ((p.1 : Nat) : Int), .slice S9 n9 c9]) HG.out (g := pf (ld ++ [p])) rfl (by omega) (fun i hi => pf_one hdP (by rw [List.length_append, ← Hnd.out]; exact hi)) (fun i hi => (pf_append (by rw [← Hnd.out]; exact hi)).symm) (fun i hi => by rw [Hnd.out, show p = (p.1, p.2) from rfl, e9]; exact pf_new hi) (by kernel_rfl) (fun g r dd w2 hO => ?_)
          refine g_val (.slice (some ⟨g, 0, none⟩) (nd + 1) (nd + 1 + dd)) ?_
          refine g_nil ?_
          simp only [Act.put, List.setIfInBounds_toArray, List.set_cons_succ, List.set_cons_zero]
          have HG2 : Hid (Gr w w2 [] 82 2 zvP (nd + 1) (pf (ld ++ [p])) (.slice (some ⟨g, 0, none⟩) (nd + 1) (nd + 1 + dd))) := hide (.inr ⟨g, dd, rfl, hO⟩)
          clear hO
          go_upto_region 5 with (fail)
          refine wp_region_list (WL.out ?_)
          refine g_val (.slice (some a) na ca) ?_
          refine g_val (.slice (cutS (some a) 1 ca 2) (na - 1) (ca - 1)) ?_ (b_loS (by omega) w2)
          refine g_val (.slice (cutS (some a) 1 ca 2) (na - 1) (ca - 1)) ?_
          refine g_nil ?_
          simp only [Act.put, List.setIfInBounds_toArray, List.set_cons_succ, List.set_cons_zero]
          go_wp2_with (fail)
          go_roundw
          case rel => exact ⟨_, _, _, na - 1, ca - 1, nb, cb, nd + 1, _, la, lb', ld ++ [p], by omega, hnb', by rw [List.length_append, ← Hnd.out]; rfl, by have := Hca.out; omega, Hcb.out, rfl, rfl, rfl, by rw [Htot.out, hrl, List.append_assoc]; rfl, rc_cutS (n := na - 1) (by omega) (by rw [show na - 1 + 1 = na by omega]; exact hS) (by have := Hca.out; omega), hT, HG2.out⟩
          case measure => show na - 1 + nb < na + nb; omega
        · have hrl : mg (·.1) (p :: la) (q :: lb) = q :: mg (·.1) (p :: la) lb := mg_gt (key := fun x : Nat × Value => x.1) hle
          have hO := Own.start wr
          go_upto_region 3 with (fail)
          refine Rg.pd [] (fun ν => [(14, .slice (some b) nb cb), (15, Nv .i64 nb), (16, .bool false), (17, .bool false), (18, .slice (some a) na ca), (19, Nv .i64 na), (20, .bool true), (21, .bool true), (22, .slice (some a) na ca), (23, .pointer (some ada)), (24, .pointer (some ada)), (25, Nv .u64 p.1), (26, .slice (some b) nb cb), (27, .pointer (some adb)), (28, .pointer (some adb)), (29, Nv .u64 q.1), (30, .bool false), (31, .bool false), (32, .bool false)]) (OI wr (fun _ _ => [])) (fun _ => 0) hO.drew (Rg.ac nv (Rg.ac nv (Rg.ac (nx (fun _ => .bool false) (fun _ w => B.eql_int (a := nb) (c := 0) (b := false) (decide_eq_false (by omega)) w)) (Rg.ac nv (Rg.ac nv (Rg.ac nv (Rg.ac (nx (fun _ => .bool true) (fun _ w => B.gtr_int (a := na) (c := 0) (b := true) (decide_eq_true (by omega)) w)) (Rg.ac nv (Rg.ac nv (Rg.ac (nx (fun _ => .pointer (some ada)) (fun _ w => hada.out ▸ b_ix (n := na) (c := ca) (k := 0) (s := 2) (by omega) Try.underlying80 sz_pile w)) (Rg.ac nv (Rg.ac (nca (Nv .u64 p.1) (fun w' h => hcxa w' (hlow.trans (h.mono hlow.size))) B.agg_u64) (Rg.ac nv (Rg.ac (nx (fun _ => .pointer (some adb)) (fun _ w => hadb.out ▸ b_ix (n := nb) (c := cb) (k := 0) (s := 2) (by omega) Try.underlying80 sz_pile w)) (Rg.ac nv (Rg.ac (nca (Nv .u64 q.1) (fun w' h => hcxb w' (hlow.trans (h.mono hlow.size))) B.agg_u64) (Rg.ac (nx (fun _ => .bool false) (fun _ w => B.leq_u64 (a := p.1) (c := q.1) (b := false) (decide_eq_false hle) w)) (Rg.ac nv (Rg.ac nv Rg.an))))))))))))))))))) ?_
          intro ν w1 hO
          replace hO : Own wr w1 [] := hO
          simp only [Rg.putL, Act.put, List.setIfInBounds_toArray, List.set_cons_succ, List.set_cons_zero]
          clear ν
          have HG9 := hide (HG.out.call hO.low)
          have hlow9 := hlow.trans (hO.low.mono hlow.size)
          clear HG hlow hO
          have HG := HG9
          have hlow := hlow9
          clear HG9 hlow9
          obtain ⟨la', hla⟩ : ∃ la' : List (Nat × Value), la' = p :: la := ⟨_, rfl⟩
          rw [← hla] at hrl Htot hS
          have hna' : na = la'.length := by rw [hla]; exact hna
          obtain ⟨h64q, S9, n9, c9, e9⟩ : okP q := htP _ (by rw [Htot.out]; exact List.mem_append_right _ (by rw [hrl]; exact List.mem_cons_self))
          rw [e9] at hcyb
          have hdn : ld.length + 1 ≤ tot.length := by rw [Htot.out, hrl, List.length_append, List.length_cons]; omega
          have hdP : ∀ x ∈ ld ++ [q], okP x := fun x hx => htP x (by
            rw [Htot.out, hrl]
            rcases List.mem_append.1 hx with h | h
            · exact List.mem_append_left _ h
            · rw [List.mem_singleton.1 h]; exact List.mem_append_right _ List.mem_cons_self)
          have hnd9 := Hnd.out
          go_upto_region 6 with (fail)
          refine wp_region_list (WL.out ?_)
          refine g_val (.slice S0 nd cd) ?_
          refine g_val (.slice (some b) nb cb) ?_
          refine g_val (.pointer (some adb)) ?_ (hadb.out ▸ b_ix (n := nb) (c := cb) (k := 0) (s := 2) (by omega) Try.underlying80 sz_pile w1)
          refine g_lr (ad := adb) (#[.int .u64 ((q.1 : Nat) : Int), .slice S9 n9 c9]) (fun j x hx => ?_) Try.underlying82 (by kernel_rfl) ?_
          · match j, hx with
            | 0, hx => rw [← Option.some.inj hx, ← hcxb _ hlow]; simp [Addr.add]
            | 1, hx => rw [← Option.some.inj hx]; exact hcyb _ hlow
            | j + 2, hx => cases hx
          refine g_ap1 (.slice S0 nd cd) el_p (#[.int .u64 ((q.1 : Nat) : Int), .slice S9 n9 c9]) HG.out (g := pf (ld ++ [q])) rfl (by omega) (fun i hi => pf_one hdP (by rw [List.length_append, ← Hnd.out]; exact hi)) (fun i hi => (pf_append (by rw [← Hnd.out]; exact hi)).symm) (fun i hi => by rw [Hnd.out, show q = (q.1, q.2) from rfl, e9]; exact pf_new hi) (by kernel_rfl) (fun g r dd w2 hO => ?_)
          refine g_val (.slice (some ⟨g, 0, none⟩) (nd + 1) (nd + 1 + dd)) ?_
          refine g_nil ?_
          simp only [Act.put, List.setIfInBounds_toArray, List.set_cons_succ, List.set_cons_zero]
          have HG2 : Hid (Gr w w2 [] 82 2 zvP (nd + 1) (pf (ld ++ [q])) (.slice (some ⟨g, 0, none⟩) (nd + 1) (nd + 1 + dd))) := hide (.inr ⟨g, dd, rfl, hO⟩)
          clear hO
          go_upto_region 7 with (fail)
          refine wp_region_list (WL.out ?_)
          refine g_val (.slice (some b) nb cb) ?_
          refine g_val (.slice (cutS (some b) 1 cb 2) (nb - 1) (cb - 1)) ?_ (b_loS (by omega) w2)
          refine g_val (.slice (cutS (some b) 1 cb 2) (nb - 1) (cb - 1)) ?_
          refine g_nil ?_
          simp only [Act.put, List.setIfInBounds_toArray, List.set_cons_succ, List.set_cons_zero]
          go_wp2_with (fail)
          go_roundw
          case rel => exact ⟨_, _, _, na, ca, nb - 1, cb - 1, nd + 1, _, la', lb, ld ++ [q], hna', by omega, by rw [List.length_append, ← Hnd.out]; rfl, Hca.out, by have := Hcb.out; omega, rfl, rfl, rfl, by rw [Htot.out, hrl, List.append_assoc]; rfl, hS, rc_cutS (n := nb - 1) (by omega) (by rw [show nb - 1 + 1 = nb by omega]; exact hT) (by have := Hcb.out; omega), HG2.out⟩
          case measure => show na + (nb - 1) < na + nb; omega
end H
end Go.Proofs.Ytkljpidlfddgbaa

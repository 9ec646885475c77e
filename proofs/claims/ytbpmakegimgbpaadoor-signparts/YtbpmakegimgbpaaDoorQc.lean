/- For SignParts: parts that are appended; rows that another call laid. The package's variables lie as they were laid. -/
import Derived.Test.YtbpmakegimgbpaaDoorQ0
namespace Go.Proofs.YtbpmakegimgbpaaDoor
set_option maxRecDepth 100000
open F Go.RowKit

section
variable {o : Oper} {a : Act} {w : World} {Q : Exit → Act → World → Prop} {ops : Array Oper} {rest : List Oper}
theorem l_ldf {b : Nat} {c : Array Value} {x : Operand} {d : TypeDesc} {ty : TypeId} (hB : Blk w b c ty) (hf : Fit ty c) (ty' : TypeId) (hu : Tryd.prog.underlying ty = some d)
    (h : wpList Tryd.prog ops Q rest (a.put o.dst (.agg c)) w) (hty : ty' = ty := by rfl) (ho : o.op = .load ty x := by rfl) (hx : a.eval x = .pointer (some ⟨b, 0, none⟩) := by kernel_rfl) (hd : d.isRow = true := by rfl) (hg : Region.wanted o (yielded ops a.tmps) = true := by kernel_rfl) : wpList Tryd.prog ops Q (o :: rest) a w :=
  l_any hg fun K hK => by
    have _ := hty
    have := wp_load_mid (P := Tryd.prog) (K := K) (Q := Q) ty x ho b 0 hx c.toList d hB.range hu hd (by rw [hf.size]; simp) (by simpa using hK _ _ h)
    exact this
theorem g_ldf {b : Nat} {c : Array Value} {x : Operand} {d : TypeDesc} {ty : TypeId} (hB : Blk w b c ty) (hf : Fit ty c) (ty' : TypeId) (hu : Tryd.prog.underlying ty = some d)
    (h : WL ops Q rest (a.put o.dst (.agg c)) w) (hty : ty' = ty := by rfl) (ho : o.op = .load ty x := by rfl) (hx : a.eval x = .pointer (some ⟨b, 0, none⟩) := by kernel_rfl) (hd : d.isRow = true := by rfl) (hg : Region.wanted o (yielded ops a.tmps) = true := by kernel_rfl) : WL ops Q (o :: rest) a w :=
  ⟨l_ldf hB hf ty' hu h.out hty ho hx hd hg⟩
end
theorem eql64 {ρ : Operand → Value} {o : Oper} (x y : Operand) (f : Nat → Nat) (w : World) (ho : o.op = .binOp .eql 28 x y 28) (hx : ρ x = .agg (vals .u8 64 f)) (hy : ρ y = .agg (vals .u8 64 f)) : (execOp ρ o).run Tryd.prog w = .ok (.value (.bool true)) w := by
  have h := T.eq_self f w
  unfold execOp
  simp only [ho, hx, hy]
  go_simp
/-- Numbers of sixteen bits. -/
def RdU (w : World) (A : Option Addr) (l : List Nat) : Prop := l = [] ∨ ∃ a, A = some a ∧ a.block < w.heap.size ∧ ∀ (i : Nat) (x : Nat), l[i]? = some x → w.cell? (a.add i) = some (.int .u16 (x : Nat))
theorem app_part {B : Nat} {w : World} {P : Option Addr} {pc : Nat} {ps : List T.Pt} (h : T.Own w B 23 (.slice P ps.length pc) (T.ptv ps)) (hBw : B ≤ w.heap.size) (q : T.Pt) (hl : ps.length < 2 ^ 30) :
    ∃ P' pc' w', (∀ ty, (Builtin.append_ #[26, 26] ty #[.slice P ps.length pc, .slice (some ⟨w.heap.size, 0, none⟩) 1 1]).run Tryd.prog (w.alloc (.cells #[.slice q.1 q.2.1.length q.2.2] 23)) = .ok (.slice P' (ps.length + 1) pc') w') ∧ T.Own w' B 23 (.slice P' (ps ++ [q]).length pc') (T.ptv (ps ++ [q])) ∧ Below B w w' ∧ w.heap.size ≤ w'.heap.size := by
  have hs : Src Tryd.prog 1 26 (.slice (some ⟨w.heap.size, 0, none⟩) 1 1) [Value.slice q.1 q.2.1.length q.2.2].length [Value.slice q.1 q.2.1.length q.2.2] (w.alloc (.cells #[.slice q.1 q.2.1.length q.2.2] 23)) :=
    Src.ofSlice _ Tryd.underlying26 _ 1 1 _ (by simp) (fun j u hu => by
      rcases j with _ | j
      · obtain rfl := Option.some.inj hu
        rw [Addr.add_mid, Nat.zero_add, (Blk.new w _ _).cell]; rfl
      · cases hu) (fun u hu => by
      obtain rfl : u = _ := by simpa using hu
      rfl)
  obtain ⟨v', w', hr, ho, hsz, hlo⟩ := T.own_app T.elt23 (h.alloc (.cells #[.slice q.1 q.2.1.length q.2.2] 23)) (by simp; omega) _ _ hs (by rw [T.ptv_len]; simp; omega)
  have e : T.ptv ps ++ [Value.slice q.1 q.2.1.length q.2.2] = T.ptv (ps ++ [q]) := by simp [T.ptv]
  rw [e] at ho
  obtain ⟨P', pc', rfl, _⟩ := T.own_prt ho
  refine ⟨P', pc', w', ?_, ho, hlo w ((Below.refl B w).alloc hBw _), by have := hsz; simp at this; omega⟩
  intro ty
  have := hr ty
  rw [List.length_append] at this
  exact this
theorem cat_app1 (ps : List T.Pt) (q : T.Pt) : T.cat (ps ++ [q]) = T.cat ps ++ q.2.1 := by simp [T.cat]
theorem ptok_app {w : World} {ps : List T.Pt} {q : T.Pt} (h : T.PtOk w ps) (hq : T.Rds w q.1 q.2.1 ∧ q.2.1.length ≤ q.2.2 ∧ ∀ x ∈ q.2.1, x < 256) : T.PtOk w (ps ++ [q]) := fun p hp => by
  rcases List.mem_append.1 hp with h1 | h1
  · exact h p h1
  · obtain rfl : p = q := by simpa using h1
    exact hq
theorem rem200 (t : Nat) : (t : Int).tmod 200 = ((t % 200 : Nat) : Int) := by rw [Int.tmod_eq_emod_of_nonneg (by omega)]; omega
def s3r0Op0 : Oper := ⟨some 3, .box 22 (.tmp 0), 0, "law.go:57", #[], none⟩
def s3r0Op1 : Oper := ⟨some 6, .assign (.const (.bool false)), 4, "law.go:57", #[], none⟩
def s3r0Ops : Array Oper := #[s3r0Op0, s3r0Op1]
set_option maxHeartbeats 2000000 in
theorem s3r0_r {Q : Exit → Act → World → Prop} {u w : World} {L : List Row} {z1 z2 z3 z4 z5 z6 : Value} {zz : List Value} {e0 : Array Value} (hO : Own u w L) (fe0_22 : Fit 22 e0) (H : ∀ (n3 : Nat) (w' : World), Own u w' ((n3, e0, 22) :: L) → Q .normal { tmps := List.toArray ((.agg e0) :: z1 :: z2 :: (.pointer (some ⟨n3, 0, none⟩)) :: z4 :: z5 :: (.bool false) :: zz), defers := [] } w') :
    (Code.region 0 s3r0Ops false).wp Tryd.prog Q { tmps := List.toArray ((.agg e0) :: z1 :: z2 :: z3 :: z4 :: z5 :: z6 :: zz), defers := [] } w := by
  refine wp_region_list (show wpList _ s3r0Ops _ [s3r0Op0, s3r0Op1] _ _ from ?_)
  refine l_new hO (e0) 22 (run_box 22 _ rfl _ (by kernel_rfl)) fe0_22 ?_
  intro n3 w1 hO
  refine l_val (.bool false) (by kernel_rfl) ?_
  exact l_fr _ (wpList_nil (H n3 _ hO))
def s3r1Op0 : Oper := ⟨some 14, .call { callee := .value (.func 6), args := #[], argTypes := #[] }, 4, "law.go:58", #[], none⟩
def s3r1Op1 : Oper := ⟨some 7, .assign (.tmp 14), 4, "law.go:58", #[⟨0, .data⟩, ⟨0, .chain⟩, ⟨0, .phase⟩], none⟩
def s3r1Ops : Array Oper := #[s3r1Op0, s3r1Op1]
set_option maxHeartbeats 2000000 in
theorem s3r1_r {Q : Exit → Act → World → Prop} {u w : World} {L : List Row} {z0 z1 z2 z3 z4 z5 z6 z7 z8 z9 z10 z11 z12 z13 z14 : Value} {zz : List Value} (hO : Own u w L) (r14 : ∀ (w : World), Below u.heap.size u w → Ret 6 #[] w (.bool true)) (H : ∀ (w' : World), Own u w' (L) → Q .normal { tmps := List.toArray (z0 :: z1 :: z2 :: z3 :: z4 :: z5 :: z6 :: (.bool true) :: z8 :: z9 :: z10 :: z11 :: z12 :: z13 :: (.bool true) :: zz), defers := [] } w') :
    (Code.region 1 s3r1Ops false).wp Tryd.prog Q { tmps := List.toArray (z0 :: z1 :: z2 :: z3 :: z4 :: z5 :: z6 :: z7 :: z8 :: z9 :: z10 :: z11 :: z12 :: z13 :: z14 :: zz), defers := [] } w := by
  refine wp_region_list (show wpList _ s3r1Ops _ [s3r1Op0, s3r1Op1] _ _ from ?_)
  refine l_cw hO 6 #[] (.bool true) (r14 _ hO.low) ?_
  intro w1 _ hO
  refine l_val (.bool true) (by kernel_rfl) ?_
  exact l_fr _ (wpList_nil (H  _ hO))
def s3r13Op0 : Oper := ⟨some 52, .load 22 (.tmp 3), 22, "law.go:70", #[], none⟩
def s3r13Op1 : Oper := ⟨some 53, .move (.tmp 1), 23, "law.go:70", #[], none⟩
def s3r13Op2 : Oper := ⟨some 54, .buildSlice 26 1 #[(0, .tmp 53)], 26, "law.go:70", #[⟨1, .data⟩], none⟩
def s3r13Op3 : Oper := ⟨some 55, .call { callee := .value (.func 7), args := #[.tmp 52, .tmp 54], argTypes := #[22, 26] }, 28, "law.go:70", #[⟨0, .data⟩, ⟨2, .data⟩], none⟩
def s3r13Op4 : Oper := ⟨some 12, .alloc 28, 0, "law.go:70", #[], none⟩
def s3r13Op5 : Oper := ⟨none, .store 28 (.tmp 12) (.tmp 55), 0, "law.go:70", #[⟨4, .data⟩, ⟨3, .data⟩, ⟨3, .chain⟩, ⟨0, .phase⟩, ⟨1, .phase⟩, ⟨2, .phase⟩, ⟨3, .phase⟩, ⟨4, .phase⟩], none⟩
def s3r13Ops : Array Oper := #[s3r13Op0, s3r13Op1, s3r13Op2, s3r13Op3, s3r13Op4, s3r13Op5]
set_option maxHeartbeats 2000000 in
theorem s3r13_r {Q : Exit → Act → World → Prop} {u w : World} {L : List Row} {z0 z2 z4 z5 z6 z7 z8 z9 z10 z11 z12 z13 z14 z15 z16 z17 z18 z19 z20 z21 z22 z23 z24 z25 z26 z27 z28 z29 z30 z31 z32 z33 z34 z35 z36 z37 z38 z39 z40 z41 z42 z43 z44 z45 z46 z47 z48 z49 z50 z51 z52 z53 z54 z55 : Value} {x1 : Value} {zz : List Value} {b3 : Nat} {c3 : Array Value} {e55 : Array Value} (hO : Own u w L) (hf3 : ∀ w, Below u.heap.size u w → Blk w b3 c3 22) (ff3 : Fit 22 c3) (u54 : ∀ w : World, (Instr.buildSlice 26 1 #[(0, x1)]).run Tryd.prog w = .ok (.slice (some ⟨w.heap.size, 0, none⟩) 1 1) (w.alloc (.cells #[x1] 23))) (r55 : ∀ (q54 : Nat) (w : World), Below u.heap.size u w → Blk w q54 #[x1] 23 → Ret 7 #[.agg c3, .slice (some ⟨q54, 0, none⟩) 1 1] w (.agg e55)) (fe55_28 : Fit 28 e55) (H : ∀ (n12 : Nat) (q54 : Nat) (w' : World), Own u w' ((n12, e55, 28) :: L) → Q .normal { tmps := List.toArray (z0 :: x1 :: z2 :: (.pointer (some ⟨b3, 0, none⟩)) :: z4 :: z5 :: z6 :: z7 :: z8 :: z9 :: z10 :: z11 :: (.pointer (some ⟨n12, 0, none⟩)) :: z13 :: z14 :: z15 :: z16 :: z17 :: z18 :: z19 :: z20 :: z21 :: z22 :: z23 :: z24 :: z25 :: z26 :: z27 :: z28 :: z29 :: z30 :: z31 :: z32 :: z33 :: z34 :: z35 :: z36 :: z37 :: z38 :: z39 :: z40 :: z41 :: z42 :: z43 :: z44 :: z45 :: z46 :: z47 :: z48 :: z49 :: z50 :: z51 :: (.agg c3) :: x1 :: (.slice (some ⟨q54, 0, none⟩) 1 1) :: (.agg e55) :: zz), defers := [] } w') :
    (Code.region 13 s3r13Ops false).wp Tryd.prog Q { tmps := List.toArray (z0 :: x1 :: z2 :: (.pointer (some ⟨b3, 0, none⟩)) :: z4 :: z5 :: z6 :: z7 :: z8 :: z9 :: z10 :: z11 :: z12 :: z13 :: z14 :: z15 :: z16 :: z17 :: z18 :: z19 :: z20 :: z21 :: z22 :: z23 :: z24 :: z25 :: z26 :: z27 :: z28 :: z29 :: z30 :: z31 :: z32 :: z33 :: z34 :: z35 :: z36 :: z37 :: z38 :: z39 :: z40 :: z41 :: z42 :: z43 :: z44 :: z45 :: z46 :: z47 :: z48 :: z49 :: z50 :: z51 :: z52 :: z53 :: z54 :: z55 :: zz), defers := [] } w := by
  refine wp_region_list (show wpList _ s3r13Ops _ [s3r13Op0, s3r13Op1, s3r13Op2, s3r13Op3, s3r13Op4, s3r13Op5] _ _ from ?_)
  refine l_ldf (hf3 _ hO.low) ff3 22 Tryd.underlying22 ?_
  refine l_val (x1) (by kernel_rfl) ?_
  refine l_bs hO 1 #[x1] 23 (fun w => run_bsl 26 23 1 _ rfl #[(0, x1)] (by kernel_rfl) (u54 w)) ?_
  intro q54 w1 hb hB54 hO
  clear hb
  refine l_fr (Fr [z0, x1, z2, D b3, z4, z5, z6, z7, z8, z9, z10, z11, z12, z13, z14, z15, z16, z17, z18, z19, z20, z21, z22, z23, z24, z25, z26, z27, z28, z29, z30, z31, z32, z33, z34, z35, z36, z37, z38, z39, z40, z41, z42, z43, z44, z45, z46, z47, z48, z49, z50, z51, A c3, x1, .slice (some ⟨q54, 0, none⟩) 1 1, z55] zz) ?_
  refine l_cw hO 7 #[.agg c3, .slice (some ⟨q54, 0, none⟩) 1 1] (.agg e55) (r55 q54 _ hO.low hB54) ?_
  intro w2 _ hO
  clear hB54
  refine l_new hO (vals .u8 64 (fun _ => 0)) 28 (alb6 rfl) (fit_b6 _) ?_
  intro n12 w3 hO
  refine l_st hO 28 0 rfl e55 fe55_28 ?_
  intro w4 hO
  exact l_fr _ (wpList_nil (H n12 q54 _ hO))
def s3r14Op0 : Oper := ⟨some 56, .load 22 (.tmp 3), 22, "law.go:71", #[], none⟩
def s3r14Op1 : Oper := ⟨some 57, .call { callee := .value (.func 8), args := #[.tmp 56], argTypes := #[22] }, 22, "law.go:71", #[⟨0, .data⟩], none⟩
def s3r14Op2 : Oper := ⟨some 13, .alloc 22, 0, "law.go:71", #[], none⟩
def s3r14Op3 : Oper := ⟨none, .store 22 (.tmp 13) (.tmp 57), 0, "law.go:71", #[⟨2, .data⟩, ⟨1, .data⟩, ⟨1, .chain⟩, ⟨0, .phase⟩, ⟨1, .phase⟩, ⟨2, .phase⟩], none⟩
def s3r14Ops : Array Oper := #[s3r14Op0, s3r14Op1, s3r14Op2, s3r14Op3]
set_option maxHeartbeats 2000000 in
theorem s3r14_r {Q : Exit → Act → World → Prop} {u w : World} {L : List Row} {z0 z1 z2 z4 z5 z6 z7 z8 z9 z10 z11 z12 z13 z14 z15 z16 z17 z18 z19 z20 z21 z22 z23 z24 z25 z26 z27 z28 z29 z30 z31 z32 z33 z34 z35 z36 z37 z38 z39 z40 z41 z42 z43 z44 z45 z46 z47 z48 z49 z50 z51 z52 z53 z54 z55 z56 z57 : Value} {zz : List Value} {b3 : Nat} {c3 : Array Value} {e57 : Array Value} (hO : Own u w L) (hf3 : ∀ w, Below u.heap.size u w → Blk w b3 c3 22) (ff3 : Fit 22 c3) (r57 : ∀ (w : World), Below u.heap.size u w → Ret 8 #[.agg c3] w (.agg e57)) (fe57_22 : Fit 22 e57) (H : ∀ (n13 : Nat) (w' : World), Own u w' ((n13, e57, 22) :: L) → Q .normal { tmps := List.toArray (z0 :: z1 :: z2 :: (.pointer (some ⟨b3, 0, none⟩)) :: z4 :: z5 :: z6 :: z7 :: z8 :: z9 :: z10 :: z11 :: z12 :: (.pointer (some ⟨n13, 0, none⟩)) :: z14 :: z15 :: z16 :: z17 :: z18 :: z19 :: z20 :: z21 :: z22 :: z23 :: z24 :: z25 :: z26 :: z27 :: z28 :: z29 :: z30 :: z31 :: z32 :: z33 :: z34 :: z35 :: z36 :: z37 :: z38 :: z39 :: z40 :: z41 :: z42 :: z43 :: z44 :: z45 :: z46 :: z47 :: z48 :: z49 :: z50 :: z51 :: z52 :: z53 :: z54 :: z55 :: (.agg c3) :: (.agg e57) :: zz), defers := [] } w') :
    (Code.region 14 s3r14Ops false).wp Tryd.prog Q { tmps := List.toArray (z0 :: z1 :: z2 :: (.pointer (some ⟨b3, 0, none⟩)) :: z4 :: z5 :: z6 :: z7 :: z8 :: z9 :: z10 :: z11 :: z12 :: z13 :: z14 :: z15 :: z16 :: z17 :: z18 :: z19 :: z20 :: z21 :: z22 :: z23 :: z24 :: z25 :: z26 :: z27 :: z28 :: z29 :: z30 :: z31 :: z32 :: z33 :: z34 :: z35 :: z36 :: z37 :: z38 :: z39 :: z40 :: z41 :: z42 :: z43 :: z44 :: z45 :: z46 :: z47 :: z48 :: z49 :: z50 :: z51 :: z52 :: z53 :: z54 :: z55 :: z56 :: z57 :: zz), defers := [] } w := by
  refine wp_region_list (show wpList _ s3r14Ops _ [s3r14Op0, s3r14Op1, s3r14Op2, s3r14Op3] _ _ from ?_)
  refine l_ldf (hf3 _ hO.low) ff3 22 Tryd.underlying22 ?_
  refine l_cw hO 8 #[.agg c3] (.agg e57) (r57 _ hO.low) ?_
  intro w1 _ hO
  refine l_new hO (vals .u8 32 (fun _ => 0)) 22 (al22 rfl) (fit_by _) ?_
  intro n13 w2 hO
  refine l_fr (Fr [z0, z1, z2, D b3, z4, z5, z6, z7, z8, z9, z10, z11, z12, D n13, z14, z15, z16, z17, z18, z19, z20, z21, z22, z23, z24, z25, z26, z27, z28, z29, z30, z31, z32, z33, z34, z35, z36, z37, z38, z39, z40, z41, z42, z43, z44, z45, z46, z47, z48, z49, z50, z51, z52, z53, z54, z55, A c3, A e57] zz) ?_
  refine l_st hO 22 0 rfl e57 fe57_22 ?_
  intro w3 hO
  exact l_fr _ (wpList_nil (H n13 _ hO))
def s3r15Op0 : Oper := ⟨some 58, .move (.tmp 7), 4, "law.go:72", #[], none⟩
def s3r15Op1 : Oper := ⟨some 59, .move (.tmp 58), 4, "law.go:72", #[⟨0, .data⟩], none⟩
def s3r15Op2 : Oper := ⟨some 60, .load 22 (.tmp 3), 22, "law.go:72", #[⟨1, .guard⟩], some (1, true)⟩
def s3r15Op3 : Oper := ⟨some 61, .move (.tmp 8), 26, "law.go:72", #[⟨1, .guard⟩], some (1, true)⟩
def s3r15Op4 : Oper := ⟨some 62, .call { callee := .value (.func 7), args := #[.tmp 60, .tmp 61], argTypes := #[22, 26] }, 28, "law.go:72", #[⟨2, .data⟩, ⟨3, .data⟩, ⟨1, .chain⟩, ⟨1, .guard⟩], some (1, true)⟩
def s3r15Op5 : Oper := ⟨some 63, .load 28 (.tmp 12), 28, "law.go:72", #[⟨1, .guard⟩], some (1, true)⟩
def s3r15Op6 : Oper := ⟨some 64, .binOp .eql 28 (.tmp 62) (.tmp 63) 28, 4, "law.go:72", #[⟨4, .data⟩, ⟨5, .data⟩, ⟨1, .guard⟩], some (1, true)⟩
def s3r15Op7 : Oper := ⟨some 65, .pick (.tmp 59) (.tmp 64) (.const (.bool false)), 4, "law.go:72", #[⟨1, .data⟩, ⟨6, .data⟩], none⟩
def s3r15Op8 : Oper := ⟨some 66, .move (.tmp 65), 4, "law.go:72", #[⟨7, .data⟩, ⟨4, .chain⟩], none⟩
def s3r15Op9 : Oper := ⟨some 67, .load 22 (.tmp 13), 22, "law.go:72", #[⟨8, .guard⟩], some (8, true)⟩
def s3r15Op10 : Oper := ⟨some 68, .load 28 (.tmp 12), 28, "law.go:72", #[⟨8, .guard⟩], some (8, true)⟩
def s3r15Op11 : Oper := ⟨some 69, .move (.tmp 8), 26, "law.go:72", #[⟨8, .guard⟩], some (8, true)⟩
def s3r15Op12 : Oper := ⟨some 70, .call { callee := .value (.func 9), args := #[.tmp 67, .tmp 68, .tmp 69], argTypes := #[22, 28, 26] }, 4, "law.go:72", #[⟨9, .data⟩, ⟨10, .data⟩, ⟨11, .data⟩, ⟨8, .chain⟩, ⟨8, .guard⟩], some (8, true)⟩
def s3r15Op13 : Oper := ⟨some 71, .pick (.tmp 66) (.tmp 70) (.const (.bool false)), 4, "law.go:72", #[⟨8, .data⟩, ⟨12, .data⟩], none⟩
def s3r15Op14 : Oper := ⟨some 72, .move (.tmp 71), 4, "law.go:72", #[⟨13, .data⟩, ⟨12, .chain⟩], none⟩
def s3r15Op15 : Oper := ⟨some 73, .load 22 (.tmp 13), 22, "law.go:72", #[⟨14, .guard⟩], some (14, true)⟩
def s3r15Op16 : Oper := ⟨some 74, .load 28 (.tmp 12), 28, "law.go:72", #[⟨14, .guard⟩], some (14, true)⟩
def s3r15Op17 : Oper := ⟨some 75, .move (.tmp 1), 23, "law.go:72", #[⟨14, .guard⟩], some (14, true)⟩
def s3r15Op18 : Oper := ⟨some 76, .buildSlice 26 1 #[(0, .tmp 75)], 26, "law.go:72", #[⟨17, .data⟩, ⟨14, .guard⟩], some (14, true)⟩
def s3r15Op19 : Oper := ⟨some 77, .call { callee := .value (.func 9), args := #[.tmp 73, .tmp 74, .tmp 76], argTypes := #[22, 28, 26] }, 4, "law.go:72", #[⟨15, .data⟩, ⟨16, .data⟩, ⟨18, .data⟩, ⟨14, .chain⟩, ⟨14, .guard⟩], some (14, true)⟩
def s3r15Op20 : Oper := ⟨some 78, .pick (.tmp 72) (.tmp 77) (.const (.bool false)), 4, "law.go:72", #[⟨14, .data⟩, ⟨19, .data⟩], none⟩
def s3r15Op21 : Oper := ⟨some 6, .assign (.tmp 78), 4, "law.go:72", #[⟨20, .data⟩, ⟨19, .chain⟩, ⟨0, .phase⟩, ⟨1, .phase⟩, ⟨2, .phase⟩, ⟨3, .phase⟩, ⟨4, .phase⟩, ⟨5, .phase⟩, ⟨6, .phase⟩, ⟨7, .phase⟩, ⟨8, .phase⟩, ⟨9, .phase⟩, ⟨10, .phase⟩, ⟨11, .phase⟩, ⟨12, .phase⟩, ⟨13, .phase⟩, ⟨14, .phase⟩, ⟨15, .phase⟩, ⟨16, .phase⟩, ⟨17, .phase⟩, ⟨18, .phase⟩, ⟨19, .phase⟩, ⟨20, .phase⟩], none⟩
def s3r15Ops : Array Oper := #[s3r15Op0, s3r15Op1, s3r15Op2, s3r15Op3, s3r15Op4, s3r15Op5, s3r15Op6, s3r15Op7, s3r15Op8, s3r15Op9, s3r15Op10, s3r15Op11, s3r15Op12, s3r15Op13, s3r15Op14, s3r15Op15, s3r15Op16, s3r15Op17, s3r15Op18, s3r15Op19, s3r15Op20, s3r15Op21]
set_option maxHeartbeats 2000000 in
theorem s3r15_r {Q : Exit → Act → World → Prop} {u w : World} {L : List Row} {z0 z2 z4 z5 z6 z9 z10 z11 z14 z15 z16 z17 z18 z19 z20 z21 z22 z23 z24 z25 z26 z27 z28 z29 z30 z31 z32 z33 z34 z35 z36 z37 z38 z39 z40 z41 z42 z43 z44 z45 z46 z47 z48 z49 z50 z51 z52 z53 z54 z55 z56 z57 z58 z59 z60 z61 z62 z63 z64 z65 z66 z67 z68 z69 z70 z71 z72 z73 z74 z75 z76 z77 z78 : Value} {x8 x1 : Value} {b12 b13 b3 : Nat} {c12 c13 c3 : Array Value} {e62 : Array Value} (hQ : ∀ c a w n v, Q (.panic c) (a.put (some n) v) w → Q (.panic c) a w) (hO : Own u w L) (i12 : Nat) (h12 : L[i12]? = some (b12, c12, 28)) (i13 : Nat) (h13 : L[i13]? = some (b13, c13, 22)) (hf3 : ∀ w, Below u.heap.size u w → Blk w b3 c3 22) (ff3 : Fit 22 c3) (r62 : ∀ (w : World), Below u.heap.size u w → Blk w b12 c12 28 → Blk w b13 c13 22 → Ret 7 #[.agg c3, x8] w (.agg e62)) (k64 : ∀ (a : Act) (w : World), a.eval (.tmp 62) = .agg e62 → a.eval (.tmp 63) = .agg c12 → (execOp a.eval s3r15Op6).run Tryd.prog w = .ok (.value (.bool true)) w) (r70 : ∀ (w : World), Below u.heap.size u w → Blk w b12 c12 28 → Blk w b13 c13 22 → Ret 9 #[.agg c13, .agg c12, x8] w (.bool true)) (u76 : ∀ w : World, (Instr.buildSlice 26 1 #[(0, x1)]).run Tryd.prog w = .ok (.slice (some ⟨w.heap.size, 0, none⟩) 1 1) (w.alloc (.cells #[x1] 23))) (r77 : ∀ (q76 : Nat) (w : World), Below u.heap.size u w → Blk w b12 c12 28 → Blk w b13 c13 22 → Blk w q76 #[x1] 23 → Ret 9 #[.agg c13, .agg c12, .slice (some ⟨q76, 0, none⟩) 1 1] w (.bool true)) (H : ∀ (q76 : Nat) (w' : World), Own u w' (L) → Q .normal { tmps := List.toArray (z0 :: x1 :: z2 :: (.pointer (some ⟨b3, 0, none⟩)) :: z4 :: z5 :: (.bool true) :: (.bool true) :: x8 :: z9 :: z10 :: z11 :: (.pointer (some ⟨b12, 0, none⟩)) :: (.pointer (some ⟨b13, 0, none⟩)) :: z14 :: z15 :: z16 :: z17 :: z18 :: z19 :: z20 :: z21 :: z22 :: z23 :: z24 :: z25 :: z26 :: z27 :: z28 :: z29 :: z30 :: z31 :: z32 :: z33 :: z34 :: z35 :: z36 :: z37 :: z38 :: z39 :: z40 :: z41 :: z42 :: z43 :: z44 :: z45 :: z46 :: z47 :: z48 :: z49 :: z50 :: z51 :: z52 :: z53 :: z54 :: z55 :: z56 :: z57 :: (.bool true) :: (.bool true) :: (.agg c3) :: x8 :: (.agg e62) :: (.agg c12) :: (.bool true) :: (.bool true) :: (.bool true) :: (.agg c13) :: (.agg c12) :: x8 :: (.bool true) :: (.bool true) :: (.bool true) :: (.agg c13) :: (.agg c12) :: x1 :: (.slice (some ⟨q76, 0, none⟩) 1 1) :: (.bool true) :: (.bool true) :: []), defers := [] } w') :
    (Code.region 15 s3r15Ops true).wp Tryd.prog Q { tmps := List.toArray (z0 :: x1 :: z2 :: (.pointer (some ⟨b3, 0, none⟩)) :: z4 :: z5 :: z6 :: (.bool true) :: x8 :: z9 :: z10 :: z11 :: (.pointer (some ⟨b12, 0, none⟩)) :: (.pointer (some ⟨b13, 0, none⟩)) :: z14 :: z15 :: z16 :: z17 :: z18 :: z19 :: z20 :: z21 :: z22 :: z23 :: z24 :: z25 :: z26 :: z27 :: z28 :: z29 :: z30 :: z31 :: z32 :: z33 :: z34 :: z35 :: z36 :: z37 :: z38 :: z39 :: z40 :: z41 :: z42 :: z43 :: z44 :: z45 :: z46 :: z47 :: z48 :: z49 :: z50 :: z51 :: z52 :: z53 :: z54 :: z55 :: z56 :: z57 :: z58 :: z59 :: z60 :: z61 :: z62 :: z63 :: z64 :: z65 :: z66 :: z67 :: z68 :: z69 :: z70 :: z71 :: z72 :: z73 :: z74 :: z75 :: z76 :: z77 :: z78 :: []), defers := [] } w := by
  have fc12_28 := hO.fits i12 h12
  have fc13_22 := hO.fits i13 h13
  have fc3_22 := ff3
  refine wp_region_held_drew (S := Has [(b12, c12, 28), (b13, c13, 22), (b3, c3, 22)]) (by kernel_rfl) ⟨hO.drew.row _ h12, hO.drew.row _ h13, hf3 _ hO.drew.low, trivial⟩ (fun hS => ?_)
  replace hO := hO.drew
  refine d_tk 0 s3r15Op0 (.bool true) hQ (y_val (fun _ => by kernel_rfl)) hS ?_
  refine d_tk 1 s3r15Op1 (.bool true) hQ (y_val (fun _ => by kernel_rfl)) hS ?_
  refine d_tk 2 s3r15Op2 (.agg c3) hQ (y_l 22 (fun _ h => h.2.2.1) fc3_22 Tryd.underlying22) hS ?_
  refine d_fr (ls 22 7) (Fr [z0, x1, z2, D b3, z4, z5, z6, .bool true, x8, z9, z10, z11, D b12, D b13, z14, z15, z16, z17, z18, z19, z20, z21, z22, z23, z24, z25, z26, z27, z28, z29, z30, z31, z32, z33, z34, z35, z36, z37, z38, z39, z40, z41, z42, z43, z44, z45, z46, z47, z48, z49, z50, z51, z52, z53, z54, z55, z56, z57, .bool true, .bool true, A c3, z61, z62, z63, z64, z65, z66, z67, z68, z69, z70, z71, z72, z73, z74, z75, z76, z77, z78] []) ?_
  refine d_tk 3 s3r15Op3 (x8) hQ (y_val (fun _ => by kernel_rfl)) hS ?_
  refine d_tk 5 s3r15Op5 (.agg c12) hQ (y_l 28 (fun _ h => h.1) fc12_28 Tryd.underlying28) hS ?_
  refine d_fr (ls 22 47) (Fr [z0, x1, z2, D b3, z4, z5, z6, .bool true, x8, z9, z10, z11, D b12, D b13, z14, z15, z16, z17, z18, z19, z20, z21, z22, z23, z24, z25, z26, z27, z28, z29, z30, z31, z32, z33, z34, z35, z36, z37, z38, z39, z40, z41, z42, z43, z44, z45, z46, z47, z48, z49, z50, z51, z52, z53, z54, z55, z56, z57, .bool true, .bool true, A c3, x8, z62, A c12, z64, z65, z66, z67, z68, z69, z70, z71, z72, z73, z74, z75, z76, z77, z78] []) ?_
  refine d_one 4 s3r15Op4 (ls 22 63) (fun K hK => ?_)
  refine kb_cw hK hO (fun _ hO => ⟨hO.row _ h12, hO.row _ h13, hf3 _ hO.low, trivial⟩) 7 #[.agg c3, x8] (.agg e62) (r62 _ hO.low (hO.row (i12) h12) (hO.row (i13) h13)) ?_
  intro w1 hb hO
  clear hb
  have hS : Has [(b12, c12, 28), (b13, c13, 22), (b3, c3, 22)] w1 := ⟨hO.row _ h12, hO.row _ h13, hf3 _ hO.low, trivial⟩
  refine d_tk 6 s3r15Op6 (.bool true) hQ (y_val (fun _ => k64 _ _ (by kernel_rfl) (by kernel_rfl))) hS ?_
  refine d_tk 7 s3r15Op7 (.bool true) hQ (y_val (fun _ => by kernel_rfl)) hS ?_
  refine d_tk 8 s3r15Op8 (.bool true) hQ (y_val (fun _ => by kernel_rfl)) hS ?_
  refine d_fr (ls 22 511) (Fr [z0, x1, z2, D b3, z4, z5, z6, .bool true, x8, z9, z10, z11, D b12, D b13, z14, z15, z16, z17, z18, z19, z20, z21, z22, z23, z24, z25, z26, z27, z28, z29, z30, z31, z32, z33, z34, z35, z36, z37, z38, z39, z40, z41, z42, z43, z44, z45, z46, z47, z48, z49, z50, z51, z52, z53, z54, z55, z56, z57, .bool true, .bool true, A c3, x8, A e62, A c12, .bool true, .bool true, .bool true, z67, z68, z69, z70, z71, z72, z73, z74, z75, z76, z77, z78] []) ?_
  refine d_tk 9 s3r15Op9 (.agg c13) hQ (y_l 22 (fun _ h => h.2.1) fc13_22 Tryd.underlying22) hS ?_
  refine d_tk 10 s3r15Op10 (.agg c12) hQ (y_l 28 (fun _ h => h.1) fc12_28 Tryd.underlying28) hS ?_
  refine d_tk 11 s3r15Op11 (x8) hQ (y_val (fun _ => by kernel_rfl)) hS ?_
  refine d_fr (ls 22 4095) (Fr [z0, x1, z2, D b3, z4, z5, z6, .bool true, x8, z9, z10, z11, D b12, D b13, z14, z15, z16, z17, z18, z19, z20, z21, z22, z23, z24, z25, z26, z27, z28, z29, z30, z31, z32, z33, z34, z35, z36, z37, z38, z39, z40, z41, z42, z43, z44, z45, z46, z47, z48, z49, z50, z51, z52, z53, z54, z55, z56, z57, .bool true, .bool true, A c3, x8, A e62, A c12, .bool true, .bool true, .bool true, A c13, A c12, x8, z70, z71, z72, z73, z74, z75, z76, z77, z78] []) ?_
  refine d_one 12 s3r15Op12 (ls 22 8191) (fun K hK => ?_)
  refine kb_cw hK hO (fun _ hO => ⟨hO.row _ h12, hO.row _ h13, hf3 _ hO.low, trivial⟩) 9 #[.agg c13, .agg c12, x8] (.bool true) (r70 _ hO.low (hO.row (i12) h12) (hO.row (i13) h13)) ?_
  intro w2 hb hO
  clear hb
  have hS : Has [(b12, c12, 28), (b13, c13, 22), (b3, c3, 22)] w2 := ⟨hO.row _ h12, hO.row _ h13, hf3 _ hO.low, trivial⟩
  refine d_tk 13 s3r15Op13 (.bool true) hQ (y_val (fun _ => by kernel_rfl)) hS ?_
  refine d_tk 14 s3r15Op14 (.bool true) hQ (y_val (fun _ => by kernel_rfl)) hS ?_
  refine d_tk 15 s3r15Op15 (.agg c13) hQ (y_l 22 (fun _ h => h.2.1) fc13_22 Tryd.underlying22) hS ?_
  refine d_fr (ls 22 65535) (Fr [z0, x1, z2, D b3, z4, z5, z6, .bool true, x8, z9, z10, z11, D b12, D b13, z14, z15, z16, z17, z18, z19, z20, z21, z22, z23, z24, z25, z26, z27, z28, z29, z30, z31, z32, z33, z34, z35, z36, z37, z38, z39, z40, z41, z42, z43, z44, z45, z46, z47, z48, z49, z50, z51, z52, z53, z54, z55, z56, z57, .bool true, .bool true, A c3, x8, A e62, A c12, .bool true, .bool true, .bool true, A c13, A c12, x8, .bool true, .bool true, .bool true, A c13, z74, z75, z76, z77, z78] []) ?_
  refine d_tk 16 s3r15Op16 (.agg c12) hQ (y_l 28 (fun _ h => h.1) fc12_28 Tryd.underlying28) hS ?_
  refine d_tk 17 s3r15Op17 (x1) hQ (y_val (fun _ => by kernel_rfl)) hS ?_
  refine d_fr (ls 22 262143) (Fr [z0, x1, z2, D b3, z4, z5, z6, .bool true, x8, z9, z10, z11, D b12, D b13, z14, z15, z16, z17, z18, z19, z20, z21, z22, z23, z24, z25, z26, z27, z28, z29, z30, z31, z32, z33, z34, z35, z36, z37, z38, z39, z40, z41, z42, z43, z44, z45, z46, z47, z48, z49, z50, z51, z52, z53, z54, z55, z56, z57, .bool true, .bool true, A c3, x8, A e62, A c12, .bool true, .bool true, .bool true, A c13, A c12, x8, .bool true, .bool true, .bool true, A c13, A c12, x1, z76, z77, z78] []) ?_
  refine d_one 18 s3r15Op18 (ls 22 524287) (fun K hK => ?_)
  refine kb_bs hK hO (fun _ hO => ⟨hO.row _ h12, hO.row _ h13, hf3 _ hO.low, trivial⟩) 1 #[x1] 23 (fun w => run_bsl 26 23 1 _ rfl #[(0, x1)] (by kernel_rfl) (u76 w)) ?_
  intro q76 w3 hb hB76 hO
  clear hb
  refine d_one 19 s3r15Op19 (ls 22 1048575) (fun K hK => ?_)
  refine kb_cw hK hO (fun _ hO => ⟨hO.row _ h12, hO.row _ h13, hf3 _ hO.low, trivial⟩) 9 #[.agg c13, .agg c12, .slice (some ⟨q76, 0, none⟩) 1 1] (.bool true) (r77 q76 _ hO.low (hO.row (i12) h12) (hO.row (i13) h13) hB76) ?_
  intro w4 hb hO
  clear hb
  have hS : Has [(b12, c12, 28), (b13, c13, 22), (b3, c3, 22)] w4 := ⟨hO.row _ h12, hO.row _ h13, hf3 _ hO.low, trivial⟩
  refine d_tk 20 s3r15Op20 (.bool true) hQ (y_val (fun _ => by kernel_rfl)) hS ?_
  refine d_tk 21 s3r15Op21 (.bool true) hQ (y_val (fun _ => by kernel_rfl)) hS ?_
  exact d_fr (ls 22 4194303) _ (wpAnyH_done (by kernel_rfl) (H q76 _ hO) _)
set_option maxHeartbeats 4000000 in
theorem parts_g (f s p : Nat → Nat) (A A2 : Option Addr) (l cs : List Nat) (c c2 : Nat) (hf : ∀ i, f i < 256) (w : World) (hG : Glb w) (hA : T.Rds w A l) (hc : l.length ≤ c) (hl : ∀ x ∈ l, x < 256) (hA2 : RdU w A2 cs) (hx2 : ∀ x ∈ cs, x < 65536) (HS : l.length ≤ 500 → SgnAt f A l.length c s w) (HP : ∀ w', Glb w' → Ret 8 #[.agg (vals .u8 32 f)] w' (.agg (vals .u8 32 p)))
    (HN : ∀ (P : Option Addr) (ps : List T.Pt) (pc : Nat) (w' : World), Glb w' → T.Prt w' P ps → T.PtOk w' ps → T.cat ps = l → l.length < 2 ^ 30 → ps.length < 2 ^ 30 → Ret 7 #[.agg (vals .u8 32 f), .slice P ps.length pc] w' (.agg (vals .u8 64 s)) ∧ Ret 9 #[.agg (vals .u8 32 p), .agg (vals .u8 64 s), .slice P ps.length pc] w' (.bool true)) (HV : l.length ≤ 500 → VerAt p s A l.length c true w) : Ret 3 #[.agg (vals .u8 32 f), .slice A l.length c, .slice A2 cs.length c2] w (.bool true) := by
  go_enter Tryd.func3, Tryd.ntmps3
  have _ := hf
  have hO := Own.start w
  have HhG := hide hG
  have HhA := hide hA
  have Hhc := hide hc
  have Hhl := hide hl
  have HhA2 := hide hA2
  have Hhx2 := hide hx2
  clear hG hA hc hl hA2 hx2
  go_upto_region 0 with (fail)
  refine s3r0_r hO (fit_by _) ?_
  intro n3 w1 hO
  replace hO : Own w w1 [(n3, vals .u8 32 f, 22)] := hO
  go_upto_region 1 with (fail)
  refine s3r1_r hO (fun w hL => awake_s w (HhG.out.low hL)) ?_
  intro w2 hO
  replace hO : Own w w2 [(n3, vals .u8 32 f, 22)] := hO
  by_cases hlen : 500 < l.length
  · have hi : (500 : Int) < (l.length : Int) := by omega
    have HL := hide hO.low
    clear hO
    go_wp2_with fail
    exact bodyPost_ret (v := .bool true) (results_tmp Tryd.results3 _ _ _) rfl ⟨rfl, HL.out⟩
  have hi : ¬ (500 : Int) < (l.length : Int) := by omega
  have Hlen := hide (hl500 hlen)
  clear hlen
  replace HS := HS Hlen.out
  replace HV := HV Hlen.out
  obtain ⟨B, hB⟩ : ∃ B, B = w2.heap.size := ⟨_, rfl⟩
  have B3 := hide (hO.row 0 rfl)
  have L3 := hide hO.low
  have N3 : Hid (n3 < B ∧ w.heap.size ≤ B) := hide ⟨hB ▸ B3.out.lt, hB ▸ L3.out.size⟩
  have HB := hide hB
  clear hO hB
  go_wp2_with fail
  go_loopw [8, 9, 10] (fun parts rest i wr => ∃ (k : Nat) (ps : List T.Pt) (A' P : Option Addr) (t : List Nat) (c' pc : Nat), k ≤ 10 ∧ k ≤ cs.length ∧ ps.length = k ∧ i = .int .i64 k ∧ rest = .slice A' t.length c' ∧ parts = .slice P ps.length pc ∧ t.length ≤ c' ∧ T.Rds w A' t ∧ T.cat ps ++ t = l ∧ T.PtOk w ps ∧ T.Own wr B 23 (.slice P ps.length pc) (T.ptv ps) ∧ Blk wr n3 (vals .u8 32 f) 22 ∧ Below w.heap.size w wr ∧ B ≤ wr.heap.size) (fun _ _ i _ => 10 - (intOf i).toNat)
  case atStart => exact ⟨0, [], A, none, l, c, 0, by omega, Nat.zero_le _, rfl, rfl, rfl, rfl, Hhc.out, HhA.out, rfl, (fun q hq => nomatch hq), T.own_nil _ _ _, B3.out, L3.out, by rw [HB.out]; exact Nat.le_refl _⟩
  case round =>
    clear B3 L3
    obtain ⟨k, ps, A', P, t, c', pc, hk, hkc, hpk, rfl, rfl, rfl, hc', hA', hct, hO, hOwn, hB3, L, hBw⟩ := hrel
    have HA' := hide hA'
    have Hc' := hide hc'
    have Hct := hide hct
    have HO := hide hO
    have HOwn := hide hOwn
    have HB3 := hide hB3
    have HL := hide L
    have Hsz := hide hBw
    have Hpk := hide hpk
    have Htl : Hid ((T.cat ps).length + t.length = l.length) := hide (by rw [← hct, List.length_append])
    have Htx : Hid (∀ x ∈ t, x < 256) := hide (fun x hx => Hhl.out x (by rw [← Hct.out]; exact List.mem_append_right _ hx))
    clear hA' hc' hct hO hOwn hB3 L hBw hpk
    by_cases hlt : k < cs.length ∧ k < 10
    · obtain ⟨hl1, hl2⟩ := hlt
      obtain ⟨x, hx⟩ : ∃ x, cs[k]? = some x := ⟨_, List.getElem?_eq_getElem hl1⟩
      obtain ⟨a, rfl, hab, hac⟩ : ∃ a, A2 = some a ∧ a.block < w.heap.size ∧ ∀ (i : Nat) (x : Nat), cs[i]? = some x → w.cell? (a.add i) = some (.int .u16 (x : Nat)) := by
        rcases HhA2.out with h | h
        · rw [h] at hl1; simp at hl1
        · exact h
      have hcell : wr.cell? (a.add k) = some (.int .u16 (x : Nat)) := by
        rw [HL.out.cell (p := a.add k) (by rw [T.add_block]; exact hab)]; exact hac k x hx
      have hx6 : x < 65536 := Hhx2.out x (List.mem_of_getElem? hx)
      clear hac hab hx
      have hk0 : (0 : Int) ≤ (k : Int) := by omega
      have hkl : (k : Int) < (cs.length : Int) := by omega
      have hk5 : (k : Int) < 10 := by omega
      have hw6 : wrap64 (x : Int) = (x : Int) := by unfold wrap64; omega
      obtain ⟨y, hy⟩ : ∃ y, y = x % 200 := ⟨_, rfl⟩
      have hr1 : (x : Int).tmod 200 = (y : Int) := by rw [hy]; exact rem200 x
      have hr2 : (x : Int) % 200 = (y : Int) := by omega
      clear hy
      go_upto_region 10 with (fail)
      obtain ⟨d, hd⟩ : ∃ d, d = min y t.length := ⟨_, rfl⟩
      have hmin : (if t.length < y then (t.length : Int) else (y : Int)) = (d : Int) := by rw [hd]; split <;> omega
      rw [hmin]
      have Hd : Hid (d ≤ t.length) := hide (by omega)
      have Htk : Hid ((t.take d).length = d) := hide (by rw [List.length_take]; omega)
      clear hmin hd hr1 hr2 hw6 hcell hx6
      obtain ⟨P6, pc6, w6, r6, o6, lo6, s6⟩ := app_part HOwn.out Hsz.out (A', t.take d, c') (by have := Hpk.out; omega)
      dsimp only at r6
      rw [Htk.out] at r6
      have R6 := hide r6
      have O6 := hide o6
      have B6 := hide (HB3.out.below lo6 N3.out.1)
      have L6 := hide (HL.out.trans (lo6.mono N3.out.2))
      have Z6 := hide (Nat.le_trans Hsz.out s6)
      clear r6 o6 lo6 s6 HB3 HOwn HL Hsz
      have hhd := T.head23 A' t.length c' d (by have := Hd.out; have := Hc'.out; omega)
      have hct := T.run_cut A' t.length c' d Hd.out
      have Hdt : Hid (T.cat (ps ++ [(A', t.take d, c')]) ++ t.drop d = l) := hide (by rw [cat_app1, List.append_assoc, List.take_append_drop]; exact Hct.out)
      have Hdl : Hid ((t.drop d).length = t.length - d) := hide (by rw [List.length_drop])
      have Hok : Hid (T.PtOk w (ps ++ [(A', t.take d, c')])) := hide (ptok_app HO.out ⟨T.rds_take HA'.out d, by show (t.take d).length ≤ c'; rw [Htk.out]; have := Hd.out; have := Hc'.out; omega, fun x hx => Htx.out x (List.mem_of_mem_take hx)⟩)
      have hkm : IntKind.i64.wrap ((k : Int) + 1) = (k : Int) + 1 := T.wrap_big _ (by omega) (by omega)
      go_wp2_with (at_builtin; refine T.wpList_app rfl _ _ 26 26 rfl rfl rfl R6.out ?_)
      refine ⟨⟨k + 1, ps ++ [(A', t.take d, c')], T.cutA A' d c', P6, t.drop d, c' - d, pc6, by omega, by omega, by rw [List.length_append, Hpk.out]; rfl, by go_num, by rw [Hdl.out], by rw [List.length_append]; rfl, ?_, HA'.out.cut d c' Hc'.out, Hdt.out, Hok.out, O6.out, B6.out, L6.out, Z6.out⟩, ?_⟩
      · rw [Hdl.out]; have := Hc'.out; omega
      · simp [intOf]; omega
    · obtain ⟨P6, pc6, w6, r6, o6, lo6, s6⟩ := app_part HOwn.out Hsz.out (A', t, c') (by have := Hpk.out; omega)
      dsimp only at r6
      have R6 := hide r6
      have B6 := hide (HB3.out.below lo6 N3.out.1)
      have L6 := hide (HL.out.trans (lo6.mono N3.out.2))
      have hcat : T.cat (ps ++ [(A', t, c')]) = l := by rw [cat_app1]; exact Hct.out
      obtain ⟨Q6, q6, e6, hprt⟩ := T.own_prt o6
      injection e6 with e7 _ _
      subst e7
      have Hcat := hide hcat
      have Hprt := hide hprt
      have Hok : Hid (T.PtOk w (ps ++ [(A', t, c')])) := hide (ptok_app HO.out ⟨HA'.out, Hc'.out, Htx.out⟩)
      obtain ⟨zs, hzs⟩ : ∃ zs, zs = ps ++ [(A', t, c')] := ⟨_, rfl⟩
      have hzl : zs.length = ps.length + 1 := by rw [hzs]; simp
      rw [← hzs] at Hcat Hprt Hok
      have Hzn : Hid (zs.length < 2 ^ 30) := hide (by rw [hzl, Hpk.out]; omega)
      have Hl30 : Hid (l.length < 2 ^ 30) := hide (by have := Hlen.out; omega)
      clear r6 o6 lo6 s6 HB3 HOwn HL hcat hprt hzs
      have Hend : Hid (∀ (X : Prop), (cs.length ≤ k → X) → (k = 10 → k < cs.length → X) → X) := hide (fun X h1 h2 => by
        by_cases h : k < cs.length
        · exact h2 (by omega) h
        · exact h1 (by omega))
      refine Hend.out _ (fun hge => ?_) (fun h50 hcl => ?_)
      · have hkl : ¬ (k : Int) < (cs.length : Int) := by omega
        clear Hend hlt
        go_upto_region 13 with (at_builtin; refine T.wpList_app rfl _ _ 26 26 rfl rfl rfl R6.out ?_)
        rw [← hzl]
        clear R6 hzl
        have hO := Own.start w6
        refine s3r13_r hO (fun _ h => B6.out.call h) (fit_by _) (fun _ => by kernel_rfl) (fun q w' hL hq => HS q w' (L6.out.trans (hL.mono L6.out.size)) hq) (fit_b6 _) ?_
        intro n12 q54 w13 hO
        replace hO : Own w6 w13 [(n12, vals .u8 64 s, 28)] := hO
        go_upto_region 14 with (fail)
        refine s3r14_r hO (fun _ h => B6.out.call h) (fit_by _) (fun w' hL => HP w' (HhG.out.low (L6.out.trans (hL.mono L6.out.size)))) (fit_by _) ?_
        intro n13 w14 hO
        replace hO : Own w6 w14 [(n13, vals .u8 32 p, 22), (n12, vals .u8 64 s, 28)] := hO
        go_upto_region 15 with (fail)
        refine s3r15_r ?_ hO 1 rfl 0 rfl (fun _ h => B6.out.call h) (fit_by _) (fun w' hL _ _ => (HN P6 zs q6 w' (HhG.out.low (L6.out.trans (hL.mono L6.out.size))) (Hprt.out.low hL) (Hok.out.low (L6.out.trans (hL.mono L6.out.size))) Hcat.out Hl30.out Hzn.out).1) (fun a w h1 h2 => eql64 _ _ s w rfl h1 h2) (fun w' hL _ _ => (HN P6 zs q6 w' (HhG.out.low (L6.out.trans (hL.mono L6.out.size))) (Hprt.out.low hL) (Hok.out.low (L6.out.trans (hL.mono L6.out.size))) Hcat.out Hl30.out Hzn.out).2) (fun _ => by kernel_rfl) (fun q w' hL _ _ hq => HV q w' (L6.out.trans (hL.mono L6.out.size)) hq) ?_
        · exact fun _ _ _ _ _ h => h
        intro q76 w15 hO
        replace hO : Own w6 w15 [(n13, vals .u8 32 p, 22), (n12, vals .u8 64 s, 28)] := hO
        go_wp2_with fail
        exact bodyPost_ret (v := .bool true) (results_tmp Tryd.results3 _ _ _) rfl ⟨rfl, L6.out.trans (hO.low.mono L6.out.size)⟩
      · have hkl : (k : Int) < (cs.length : Int) := by omega
        have hk5 : ¬ (k : Int) < 10 := by omega
        clear Hend hlt
        go_upto_region 13 with (at_builtin; refine T.wpList_app rfl _ _ 26 26 rfl rfl rfl R6.out ?_)
        rw [← hzl]
        clear R6 hzl
        have hO := Own.start w6
        refine s3r13_r hO (fun _ h => B6.out.call h) (fit_by _) (fun _ => by kernel_rfl) (fun q w' hL hq => HS q w' (L6.out.trans (hL.mono L6.out.size)) hq) (fit_b6 _) ?_
        intro n12 q54 w13 hO
        replace hO : Own w6 w13 [(n12, vals .u8 64 s, 28)] := hO
        go_upto_region 14 with (fail)
        refine s3r14_r hO (fun _ h => B6.out.call h) (fit_by _) (fun w' hL => HP w' (HhG.out.low (L6.out.trans (hL.mono L6.out.size)))) (fit_by _) ?_
        intro n13 w14 hO
        replace hO : Own w6 w14 [(n13, vals .u8 32 p, 22), (n12, vals .u8 64 s, 28)] := hO
        go_upto_region 15 with (fail)
        refine s3r15_r ?_ hO 1 rfl 0 rfl (fun _ h => B6.out.call h) (fit_by _) (fun w' hL _ _ => (HN P6 zs q6 w' (HhG.out.low (L6.out.trans (hL.mono L6.out.size))) (Hprt.out.low hL) (Hok.out.low (L6.out.trans (hL.mono L6.out.size))) Hcat.out Hl30.out Hzn.out).1) (fun a w h1 h2 => eql64 _ _ s w rfl h1 h2) (fun w' hL _ _ => (HN P6 zs q6 w' (HhG.out.low (L6.out.trans (hL.mono L6.out.size))) (Hprt.out.low hL) (Hok.out.low (L6.out.trans (hL.mono L6.out.size))) Hcat.out Hl30.out Hzn.out).2) (fun _ => by kernel_rfl) (fun q w' hL _ _ hq => HV q w' (L6.out.trans (hL.mono L6.out.size)) hq) ?_
        · exact fun _ _ _ _ _ h => h
        intro q76 w15 hO
        replace hO : Own w6 w15 [(n13, vals .u8 32 p, 22), (n12, vals .u8 64 s, 28)] := hO
        go_wp2_with fail
        exact bodyPost_ret (v := .bool true) (results_tmp Tryd.results3 _ _ _) rfl ⟨rfl, L6.out.trans (hO.low.mono L6.out.size)⟩
theorem parts_walk (f : Nat → Nat) (A : Option Addr) (l : List Nat) (c : Nat) (A2 : Option Addr) (cs : List Nat) (c2 : Nat) (w : World) (hG : Glb w) (hf : ∀ i, f i < 256) (hA : T.Rds w A l) (hc : l.length ≤ c) (hl : ∀ x ∈ l, x < 256) (hA2 : RdU w A2 cs) (_ : cs.length ≤ c2) (hx2 : ∀ x ∈ cs, x < 65536) : Ret 3 #[.agg (vals .u8 32 f), .slice A l.length c, .slice A2 cs.length c2] w (.bool true) :=
  parts_g f (sgn f l) (pub f) A A2 l cs c c2 hf w hG hA hc hl hA2 hx2 (sgnAt f hf hG hA hc hl) (public_c f hf)
    (fun P ps pc w' h1 h2 h3 h4 h5 h6 => ⟨sign_c f P ps pc l hf w' h1 h2 h3 h4 h5 h6, verify_b (pub f) (sgn f l) P ps pc l true (hide (verB_own f l)) (pub_lt f) (sgn_lt f l) w' h1 h2 h3 h4 h5 h6⟩)
    (fun hn => verAt _ _ (pub_lt f) (sgn_lt f l) hG hA hc hl hn true (hide (verB_own f l)))
end Go.Proofs.YtbpmakegimgbpaaDoor

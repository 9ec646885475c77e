/- Walks: Public, Shared. Thirty-two bytes each; no other condition. -/
import Derived.Test.YtidhffaphbiapaaPh
namespace Go.Proofs.Ytidhffaphbiapaa
open F Go.RowKit

theorem nineB_lt (i : Nat) : nineB i < 256 := by unfold nineB; split <;> omega
def sameB (f g : Nat → Nat) : Bool := (List.range 32).all fun i => f i == g i
theorem eq_by (f g : Nat → Nat) (w : World) : (Op.equalIn 10000 22 (.agg (vals .u8 32 f)) (.agg (vals .u8 32 g))).run Try.prog w = .ok (sameB f g) w := run_equal_vals (P := Try.prog) w 9998 22 5 32 .u8 Try.underlying22 Try.underlying5 size5 f g
theorem sameB_iff (f g : Nat → Nat) : sameB f g = true ↔ ∀ i, i < 32 → f i = g i := by
  unfold sameB; rw [List.all_eq_true]; simp
theorem same_self (f : Nat → Nat) : sameB f f = true := (sameB_iff f f).2 fun _ _ => rfl
theorem xm_lt256 (f g : Nat → Nat) : xm f g < 2 ^ (8 * 32) := Nat.lt_trans (xm_lt f g) pP_lt
theorem same_zero (n : Nat) (hn : n < 2 ^ (8 * 32)) : sameB (byt n) (fun _ => 0) = decide (n = 0) := by
  rw [Bool.eq_iff_iff, sameB_iff, decide_eq_true_eq]
  constructor
  · intro h
    have h2 := nb_congr (byt n) (fun _ => 0) 32 h
    rw [nb_byt, Nat.mod_eq_of_lt hn] at h2
    rw [h2]; decide
  · intro h i _; subst h; unfold byt; simp
theorem neq_c {ρ : Operand → Value} {o : Oper} (x y : Operand) (f g : Nat → Nat) (w : World) (ho : o.op = .binOp .neq 22 x y 22) (hx : ρ x = .agg (vals .u8 32 f)) (hy : ρ y = .agg (vals .u8 32 g)) : (execOp ρ o).run Try.prog w = .ok (.value (.bool (!sameB f g))) w := by
  have h := eq_by f g
  unfold execOp
  simp only [ho, hx, hy]
  go_simp
theorem eql_c {ρ : Operand → Value} {o : Oper} (x y : Operand) (f g : Nat → Nat) (w : World) (ho : o.op = .binOp .eql 22 x y 22) (hx : ρ x = .agg (vals .u8 32 f)) (hy : ρ y = .agg (vals .u8 32 g)) : (execOp ρ o).run Try.prog w = .ok (.value (.bool (sameB f g))) w := by
  have h := eq_by f g
  unfold execOp
  simp only [ho, hx, hy]
  go_simp
def pu0Op0 : Oper := { dst := some 1, op := Op.box 22 (Operand.tmp 0), type := 0, pos := "ladder.go:31", after := #[], guard := none }
def pu0Op1 : Oper := { dst := some 2, op := Op.alloc 22, type := 0, pos := "ladder.go:31", after := #[], guard := none }
def pu0Ops : Array Oper := #[pu0Op0, pu0Op1]
set_option maxRecDepth 100000 in
set_option maxHeartbeats 2000000 in
theorem pu0_region (Q : Exit → Act → World → Prop) (hQ : ∀ c a w n v, Q (.panic c) (a.put (some n) v) w → Q (.panic c) a w) (u : World) (z1 z2 : Value) (zz : List Value) (f : Nat → Nat) (H : ∀ (n1 : Nat) (n2 : Nat) (w : World), Kp [] u w → u.heap.size ≤ n1 → Blk w n1 (vals .u8 32 f) 22 → u.heap.size ≤ n2 → Blk w n2 (vals .u8 32 (fun _ => 0)) 22 → n1 ≠ n2 → Q .normal { tmps := List.toArray ((.agg (vals .u8 32 f)) :: (.pointer (some ⟨n1, 0, none⟩)) :: (.pointer (some ⟨n2, 0, none⟩)) :: zz), defers := [] } w) :
    (Code.region 0 pu0Ops false).wp Try.prog Q { tmps := List.toArray ((.agg (vals .u8 32 f)) :: z1 :: z2 :: zz), defers := [] } u := by
  have _ := hQ
  have _ := u
  have _ := z1
  have _ := z2
  have _ := zz
  have _ := f
  refine wp_region_list (show wpList _ pu0Ops _ [pu0Op0, pu0Op1] _ _ from ?_)
  have hS : Kp [] u u := Kp.refl _ u
  refine wpList_plain rfl (fun K hK => ?_)
  refine wp_new _ 22 (box_by _ _ _ _ f rfl (by kernel_rfl)) ?_
  intro n1 w0 eb Bn1 hbw
  have hS' := hS.call hbw
  refine hK _ _ ?_
  clear hK K
  have qgn1 : u.heap.size ≤ n1 := (by rw [eb]; exact hS.size)
  have qBn1 : Blk w0 n1 (vals .u8 32 f) 22 := Bn1
  clear hS
  have gn1 := qgn1
  have Bn1 := qBn1
  have hS := hS'
  clear hS' qgn1 qBn1
  refine wpList_fr (a' := { tmps := List.toArray ((.agg (vals .u8 32 f)) :: (.pointer (some ⟨n1, 0, none⟩)) :: z2 :: zz), defers := [] }) (by kernel_rfl) ?_
  refine wpList_plain rfl (fun K hK => ?_)
  refine wp_new _ 22 (alloc_by _ _ _ rfl) ?_
  intro n2 w1 eb Bn2 hbw
  have hS' := hS.call hbw
  refine hK _ _ ?_
  clear hK K
  have qgn1 : u.heap.size ≤ n1 := gn1
  have qBn1 : Blk w1 n1 (vals .u8 32 f) 22 := (Bn1.call hbw)
  have qgn2 : u.heap.size ≤ n2 := (by rw [eb]; exact hS.size)
  have qBn2 : Blk w1 n2 (vals .u8 32 (fun _ => 0)) 22 := Bn2
  have qen1n2 : n1 ≠ n2 := (by rw [eb]; exact Nat.ne_of_lt Bn1.lt)
  clear hS gn1 Bn1
  have gn1 := qgn1
  have Bn1 := qBn1
  have gn2 := qgn2
  have Bn2 := qBn2
  have en1n2 := qen1n2
  have hS := hS'
  clear hS' qgn1 qBn1 qgn2 qBn2 qen1n2
  refine wpList_fr (a' := { tmps := List.toArray ((.agg (vals .u8 32 f)) :: (.pointer (some ⟨n1, 0, none⟩)) :: (.pointer (some ⟨n2, 0, none⟩)) :: zz), defers := [] }) (by kernel_rfl) ?_
  refine wpList_nil ?_
  exact H n1 n2 w1 hS gn1 Bn1 gn2 Bn2 en1n2
def pu1Op0 : Oper := { dst := some 3, op := Op.load 22 (Operand.tmp 1), type := 22, pos := "ladder.go:31", after := #[], guard := none }
def pu1Op1 : Oper := { dst := some 4, op := Op.build 22 #[(0, Operand.const (Value.int IntKind.u8 9))], type := 22, pos := "ladder.go:31", after := #[], guard := none }
def pu1Op2 : Oper := { dst := some 5, op := Op.call { callee := Callee.value (Operand.func 9), args := #[Operand.tmp 3, Operand.tmp 4], argTypes := #[22, 22] }, type := 22, pos := "ladder.go:31", after := #[{ on := 0, ground := Ground.data }, { on := 1, ground := Ground.data }], guard := none }
def pu1Op3 : Oper := { dst := none, op := Op.store 22 (Operand.tmp 2) (Operand.tmp 5), type := 0, pos := "ladder.go:31", after := #[{ on := 2, ground := Ground.data }, { on := 2, ground := Ground.chain }, { on := 0, ground := Ground.phase }, { on := 1, ground := Ground.phase }, { on := 2, ground := Ground.phase }], guard := none }
def pu1Ops : Array Oper := #[pu1Op0, pu1Op1, pu1Op2, pu1Op3]
set_option maxRecDepth 100000 in
set_option maxHeartbeats 2000000 in
theorem pu1_region (Q : Exit → Act → World → Prop) (hQ : ∀ c a w n v, Q (.panic c) (a.put (some n) v) w → Q (.panic c) a w) (u : World) (z0 z3 z4 z5 : Value) (b1 b2 : Nat) (f : Nat → Nat) (hf : ∀ i, f i < 256) (hb1 : Blk u b1 (vals .u8 32 f) 22) (nb1 : b1 ∉ ([b2] : List Nat)) (hb2 : Blk u b2 (vals .u8 32 (fun _ => 0)) 22) (H : ∀ (w : World), Kp [b2] u w → Blk w b2 (vals .u8 32 (byt (xm f nineB))) 22 → Q .normal { tmps := List.toArray (z0 :: (.pointer (some ⟨b1, 0, none⟩)) :: (.pointer (some ⟨b2, 0, none⟩)) :: (.agg (vals .u8 32 f)) :: (.agg (vals .u8 32 nineB)) :: (.agg (vals .u8 32 (byt (xm f nineB)))) :: []), defers := [] } w) :
    (Code.region 1 pu1Ops false).wp Try.prog Q { tmps := List.toArray (z0 :: (.pointer (some ⟨b1, 0, none⟩)) :: (.pointer (some ⟨b2, 0, none⟩)) :: z3 :: z4 :: z5 :: []), defers := [] } u := by
  have _ := hQ
  have _ := u
  have _ := z0
  have _ := z3
  have _ := z4
  have _ := z5
  have _ := b1
  have _ := b2
  have _ := f
  have _ := hf
  have _ := hb1
  have _ := nb1
  have _ := hb2
  refine wp_region_list (show wpList _ pu1Ops _ [pu1Op0, pu1Op1, pu1Op2, pu1Op3] _ _ from ?_)
  have hS : Kp [b2] u u := Kp.refl _ u
  have Bb2 := hb2
  refine wpList_plain rfl (fun K hK => ?_)
  refine wp_load_row 22 _ rfl b1 (by kernel_rfl) 22 _ (0, 0) _ (hS.keep _ _ _ nb1 hb1) Try.underlying22 rfl (size_by _) ?_
  have hS' := hS
  refine hK _ _ ?_
  clear hK K
  have qBb2 : Blk u b2 (vals .u8 32 (fun _ => 0)) 22 := Bb2
  clear hS Bb2
  have Bb2 := qBb2
  have hS := hS'
  clear hS' qBb2
  refine wpList_fr (a' := { tmps := List.toArray (z0 :: (.pointer (some ⟨b1, 0, none⟩)) :: (.pointer (some ⟨b2, 0, none⟩)) :: (.agg (vals .u8 32 f)) :: z4 :: z5 :: []), defers := [] }) (by kernel_rfl) ?_
  refine wpList_plain rfl (fun K hK => ?_)
  refine wp_val (.agg (vals .u8 32 nineB)) (by kernel_rfl) ?_
  have hS' := hS
  refine hK _ _ ?_
  clear hK K
  have qBb2 : Blk u b2 (vals .u8 32 (fun _ => 0)) 22 := Bb2
  clear hS Bb2
  have Bb2 := qBb2
  have hS := hS'
  clear hS' qBb2
  refine wpList_fr (a' := { tmps := List.toArray (z0 :: (.pointer (some ⟨b1, 0, none⟩)) :: (.pointer (some ⟨b2, 0, none⟩)) :: (.agg (vals .u8 32 f)) :: (.agg (vals .u8 32 nineB)) :: z5 :: []), defers := [] }) (by kernel_rfl) ?_
  refine wpList_plain rfl (fun K hK => ?_)
  refine wp_call_val 9 #[.agg (vals .u8 32 f), .agg (vals .u8 32 nineB)] (by kernel_rfl) (.agg (vals .u8 32 (byt (xm f nineB)))) (mul_c9 f nineB _ hf nineB_lt) ?_
  intro w2 hbw
  have hS' := hS.call hbw
  refine hK _ _ ?_
  clear hK K
  have qBb2 : Blk w2 b2 (vals .u8 32 (fun _ => 0)) 22 := (Bb2.call hbw)
  clear hS Bb2
  have Bb2 := qBb2
  have hS := hS'
  clear hS' qBb2
  refine wpList_fr (a' := { tmps := List.toArray (z0 :: (.pointer (some ⟨b1, 0, none⟩)) :: (.pointer (some ⟨b2, 0, none⟩)) :: (.agg (vals .u8 32 f)) :: (.agg (vals .u8 32 nineB)) :: (.agg (vals .u8 32 (byt (xm f nineB)))) :: []), defers := [] }) (by kernel_rfl) ?_
  refine wpList_plain rfl (fun K hK => ?_)
  refine wp_store_row 22 _ _ rfl b2 (vals .u8 32 (byt (xm f nineB))) (by kernel_rfl) (by kernel_rfl) 22 _ Bb2 (size_by _) (by rw [vals_size, vals_size]) (vals_one _ _ _) ?_
  have hS' := hS.old (x := b2) (by simp) (vals .u8 32 (byt (xm f nineB)))
  refine hK _ _ ?_
  clear hK K
  have qBb2 : Blk (w2.setRow b2 (vals .u8 32 (byt (xm f nineB)))) b2 (vals .u8 32 (byt (xm f nineB))) 22 := (Bb2.row (vals .u8 32 (byt (xm f nineB))))
  clear hS Bb2
  have Bb2 := qBb2
  have hS := hS'
  clear hS' qBb2
  refine wpList_fr (a' := { tmps := List.toArray (z0 :: (.pointer (some ⟨b1, 0, none⟩)) :: (.pointer (some ⟨b2, 0, none⟩)) :: (.agg (vals .u8 32 f)) :: (.agg (vals .u8 32 nineB)) :: (.agg (vals .u8 32 (byt (xm f nineB)))) :: []), defers := [] }) (by kernel_rfl) ?_
  generalize (w2.setRow b2 (vals .u8 32 (byt (xm f nineB)))) = w3 at *
  refine wpList_nil ?_
  exact H  w3 hS Bb2
set_option maxHeartbeats 1000000 in
theorem public_c (f : Nat → Nat) (w : World) (hf : ∀ i, f i < 256) : Ret 12 #[.agg (vals .u8 32 f)] w (.agg (vals .u8 32 (byt (xm f nineB)))) := by
  go_enter Try.func12, Try.ntmps12
  go_upto_region 0 with (fail)
  refine pu0_region _ (fun _ _ _ _ _ h => h) w _ _ _ f ?_
  intro n1 n2 w1 hK gn1 Bn1 gn2 Bn2 en1n2
  have hL := hK.below w _ (Nat.le_refl _) (Below.refl _ w)
  go_upto_region 1 with (fail)
  refine pu1_region _ (fun _ _ _ _ _ h => h) w1 _ _ _ _ n1 n2 f hf Bn1 (not_one en1n2) Bn2 ?_
  intro w2 hK2 C2
  go_wp2_with fail
  refine bodyPost_ret (v := .agg (vals .u8 32 (byt (xm f nineB)))) (results_cell_row Try.results12 _ _ n2 22 _ (0, 0) _ rfl C2 Try.underlying22 rfl (size_by _)) rfl ⟨rfl, ?_⟩
  exact hK2.low _ _ (by intro x hx; simp at hx; omega) hK.size hL
def sh0Op0 : Oper := { dst := some 2, op := Op.box 22 (Operand.tmp 0), type := 0, pos := "ladder.go:34", after := #[], guard := none }
def sh0Op1 : Oper := { dst := some 3, op := Op.box 22 (Operand.tmp 1), type := 0, pos := "ladder.go:34", after := #[], guard := none }
def sh0Op2 : Oper := { dst := some 4, op := Op.alloc 22, type := 0, pos := "ladder.go:34", after := #[], guard := none }
def sh0Op3 : Oper := { dst := some 5, op := Op.assign (Operand.const (Value.bool false)), type := 4, pos := "ladder.go:34", after := #[], guard := none }
def sh0Ops : Array Oper := #[sh0Op0, sh0Op1, sh0Op2, sh0Op3]
set_option maxRecDepth 100000 in
set_option maxHeartbeats 2000000 in
theorem sh0_region (Q : Exit → Act → World → Prop) (hQ : ∀ c a w n v, Q (.panic c) (a.put (some n) v) w → Q (.panic c) a w) (u : World) (z2 z3 z4 z5 : Value) (zz : List Value) (f g : Nat → Nat) (H : ∀ (n2 : Nat) (n3 : Nat) (n4 : Nat) (w : World), Kp [] u w → u.heap.size ≤ n2 → Blk w n2 (vals .u8 32 f) 22 → u.heap.size ≤ n3 → Blk w n3 (vals .u8 32 g) 22 → u.heap.size ≤ n4 → Blk w n4 (vals .u8 32 (fun _ => 0)) 22 → n2 ≠ n3 → n2 ≠ n4 → n3 ≠ n4 → Q .normal { tmps := List.toArray ((.agg (vals .u8 32 f)) :: (.agg (vals .u8 32 g)) :: (.pointer (some ⟨n2, 0, none⟩)) :: (.pointer (some ⟨n3, 0, none⟩)) :: (.pointer (some ⟨n4, 0, none⟩)) :: (.bool false) :: zz), defers := [] } w) :
    (Code.region 0 sh0Ops false).wp Try.prog Q { tmps := List.toArray ((.agg (vals .u8 32 f)) :: (.agg (vals .u8 32 g)) :: z2 :: z3 :: z4 :: z5 :: zz), defers := [] } u := by
  have _ := hQ
  have _ := u
  have _ := z2
  have _ := z3
  have _ := z4
  have _ := z5
  have _ := zz
  have _ := f
  have _ := g
  refine wp_region_list (show wpList _ sh0Ops _ [sh0Op0, sh0Op1, sh0Op2, sh0Op3] _ _ from ?_)
  have hS : Kp [] u u := Kp.refl _ u
  refine wpList_plain rfl (fun K hK => ?_)
  refine wp_new _ 22 (box_by _ _ _ _ f rfl (by kernel_rfl)) ?_
  intro n2 w0 eb Bn2 hbw
  have hS' := hS.call hbw
  refine hK _ _ ?_
  clear hK K
  have qgn2 : u.heap.size ≤ n2 := (by rw [eb]; exact hS.size)
  have qBn2 : Blk w0 n2 (vals .u8 32 f) 22 := Bn2
  clear hS
  have gn2 := qgn2
  have Bn2 := qBn2
  have hS := hS'
  clear hS' qgn2 qBn2
  refine wpList_fr (a' := { tmps := List.toArray ((.agg (vals .u8 32 f)) :: (.agg (vals .u8 32 g)) :: (.pointer (some ⟨n2, 0, none⟩)) :: z3 :: z4 :: z5 :: zz), defers := [] }) (by kernel_rfl) ?_
  refine wpList_plain rfl (fun K hK => ?_)
  refine wp_new _ 22 (box_by _ _ _ _ g rfl (by kernel_rfl)) ?_
  intro n3 w1 eb Bn3 hbw
  have hS' := hS.call hbw
  refine hK _ _ ?_
  clear hK K
  have qgn2 : u.heap.size ≤ n2 := gn2
  have qBn2 : Blk w1 n2 (vals .u8 32 f) 22 := (Bn2.call hbw)
  have qgn3 : u.heap.size ≤ n3 := (by rw [eb]; exact hS.size)
  have qBn3 : Blk w1 n3 (vals .u8 32 g) 22 := Bn3
  have qen2n3 : n2 ≠ n3 := (by rw [eb]; exact Nat.ne_of_lt Bn2.lt)
  clear hS gn2 Bn2
  have gn2 := qgn2
  have Bn2 := qBn2
  have gn3 := qgn3
  have Bn3 := qBn3
  have en2n3 := qen2n3
  have hS := hS'
  clear hS' qgn2 qBn2 qgn3 qBn3 qen2n3
  refine wpList_fr (a' := { tmps := List.toArray ((.agg (vals .u8 32 f)) :: (.agg (vals .u8 32 g)) :: (.pointer (some ⟨n2, 0, none⟩)) :: (.pointer (some ⟨n3, 0, none⟩)) :: z4 :: z5 :: zz), defers := [] }) (by kernel_rfl) ?_
  refine wpList_plain rfl (fun K hK => ?_)
  refine wp_new _ 22 (alloc_by _ _ _ rfl) ?_
  intro n4 w2 eb Bn4 hbw
  have hS' := hS.call hbw
  refine hK _ _ ?_
  clear hK K
  have qgn2 : u.heap.size ≤ n2 := gn2
  have qBn2 : Blk w2 n2 (vals .u8 32 f) 22 := (Bn2.call hbw)
  have qgn3 : u.heap.size ≤ n3 := gn3
  have qBn3 : Blk w2 n3 (vals .u8 32 g) 22 := (Bn3.call hbw)
  have qgn4 : u.heap.size ≤ n4 := (by rw [eb]; exact hS.size)
  have qBn4 : Blk w2 n4 (vals .u8 32 (fun _ => 0)) 22 := Bn4
  have qen2n3 : n2 ≠ n3 := en2n3
  have qen2n4 : n2 ≠ n4 := (by rw [eb]; exact Nat.ne_of_lt Bn2.lt)
  have qen3n4 : n3 ≠ n4 := (by rw [eb]; exact Nat.ne_of_lt Bn3.lt)
  clear hS gn2 Bn2 gn3 Bn3 en2n3
  have gn2 := qgn2
  have Bn2 := qBn2
  have gn3 := qgn3
  have Bn3 := qBn3
  have gn4 := qgn4
  have Bn4 := qBn4
  have en2n3 := qen2n3
  have en2n4 := qen2n4
  have en3n4 := qen3n4
  have hS := hS'
  clear hS' qgn2 qBn2 qgn3 qBn3 qgn4 qBn4 qen2n3 qen2n4 qen3n4
  refine wpList_fr (a' := { tmps := List.toArray ((.agg (vals .u8 32 f)) :: (.agg (vals .u8 32 g)) :: (.pointer (some ⟨n2, 0, none⟩)) :: (.pointer (some ⟨n3, 0, none⟩)) :: (.pointer (some ⟨n4, 0, none⟩)) :: z5 :: zz), defers := [] }) (by kernel_rfl) ?_
  refine wpList_plain rfl (fun K hK => ?_)
  refine wp_val (.bool false) (by kernel_rfl) ?_
  have hS' := hS
  refine hK _ _ ?_
  clear hK K
  have qgn2 : u.heap.size ≤ n2 := gn2
  have qBn2 : Blk w2 n2 (vals .u8 32 f) 22 := Bn2
  have qgn3 : u.heap.size ≤ n3 := gn3
  have qBn3 : Blk w2 n3 (vals .u8 32 g) 22 := Bn3
  have qgn4 : u.heap.size ≤ n4 := gn4
  have qBn4 : Blk w2 n4 (vals .u8 32 (fun _ => 0)) 22 := Bn4
  have qen2n3 : n2 ≠ n3 := en2n3
  have qen2n4 : n2 ≠ n4 := en2n4
  have qen3n4 : n3 ≠ n4 := en3n4
  clear hS gn2 Bn2 gn3 Bn3 gn4 Bn4 en2n3 en2n4 en3n4
  have gn2 := qgn2
  have Bn2 := qBn2
  have gn3 := qgn3
  have Bn3 := qBn3
  have gn4 := qgn4
  have Bn4 := qBn4
  have en2n3 := qen2n3
  have en2n4 := qen2n4
  have en3n4 := qen3n4
  have hS := hS'
  clear hS' qgn2 qBn2 qgn3 qBn3 qgn4 qBn4 qen2n3 qen2n4 qen3n4
  refine wpList_fr (a' := { tmps := List.toArray ((.agg (vals .u8 32 f)) :: (.agg (vals .u8 32 g)) :: (.pointer (some ⟨n2, 0, none⟩)) :: (.pointer (some ⟨n3, 0, none⟩)) :: (.pointer (some ⟨n4, 0, none⟩)) :: (.bool false) :: zz), defers := [] }) (by kernel_rfl) ?_
  refine wpList_nil ?_
  exact H n2 n3 n4 w2 hS gn2 Bn2 gn3 Bn3 gn4 Bn4 en2n3 en2n4 en3n4
def sh1Op0 : Oper := { dst := some 7, op := Op.load 22 (Operand.tmp 2), type := 22, pos := "ladder.go:35", after := #[], guard := none }
def sh1Op1 : Oper := { dst := some 8, op := Op.load 22 (Operand.tmp 3), type := 22, pos := "ladder.go:35", after := #[], guard := none }
def sh1Op2 : Oper := { dst := some 9, op := Op.call { callee := Callee.value (Operand.func 9), args := #[Operand.tmp 7, Operand.tmp 8], argTypes := #[22, 22] }, type := 22, pos := "ladder.go:35", after := #[{ on := 0, ground := Ground.data }, { on := 1, ground := Ground.data }], guard := none }
def sh1Op3 : Oper := { dst := some 6, op := Op.alloc 22, type := 0, pos := "ladder.go:35", after := #[], guard := none }
def sh1Op4 : Oper := { dst := none, op := Op.store 22 (Operand.tmp 6) (Operand.tmp 9), type := 0, pos := "ladder.go:35", after := #[{ on := 3, ground := Ground.data }, { on := 2, ground := Ground.data }, { on := 2, ground := Ground.chain }, { on := 0, ground := Ground.phase }, { on := 1, ground := Ground.phase }, { on := 2, ground := Ground.phase }, { on := 3, ground := Ground.phase }], guard := none }
def sh1Ops : Array Oper := #[sh1Op0, sh1Op1, sh1Op2, sh1Op3, sh1Op4]
set_option maxRecDepth 100000 in
set_option maxHeartbeats 2000000 in
theorem sh1_region (Q : Exit → Act → World → Prop) (hQ : ∀ c a w n v, Q (.panic c) (a.put (some n) v) w → Q (.panic c) a w) (u : World) (z0 z1 z4 z5 z6 z7 z8 z9 : Value) (zz : List Value) (b2 b3 : Nat) (f g : Nat → Nat) (hf : ∀ i, f i < 256) (hg : ∀ i, g i < 256) (hb2 : Blk u b2 (vals .u8 32 f) 22) (nb2 : b2 ∉ ([] : List Nat)) (hb3 : Blk u b3 (vals .u8 32 g) 22) (nb3 : b3 ∉ ([] : List Nat)) (H : ∀ (n6 : Nat) (w : World), Kp [] u w → u.heap.size ≤ n6 → Blk w n6 (vals .u8 32 (byt (xm f g))) 22 → Q .normal { tmps := List.toArray (z0 :: z1 :: (.pointer (some ⟨b2, 0, none⟩)) :: (.pointer (some ⟨b3, 0, none⟩)) :: z4 :: z5 :: (.pointer (some ⟨n6, 0, none⟩)) :: (.agg (vals .u8 32 f)) :: (.agg (vals .u8 32 g)) :: (.agg (vals .u8 32 (byt (xm f g)))) :: zz), defers := [] } w) :
    (Code.region 1 sh1Ops false).wp Try.prog Q { tmps := List.toArray (z0 :: z1 :: (.pointer (some ⟨b2, 0, none⟩)) :: (.pointer (some ⟨b3, 0, none⟩)) :: z4 :: z5 :: z6 :: z7 :: z8 :: z9 :: zz), defers := [] } u := by
  have _ := hQ
  have _ := u
  have _ := z0
  have _ := z1
  have _ := z4
  have _ := z5
  have _ := z6
  have _ := z7
  have _ := z8
  have _ := z9
  have _ := zz
  have _ := b2
  have _ := b3
  have _ := f
  have _ := g
  have _ := hf
  have _ := hg
  have _ := hb2
  have _ := nb2
  have _ := hb3
  have _ := nb3
  refine wp_region_list (show wpList _ sh1Ops _ [sh1Op0, sh1Op1, sh1Op2, sh1Op3, sh1Op4] _ _ from ?_)
  have hS : Kp [] u u := Kp.refl _ u
  refine wpList_plain rfl (fun K hK => ?_)
  refine wp_load_row 22 _ rfl b2 (by kernel_rfl) 22 _ (0, 0) _ (hS.keep _ _ _ nb2 hb2) Try.underlying22 rfl (size_by _) ?_
  have hS' := hS
  refine hK _ _ ?_
  clear hK K
  clear hS
  have hS := hS'
  clear hS'
  refine wpList_fr (a' := { tmps := List.toArray (z0 :: z1 :: (.pointer (some ⟨b2, 0, none⟩)) :: (.pointer (some ⟨b3, 0, none⟩)) :: z4 :: z5 :: z6 :: (.agg (vals .u8 32 f)) :: z8 :: z9 :: zz), defers := [] }) (by kernel_rfl) ?_
  refine wpList_plain rfl (fun K hK => ?_)
  refine wp_load_row 22 _ rfl b3 (by kernel_rfl) 22 _ (0, 0) _ (hS.keep _ _ _ nb3 hb3) Try.underlying22 rfl (size_by _) ?_
  have hS' := hS
  refine hK _ _ ?_
  clear hK K
  clear hS
  have hS := hS'
  clear hS'
  refine wpList_fr (a' := { tmps := List.toArray (z0 :: z1 :: (.pointer (some ⟨b2, 0, none⟩)) :: (.pointer (some ⟨b3, 0, none⟩)) :: z4 :: z5 :: z6 :: (.agg (vals .u8 32 f)) :: (.agg (vals .u8 32 g)) :: z9 :: zz), defers := [] }) (by kernel_rfl) ?_
  refine wpList_plain rfl (fun K hK => ?_)
  refine wp_call_val 9 #[.agg (vals .u8 32 f), .agg (vals .u8 32 g)] (by kernel_rfl) (.agg (vals .u8 32 (byt (xm f g)))) (mul_c9 f g _ hf hg) ?_
  intro w2 hbw
  have hS' := hS.call hbw
  refine hK _ _ ?_
  clear hK K
  clear hS
  have hS := hS'
  clear hS'
  refine wpList_fr (a' := { tmps := List.toArray (z0 :: z1 :: (.pointer (some ⟨b2, 0, none⟩)) :: (.pointer (some ⟨b3, 0, none⟩)) :: z4 :: z5 :: z6 :: (.agg (vals .u8 32 f)) :: (.agg (vals .u8 32 g)) :: (.agg (vals .u8 32 (byt (xm f g)))) :: zz), defers := [] }) (by kernel_rfl) ?_
  refine wpList_plain rfl (fun K hK => ?_)
  refine wp_new _ 22 (alloc_by _ _ _ rfl) ?_
  intro n6 w3 eb Bn6 hbw
  have hS' := hS.call hbw
  refine hK _ _ ?_
  clear hK K
  have qgn6 : u.heap.size ≤ n6 := (by rw [eb]; exact hS.size)
  have qBn6 : Blk w3 n6 (vals .u8 32 (fun _ => 0)) 22 := Bn6
  clear hS
  have gn6 := qgn6
  have Bn6 := qBn6
  have hS := hS'
  clear hS' qgn6 qBn6
  refine wpList_fr (a' := { tmps := List.toArray (z0 :: z1 :: (.pointer (some ⟨b2, 0, none⟩)) :: (.pointer (some ⟨b3, 0, none⟩)) :: z4 :: z5 :: (.pointer (some ⟨n6, 0, none⟩)) :: (.agg (vals .u8 32 f)) :: (.agg (vals .u8 32 g)) :: (.agg (vals .u8 32 (byt (xm f g)))) :: zz), defers := [] }) (by kernel_rfl) ?_
  refine wpList_plain rfl (fun K hK => ?_)
  refine wp_store_row 22 _ _ rfl n6 (vals .u8 32 (byt (xm f g))) (by kernel_rfl) (by kernel_rfl) 22 _ Bn6 (size_by _) (by rw [vals_size, vals_size]) (vals_one _ _ _) ?_
  have hS' := hS.new gn6 (vals .u8 32 (byt (xm f g)))
  refine hK _ _ ?_
  clear hK K
  have qgn6 : u.heap.size ≤ n6 := gn6
  have qBn6 : Blk (w3.setRow n6 (vals .u8 32 (byt (xm f g)))) n6 (vals .u8 32 (byt (xm f g))) 22 := (Bn6.row (vals .u8 32 (byt (xm f g))))
  clear hS gn6 Bn6
  have gn6 := qgn6
  have Bn6 := qBn6
  have hS := hS'
  clear hS' qgn6 qBn6
  refine wpList_fr (a' := { tmps := List.toArray (z0 :: z1 :: (.pointer (some ⟨b2, 0, none⟩)) :: (.pointer (some ⟨b3, 0, none⟩)) :: z4 :: z5 :: (.pointer (some ⟨n6, 0, none⟩)) :: (.agg (vals .u8 32 f)) :: (.agg (vals .u8 32 g)) :: (.agg (vals .u8 32 (byt (xm f g)))) :: zz), defers := [] }) (by kernel_rfl) ?_
  generalize (w3.setRow n6 (vals .u8 32 (byt (xm f g)))) = w4 at *
  refine wpList_nil ?_
  exact H n6 w4 hS gn6 Bn6
def sh2Op0 : Oper := { dst := some 10, op := Op.load 22 (Operand.tmp 6), type := 22, pos := "ladder.go:36", after := #[], guard := none }
def sh2Op1 : Oper := { dst := some 11, op := Op.load 22 (Operand.tmp 6), type := 22, pos := "ladder.go:36", after := #[{ on := 4, ground := Ground.gcOnly Departure.lateStores }], guard := none }
def sh2Op2 : Oper := { dst := some 12, op := Op.build 22 #[], type := 22, pos := "ladder.go:36", after := #[{ on := 4, ground := Ground.gcOnly Departure.lateStores }], guard := none }
def sh2Op3 : Oper := { dst := some 13, op := Op.binOp BinOp.neq 22 (Operand.tmp 11) (Operand.tmp 12) 22, type := 4, pos := "ladder.go:36", after := #[{ on := 1, ground := Ground.data }, { on := 2, ground := Ground.data }, { on := 4, ground := Ground.gcOnly Departure.lateStores }], guard := none }
def sh2Op4 : Oper := { dst := none, op := Op.store 22 (Operand.tmp 4) (Operand.tmp 10), type := 0, pos := "ladder.go:36", after := #[{ on := 0, ground := Ground.data }, { on := 0, ground := Ground.phase }, { on := 1, ground := Ground.textOnly Departure.lateStores }, { on := 2, ground := Ground.textOnly Departure.lateStores }, { on := 3, ground := Ground.textOnly Departure.lateStores }], guard := none }
def sh2Op5 : Oper := { dst := some 5, op := Op.assign (Operand.tmp 13), type := 4, pos := "ladder.go:36", after := #[{ on := 3, ground := Ground.data }, { on := 4, ground := Ground.chain }, { on := 0, ground := Ground.phase }, { on := 1, ground := Ground.phase }, { on := 2, ground := Ground.phase }, { on := 3, ground := Ground.phase }, { on := 4, ground := Ground.phase }], guard := none }
def sh2Ops : Array Oper := #[sh2Op0, sh2Op1, sh2Op2, sh2Op3, sh2Op4, sh2Op5]
structure sh2C (Q : Exit → Act → World → Prop) (u : World) (z0 z1 z2 z3 z5 z7 z8 z9 z10 z11 z12 z13 : Value) (b4 b6 : Nat) (m : Nat → Nat) : Prop where
  hQ : ∀ c a w n v, Q (.panic c) (a.put (some n) v) w → Q (.panic c) a w
  hb4 : Blk u b4 (vals .u8 32 (fun _ => 0)) 22
  hb6 : Blk u b6 (vals .u8 32 m) 22
  nb6 : b6 ∉ ([b4] : List Nat)
  H : ∀ (w : World), Kp [b4] u w → Blk w b4 (vals .u8 32 m) 22 → Q .normal { tmps := List.toArray (z0 :: z1 :: z2 :: z3 :: (.pointer (some ⟨b4, 0, none⟩)) :: (.bool (!sameB m (fun _ => 0))) :: (.pointer (some ⟨b6, 0, none⟩)) :: z7 :: z8 :: z9 :: (.agg (vals .u8 32 m)) :: (.agg (vals .u8 32 m)) :: (.agg (vals .u8 32 (fun _ => 0))) :: (.bool (!sameB m (fun _ => 0))) :: []), defers := [] } w
section
variable {Q : Exit → Act → World → Prop} {u : World} {z0 z1 z2 z3 z5 z7 z8 z9 z10 z11 z12 z13 : Value} {b4 b6 : Nat} {m : Nat → Nat}
set_option maxRecDepth 100000 in
set_option maxHeartbeats 2000000 in
theorem sh2_0 (C : sh2C Q u z0 z1 z2 z3 z5 z7 z8 z9 z10 z11 z12 z13 b4 b6 m) (w : World) (hS : Kp [b4] u w) (Bb4 : Blk w b4 (vals .u8 32 m) 22) :
    wpAnyH Try.prog .any sh2Ops Q (Kp [b4] u) 0 (List.toArray (true :: true :: true :: true :: true :: true :: [])) { tmps := List.toArray (z0 :: z1 :: z2 :: z3 :: (.pointer (some ⟨b4, 0, none⟩)) :: (.bool (!sameB m (fun _ => 0))) :: (.pointer (some ⟨b6, 0, none⟩)) :: z7 :: z8 :: z9 :: (.agg (vals .u8 32 m)) :: (.agg (vals .u8 32 m)) :: (.agg (vals .u8 32 (fun _ => 0))) :: (.bool (!sameB m (fun _ => 0))) :: []), defers := [] } w := by
  exact wpAnyH_done (by kernel_rfl) (C.H  w hS Bb4) _
set_option maxRecDepth 100000 in
set_option maxHeartbeats 2000000 in
theorem sh2_1 (C : sh2C Q u z0 z1 z2 z3 z5 z7 z8 z9 z10 z11 z12 z13 b4 b6 m) (w : World) (hS : Kp [b4] u w) (Bb4 : Blk w b4 (vals .u8 32 (fun _ => 0)) 22) :
    wpAnyH Try.prog .any sh2Ops Q (Kp [b4] u) 2 (List.toArray (true :: true :: true :: true :: false :: false :: [])) { tmps := List.toArray (z0 :: z1 :: z2 :: z3 :: (.pointer (some ⟨b4, 0, none⟩)) :: z5 :: (.pointer (some ⟨b6, 0, none⟩)) :: z7 :: z8 :: z9 :: (.agg (vals .u8 32 m)) :: (.agg (vals .u8 32 m)) :: (.agg (vals .u8 32 (fun _ => 0))) :: (.bool (!sameB m (fun _ => 0))) :: []), defers := [] } w := by
  obtain ⟨hQ, hb4, hb6, nb6, _⟩ := id C
  refine wpAnyH_ready (rs := [4]) (by kernel_rfl) (by simp) ?_
  refine AllReadyH.cons (o := sh2Op4) rfl (fun K hK => ?_) AllReadyH.nil
  rw [if_pos (by rfl)]
  refine wp_store_row 22 _ _ rfl b4 (vals .u8 32 m) (by kernel_rfl) (by kernel_rfl) 22 _ Bb4 (size_by _) (by rw [vals_size, vals_size]) (vals_one _ _ _) ?_
  have hS' := hS.old (x := b4) (by simp) (vals .u8 32 m)
  refine hK.out _ _ hS' (fun _ => ?_)
  refine wpAnyH_take (i := 5) (oi := sh2Op5) (v := .bool (!sameB m (fun _ => 0))) rfl (by kernel_rfl) (by kernel_rfl) (by kernel_rfl) (fun _ _ _ => hQ _ _ _ _ _) (Or.inl ⟨by kernel_rfl, fun _ _ => by kernel_rfl⟩) hS' ?_
  exact wpAnyH_at (by kernel_rfl) (by kernel_rfl) (sh2_0 C (w.setRow b4 (vals .u8 32 m)) hS' (Bb4.row (vals .u8 32 m)))
end
set_option maxRecDepth 100000 in
set_option maxHeartbeats 2000000 in
theorem sh2_region (Q : Exit → Act → World → Prop) (hQ : ∀ c a w n v, Q (.panic c) (a.put (some n) v) w → Q (.panic c) a w) (u : World) (z0 z1 z2 z3 z5 z7 z8 z9 z10 z11 z12 z13 : Value) (b4 b6 : Nat) (m : Nat → Nat) (hb4 : Blk u b4 (vals .u8 32 (fun _ => 0)) 22) (hb6 : Blk u b6 (vals .u8 32 m) 22) (nb6 : b6 ∉ ([b4] : List Nat)) (H : ∀ (w : World), Kp [b4] u w → Blk w b4 (vals .u8 32 m) 22 → Q .normal { tmps := List.toArray (z0 :: z1 :: z2 :: z3 :: (.pointer (some ⟨b4, 0, none⟩)) :: (.bool (!sameB m (fun _ => 0))) :: (.pointer (some ⟨b6, 0, none⟩)) :: z7 :: z8 :: z9 :: (.agg (vals .u8 32 m)) :: (.agg (vals .u8 32 m)) :: (.agg (vals .u8 32 (fun _ => 0))) :: (.bool (!sameB m (fun _ => 0))) :: []), defers := [] } w) :
    (Code.region 2 sh2Ops true).wp Try.prog Q { tmps := List.toArray (z0 :: z1 :: z2 :: z3 :: (.pointer (some ⟨b4, 0, none⟩)) :: z5 :: (.pointer (some ⟨b6, 0, none⟩)) :: z7 :: z8 :: z9 :: z10 :: z11 :: z12 :: z13 :: []), defers := [] } u := by
  have C : sh2C Q u z0 z1 z2 z3 z5 z7 z8 z9 z10 z11 z12 z13 b4 b6 m := ⟨hQ, hb4, hb6, nb6, H⟩
  refine wp_region_held_drew (S := (Kp [b4] u)) (by kernel_rfl) (Kp.drew _ u) (fun hS' => ?_)
  refine wpAnyH_take (i := 0) (oi := sh2Op0) (v := .agg (vals .u8 32 m)) rfl (by kernel_rfl) (by kernel_rfl) (by kernel_rfl) (fun _ _ _ => hQ _ _ _ _ _) (yields_S (fun _ h => h.keep _ _ _ nb6 hb6) (by kernel_rfl) 22 _ rfl (by kernel_rfl) _ Try.underlying22 rfl (size_by _)) hS' ?_
  refine wpAnyH_take (i := 1) (oi := sh2Op1) (v := .agg (vals .u8 32 m)) rfl (by kernel_rfl) (by kernel_rfl) (by kernel_rfl) (fun _ _ _ => hQ _ _ _ _ _) (yields_S (fun _ h => h.keep _ _ _ nb6 hb6) (by kernel_rfl) 22 _ rfl (by kernel_rfl) _ Try.underlying22 rfl (size_by _)) hS' ?_
  refine wpAnyH_take (i := 2) (oi := sh2Op2) (v := .agg (vals .u8 32 (fun _ => 0))) rfl (by kernel_rfl) (by kernel_rfl) (by kernel_rfl) (fun _ _ _ => hQ _ _ _ _ _) (Or.inl ⟨by kernel_rfl, fun _ _ => by kernel_rfl⟩) hS' ?_
  refine wpAnyH_take (i := 3) (oi := sh2Op3) (v := .bool (!sameB m (fun _ => 0))) rfl (by kernel_rfl) (by kernel_rfl) (by kernel_rfl) (fun _ _ _ => hQ _ _ _ _ _) (Or.inl ⟨by rfl, fun _ _ => neq_c _ _ _ _ _ rfl (by kernel_rfl) (by kernel_rfl)⟩) hS' ?_
  exact wpAnyH_at (by kernel_rfl) (by kernel_rfl) (sh2_1 C u.drew hS' hb4.drew)
set_option maxHeartbeats 1000000 in
theorem shared_c (f g : Nat → Nat) (w : World) (hf : ∀ i, f i < 256) (hg : ∀ i, g i < 256) : Ret 11 #[.agg (vals .u8 32 f), .agg (vals .u8 32 g)] w (.tuple #[.agg (vals .u8 32 (byt (xm f g))), .bool (decide (xm f g ≠ 0))]) := by
  have hne : (!sameB (byt (xm f g)) (fun _ => 0)) = decide (xm f g ≠ 0) := by rw [same_zero _ (xm_lt256 f g), decide_not]
  go_enter Try.func11, Try.ntmps11
  go_upto_region 0 with (fail)
  refine sh0_region _ (fun _ _ _ _ _ h => h) w _ _ _ _ _ f g ?_
  intro n2 n3 n4 w1 hK gn2 Bn2 gn3 Bn3 gn4 Bn4 en2n3 en2n4 en3n4
  have hL := hK.below w _ (Nat.le_refl _) (Below.refl _ w)
  go_upto_region 1 with (fail)
  refine sh1_region _ (fun _ _ _ _ _ h => h) w1 _ _ _ _ _ _ _ _ _ n2 n3 f g hf hg Bn2 (not_nil _) Bn3 (not_nil _) ?_
  intro n6 w2 hK2 gn6 Bn6
  have C4 := hK2.keep _ _ _ (not_nil _) Bn4
  have q : n4 < n6 := Nat.lt_of_lt_of_le Bn4.lt gn6
  have hL2 := hK2.below w _ hK.size hL
  have s2 := Nat.le_trans hK.size hK2.size
  go_upto_region 2 with (fail)
  refine sh2_region _ (fun _ _ _ _ _ h => h) w2 _ _ _ _ _ _ _ _ _ _ _ _ n4 n6 (byt (xm f g)) C4 Bn6 (not_one (Nat.ne_of_gt q)) ?_
  intro w3 hK3 D4
  go_wp2_with fail
  refine bodyPost_ret (v := .tuple #[.agg (vals .u8 32 (byt (xm f g))), .bool (!sameB (byt (xm f g)) (fun _ => 0))]) (results_and Try.results11 _ _ n4 22 _ (0, 0) _ _ rfl D4 Try.underlying22 rfl (size_by _) rfl) rfl ⟨by rw [hne], ?_⟩
  exact hK3.low _ _ (by intro x hx; simp at hx; omega) s2 hL2
end Go.Proofs.Ytidhffaphbiapaa

/- Walks: LadderTells. -/
import Derived.Test.YtidhffaphbiapaaPr
namespace Go.Proofs.Ytidhffaphbiapaa
open F Go.RowKit

section
variable {ops : Array Oper} {o : Oper} {a : Act} {S : World → Prop}
theorem yne (hw : Region.wanted o (yielded ops a.tmps) = true) (x y : Operand) (f g : Nat → Nat) (b : Bool) (ho : o.op = .binOp .neq 22 x y 22) (hx : a.eval x = .agg (vals .u8 32 f)) (hy : a.eval y = .agg (vals .u8 32 g)) (h : (!sameB f g) = b) : YieldsIf Try.prog ops S o (.bool b) a :=
  Or.inl ⟨hw, fun w _ => by rw [neq_c x y f g w ho hx hy, h]⟩
theorem eqb (ρ : Operand → Value) (x y : Operand) (b : Bool) (w : World) (ho : o.op = .binOp .eql 4 x y 4) (hx : ρ x = .bool b) (hy : ρ y = .bool b) : (execOp ρ o).run Try.prog w = .ok (.value (.bool true)) w := by
  unfold execOp
  simp only [ho, hx, hy]
  cases b <;> kernel_rfl
theorem yeb (hw : Region.wanted o (yielded ops a.tmps) = true) (x y : Operand) (b : Bool) (ho : o.op = .binOp .eql 4 x y 4) (hx : a.eval x = .bool b) (hy : a.eval y = .bool b) : YieldsIf Try.prog ops S o (.bool true) a :=
  Or.inl ⟨hw, fun w _ => eqb a.eval x y b w ho hx hy⟩
end
def te0Op0 : Oper := { dst := some 2, op := Op.box 22 (Operand.tmp 0), type := 0, pos := "law.go:21", after := #[], guard := none }
def te0Op1 : Oper := { dst := some 3, op := Op.box 22 (Operand.tmp 1), type := 0, pos := "law.go:21", after := #[], guard := none }
def te0Op2 : Oper := { dst := some 4, op := Op.assign (Operand.const (Value.bool false)), type := 4, pos := "law.go:21", after := #[], guard := none }
def te0Ops : Array Oper := #[te0Op0, te0Op1, te0Op2]
set_option maxRecDepth 100000 in
set_option maxHeartbeats 2000000 in
theorem te0_region (Q : Exit → Act → World → Prop) (hQ : ∀ c a w n v, Q (.panic c) (a.put (some n) v) w → Q (.panic c) a w) (u : World) (z2 z3 z4 : Value) (zz : List Value) (f g : Nat → Nat) (H : ∀ (n2 : Nat) (n3 : Nat) (w : World), Kp [] u w → u.heap.size ≤ n2 → Blk w n2 (vals .u8 32 f) 22 → u.heap.size ≤ n3 → Blk w n3 (vals .u8 32 g) 22 → n2 ≠ n3 → Q .normal { tmps := List.toArray ((.agg (vals .u8 32 f)) :: (.agg (vals .u8 32 g)) :: (.pointer (some ⟨n2, 0, none⟩)) :: (.pointer (some ⟨n3, 0, none⟩)) :: (.bool false) :: zz), defers := [] } w) :
    (Code.region 0 te0Ops false).wp Try.prog Q { tmps := List.toArray ((.agg (vals .u8 32 f)) :: (.agg (vals .u8 32 g)) :: z2 :: z3 :: z4 :: zz), defers := [] } u := by
  have _ := hQ
  have _ := u
  have _ := z2
  have _ := z3
  have _ := z4
  have _ := zz
  have _ := f
  have _ := g
  refine wp_region_list (show wpList _ te0Ops _ [te0Op0, te0Op1, te0Op2] _ _ from ?_)
  have hS : Kp [] u u := Kp.refl _ u
  refine wpList_plain rfl (fun K hK => ?_)
  refine wp_new _ 22 (box_by _ _ _ _ f rfl (by kernel_rfl)) ?_
  intro n2 w0 eb Bn2 hbw
  have hS' := hS.call hbw
  refine hK _ _ ?_
  clear hK K
  have qgn2 : u.heap.size ≤ n2 := (by rw [eb]; exact hS.size)
  have qBn2 : Blk w0 n2 (vals .u8 32 f) 22 := Bn2
  clear hS
  have gn2 := qgn2
  have Bn2 := qBn2
  have hS := hS'
  clear hS' qgn2 qBn2
  refine wpList_fr (a' := { tmps := List.toArray ((.agg (vals .u8 32 f)) :: (.agg (vals .u8 32 g)) :: (.pointer (some ⟨n2, 0, none⟩)) :: z3 :: z4 :: zz), defers := [] }) (by kernel_rfl) ?_
  refine wpList_plain rfl (fun K hK => ?_)
  refine wp_new _ 22 (box_by _ _ _ _ g rfl (by kernel_rfl)) ?_
  intro n3 w1 eb Bn3 hbw
  have hS' := hS.call hbw
  refine hK _ _ ?_
  clear hK K
  have qgn2 : u.heap.size ≤ n2 := gn2
  have qBn2 : Blk w1 n2 (vals .u8 32 f) 22 := (Bn2.call hbw)
  have qgn3 : u.heap.size ≤ n3 := (by rw [eb]; exact hS.size)
  have qBn3 : Blk w1 n3 (vals .u8 32 g) 22 := Bn3
  have qen2n3 : n2 ≠ n3 := (by rw [eb]; exact Nat.ne_of_lt Bn2.lt)
  clear hS gn2 Bn2
  have gn2 := qgn2
  have Bn2 := qBn2
  have gn3 := qgn3
  have Bn3 := qBn3
  have en2n3 := qen2n3
  have hS := hS'
  clear hS' qgn2 qBn2 qgn3 qBn3 qen2n3
  refine wpList_fr (a' := { tmps := List.toArray ((.agg (vals .u8 32 f)) :: (.agg (vals .u8 32 g)) :: (.pointer (some ⟨n2, 0, none⟩)) :: (.pointer (some ⟨n3, 0, none⟩)) :: z4 :: zz), defers := [] }) (by kernel_rfl) ?_
  refine wpList_plain rfl (fun K hK => ?_)
  refine wp_val (.bool false) (by kernel_rfl) ?_
  have hS' := hS
  refine hK _ _ ?_
  clear hK K
  have qgn2 : u.heap.size ≤ n2 := gn2
  have qBn2 : Blk w1 n2 (vals .u8 32 f) 22 := Bn2
  have qgn3 : u.heap.size ≤ n3 := gn3
  have qBn3 : Blk w1 n3 (vals .u8 32 g) 22 := Bn3
  have qen2n3 : n2 ≠ n3 := en2n3
  clear hS gn2 Bn2 gn3 Bn3 en2n3
  have gn2 := qgn2
  have Bn2 := qBn2
  have gn3 := qgn3
  have Bn3 := qBn3
  have en2n3 := qen2n3
  have hS := hS'
  clear hS' qgn2 qBn2 qgn3 qBn3 qen2n3
  refine wpList_fr (a' := { tmps := List.toArray ((.agg (vals .u8 32 f)) :: (.agg (vals .u8 32 g)) :: (.pointer (some ⟨n2, 0, none⟩)) :: (.pointer (some ⟨n3, 0, none⟩)) :: (.bool false) :: zz), defers := [] }) (by kernel_rfl) ?_
  refine wpList_nil ?_
  exact H n2 n3 w1 hS gn2 Bn2 gn3 Bn3 en2n3
def te1Op0 : Oper := { dst := some 10, op := Op.call { callee := Callee.value (Operand.func 8), args := #[], argTypes := #[] }, type := 4, pos := "law.go:22", after := #[], guard := none }
def te1Op1 : Oper := { dst := some 5, op := Op.assign (Operand.tmp 10), type := 4, pos := "law.go:22", after := #[{ on := 0, ground := Ground.data }, { on := 0, ground := Ground.chain }, { on := 0, ground := Ground.phase }], guard := none }
def te1Ops : Array Oper := #[te1Op0, te1Op1]
set_option maxRecDepth 100000 in
set_option maxHeartbeats 2000000 in
theorem te1_region (Q : Exit → Act → World → Prop) (hQ : ∀ c a w n v, Q (.panic c) (a.put (some n) v) w → Q (.panic c) a w) (u : World) (z0 z1 z2 z3 z4 z5 z6 z7 z8 z9 z10 : Value) (zz : List Value) (H : ∀ (w : World), Kp [] u w → Q .normal { tmps := List.toArray (z0 :: z1 :: z2 :: z3 :: z4 :: (.bool true) :: z6 :: z7 :: z8 :: z9 :: (.bool true) :: zz), defers := [] } w) :
    (Code.region 1 te1Ops false).wp Try.prog Q { tmps := List.toArray (z0 :: z1 :: z2 :: z3 :: z4 :: z5 :: z6 :: z7 :: z8 :: z9 :: z10 :: zz), defers := [] } u := by
  have _ := hQ
  have _ := u
  have _ := z0
  have _ := z1
  have _ := z2
  have _ := z3
  have _ := z4
  have _ := z5
  have _ := z6
  have _ := z7
  have _ := z8
  have _ := z9
  have _ := z10
  have _ := zz
  refine wp_region_list (show wpList _ te1Ops _ [te1Op0, te1Op1] _ _ from ?_)
  have hS : Kp [] u u := Kp.refl _ u
  refine wpList_plain rfl (fun K hK => ?_)
  refine wp_call_val 8 #[] (by kernel_rfl) (.bool true) (awake_c _) ?_
  intro w0 hbw
  have hS' := hS.call hbw
  refine hK _ _ ?_
  clear hK K
  clear hS
  have hS := hS'
  clear hS'
  refine wpList_fr (a' := { tmps := List.toArray (z0 :: z1 :: z2 :: z3 :: z4 :: z5 :: z6 :: z7 :: z8 :: z9 :: (.bool true) :: zz), defers := [] }) (by kernel_rfl) ?_
  refine wpList_plain rfl (fun K hK => ?_)
  refine wp_val (.bool true) (by kernel_rfl) ?_
  have hS' := hS
  refine hK _ _ ?_
  clear hK K
  clear hS
  have hS := hS'
  clear hS'
  refine wpList_fr (a' := { tmps := List.toArray (z0 :: z1 :: z2 :: z3 :: z4 :: (.bool true) :: z6 :: z7 :: z8 :: z9 :: (.bool true) :: zz), defers := [] }) (by kernel_rfl) ?_
  refine wpList_nil ?_
  exact H  w0 hS 
def te2Op0 : Oper := { dst := some 11, op := Op.load 22 (Operand.tmp 2), type := 22, pos := "law.go:23", after := #[], guard := none }
def te2Op1 : Oper := { dst := some 12, op := Op.load 22 (Operand.tmp 3), type := 22, pos := "law.go:23", after := #[], guard := none }
def te2Op2 : Oper := { dst := some 13, op := Op.call { callee := Callee.value (Operand.func 9), args := #[Operand.tmp 11, Operand.tmp 12], argTypes := #[22, 22] }, type := 22, pos := "law.go:23", after := #[{ on := 0, ground := Ground.data }, { on := 1, ground := Ground.data }], guard := none }
def te2Op3 : Oper := { dst := some 6, op := Op.alloc 22, type := 0, pos := "law.go:23", after := #[], guard := none }
def te2Op4 : Oper := { dst := none, op := Op.store 22 (Operand.tmp 6) (Operand.tmp 13), type := 0, pos := "law.go:23", after := #[{ on := 3, ground := Ground.data }, { on := 2, ground := Ground.data }, { on := 2, ground := Ground.chain }, { on := 0, ground := Ground.phase }, { on := 1, ground := Ground.phase }, { on := 2, ground := Ground.phase }, { on := 3, ground := Ground.phase }], guard := none }
def te2Ops : Array Oper := #[te2Op0, te2Op1, te2Op2, te2Op3, te2Op4]
set_option maxRecDepth 100000 in
set_option maxHeartbeats 2000000 in
theorem te2_region (Q : Exit → Act → World → Prop) (hQ : ∀ c a w n v, Q (.panic c) (a.put (some n) v) w → Q (.panic c) a w) (u : World) (z0 z1 z4 z5 z6 z7 z8 z9 z10 z11 z12 z13 : Value) (zz : List Value) (b2 b3 : Nat) (f g : Nat → Nat) (hf : ∀ i, f i < 256) (hg : ∀ i, g i < 256) (hb2 : Blk u b2 (vals .u8 32 f) 22) (nb2 : b2 ∉ ([] : List Nat)) (hb3 : Blk u b3 (vals .u8 32 g) 22) (nb3 : b3 ∉ ([] : List Nat)) (H : ∀ (n6 : Nat) (w : World), Kp [] u w → u.heap.size ≤ n6 → Blk w n6 (vals .u8 32 (byt (xm f g))) 22 → Q .normal { tmps := List.toArray (z0 :: z1 :: (.pointer (some ⟨b2, 0, none⟩)) :: (.pointer (some ⟨b3, 0, none⟩)) :: z4 :: z5 :: (.pointer (some ⟨n6, 0, none⟩)) :: z7 :: z8 :: z9 :: z10 :: (.agg (vals .u8 32 f)) :: (.agg (vals .u8 32 g)) :: (.agg (vals .u8 32 (byt (xm f g)))) :: zz), defers := [] } w) :
    (Code.region 2 te2Ops false).wp Try.prog Q { tmps := List.toArray (z0 :: z1 :: (.pointer (some ⟨b2, 0, none⟩)) :: (.pointer (some ⟨b3, 0, none⟩)) :: z4 :: z5 :: z6 :: z7 :: z8 :: z9 :: z10 :: z11 :: z12 :: z13 :: zz), defers := [] } u := by
  have _ := hQ
  have _ := u
  have _ := z0
  have _ := z1
  have _ := z4
  have _ := z5
  have _ := z6
  have _ := z7
  have _ := z8
  have _ := z9
  have _ := z10
  have _ := z11
  have _ := z12
  have _ := z13
  have _ := zz
  have _ := b2
  have _ := b3
  have _ := f
  have _ := g
  have _ := hf
  have _ := hg
  have _ := hb2
  have _ := nb2
  have _ := hb3
  have _ := nb3
  refine wp_region_list (show wpList _ te2Ops _ [te2Op0, te2Op1, te2Op2, te2Op3, te2Op4] _ _ from ?_)
  have hS : Kp [] u u := Kp.refl _ u
  refine wpList_plain rfl (fun K hK => ?_)
  refine wp_load_row 22 _ rfl b2 (by kernel_rfl) 22 _ (0, 0) _ (hS.keep _ _ _ nb2 hb2) Try.underlying22 rfl (size_by _) ?_
  have hS' := hS
  refine hK _ _ ?_
  clear hK K
  clear hS
  have hS := hS'
  clear hS'
  refine wpList_fr (a' := { tmps := List.toArray (z0 :: z1 :: (.pointer (some ⟨b2, 0, none⟩)) :: (.pointer (some ⟨b3, 0, none⟩)) :: z4 :: z5 :: z6 :: z7 :: z8 :: z9 :: z10 :: (.agg (vals .u8 32 f)) :: z12 :: z13 :: zz), defers := [] }) (by kernel_rfl) ?_
  refine wpList_plain rfl (fun K hK => ?_)
  refine wp_load_row 22 _ rfl b3 (by kernel_rfl) 22 _ (0, 0) _ (hS.keep _ _ _ nb3 hb3) Try.underlying22 rfl (size_by _) ?_
  have hS' := hS
  refine hK _ _ ?_
  clear hK K
  clear hS
  have hS := hS'
  clear hS'
  refine wpList_fr (a' := { tmps := List.toArray (z0 :: z1 :: (.pointer (some ⟨b2, 0, none⟩)) :: (.pointer (some ⟨b3, 0, none⟩)) :: z4 :: z5 :: z6 :: z7 :: z8 :: z9 :: z10 :: (.agg (vals .u8 32 f)) :: (.agg (vals .u8 32 g)) :: z13 :: zz), defers := [] }) (by kernel_rfl) ?_
  refine wpList_plain rfl (fun K hK => ?_)
  refine wp_call_val 9 #[.agg (vals .u8 32 f), .agg (vals .u8 32 g)] (by kernel_rfl) (.agg (vals .u8 32 (byt (xm f g)))) (mul_c9 f g _ hf hg) ?_
  intro w2 hbw
  have hS' := hS.call hbw
  refine hK _ _ ?_
  clear hK K
  clear hS
  have hS := hS'
  clear hS'
  refine wpList_fr (a' := { tmps := List.toArray (z0 :: z1 :: (.pointer (some ⟨b2, 0, none⟩)) :: (.pointer (some ⟨b3, 0, none⟩)) :: z4 :: z5 :: z6 :: z7 :: z8 :: z9 :: z10 :: (.agg (vals .u8 32 f)) :: (.agg (vals .u8 32 g)) :: (.agg (vals .u8 32 (byt (xm f g)))) :: zz), defers := [] }) (by kernel_rfl) ?_
  refine wpList_plain rfl (fun K hK => ?_)
  refine wp_new _ 22 (alloc_by _ _ _ rfl) ?_
  intro n6 w3 eb Bn6 hbw
  have hS' := hS.call hbw
  refine hK _ _ ?_
  clear hK K
  have qgn6 : u.heap.size ≤ n6 := (by rw [eb]; exact hS.size)
  have qBn6 : Blk w3 n6 (vals .u8 32 (fun _ => 0)) 22 := Bn6
  clear hS
  have gn6 := qgn6
  have Bn6 := qBn6
  have hS := hS'
  clear hS' qgn6 qBn6
  refine wpList_fr (a' := { tmps := List.toArray (z0 :: z1 :: (.pointer (some ⟨b2, 0, none⟩)) :: (.pointer (some ⟨b3, 0, none⟩)) :: z4 :: z5 :: (.pointer (some ⟨n6, 0, none⟩)) :: z7 :: z8 :: z9 :: z10 :: (.agg (vals .u8 32 f)) :: (.agg (vals .u8 32 g)) :: (.agg (vals .u8 32 (byt (xm f g)))) :: zz), defers := [] }) (by kernel_rfl) ?_
  refine wpList_plain rfl (fun K hK => ?_)
  refine wp_store_row 22 _ _ rfl n6 (vals .u8 32 (byt (xm f g))) (by kernel_rfl) (by kernel_rfl) 22 _ Bn6 (size_by _) (by simp only [vals_size]) (vals_one _ _ _) ?_
  have hS' := hS.new gn6 (vals .u8 32 (byt (xm f g)))
  refine hK _ _ ?_
  clear hK K
  have qgn6 : u.heap.size ≤ n6 := gn6
  have qBn6 : Blk (w3.setRow n6 (vals .u8 32 (byt (xm f g)))) n6 (vals .u8 32 (byt (xm f g))) 22 := (Bn6.row (vals .u8 32 (byt (xm f g))))
  clear hS gn6 Bn6
  have gn6 := qgn6
  have Bn6 := qBn6
  have hS := hS'
  clear hS' qgn6 qBn6
  refine wpList_fr (a' := { tmps := List.toArray (z0 :: z1 :: (.pointer (some ⟨b2, 0, none⟩)) :: (.pointer (some ⟨b3, 0, none⟩)) :: z4 :: z5 :: (.pointer (some ⟨n6, 0, none⟩)) :: z7 :: z8 :: z9 :: z10 :: (.agg (vals .u8 32 f)) :: (.agg (vals .u8 32 g)) :: (.agg (vals .u8 32 (byt (xm f g)))) :: zz), defers := [] }) (by kernel_rfl) ?_
  generalize (w3.setRow n6 (vals .u8 32 (byt (xm f g)))) = w4 at *
  refine wpList_nil ?_
  exact H n6 w4 hS gn6 Bn6
def te3Op0 : Oper := { dst := some 14, op := Op.load 22 (Operand.tmp 2), type := 22, pos := "law.go:24", after := #[], guard := none }
def te3Op1 : Oper := { dst := some 15, op := Op.load 22 (Operand.tmp 3), type := 22, pos := "law.go:24", after := #[], guard := none }
def te3Op2 : Oper := { dst := some 16, op := Op.call { callee := Callee.value (Operand.func 10), args := #[Operand.tmp 14, Operand.tmp 15], argTypes := #[22, 22] }, type := 22, pos := "law.go:24", after := #[{ on := 0, ground := Ground.data }, { on := 1, ground := Ground.data }], guard := none }
def te3Op3 : Oper := { dst := some 7, op := Op.alloc 22, type := 0, pos := "law.go:24", after := #[], guard := none }
def te3Op4 : Oper := { dst := none, op := Op.store 22 (Operand.tmp 7) (Operand.tmp 16), type := 0, pos := "law.go:24", after := #[{ on := 3, ground := Ground.data }, { on := 2, ground := Ground.data }, { on := 2, ground := Ground.chain }, { on := 0, ground := Ground.phase }, { on := 1, ground := Ground.phase }, { on := 2, ground := Ground.phase }, { on := 3, ground := Ground.phase }], guard := none }
def te3Ops : Array Oper := #[te3Op0, te3Op1, te3Op2, te3Op3, te3Op4]
set_option maxRecDepth 100000 in
set_option maxHeartbeats 2000000 in
theorem te3_region (Q : Exit → Act → World → Prop) (hQ : ∀ c a w n v, Q (.panic c) (a.put (some n) v) w → Q (.panic c) a w) (u : World) (z0 z1 z4 z5 z6 z7 z8 z9 z10 z11 z12 z13 z14 z15 z16 : Value) (zz : List Value) (b2 b3 : Nat) (f g : Nat → Nat) (hf : ∀ i, f i < 256) (hg : ∀ i, g i < 256) (hb2 : Blk u b2 (vals .u8 32 f) 22) (nb2 : b2 ∉ ([] : List Nat)) (hb3 : Blk u b3 (vals .u8 32 g) 22) (nb3 : b3 ∉ ([] : List Nat)) (H : ∀ (n7 : Nat) (w : World), Kp [] u w → u.heap.size ≤ n7 → Blk w n7 (vals .u8 32 (byt (xm f g))) 22 → Q .normal { tmps := List.toArray (z0 :: z1 :: (.pointer (some ⟨b2, 0, none⟩)) :: (.pointer (some ⟨b3, 0, none⟩)) :: z4 :: z5 :: z6 :: (.pointer (some ⟨n7, 0, none⟩)) :: z8 :: z9 :: z10 :: z11 :: z12 :: z13 :: (.agg (vals .u8 32 f)) :: (.agg (vals .u8 32 g)) :: (.agg (vals .u8 32 (byt (xm f g)))) :: zz), defers := [] } w) :
    (Code.region 3 te3Ops false).wp Try.prog Q { tmps := List.toArray (z0 :: z1 :: (.pointer (some ⟨b2, 0, none⟩)) :: (.pointer (some ⟨b3, 0, none⟩)) :: z4 :: z5 :: z6 :: z7 :: z8 :: z9 :: z10 :: z11 :: z12 :: z13 :: z14 :: z15 :: z16 :: zz), defers := [] } u := by
  have _ := hQ
  have _ := u
  have _ := z0
  have _ := z1
  have _ := z4
  have _ := z5
  have _ := z6
  have _ := z7
  have _ := z8
  have _ := z9
  have _ := z10
  have _ := z11
  have _ := z12
  have _ := z13
  have _ := z14
  have _ := z15
  have _ := z16
  have _ := zz
  have _ := b2
  have _ := b3
  have _ := f
  have _ := g
  have _ := hf
  have _ := hg
  have _ := hb2
  have _ := nb2
  have _ := hb3
  have _ := nb3
  refine wp_region_list (show wpList _ te3Ops _ [te3Op0, te3Op1, te3Op2, te3Op3, te3Op4] _ _ from ?_)
  have hS : Kp [] u u := Kp.refl _ u
  refine wpList_plain rfl (fun K hK => ?_)
  refine wp_load_row 22 _ rfl b2 (by kernel_rfl) 22 _ (0, 0) _ (hS.keep _ _ _ nb2 hb2) Try.underlying22 rfl (size_by _) ?_
  have hS' := hS
  refine hK _ _ ?_
  clear hK K
  clear hS
  have hS := hS'
  clear hS'
  refine wpList_fr (a' := { tmps := List.toArray (z0 :: z1 :: (.pointer (some ⟨b2, 0, none⟩)) :: (.pointer (some ⟨b3, 0, none⟩)) :: z4 :: z5 :: z6 :: z7 :: z8 :: z9 :: z10 :: z11 :: z12 :: z13 :: (.agg (vals .u8 32 f)) :: z15 :: z16 :: zz), defers := [] }) (by kernel_rfl) ?_
  refine wpList_plain rfl (fun K hK => ?_)
  refine wp_load_row 22 _ rfl b3 (by kernel_rfl) 22 _ (0, 0) _ (hS.keep _ _ _ nb3 hb3) Try.underlying22 rfl (size_by _) ?_
  have hS' := hS
  refine hK _ _ ?_
  clear hK K
  clear hS
  have hS := hS'
  clear hS'
  refine wpList_fr (a' := { tmps := List.toArray (z0 :: z1 :: (.pointer (some ⟨b2, 0, none⟩)) :: (.pointer (some ⟨b3, 0, none⟩)) :: z4 :: z5 :: z6 :: z7 :: z8 :: z9 :: z10 :: z11 :: z12 :: z13 :: (.agg (vals .u8 32 f)) :: (.agg (vals .u8 32 g)) :: z16 :: zz), defers := [] }) (by kernel_rfl) ?_
  refine wpList_plain rfl (fun K hK => ?_)
  refine wp_call_val 10 #[.agg (vals .u8 32 f), .agg (vals .u8 32 g)] (by kernel_rfl) (.agg (vals .u8 32 (byt (xm f g)))) (rmul_c10 f g _ hf hg) ?_
  intro w2 hbw
  have hS' := hS.call hbw
  refine hK _ _ ?_
  clear hK K
  clear hS
  have hS := hS'
  clear hS'
  refine wpList_fr (a' := { tmps := List.toArray (z0 :: z1 :: (.pointer (some ⟨b2, 0, none⟩)) :: (.pointer (some ⟨b3, 0, none⟩)) :: z4 :: z5 :: z6 :: z7 :: z8 :: z9 :: z10 :: z11 :: z12 :: z13 :: (.agg (vals .u8 32 f)) :: (.agg (vals .u8 32 g)) :: (.agg (vals .u8 32 (byt (xm f g)))) :: zz), defers := [] }) (by kernel_rfl) ?_
  refine wpList_plain rfl (fun K hK => ?_)
  refine wp_new _ 22 (alloc_by _ _ _ rfl) ?_
  intro n7 w3 eb Bn7 hbw
  have hS' := hS.call hbw
  refine hK _ _ ?_
  clear hK K
  have qgn7 : u.heap.size ≤ n7 := (by rw [eb]; exact hS.size)
  have qBn7 : Blk w3 n7 (vals .u8 32 (fun _ => 0)) 22 := Bn7
  clear hS
  have gn7 := qgn7
  have Bn7 := qBn7
  have hS := hS'
  clear hS' qgn7 qBn7
  refine wpList_fr (a' := { tmps := List.toArray (z0 :: z1 :: (.pointer (some ⟨b2, 0, none⟩)) :: (.pointer (some ⟨b3, 0, none⟩)) :: z4 :: z5 :: z6 :: (.pointer (some ⟨n7, 0, none⟩)) :: z8 :: z9 :: z10 :: z11 :: z12 :: z13 :: (.agg (vals .u8 32 f)) :: (.agg (vals .u8 32 g)) :: (.agg (vals .u8 32 (byt (xm f g)))) :: zz), defers := [] }) (by kernel_rfl) ?_
  refine wpList_plain rfl (fun K hK => ?_)
  refine wp_store_row 22 _ _ rfl n7 (vals .u8 32 (byt (xm f g))) (by kernel_rfl) (by kernel_rfl) 22 _ Bn7 (size_by _) (by simp only [vals_size]) (vals_one _ _ _) ?_
  have hS' := hS.new gn7 (vals .u8 32 (byt (xm f g)))
  refine hK _ _ ?_
  clear hK K
  have qgn7 : u.heap.size ≤ n7 := gn7
  have qBn7 : Blk (w3.setRow n7 (vals .u8 32 (byt (xm f g)))) n7 (vals .u8 32 (byt (xm f g))) 22 := (Bn7.row (vals .u8 32 (byt (xm f g))))
  clear hS gn7 Bn7
  have gn7 := qgn7
  have Bn7 := qBn7
  have hS := hS'
  clear hS' qgn7 qBn7
  refine wpList_fr (a' := { tmps := List.toArray (z0 :: z1 :: (.pointer (some ⟨b2, 0, none⟩)) :: (.pointer (some ⟨b3, 0, none⟩)) :: z4 :: z5 :: z6 :: (.pointer (some ⟨n7, 0, none⟩)) :: z8 :: z9 :: z10 :: z11 :: z12 :: z13 :: (.agg (vals .u8 32 f)) :: (.agg (vals .u8 32 g)) :: (.agg (vals .u8 32 (byt (xm f g)))) :: zz), defers := [] }) (by kernel_rfl) ?_
  generalize (w3.setRow n7 (vals .u8 32 (byt (xm f g)))) = w4 at *
  refine wpList_nil ?_
  exact H n7 w4 hS gn7 Bn7
def te4Op0 : Oper := { dst := some 18, op := Op.load 22 (Operand.tmp 2), type := 22, pos := "law.go:25", after := #[], guard := none }
def te4Op1 : Oper := { dst := some 19, op := Op.load 22 (Operand.tmp 3), type := 22, pos := "law.go:25", after := #[], guard := none }
def te4Op2 : Oper := { dst := some 20, op := Op.call { callee := Callee.value (Operand.func 11), args := #[Operand.tmp 18, Operand.tmp 19], argTypes := #[22, 22] }, type := 25, pos := "law.go:25", after := #[{ on := 0, ground := Ground.data }, { on := 1, ground := Ground.data }], guard := none }
def te4Op3 : Oper := { dst := some 17, op := Op.move (Operand.tmp 20), type := 25, pos := "law.go:25", after := #[{ on := 2, ground := Ground.data }], guard := none }
def te4Op4 : Oper := { dst := some 21, op := Op.extract (Operand.tmp 17) 0, type := 22, pos := "law.go:25", after := #[{ on := 3, ground := Ground.data }], guard := none }
def te4Op5 : Oper := { dst := some 22, op := Op.extract (Operand.tmp 17) 1, type := 4, pos := "law.go:25", after := #[{ on := 3, ground := Ground.data }, { on := 7, ground := Ground.gcOnly Departure.lateStores }], guard := none }
def te4Op6 : Oper := { dst := some 8, op := Op.alloc 22, type := 0, pos := "law.go:25", after := #[], guard := none }
def te4Op7 : Oper := { dst := none, op := Op.store 22 (Operand.tmp 8) (Operand.tmp 21), type := 0, pos := "law.go:25", after := #[{ on := 6, ground := Ground.data }, { on := 4, ground := Ground.data }, { on := 2, ground := Ground.chain }, { on := 0, ground := Ground.phase }, { on := 1, ground := Ground.phase }, { on := 2, ground := Ground.phase }, { on := 3, ground := Ground.phase }, { on := 4, ground := Ground.phase }, { on := 5, ground := Ground.textOnly Departure.lateStores }, { on := 6, ground := Ground.phase }], guard := none }
def te4Op8 : Oper := { dst := some 9, op := Op.assign (Operand.tmp 22), type := 4, pos := "law.go:25", after := #[{ on := 5, ground := Ground.data }, { on := 7, ground := Ground.chain }, { on := 0, ground := Ground.phase }, { on := 1, ground := Ground.phase }, { on := 2, ground := Ground.phase }, { on := 3, ground := Ground.phase }, { on := 4, ground := Ground.phase }, { on := 5, ground := Ground.phase }, { on := 6, ground := Ground.phase }, { on := 7, ground := Ground.phase }], guard := none }
def te4Ops : Array Oper := #[te4Op0, te4Op1, te4Op2, te4Op3, te4Op4, te4Op5, te4Op6, te4Op7, te4Op8]
set_option maxRecDepth 100000 in
set_option maxHeartbeats 2000000 in
theorem te4_region (Q : Exit → Act → World → Prop) (hQ : ∀ c a w n v, Q (.panic c) (a.put (some n) v) w → Q (.panic c) a w) (u : World) (z0 z1 z4 z5 z6 z7 z8 z9 z10 z11 z12 z13 z14 z15 z16 z17 z18 z19 z20 z21 z22 : Value) (zz : List Value) (b2 b3 : Nat) (f g : Nat → Nat) (hf : ∀ i, f i < 256) (hg : ∀ i, g i < 256) (hb2 : Blk u b2 (vals .u8 32 f) 22) (nb2 : b2 ∉ ([] : List Nat)) (hb3 : Blk u b3 (vals .u8 32 g) 22) (nb3 : b3 ∉ ([] : List Nat)) (H : ∀ (n8 : Nat) (w : World), Kp [] u w → u.heap.size ≤ n8 → Blk w n8 (vals .u8 32 (byt (xm f g))) 22 → Q .normal { tmps := List.toArray (z0 :: z1 :: (.pointer (some ⟨b2, 0, none⟩)) :: (.pointer (some ⟨b3, 0, none⟩)) :: z4 :: z5 :: z6 :: z7 :: (.pointer (some ⟨n8, 0, none⟩)) :: (.bool (decide (xm f g ≠ 0))) :: z10 :: z11 :: z12 :: z13 :: z14 :: z15 :: z16 :: (.tuple #[.agg (vals .u8 32 (byt (xm f g))), .bool (decide (xm f g ≠ 0))]) :: (.agg (vals .u8 32 f)) :: (.agg (vals .u8 32 g)) :: (.tuple #[.agg (vals .u8 32 (byt (xm f g))), .bool (decide (xm f g ≠ 0))]) :: (.agg (vals .u8 32 (byt (xm f g)))) :: (.bool (decide (xm f g ≠ 0))) :: zz), defers := [] } w) :
    (Code.region 4 te4Ops false).wp Try.prog Q { tmps := List.toArray (z0 :: z1 :: (.pointer (some ⟨b2, 0, none⟩)) :: (.pointer (some ⟨b3, 0, none⟩)) :: z4 :: z5 :: z6 :: z7 :: z8 :: z9 :: z10 :: z11 :: z12 :: z13 :: z14 :: z15 :: z16 :: z17 :: z18 :: z19 :: z20 :: z21 :: z22 :: zz), defers := [] } u := by
  have _ := hQ
  have _ := u
  have _ := z0
  have _ := z1
  have _ := z4
  have _ := z5
  have _ := z6
  have _ := z7
  have _ := z8
  have _ := z9
  have _ := z10
  have _ := z11
  have _ := z12
  have _ := z13
  have _ := z14
  have _ := z15
  have _ := z16
  have _ := z17
  have _ := z18
  have _ := z19
  have _ := z20
  have _ := z21
  have _ := z22
  have _ := zz
  have _ := b2
  have _ := b3
  have _ := f
  have _ := g
  have _ := hf
  have _ := hg
  have _ := hb2
  have _ := nb2
  have _ := hb3
  have _ := nb3
  refine wp_region_list (show wpList _ te4Ops _ [te4Op0, te4Op1, te4Op2, te4Op3, te4Op4, te4Op5, te4Op6, te4Op7, te4Op8] _ _ from ?_)
  have hS : Kp [] u u := Kp.refl _ u
  refine wpList_plain rfl (fun K hK => ?_)
  refine wp_load_row 22 _ rfl b2 (by kernel_rfl) 22 _ (0, 0) _ (hS.keep _ _ _ nb2 hb2) Try.underlying22 rfl (size_by _) ?_
  have hS' := hS
  refine hK _ _ ?_
  clear hK K
  clear hS
  have hS := hS'
  clear hS'
  refine wpList_fr (a' := { tmps := List.toArray (z0 :: z1 :: (.pointer (some ⟨b2, 0, none⟩)) :: (.pointer (some ⟨b3, 0, none⟩)) :: z4 :: z5 :: z6 :: z7 :: z8 :: z9 :: z10 :: z11 :: z12 :: z13 :: z14 :: z15 :: z16 :: z17 :: (.agg (vals .u8 32 f)) :: z19 :: z20 :: z21 :: z22 :: zz), defers := [] }) (by kernel_rfl) ?_
  refine wpList_plain rfl (fun K hK => ?_)
  refine wp_load_row 22 _ rfl b3 (by kernel_rfl) 22 _ (0, 0) _ (hS.keep _ _ _ nb3 hb3) Try.underlying22 rfl (size_by _) ?_
  have hS' := hS
  refine hK _ _ ?_
  clear hK K
  clear hS
  have hS := hS'
  clear hS'
  refine wpList_fr (a' := { tmps := List.toArray (z0 :: z1 :: (.pointer (some ⟨b2, 0, none⟩)) :: (.pointer (some ⟨b3, 0, none⟩)) :: z4 :: z5 :: z6 :: z7 :: z8 :: z9 :: z10 :: z11 :: z12 :: z13 :: z14 :: z15 :: z16 :: z17 :: (.agg (vals .u8 32 f)) :: (.agg (vals .u8 32 g)) :: z20 :: z21 :: z22 :: zz), defers := [] }) (by kernel_rfl) ?_
  refine wpList_plain rfl (fun K hK => ?_)
  refine wp_call_val 11 #[.agg (vals .u8 32 f), .agg (vals .u8 32 g)] (by kernel_rfl) (.tuple #[.agg (vals .u8 32 (byt (xm f g))), .bool (decide (xm f g ≠ 0))]) (shared_c f g _ hf hg) ?_
  intro w2 hbw
  have hS' := hS.call hbw
  refine hK _ _ ?_
  clear hK K
  clear hS
  have hS := hS'
  clear hS'
  refine wpList_fr (a' := { tmps := List.toArray (z0 :: z1 :: (.pointer (some ⟨b2, 0, none⟩)) :: (.pointer (some ⟨b3, 0, none⟩)) :: z4 :: z5 :: z6 :: z7 :: z8 :: z9 :: z10 :: z11 :: z12 :: z13 :: z14 :: z15 :: z16 :: z17 :: (.agg (vals .u8 32 f)) :: (.agg (vals .u8 32 g)) :: (.tuple #[.agg (vals .u8 32 (byt (xm f g))), .bool (decide (xm f g ≠ 0))]) :: z21 :: z22 :: zz), defers := [] }) (by kernel_rfl) ?_
  refine wpList_plain rfl (fun K hK => ?_)
  refine wp_val (.tuple #[.agg (vals .u8 32 (byt (xm f g))), .bool (decide (xm f g ≠ 0))]) (by kernel_rfl) ?_
  have hS' := hS
  refine hK _ _ ?_
  clear hK K
  clear hS
  have hS := hS'
  clear hS'
  refine wpList_fr (a' := { tmps := List.toArray (z0 :: z1 :: (.pointer (some ⟨b2, 0, none⟩)) :: (.pointer (some ⟨b3, 0, none⟩)) :: z4 :: z5 :: z6 :: z7 :: z8 :: z9 :: z10 :: z11 :: z12 :: z13 :: z14 :: z15 :: z16 :: (.tuple #[.agg (vals .u8 32 (byt (xm f g))), .bool (decide (xm f g ≠ 0))]) :: (.agg (vals .u8 32 f)) :: (.agg (vals .u8 32 g)) :: (.tuple #[.agg (vals .u8 32 (byt (xm f g))), .bool (decide (xm f g ≠ 0))]) :: z21 :: z22 :: zz), defers := [] }) (by kernel_rfl) ?_
  refine wpList_plain rfl (fun K hK => ?_)
  refine wp_val (.agg (vals .u8 32 (byt (xm f g)))) (by kernel_rfl) ?_
  have hS' := hS
  refine hK _ _ ?_
  clear hK K
  clear hS
  have hS := hS'
  clear hS'
  refine wpList_fr (a' := { tmps := List.toArray (z0 :: z1 :: (.pointer (some ⟨b2, 0, none⟩)) :: (.pointer (some ⟨b3, 0, none⟩)) :: z4 :: z5 :: z6 :: z7 :: z8 :: z9 :: z10 :: z11 :: z12 :: z13 :: z14 :: z15 :: z16 :: (.tuple #[.agg (vals .u8 32 (byt (xm f g))), .bool (decide (xm f g ≠ 0))]) :: (.agg (vals .u8 32 f)) :: (.agg (vals .u8 32 g)) :: (.tuple #[.agg (vals .u8 32 (byt (xm f g))), .bool (decide (xm f g ≠ 0))]) :: (.agg (vals .u8 32 (byt (xm f g)))) :: z22 :: zz), defers := [] }) (by kernel_rfl) ?_
  refine wpList_plain rfl (fun K hK => ?_)
  refine wp_val (.bool (decide (xm f g ≠ 0))) (by kernel_rfl) ?_
  have hS' := hS
  refine hK _ _ ?_
  clear hK K
  clear hS
  have hS := hS'
  clear hS'
  refine wpList_fr (a' := { tmps := List.toArray (z0 :: z1 :: (.pointer (some ⟨b2, 0, none⟩)) :: (.pointer (some ⟨b3, 0, none⟩)) :: z4 :: z5 :: z6 :: z7 :: z8 :: z9 :: z10 :: z11 :: z12 :: z13 :: z14 :: z15 :: z16 :: (.tuple #[.agg (vals .u8 32 (byt (xm f g))), .bool (decide (xm f g ≠ 0))]) :: (.agg (vals .u8 32 f)) :: (.agg (vals .u8 32 g)) :: (.tuple #[.agg (vals .u8 32 (byt (xm f g))), .bool (decide (xm f g ≠ 0))]) :: (.agg (vals .u8 32 (byt (xm f g)))) :: (.bool (decide (xm f g ≠ 0))) :: zz), defers := [] }) (by kernel_rfl) ?_
  refine wpList_plain rfl (fun K hK => ?_)
  refine wp_new _ 22 (alloc_by _ _ _ rfl) ?_
  intro n8 w6 eb Bn8 hbw
  have hS' := hS.call hbw
  refine hK _ _ ?_
  clear hK K
  have qgn8 : u.heap.size ≤ n8 := (by rw [eb]; exact hS.size)
  have qBn8 : Blk w6 n8 (vals .u8 32 (fun _ => 0)) 22 := Bn8
  clear hS
  have gn8 := qgn8
  have Bn8 := qBn8
  have hS := hS'
  clear hS' qgn8 qBn8
  refine wpList_fr (a' := { tmps := List.toArray (z0 :: z1 :: (.pointer (some ⟨b2, 0, none⟩)) :: (.pointer (some ⟨b3, 0, none⟩)) :: z4 :: z5 :: z6 :: z7 :: (.pointer (some ⟨n8, 0, none⟩)) :: z9 :: z10 :: z11 :: z12 :: z13 :: z14 :: z15 :: z16 :: (.tuple #[.agg (vals .u8 32 (byt (xm f g))), .bool (decide (xm f g ≠ 0))]) :: (.agg (vals .u8 32 f)) :: (.agg (vals .u8 32 g)) :: (.tuple #[.agg (vals .u8 32 (byt (xm f g))), .bool (decide (xm f g ≠ 0))]) :: (.agg (vals .u8 32 (byt (xm f g)))) :: (.bool (decide (xm f g ≠ 0))) :: zz), defers := [] }) (by kernel_rfl) ?_
  refine wpList_plain rfl (fun K hK => ?_)
  refine wp_store_row 22 _ _ rfl n8 (vals .u8 32 (byt (xm f g))) (by kernel_rfl) (by kernel_rfl) 22 _ Bn8 (size_by _) (by simp only [vals_size]) (vals_one _ _ _) ?_
  have hS' := hS.new gn8 (vals .u8 32 (byt (xm f g)))
  refine hK _ _ ?_
  clear hK K
  have qgn8 : u.heap.size ≤ n8 := gn8
  have qBn8 : Blk (w6.setRow n8 (vals .u8 32 (byt (xm f g)))) n8 (vals .u8 32 (byt (xm f g))) 22 := (Bn8.row (vals .u8 32 (byt (xm f g))))
  clear hS gn8 Bn8
  have gn8 := qgn8
  have Bn8 := qBn8
  have hS := hS'
  clear hS' qgn8 qBn8
  refine wpList_fr (a' := { tmps := List.toArray (z0 :: z1 :: (.pointer (some ⟨b2, 0, none⟩)) :: (.pointer (some ⟨b3, 0, none⟩)) :: z4 :: z5 :: z6 :: z7 :: (.pointer (some ⟨n8, 0, none⟩)) :: z9 :: z10 :: z11 :: z12 :: z13 :: z14 :: z15 :: z16 :: (.tuple #[.agg (vals .u8 32 (byt (xm f g))), .bool (decide (xm f g ≠ 0))]) :: (.agg (vals .u8 32 f)) :: (.agg (vals .u8 32 g)) :: (.tuple #[.agg (vals .u8 32 (byt (xm f g))), .bool (decide (xm f g ≠ 0))]) :: (.agg (vals .u8 32 (byt (xm f g)))) :: (.bool (decide (xm f g ≠ 0))) :: zz), defers := [] }) (by kernel_rfl) ?_
  generalize (w6.setRow n8 (vals .u8 32 (byt (xm f g)))) = w7 at *
  refine wpList_plain rfl (fun K hK => ?_)
  refine wp_val (.bool (decide (xm f g ≠ 0))) (by kernel_rfl) ?_
  have hS' := hS
  refine hK _ _ ?_
  clear hK K
  have qgn8 : u.heap.size ≤ n8 := gn8
  have qBn8 : Blk w7 n8 (vals .u8 32 (byt (xm f g))) 22 := Bn8
  clear hS gn8 Bn8
  have gn8 := qgn8
  have Bn8 := qBn8
  have hS := hS'
  clear hS' qgn8 qBn8
  refine wpList_fr (a' := { tmps := List.toArray (z0 :: z1 :: (.pointer (some ⟨b2, 0, none⟩)) :: (.pointer (some ⟨b3, 0, none⟩)) :: z4 :: z5 :: z6 :: z7 :: (.pointer (some ⟨n8, 0, none⟩)) :: (.bool (decide (xm f g ≠ 0))) :: z10 :: z11 :: z12 :: z13 :: z14 :: z15 :: z16 :: (.tuple #[.agg (vals .u8 32 (byt (xm f g))), .bool (decide (xm f g ≠ 0))]) :: (.agg (vals .u8 32 f)) :: (.agg (vals .u8 32 g)) :: (.tuple #[.agg (vals .u8 32 (byt (xm f g))), .bool (decide (xm f g ≠ 0))]) :: (.agg (vals .u8 32 (byt (xm f g)))) :: (.bool (decide (xm f g ≠ 0))) :: zz), defers := [] }) (by kernel_rfl) ?_
  refine wpList_nil ?_
  exact H n8 w7 hS gn8 Bn8
def te5Op0 : Oper := { dst := some 23, op := Op.move (Operand.tmp 5), type := 4, pos := "law.go:26", after := #[], guard := none }
def te5Op1 : Oper := { dst := some 24, op := Op.move (Operand.tmp 23), type := 4, pos := "law.go:26", after := #[{ on := 0, ground := Ground.data }], guard := none }
def te5Op2 : Oper := { dst := some 25, op := Op.load 22 (Operand.tmp 6), type := 22, pos := "law.go:26", after := #[{ on := 1, ground := Ground.guard }], guard := some (1, true) }
def te5Op3 : Oper := { dst := some 26, op := Op.load 22 (Operand.tmp 7), type := 22, pos := "law.go:26", after := #[{ on := 1, ground := Ground.guard }], guard := some (1, true) }
def te5Op4 : Oper := { dst := some 27, op := Op.binOp BinOp.eql 22 (Operand.tmp 25) (Operand.tmp 26) 22, type := 4, pos := "law.go:26", after := #[{ on := 2, ground := Ground.data }, { on := 3, ground := Ground.data }, { on := 1, ground := Ground.guard }], guard := some (1, true) }
def te5Op5 : Oper := { dst := some 28, op := Op.pick (Operand.tmp 24) (Operand.tmp 27) (Operand.const (Value.bool false)), type := 4, pos := "law.go:26", after := #[{ on := 1, ground := Ground.data }, { on := 4, ground := Ground.data }], guard := none }
def te5Op6 : Oper := { dst := some 29, op := Op.move (Operand.tmp 28), type := 4, pos := "law.go:26", after := #[{ on := 5, ground := Ground.data }, { on := 1, ground := Ground.chain }], guard := none }
def te5Op7 : Oper := { dst := some 30, op := Op.load 22 (Operand.tmp 8), type := 22, pos := "law.go:26", after := #[{ on := 6, ground := Ground.guard }], guard := some (6, true) }
def te5Op8 : Oper := { dst := some 31, op := Op.load 22 (Operand.tmp 7), type := 22, pos := "law.go:26", after := #[{ on := 6, ground := Ground.guard }], guard := some (6, true) }
def te5Op9 : Oper := { dst := some 32, op := Op.binOp BinOp.eql 22 (Operand.tmp 30) (Operand.tmp 31) 22, type := 4, pos := "law.go:26", after := #[{ on := 7, ground := Ground.data }, { on := 8, ground := Ground.data }, { on := 6, ground := Ground.guard }], guard := some (6, true) }
def te5Op10 : Oper := { dst := some 33, op := Op.pick (Operand.tmp 29) (Operand.tmp 32) (Operand.const (Value.bool false)), type := 4, pos := "law.go:26", after := #[{ on := 6, ground := Ground.data }, { on := 9, ground := Ground.data }], guard := none }
def te5Op11 : Oper := { dst := some 34, op := Op.move (Operand.tmp 33), type := 4, pos := "law.go:26", after := #[{ on := 10, ground := Ground.data }, { on := 6, ground := Ground.chain }], guard := none }
def te5Op12 : Oper := { dst := some 35, op := Op.move (Operand.tmp 9), type := 4, pos := "law.go:26", after := #[{ on := 11, ground := Ground.guard }], guard := some (11, true) }
def te5Op13 : Oper := { dst := some 36, op := Op.load 22 (Operand.tmp 7), type := 22, pos := "law.go:26", after := #[{ on := 11, ground := Ground.guard }], guard := some (11, true) }
def te5Op14 : Oper := { dst := some 37, op := Op.build 22 #[], type := 22, pos := "law.go:26", after := #[{ on := 11, ground := Ground.guard }], guard := some (11, true) }
def te5Op15 : Oper := { dst := some 38, op := Op.binOp BinOp.neq 22 (Operand.tmp 36) (Operand.tmp 37) 22, type := 4, pos := "law.go:26", after := #[{ on := 13, ground := Ground.data }, { on := 14, ground := Ground.data }, { on := 11, ground := Ground.guard }], guard := some (11, true) }
def te5Op16 : Oper := { dst := some 39, op := Op.binOp BinOp.eql 4 (Operand.tmp 35) (Operand.tmp 38) 4, type := 4, pos := "law.go:26", after := #[{ on := 12, ground := Ground.data }, { on := 15, ground := Ground.data }, { on := 11, ground := Ground.guard }], guard := some (11, true) }
def te5Op17 : Oper := { dst := some 40, op := Op.pick (Operand.tmp 34) (Operand.tmp 39) (Operand.const (Value.bool false)), type := 4, pos := "law.go:26", after := #[{ on := 11, ground := Ground.data }, { on := 16, ground := Ground.data }], guard := none }
def te5Op18 : Oper := { dst := some 41, op := Op.move (Operand.tmp 40), type := 4, pos := "law.go:26", after := #[{ on := 17, ground := Ground.data }, { on := 11, ground := Ground.chain }], guard := none }
def te5Op19 : Oper := { dst := some 42, op := Op.load 22 (Operand.tmp 2), type := 22, pos := "law.go:26", after := #[{ on := 18, ground := Ground.guard }], guard := some (18, true) }
def te5Op20 : Oper := { dst := some 43, op := Op.call { callee := Callee.value (Operand.func 12), args := #[Operand.tmp 42], argTypes := #[22] }, type := 22, pos := "law.go:26", after := #[{ on := 19, ground := Ground.data }, { on := 18, ground := Ground.chain }, { on := 18, ground := Ground.guard }], guard := some (18, true) }
def te5Op21 : Oper := { dst := some 44, op := Op.load 22 (Operand.tmp 2), type := 22, pos := "law.go:26", after := #[{ on := 18, ground := Ground.guard }], guard := some (18, true) }
def te5Op22 : Oper := { dst := some 45, op := Op.build 22 #[(0, Operand.const (Value.int IntKind.u8 9))], type := 22, pos := "law.go:26", after := #[{ on := 18, ground := Ground.guard }], guard := some (18, true) }
def te5Op23 : Oper := { dst := some 46, op := Op.call { callee := Callee.value (Operand.func 10), args := #[Operand.tmp 44, Operand.tmp 45], argTypes := #[22, 22] }, type := 22, pos := "law.go:26", after := #[{ on := 21, ground := Ground.data }, { on := 22, ground := Ground.data }, { on := 20, ground := Ground.chain }, { on := 18, ground := Ground.guard }], guard := some (18, true) }
def te5Op24 : Oper := { dst := some 47, op := Op.binOp BinOp.eql 22 (Operand.tmp 43) (Operand.tmp 46) 22, type := 4, pos := "law.go:26", after := #[{ on := 20, ground := Ground.data }, { on := 23, ground := Ground.data }, { on := 18, ground := Ground.guard }], guard := some (18, true) }
def te5Op25 : Oper := { dst := some 48, op := Op.pick (Operand.tmp 41) (Operand.tmp 47) (Operand.const (Value.bool false)), type := 4, pos := "law.go:26", after := #[{ on := 18, ground := Ground.data }, { on := 24, ground := Ground.data }], guard := none }
def te5Op26 : Oper := { dst := some 4, op := Op.assign (Operand.tmp 48), type := 4, pos := "law.go:26", after := #[{ on := 25, ground := Ground.data }, { on := 23, ground := Ground.chain }, { on := 0, ground := Ground.phase }, { on := 1, ground := Ground.phase }, { on := 2, ground := Ground.phase }, { on := 3, ground := Ground.phase }, { on := 4, ground := Ground.phase }, { on := 5, ground := Ground.phase }, { on := 6, ground := Ground.phase }, { on := 7, ground := Ground.phase }, { on := 8, ground := Ground.phase }, { on := 9, ground := Ground.phase }, { on := 10, ground := Ground.phase }, { on := 11, ground := Ground.phase }, { on := 12, ground := Ground.phase }, { on := 13, ground := Ground.phase }, { on := 14, ground := Ground.phase }, { on := 15, ground := Ground.phase }, { on := 16, ground := Ground.phase }, { on := 17, ground := Ground.phase }, { on := 18, ground := Ground.phase }, { on := 19, ground := Ground.phase }, { on := 20, ground := Ground.phase }, { on := 21, ground := Ground.phase }, { on := 22, ground := Ground.phase }, { on := 23, ground := Ground.phase }, { on := 24, ground := Ground.phase }, { on := 25, ground := Ground.phase }], guard := none }
def te5Ops : Array Oper := #[te5Op0, te5Op1, te5Op2, te5Op3, te5Op4, te5Op5, te5Op6, te5Op7, te5Op8, te5Op9, te5Op10, te5Op11, te5Op12, te5Op13, te5Op14, te5Op15, te5Op16, te5Op17, te5Op18, te5Op19, te5Op20, te5Op21, te5Op22, te5Op23, te5Op24, te5Op25, te5Op26]
structure te5C (Q : Exit → Act → World → Prop) (u : World) (z0 z1 z3 z4 z10 z11 z12 z13 z14 z15 z16 z17 z18 z19 z20 z21 z22 z23 z24 z25 z26 z27 z28 z29 z30 z31 z32 z33 z34 z35 z36 z37 z38 z39 z40 z41 z42 z43 z44 z45 z46 z47 z48 : Value) (b2 b6 b7 b8 : Nat) (f m : Nat → Nat) (bb : Bool) : Prop where
  hQ : ∀ c a w n v, Q (.panic c) (a.put (some n) v) w → Q (.panic c) a w
  hf : ∀ i, f i < 256
  hbb : (!sameB m (fun _ => 0)) = bb
  hb2 : Blk u b2 (vals .u8 32 f) 22
  nb2 : b2 ∉ ([] : List Nat)
  hb6 : Blk u b6 (vals .u8 32 m) 22
  nb6 : b6 ∉ ([] : List Nat)
  hb7 : Blk u b7 (vals .u8 32 m) 22
  nb7 : b7 ∉ ([] : List Nat)
  hb8 : Blk u b8 (vals .u8 32 m) 22
  nb8 : b8 ∉ ([] : List Nat)
  H : ∀ (w : World), Kp [] u w → Q .normal { tmps := List.toArray (z0 :: z1 :: (.pointer (some ⟨b2, 0, none⟩)) :: z3 :: (.bool true) :: (.bool true) :: (.pointer (some ⟨b6, 0, none⟩)) :: (.pointer (some ⟨b7, 0, none⟩)) :: (.pointer (some ⟨b8, 0, none⟩)) :: (.bool bb) :: z10 :: z11 :: z12 :: z13 :: z14 :: z15 :: z16 :: z17 :: z18 :: z19 :: z20 :: z21 :: z22 :: (.bool true) :: (.bool true) :: (.agg (vals .u8 32 m)) :: (.agg (vals .u8 32 m)) :: (.bool true) :: (.bool true) :: (.bool true) :: (.agg (vals .u8 32 m)) :: (.agg (vals .u8 32 m)) :: (.bool true) :: (.bool true) :: (.bool true) :: (.bool bb) :: (.agg (vals .u8 32 m)) :: (.agg (vals .u8 32 (fun _ => 0))) :: (.bool bb) :: (.bool true) :: (.bool true) :: (.bool true) :: (.agg (vals .u8 32 f)) :: (.agg (vals .u8 32 (byt (xm f nineB)))) :: (.agg (vals .u8 32 f)) :: (.agg (vals .u8 32 nineB)) :: (.agg (vals .u8 32 (byt (xm f nineB)))) :: (.bool true) :: (.bool true) :: []), defers := [] } w
section
variable {Q : Exit → Act → World → Prop} {u : World} {z0 z1 z3 z4 z10 z11 z12 z13 z14 z15 z16 z17 z18 z19 z20 z21 z22 z23 z24 z25 z26 z27 z28 z29 z30 z31 z32 z33 z34 z35 z36 z37 z38 z39 z40 z41 z42 z43 z44 z45 z46 z47 z48 : Value} {b2 b6 b7 b8 : Nat} {f m : Nat → Nat} {bb : Bool}
set_option maxRecDepth 100000 in
set_option maxHeartbeats 2000000 in
theorem te5_0 (C : te5C Q u z0 z1 z3 z4 z10 z11 z12 z13 z14 z15 z16 z17 z18 z19 z20 z21 z22 z23 z24 z25 z26 z27 z28 z29 z30 z31 z32 z33 z34 z35 z36 z37 z38 z39 z40 z41 z42 z43 z44 z45 z46 z47 z48 b2 b6 b7 b8 f m bb) (w : World) (hS : Kp [] u w) :
    wpAnyH Try.prog .any te5Ops Q (Kp [] u) 0 (List.toArray (true :: true :: true :: true :: true :: true :: true :: true :: true :: true :: true :: true :: true :: true :: true :: true :: true :: true :: true :: true :: true :: true :: true :: true :: true :: true :: true :: [])) { tmps := List.toArray (z0 :: z1 :: (.pointer (some ⟨b2, 0, none⟩)) :: z3 :: (.bool true) :: (.bool true) :: (.pointer (some ⟨b6, 0, none⟩)) :: (.pointer (some ⟨b7, 0, none⟩)) :: (.pointer (some ⟨b8, 0, none⟩)) :: (.bool bb) :: z10 :: z11 :: z12 :: z13 :: z14 :: z15 :: z16 :: z17 :: z18 :: z19 :: z20 :: z21 :: z22 :: (.bool true) :: (.bool true) :: (.agg (vals .u8 32 m)) :: (.agg (vals .u8 32 m)) :: (.bool true) :: (.bool true) :: (.bool true) :: (.agg (vals .u8 32 m)) :: (.agg (vals .u8 32 m)) :: (.bool true) :: (.bool true) :: (.bool true) :: (.bool bb) :: (.agg (vals .u8 32 m)) :: (.agg (vals .u8 32 (fun _ => 0))) :: (.bool bb) :: (.bool true) :: (.bool true) :: (.bool true) :: (.agg (vals .u8 32 f)) :: (.agg (vals .u8 32 (byt (xm f nineB)))) :: (.agg (vals .u8 32 f)) :: (.agg (vals .u8 32 nineB)) :: (.agg (vals .u8 32 (byt (xm f nineB)))) :: (.bool true) :: (.bool true) :: []), defers := [] } w := by
  exact wpAnyH_done (by kernel_rfl) (C.H  w hS ) _
set_option maxRecDepth 100000 in
set_option maxHeartbeats 2000000 in
theorem te5_1 (C : te5C Q u z0 z1 z3 z4 z10 z11 z12 z13 z14 z15 z16 z17 z18 z19 z20 z21 z22 z23 z24 z25 z26 z27 z28 z29 z30 z31 z32 z33 z34 z35 z36 z37 z38 z39 z40 z41 z42 z43 z44 z45 z46 z47 z48 b2 b6 b7 b8 f m bb) (w : World) (hS : Kp [] u w) :
    wpAnyH Try.prog .any te5Ops Q (Kp [] u) 4 (List.toArray (true :: true :: true :: true :: true :: true :: true :: true :: true :: true :: true :: true :: true :: true :: true :: true :: true :: true :: true :: true :: true :: true :: true :: false :: false :: false :: false :: [])) { tmps := List.toArray (z0 :: z1 :: (.pointer (some ⟨b2, 0, none⟩)) :: z3 :: z4 :: (.bool true) :: (.pointer (some ⟨b6, 0, none⟩)) :: (.pointer (some ⟨b7, 0, none⟩)) :: (.pointer (some ⟨b8, 0, none⟩)) :: (.bool bb) :: z10 :: z11 :: z12 :: z13 :: z14 :: z15 :: z16 :: z17 :: z18 :: z19 :: z20 :: z21 :: z22 :: (.bool true) :: (.bool true) :: (.agg (vals .u8 32 m)) :: (.agg (vals .u8 32 m)) :: (.bool true) :: (.bool true) :: (.bool true) :: (.agg (vals .u8 32 m)) :: (.agg (vals .u8 32 m)) :: (.bool true) :: (.bool true) :: (.bool true) :: (.bool bb) :: (.agg (vals .u8 32 m)) :: (.agg (vals .u8 32 (fun _ => 0))) :: (.bool bb) :: (.bool true) :: (.bool true) :: (.bool true) :: (.agg (vals .u8 32 f)) :: (.agg (vals .u8 32 (byt (xm f nineB)))) :: (.agg (vals .u8 32 f)) :: (.agg (vals .u8 32 nineB)) :: z46 :: z47 :: z48 :: []), defers := [] } w := by
  obtain ⟨hQ, hf, hbb, hb2, nb2, hb6, nb6, hb7, nb7, hb8, nb8, _⟩ := id C
  refine wpAnyH_ready (rs := [23]) (by kernel_rfl) (by simp) ?_
  refine AllReadyH.cons (o := te5Op23) rfl (fun K hK => ?_) AllReadyH.nil
  rw [if_pos (by rfl)]
  refine wp_call_val 10 #[.agg (vals .u8 32 f), .agg (vals .u8 32 nineB)] (by kernel_rfl) (.agg (vals .u8 32 (byt (xm f nineB)))) (rmul_c10 f nineB _ hf nineB_lt) ?_
  intro w' hbw
  have hS' := hS.call hbw
  refine hK.out _ _ hS' (fun _ => ?_)
  refine wpAnyH_take (i := 24) (oi := te5Op24) (v := .bool true) rfl (by kernel_rfl) (by kernel_rfl) (by kernel_rfl) (fun _ _ _ => hQ _ _ _ _ _) (yeq (by kernel_rfl) _ _ (byt (xm f nineB)) (byt (xm f nineB)) rfl (by kernel_rfl) (by kernel_rfl) (same_self _)) hS' ?_
  refine wpAnyH_take (i := 25) (oi := te5Op25) (v := .bool true) rfl (by kernel_rfl) (by kernel_rfl) (by kernel_rfl) (fun _ _ _ => hQ _ _ _ _ _) (Or.inl ⟨by kernel_rfl, fun _ _ => by kernel_rfl⟩) hS' ?_
  refine wpAnyH_take (i := 26) (oi := te5Op26) (v := .bool true) rfl (by kernel_rfl) (by kernel_rfl) (by kernel_rfl) (fun _ _ _ => hQ _ _ _ _ _) (Or.inl ⟨by kernel_rfl, fun _ _ => by kernel_rfl⟩) hS' ?_
  exact wpAnyH_at (by kernel_rfl) (by kernel_rfl) (te5_0 C w' hS' )
set_option maxRecDepth 100000 in
set_option maxHeartbeats 2000000 in
theorem te5_2 (C : te5C Q u z0 z1 z3 z4 z10 z11 z12 z13 z14 z15 z16 z17 z18 z19 z20 z21 z22 z23 z24 z25 z26 z27 z28 z29 z30 z31 z32 z33 z34 z35 z36 z37 z38 z39 z40 z41 z42 z43 z44 z45 z46 z47 z48 b2 b6 b7 b8 f m bb) (w : World) (hS : Kp [] u w) :
    wpAnyH Try.prog .any te5Ops Q (Kp [] u) 5 (List.toArray (true :: true :: true :: true :: true :: true :: true :: true :: true :: true :: true :: true :: true :: true :: true :: true :: true :: true :: true :: true :: false :: true :: true :: false :: false :: false :: false :: [])) { tmps := List.toArray (z0 :: z1 :: (.pointer (some ⟨b2, 0, none⟩)) :: z3 :: z4 :: (.bool true) :: (.pointer (some ⟨b6, 0, none⟩)) :: (.pointer (some ⟨b7, 0, none⟩)) :: (.pointer (some ⟨b8, 0, none⟩)) :: (.bool bb) :: z10 :: z11 :: z12 :: z13 :: z14 :: z15 :: z16 :: z17 :: z18 :: z19 :: z20 :: z21 :: z22 :: (.bool true) :: (.bool true) :: (.agg (vals .u8 32 m)) :: (.agg (vals .u8 32 m)) :: (.bool true) :: (.bool true) :: (.bool true) :: (.agg (vals .u8 32 m)) :: (.agg (vals .u8 32 m)) :: (.bool true) :: (.bool true) :: (.bool true) :: (.bool bb) :: (.agg (vals .u8 32 m)) :: (.agg (vals .u8 32 (fun _ => 0))) :: (.bool bb) :: (.bool true) :: (.bool true) :: (.bool true) :: (.agg (vals .u8 32 f)) :: z43 :: (.agg (vals .u8 32 f)) :: (.agg (vals .u8 32 nineB)) :: z46 :: z47 :: z48 :: []), defers := [] } w := by
  obtain ⟨hQ, hf, hbb, hb2, nb2, hb6, nb6, hb7, nb7, hb8, nb8, _⟩ := id C
  refine wpAnyH_ready (rs := [20]) (by kernel_rfl) (by simp) ?_
  refine AllReadyH.cons (o := te5Op20) rfl (fun K hK => ?_) AllReadyH.nil
  rw [if_pos (by rfl)]
  refine wp_call_val 12 #[.agg (vals .u8 32 f)] (by kernel_rfl) (.agg (vals .u8 32 (byt (xm f nineB)))) (public_c f _ hf) ?_
  intro w' hbw
  have hS' := hS.call hbw
  refine hK.out _ _ hS' (fun _ => ?_)
  exact wpAnyH_at (by kernel_rfl) (by kernel_rfl) (te5_1 C w' hS' )
end
set_option maxRecDepth 100000 in
set_option maxHeartbeats 2000000 in
theorem te5_region (Q : Exit → Act → World → Prop) (hQ : ∀ c a w n v, Q (.panic c) (a.put (some n) v) w → Q (.panic c) a w) (u : World) (z0 z1 z3 z4 z10 z11 z12 z13 z14 z15 z16 z17 z18 z19 z20 z21 z22 z23 z24 z25 z26 z27 z28 z29 z30 z31 z32 z33 z34 z35 z36 z37 z38 z39 z40 z41 z42 z43 z44 z45 z46 z47 z48 : Value) (b2 b6 b7 b8 : Nat) (f m : Nat → Nat) (bb : Bool) (hf : ∀ i, f i < 256) (hbb : (!sameB m (fun _ => 0)) = bb) (hb2 : Blk u b2 (vals .u8 32 f) 22) (nb2 : b2 ∉ ([] : List Nat)) (hb6 : Blk u b6 (vals .u8 32 m) 22) (nb6 : b6 ∉ ([] : List Nat)) (hb7 : Blk u b7 (vals .u8 32 m) 22) (nb7 : b7 ∉ ([] : List Nat)) (hb8 : Blk u b8 (vals .u8 32 m) 22) (nb8 : b8 ∉ ([] : List Nat)) (H : ∀ (w : World), Kp [] u w → Q .normal { tmps := List.toArray (z0 :: z1 :: (.pointer (some ⟨b2, 0, none⟩)) :: z3 :: (.bool true) :: (.bool true) :: (.pointer (some ⟨b6, 0, none⟩)) :: (.pointer (some ⟨b7, 0, none⟩)) :: (.pointer (some ⟨b8, 0, none⟩)) :: (.bool bb) :: z10 :: z11 :: z12 :: z13 :: z14 :: z15 :: z16 :: z17 :: z18 :: z19 :: z20 :: z21 :: z22 :: (.bool true) :: (.bool true) :: (.agg (vals .u8 32 m)) :: (.agg (vals .u8 32 m)) :: (.bool true) :: (.bool true) :: (.bool true) :: (.agg (vals .u8 32 m)) :: (.agg (vals .u8 32 m)) :: (.bool true) :: (.bool true) :: (.bool true) :: (.bool bb) :: (.agg (vals .u8 32 m)) :: (.agg (vals .u8 32 (fun _ => 0))) :: (.bool bb) :: (.bool true) :: (.bool true) :: (.bool true) :: (.agg (vals .u8 32 f)) :: (.agg (vals .u8 32 (byt (xm f nineB)))) :: (.agg (vals .u8 32 f)) :: (.agg (vals .u8 32 nineB)) :: (.agg (vals .u8 32 (byt (xm f nineB)))) :: (.bool true) :: (.bool true) :: []), defers := [] } w) :
    (Code.region 5 te5Ops true).wp Try.prog Q { tmps := List.toArray (z0 :: z1 :: (.pointer (some ⟨b2, 0, none⟩)) :: z3 :: z4 :: (.bool true) :: (.pointer (some ⟨b6, 0, none⟩)) :: (.pointer (some ⟨b7, 0, none⟩)) :: (.pointer (some ⟨b8, 0, none⟩)) :: (.bool bb) :: z10 :: z11 :: z12 :: z13 :: z14 :: z15 :: z16 :: z17 :: z18 :: z19 :: z20 :: z21 :: z22 :: z23 :: z24 :: z25 :: z26 :: z27 :: z28 :: z29 :: z30 :: z31 :: z32 :: z33 :: z34 :: z35 :: z36 :: z37 :: z38 :: z39 :: z40 :: z41 :: z42 :: z43 :: z44 :: z45 :: z46 :: z47 :: z48 :: []), defers := [] } u := by
  have C : te5C Q u z0 z1 z3 z4 z10 z11 z12 z13 z14 z15 z16 z17 z18 z19 z20 z21 z22 z23 z24 z25 z26 z27 z28 z29 z30 z31 z32 z33 z34 z35 z36 z37 z38 z39 z40 z41 z42 z43 z44 z45 z46 z47 z48 b2 b6 b7 b8 f m bb := ⟨hQ, hf, hbb, hb2, nb2, hb6, nb6, hb7, nb7, hb8, nb8, H⟩
  refine wp_region_held_drew (S := (Kp [] u)) (by kernel_rfl) (Kp.drew _ u) (fun hS' => ?_)
  refine wpAnyH_take (i := 0) (oi := te5Op0) (v := .bool true) rfl (by kernel_rfl) (by kernel_rfl) (by kernel_rfl) (fun _ _ _ => hQ _ _ _ _ _) (Or.inl ⟨by kernel_rfl, fun _ _ => by kernel_rfl⟩) hS' ?_
  refine wpAnyH_take (i := 1) (oi := te5Op1) (v := .bool true) rfl (by kernel_rfl) (by kernel_rfl) (by kernel_rfl) (fun _ _ _ => hQ _ _ _ _ _) (Or.inl ⟨by kernel_rfl, fun _ _ => by kernel_rfl⟩) hS' ?_
  refine wpAnyH_take (i := 2) (oi := te5Op2) (v := .agg (vals .u8 32 m)) rfl (by kernel_rfl) (by kernel_rfl) (by kernel_rfl) (fun _ _ _ => hQ _ _ _ _ _) (yields_S (fun _ h => h.keep _ _ _ nb6 hb6) (by kernel_rfl) 22 _ rfl (by kernel_rfl) _ Try.underlying22 rfl (size_by _)) hS' ?_
  refine wpAnyH_at (listed' := (List.toArray (true :: true :: true :: false :: false :: false :: false :: false :: false :: false :: false :: false :: false :: false :: false :: false :: false :: false :: false :: false :: false :: false :: false :: false :: false :: false :: false :: []))) (a' := { tmps := List.toArray (z0 :: z1 :: (.pointer (some ⟨b2, 0, none⟩)) :: z3 :: z4 :: (.bool true) :: (.pointer (some ⟨b6, 0, none⟩)) :: (.pointer (some ⟨b7, 0, none⟩)) :: (.pointer (some ⟨b8, 0, none⟩)) :: (.bool bb) :: z10 :: z11 :: z12 :: z13 :: z14 :: z15 :: z16 :: z17 :: z18 :: z19 :: z20 :: z21 :: z22 :: (.bool true) :: (.bool true) :: (.agg (vals .u8 32 m)) :: z26 :: z27 :: z28 :: z29 :: z30 :: z31 :: z32 :: z33 :: z34 :: z35 :: z36 :: z37 :: z38 :: z39 :: z40 :: z41 :: z42 :: z43 :: z44 :: z45 :: z46 :: z47 :: z48 :: []), defers := [] }) (by kernel_rfl) (by kernel_rfl) ?_
  refine wpAnyH_take (i := 3) (oi := te5Op3) (v := .agg (vals .u8 32 m)) rfl (by kernel_rfl) (by kernel_rfl) (by kernel_rfl) (fun _ _ _ => hQ _ _ _ _ _) (yields_S (fun _ h => h.keep _ _ _ nb7 hb7) (by kernel_rfl) 22 _ rfl (by kernel_rfl) _ Try.underlying22 rfl (size_by _)) hS' ?_
  refine wpAnyH_take (i := 4) (oi := te5Op4) (v := .bool true) rfl (by kernel_rfl) (by kernel_rfl) (by kernel_rfl) (fun _ _ _ => hQ _ _ _ _ _) (yeq (by kernel_rfl) _ _ m m rfl (by kernel_rfl) (by kernel_rfl) (same_self _)) hS' ?_
  refine wpAnyH_take (i := 5) (oi := te5Op5) (v := .bool true) rfl (by kernel_rfl) (by kernel_rfl) (by kernel_rfl) (fun _ _ _ => hQ _ _ _ _ _) (Or.inl ⟨by kernel_rfl, fun _ _ => by kernel_rfl⟩) hS' ?_
  refine wpAnyH_at (listed' := (List.toArray (true :: true :: true :: true :: true :: true :: false :: false :: false :: false :: false :: false :: false :: false :: false :: false :: false :: false :: false :: false :: false :: false :: false :: false :: false :: false :: false :: []))) (a' := { tmps := List.toArray (z0 :: z1 :: (.pointer (some ⟨b2, 0, none⟩)) :: z3 :: z4 :: (.bool true) :: (.pointer (some ⟨b6, 0, none⟩)) :: (.pointer (some ⟨b7, 0, none⟩)) :: (.pointer (some ⟨b8, 0, none⟩)) :: (.bool bb) :: z10 :: z11 :: z12 :: z13 :: z14 :: z15 :: z16 :: z17 :: z18 :: z19 :: z20 :: z21 :: z22 :: (.bool true) :: (.bool true) :: (.agg (vals .u8 32 m)) :: (.agg (vals .u8 32 m)) :: (.bool true) :: (.bool true) :: z29 :: z30 :: z31 :: z32 :: z33 :: z34 :: z35 :: z36 :: z37 :: z38 :: z39 :: z40 :: z41 :: z42 :: z43 :: z44 :: z45 :: z46 :: z47 :: z48 :: []), defers := [] }) (by kernel_rfl) (by kernel_rfl) ?_
  refine wpAnyH_take (i := 6) (oi := te5Op6) (v := .bool true) rfl (by kernel_rfl) (by kernel_rfl) (by kernel_rfl) (fun _ _ _ => hQ _ _ _ _ _) (Or.inl ⟨by kernel_rfl, fun _ _ => by kernel_rfl⟩) hS' ?_
  refine wpAnyH_take (i := 7) (oi := te5Op7) (v := .agg (vals .u8 32 m)) rfl (by kernel_rfl) (by kernel_rfl) (by kernel_rfl) (fun _ _ _ => hQ _ _ _ _ _) (yields_S (fun _ h => h.keep _ _ _ nb8 hb8) (by kernel_rfl) 22 _ rfl (by kernel_rfl) _ Try.underlying22 rfl (size_by _)) hS' ?_
  refine wpAnyH_take (i := 8) (oi := te5Op8) (v := .agg (vals .u8 32 m)) rfl (by kernel_rfl) (by kernel_rfl) (by kernel_rfl) (fun _ _ _ => hQ _ _ _ _ _) (yields_S (fun _ h => h.keep _ _ _ nb7 hb7) (by kernel_rfl) 22 _ rfl (by kernel_rfl) _ Try.underlying22 rfl (size_by _)) hS' ?_
  refine wpAnyH_at (listed' := (List.toArray (true :: true :: true :: true :: true :: true :: true :: true :: true :: false :: false :: false :: false :: false :: false :: false :: false :: false :: false :: false :: false :: false :: false :: false :: false :: false :: false :: []))) (a' := { tmps := List.toArray (z0 :: z1 :: (.pointer (some ⟨b2, 0, none⟩)) :: z3 :: z4 :: (.bool true) :: (.pointer (some ⟨b6, 0, none⟩)) :: (.pointer (some ⟨b7, 0, none⟩)) :: (.pointer (some ⟨b8, 0, none⟩)) :: (.bool bb) :: z10 :: z11 :: z12 :: z13 :: z14 :: z15 :: z16 :: z17 :: z18 :: z19 :: z20 :: z21 :: z22 :: (.bool true) :: (.bool true) :: (.agg (vals .u8 32 m)) :: (.agg (vals .u8 32 m)) :: (.bool true) :: (.bool true) :: (.bool true) :: (.agg (vals .u8 32 m)) :: (.agg (vals .u8 32 m)) :: z32 :: z33 :: z34 :: z35 :: z36 :: z37 :: z38 :: z39 :: z40 :: z41 :: z42 :: z43 :: z44 :: z45 :: z46 :: z47 :: z48 :: []), defers := [] }) (by kernel_rfl) (by kernel_rfl) ?_
  refine wpAnyH_take (i := 9) (oi := te5Op9) (v := .bool true) rfl (by kernel_rfl) (by kernel_rfl) (by kernel_rfl) (fun _ _ _ => hQ _ _ _ _ _) (yeq (by kernel_rfl) _ _ m m rfl (by kernel_rfl) (by kernel_rfl) (same_self _)) hS' ?_
  refine wpAnyH_take (i := 10) (oi := te5Op10) (v := .bool true) rfl (by kernel_rfl) (by kernel_rfl) (by kernel_rfl) (fun _ _ _ => hQ _ _ _ _ _) (Or.inl ⟨by kernel_rfl, fun _ _ => by kernel_rfl⟩) hS' ?_
  refine wpAnyH_take (i := 11) (oi := te5Op11) (v := .bool true) rfl (by kernel_rfl) (by kernel_rfl) (by kernel_rfl) (fun _ _ _ => hQ _ _ _ _ _) (Or.inl ⟨by kernel_rfl, fun _ _ => by kernel_rfl⟩) hS' ?_
  refine wpAnyH_at (listed' := (List.toArray (true :: true :: true :: true :: true :: true :: true :: true :: true :: true :: true :: true :: false :: false :: false :: false :: false :: false :: false :: false :: false :: false :: false :: false :: false :: false :: false :: []))) (a' := { tmps := List.toArray (z0 :: z1 :: (.pointer (some ⟨b2, 0, none⟩)) :: z3 :: z4 :: (.bool true) :: (.pointer (some ⟨b6, 0, none⟩)) :: (.pointer (some ⟨b7, 0, none⟩)) :: (.pointer (some ⟨b8, 0, none⟩)) :: (.bool bb) :: z10 :: z11 :: z12 :: z13 :: z14 :: z15 :: z16 :: z17 :: z18 :: z19 :: z20 :: z21 :: z22 :: (.bool true) :: (.bool true) :: (.agg (vals .u8 32 m)) :: (.agg (vals .u8 32 m)) :: (.bool true) :: (.bool true) :: (.bool true) :: (.agg (vals .u8 32 m)) :: (.agg (vals .u8 32 m)) :: (.bool true) :: (.bool true) :: (.bool true) :: z35 :: z36 :: z37 :: z38 :: z39 :: z40 :: z41 :: z42 :: z43 :: z44 :: z45 :: z46 :: z47 :: z48 :: []), defers := [] }) (by kernel_rfl) (by kernel_rfl) ?_
  refine wpAnyH_take (i := 12) (oi := te5Op12) (v := .bool bb) rfl (by kernel_rfl) (by kernel_rfl) (by kernel_rfl) (fun _ _ _ => hQ _ _ _ _ _) (Or.inl ⟨by kernel_rfl, fun _ _ => by kernel_rfl⟩) hS' ?_
  refine wpAnyH_take (i := 13) (oi := te5Op13) (v := .agg (vals .u8 32 m)) rfl (by kernel_rfl) (by kernel_rfl) (by kernel_rfl) (fun _ _ _ => hQ _ _ _ _ _) (yields_S (fun _ h => h.keep _ _ _ nb7 hb7) (by kernel_rfl) 22 _ rfl (by kernel_rfl) _ Try.underlying22 rfl (size_by _)) hS' ?_
  refine wpAnyH_take (i := 14) (oi := te5Op14) (v := .agg (vals .u8 32 (fun _ => 0))) rfl (by kernel_rfl) (by kernel_rfl) (by kernel_rfl) (fun _ _ _ => hQ _ _ _ _ _) (Or.inl ⟨by kernel_rfl, fun _ _ => by kernel_rfl⟩) hS' ?_
  refine wpAnyH_at (listed' := (List.toArray (true :: true :: true :: true :: true :: true :: true :: true :: true :: true :: true :: true :: true :: true :: true :: false :: false :: false :: false :: false :: false :: false :: false :: false :: false :: false :: false :: []))) (a' := { tmps := List.toArray (z0 :: z1 :: (.pointer (some ⟨b2, 0, none⟩)) :: z3 :: z4 :: (.bool true) :: (.pointer (some ⟨b6, 0, none⟩)) :: (.pointer (some ⟨b7, 0, none⟩)) :: (.pointer (some ⟨b8, 0, none⟩)) :: (.bool bb) :: z10 :: z11 :: z12 :: z13 :: z14 :: z15 :: z16 :: z17 :: z18 :: z19 :: z20 :: z21 :: z22 :: (.bool true) :: (.bool true) :: (.agg (vals .u8 32 m)) :: (.agg (vals .u8 32 m)) :: (.bool true) :: (.bool true) :: (.bool true) :: (.agg (vals .u8 32 m)) :: (.agg (vals .u8 32 m)) :: (.bool true) :: (.bool true) :: (.bool true) :: (.bool bb) :: (.agg (vals .u8 32 m)) :: (.agg (vals .u8 32 (fun _ => 0))) :: z38 :: z39 :: z40 :: z41 :: z42 :: z43 :: z44 :: z45 :: z46 :: z47 :: z48 :: []), defers := [] }) (by kernel_rfl) (by kernel_rfl) ?_
  refine wpAnyH_take (i := 15) (oi := te5Op15) (v := .bool bb) rfl (by kernel_rfl) (by kernel_rfl) (by kernel_rfl) (fun _ _ _ => hQ _ _ _ _ _) (yne (by kernel_rfl) _ _ m (fun _ => 0) bb rfl (by kernel_rfl) (by kernel_rfl) hbb) hS' ?_
  refine wpAnyH_take (i := 16) (oi := te5Op16) (v := .bool true) rfl (by kernel_rfl) (by kernel_rfl) (by kernel_rfl) (fun _ _ _ => hQ _ _ _ _ _) (yeb (by kernel_rfl) _ _ bb rfl (by kernel_rfl) (by kernel_rfl)) hS' ?_
  refine wpAnyH_take (i := 17) (oi := te5Op17) (v := .bool true) rfl (by kernel_rfl) (by kernel_rfl) (by kernel_rfl) (fun _ _ _ => hQ _ _ _ _ _) (Or.inl ⟨by kernel_rfl, fun _ _ => by kernel_rfl⟩) hS' ?_
  refine wpAnyH_at (listed' := (List.toArray (true :: true :: true :: true :: true :: true :: true :: true :: true :: true :: true :: true :: true :: true :: true :: true :: true :: true :: false :: false :: false :: false :: false :: false :: false :: false :: false :: []))) (a' := { tmps := List.toArray (z0 :: z1 :: (.pointer (some ⟨b2, 0, none⟩)) :: z3 :: z4 :: (.bool true) :: (.pointer (some ⟨b6, 0, none⟩)) :: (.pointer (some ⟨b7, 0, none⟩)) :: (.pointer (some ⟨b8, 0, none⟩)) :: (.bool bb) :: z10 :: z11 :: z12 :: z13 :: z14 :: z15 :: z16 :: z17 :: z18 :: z19 :: z20 :: z21 :: z22 :: (.bool true) :: (.bool true) :: (.agg (vals .u8 32 m)) :: (.agg (vals .u8 32 m)) :: (.bool true) :: (.bool true) :: (.bool true) :: (.agg (vals .u8 32 m)) :: (.agg (vals .u8 32 m)) :: (.bool true) :: (.bool true) :: (.bool true) :: (.bool bb) :: (.agg (vals .u8 32 m)) :: (.agg (vals .u8 32 (fun _ => 0))) :: (.bool bb) :: (.bool true) :: (.bool true) :: z41 :: z42 :: z43 :: z44 :: z45 :: z46 :: z47 :: z48 :: []), defers := [] }) (by kernel_rfl) (by kernel_rfl) ?_
  refine wpAnyH_take (i := 18) (oi := te5Op18) (v := .bool true) rfl (by kernel_rfl) (by kernel_rfl) (by kernel_rfl) (fun _ _ _ => hQ _ _ _ _ _) (Or.inl ⟨by kernel_rfl, fun _ _ => by kernel_rfl⟩) hS' ?_
  refine wpAnyH_take (i := 19) (oi := te5Op19) (v := .agg (vals .u8 32 f)) rfl (by kernel_rfl) (by kernel_rfl) (by kernel_rfl) (fun _ _ _ => hQ _ _ _ _ _) (yields_S (fun _ h => h.keep _ _ _ nb2 hb2) (by kernel_rfl) 22 _ rfl (by kernel_rfl) _ Try.underlying22 rfl (size_by _)) hS' ?_
  refine wpAnyH_take (i := 21) (oi := te5Op21) (v := .agg (vals .u8 32 f)) rfl (by kernel_rfl) (by kernel_rfl) (by kernel_rfl) (fun _ _ _ => hQ _ _ _ _ _) (yields_S (fun _ h => h.keep _ _ _ nb2 hb2) (by kernel_rfl) 22 _ rfl (by kernel_rfl) _ Try.underlying22 rfl (size_by _)) hS' ?_
  refine wpAnyH_at (listed' := (List.toArray (true :: true :: true :: true :: true :: true :: true :: true :: true :: true :: true :: true :: true :: true :: true :: true :: true :: true :: true :: true :: false :: true :: false :: false :: false :: false :: false :: []))) (a' := { tmps := List.toArray (z0 :: z1 :: (.pointer (some ⟨b2, 0, none⟩)) :: z3 :: z4 :: (.bool true) :: (.pointer (some ⟨b6, 0, none⟩)) :: (.pointer (some ⟨b7, 0, none⟩)) :: (.pointer (some ⟨b8, 0, none⟩)) :: (.bool bb) :: z10 :: z11 :: z12 :: z13 :: z14 :: z15 :: z16 :: z17 :: z18 :: z19 :: z20 :: z21 :: z22 :: (.bool true) :: (.bool true) :: (.agg (vals .u8 32 m)) :: (.agg (vals .u8 32 m)) :: (.bool true) :: (.bool true) :: (.bool true) :: (.agg (vals .u8 32 m)) :: (.agg (vals .u8 32 m)) :: (.bool true) :: (.bool true) :: (.bool true) :: (.bool bb) :: (.agg (vals .u8 32 m)) :: (.agg (vals .u8 32 (fun _ => 0))) :: (.bool bb) :: (.bool true) :: (.bool true) :: (.bool true) :: (.agg (vals .u8 32 f)) :: z43 :: (.agg (vals .u8 32 f)) :: z45 :: z46 :: z47 :: z48 :: []), defers := [] }) (by kernel_rfl) (by kernel_rfl) ?_
  refine wpAnyH_take (i := 22) (oi := te5Op22) (v := .agg (vals .u8 32 nineB)) rfl (by kernel_rfl) (by kernel_rfl) (by kernel_rfl) (fun _ _ _ => hQ _ _ _ _ _) (Or.inl ⟨by kernel_rfl, fun _ _ => by kernel_rfl⟩) hS' ?_
  exact wpAnyH_at (by kernel_rfl) (by kernel_rfl) (te5_2 C u.drew hS' )
set_option maxRecDepth 100000 in
set_option maxHeartbeats 4000000 in
theorem tells_walk (f g : Nat → Nat) (w : World) (hf : ∀ i, f i < 256) (hg : ∀ i, g i < 256) : Ret 3 #[.agg (vals .u8 32 f), .agg (vals .u8 32 g)] w (.bool true) := by
  have hbb : (!sameB (byt (xm f g)) (fun _ => 0)) = decide (xm f g ≠ 0) := by rw [same_zero _ (xm_lt256 f g), decide_not]
  have Hbb := hide hbb
  clear hbb
  go_enter Try.func3, Try.ntmps3
  go_upto_region 0 with (fail)
  refine te0_region _ (fun _ _ _ _ _ h => h) w _ _ _ _ f g ?_
  intro n2 n3 w1 hK g2 B2 g3 B3 e23
  have hL1 := hK.below w _ (Nat.le_refl _) (Below.refl _ w)
  have s1 := hK.size
  go_upto_region 1 with (fail)
  refine te1_region _ (fun _ _ _ _ _ h => h) w1 _ _ _ _ _ _ _ _ _ _ _ _ ?_
  intro w2 hK2
  have C2 := hK2.keep _ _ _ (not_nil _) B2
  have C3 := hK2.keep _ _ _ (not_nil _) B3
  have hL2 := hK2.below w _ s1 hL1
  have s2 := Nat.le_trans s1 hK2.size
  go_upto_region 2 with (fail)
  refine te2_region _ (fun _ _ _ _ _ h => h) w2 _ _ _ _ _ _ _ _ _ _ _ _ _ n2 n3 f g hf hg C2 (not_nil _) C3 (not_nil _) ?_
  intro n6 w3 hK3 g6 D6
  have D2 := hK3.keep _ _ _ (not_nil _) C2
  have D3 := hK3.keep _ _ _ (not_nil _) C3
  have hL3 := hK3.below w _ s2 hL2
  have s3 := Nat.le_trans s2 hK3.size
  go_upto_region 3 with (fail)
  refine te3_region _ (fun _ _ _ _ _ h => h) w3 _ _ _ _ _ _ _ _ _ _ _ _ _ _ _ _ n2 n3 f g hf hg D2 (not_nil _) D3 (not_nil _) ?_
  intro n7 w4 hK4 g7 E7
  have E2 := hK4.keep _ _ _ (not_nil _) D2
  have E3 := hK4.keep _ _ _ (not_nil _) D3
  have E6 := hK4.keep _ _ _ (not_nil _) D6
  have hL4 := hK4.below w _ s3 hL3
  have s4 := Nat.le_trans s3 hK4.size
  go_upto_region 4 with (fail)
  refine te4_region _ (fun _ _ _ _ _ h => h) w4 _ _ _ _ _ _ _ _ _ _ _ _ _ _ _ _ _ _ _ _ _ _ n2 n3 f g hf hg E2 (not_nil _) E3 (not_nil _) ?_
  intro n8 w5 hK5 g8 G8
  have G2 := hK5.keep _ _ _ (not_nil _) E2
  have G6 := hK5.keep _ _ _ (not_nil _) E6
  have G7 := hK5.keep _ _ _ (not_nil _) E7
  have hL5 := hK5.below w _ s4 hL4
  have s5 := Nat.le_trans s4 hK5.size
  go_upto_region 5 with (fail)
  refine te5_region _ (fun _ _ _ _ _ h => h) w5 _ _ _ _ _ _ _ _ _ _ _ _ _ _ _ _ _ _ _ _ _ _ _ _ _ _ _ _ _ _ _ _ _ _ _ _ _ _ _ _ _ _ _ n2 n6 n7 n8 f (byt (xm f g)) (decide (xm f g ≠ 0)) hf Hbb.out G2 (not_nil _) G6 (not_nil _) G7 (not_nil _) G8 (not_nil _) ?_
  intro w6 hK6
  have hL6 := hK6.below w _ s5 hL5
  have s6 := Nat.le_trans s5 hK6.size
  go_wp2_with fail
  go_ret
  exact ⟨rfl, hL6⟩
end Go.Proofs.Ytidhffaphbiapaa
